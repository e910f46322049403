/- The program's and the document's wrapping keys and wrapped secrets, as functions of a store's terms: contracts of all their calls. -/
/- What wrapping keys and wrapped secrets are named, where there is room. -/
import Derived.Test.YtgeonppckeiceaaGreatDoorGq03
import Derived.Test.YtgeonppckeiceaaGreatDoorGq06
namespace Go.Proofs.YtgeonppckeiceaaGreatDoor
open Go.RowKit
set_option linter.unusedVariables false
def kpubT (x : Int) : Tm := ⟨5, ⟨#[]⟩, 0, x, 0, 0⟩
def boxT (x y : Int) : Tm := ⟨6, ⟨#[]⟩, 0, x, y, 0⟩
def kemT (x y : Int) : Tm := ⟨7, ⟨#[]⟩, 0, x, y, 0⟩
theorem kpub_wf {x : Int} (h : I64 x) : Wf (kpubT x) := ⟨wf_emp, k5, u0, h, k0, k0⟩
theorem box_wf {x y : Int} (h : I64 x) (k : I64 y) : Wf (boxT x y) := ⟨wf_emp, k6, u0, h, k, k0⟩
theorem kem_wf {x y : Int} (h : I64 x) (k : I64 y) : Wf (kemT x y) := ⟨wf_emp, k7, u0, h, k, k0⟩
def wrapF (L : List Tm) (most p d : Int) : Int × Int × Int × List Tm :=
 if (getT L p).2 = true ∧ (getT L d).2 = true ∧ (getT L p).1.K = 5 then
  let x := putF L most (boxT (getT L p).1.A d)
  if x.2.1 ≠ 0 then (0, 0, x.2.1, x.2.2) else
   let y := putF x.2.2 most (kemT (getT L p).1.A d)
   if y.2.1 ≠ 0 then (0, 0, y.2.1, y.2.2) else (x.1, y.1, 0, y.2.2)
 else (0, 0, 1, L)
def kopenF (L : List Tm) (most x c : Int) : Int × Int × List Tm :=
 if (getT L x).2 = true ∧ (getT L c).2 = true then
  if (getT L c).1.K = 6 ∧ (getT L c).1.A = x then putF L most (kemT x (getT L c).1.B) else (0, 10, L)
 else (0, 1, L)
inductive Run (most : Int) (T : Nat → Tm) (L : List Tm) : Nat → List Int → List Tm → Prop
 | nil : Run most T L 0 [] L
 | snoc {k : Nat} {ns : List Int} {M N : List Tm} {a : Int} : Run most T L k ns M → putF M most (T k) = (a, 0, N) → Run most T L (k + 1) (ns ++ [a]) N
theorem Run.len {most : Int} {T : Nat → Tm} {L M : List Tm} {k : Nat} {ns : List Int} (h : Run most T L k ns M) : ns.length = k := by
 induction h with
 | nil => rfl
 | snoc _ _ ih => simp [ih]
section
variable {base g : Nat} {most : Int} {Q2 : (Nat → Prop) → List Tm → World → Prop} {L L2 : List Tm} {K : Nat → Prop} {w0 w : World}
set_option maxHeartbeats 400000 in
theorem Pair.kpublicP {L' : List Tm} {a b x : Int} (g2 : Good base Q2) (h : Pair base (PSq base g most) Q2 L L2 K w0 w) (hx : I64 x) (hf : putF L most (kpubT x) = (a, b, L')) :
  Calls Tryz.prog 47 #[.pointer (some ⟨g, 0, none⟩), .int .i64 x] w fun e w' => e = .returned (.tuple #[.int .i64 a, .int .i64 b]) ∧ Pair base (PSq base g most) Q2 L' L2 K w0 w' ∧ ∀ k, K k → w'.heap[k]? = w.heap[k]? := by
 have H := Lib.hid h
 have HX := Lib.hid hx
 have HF := Lib.hid hf
 clear h hx hf
 go_enter Tryz.func47, Tryz.ntmps47
 go_wp2_with fail
 refine (H.out.putP g2 (kpubT x) (kpub_wf HX.out) HF.out).mono ?_
 rintro e w1 ⟨rfl, h1, hk⟩
 have H1 := Lib.hid h1
 have HK := Lib.hid hk
 clear h1 hk H HF
 go_wp2_with fail
 go_ret2
 exact ⟨rfl, H1.out, HK.out⟩
def TermsPost (T : Nat → Tm) (m n : Nat) (P : World → Prop) (w : World) (e : Ending) (w' : World) : Prop :=
 P w' ∧ Below w.heap.size w w' ∧
  ((m = n ∧ ∃ g cap, e = .returned (.tuple #[.slice (some ⟨g, 0, none⟩) n cap, .bool true]) ∧ ∀ k, k < n → ∀ j u, (T k).cl[j]? = some u → w'.cell? ⟨g, k * 6 + j, none⟩ = some u) ∨
   (m < n ∧ e = .returned (.tuple #[.slice none 0 0, .bool false])))
theorem termsPost_no {T : Nat → Tm} {m n : Nat} {P : World → Prop} {w w' : World} (h1 : P w') (h2 : Below w.heap.size w w') (h3 : m < n) : TermsPost T m n P w (.returned (.tuple #[.slice none 0 0, .bool false])) w' := ⟨h1, h2, .inr ⟨h3, rfl⟩⟩
def rowsT (T : Nat → Tm) (k : Nat) : List Tm := (List.range k).map T
theorem rowsT_succ (T : Nat → Tm) (k : Nat) : rowsT T (k + 1) = rowsT T k ++ [T k] := by simp [rowsT, List.range_succ]
theorem rowsT_len (T : Nat → Tm) (k : Nat) : (rowsT T k).length = k := by simp [rowsT]
theorem cellsL_snoc (M : List Tm) (t : Tm) : cellsL (M ++ [t]) = cellsL M ++ t.cl := by simp [cellsL]
theorem rowsT_at (T : Nat → Tm) (n k : Nat) (h : k < n) : (rowsT T n).getD k zeroT = T k := by simp [rowsT, List.getD, h]
theorem cells_row {w : World} {base gg k cp j i : Nat} {T : Nat → Tm} {u : Value} (h : w.ownsRow base 116 6 (.slice (some ⟨gg, 0, none⟩) k cp) k (cellsL (rowsT T k))) (hj : j < k) (hu : (T j).cl[i]? = some u) : w.cell? ⟨gg, j * 6 + i, none⟩ = some u := by
 have hi6 : i < 6 := by
  rcases Nat.lt_or_ge i 6 with q | q
  ·exact q
  ·rw [List.getElem?_eq_none (by simp [Tm.cl]; omega)] at hu; cases hu
 have := h.cells (g := gg) rfl (j * 6 + i) u (by rw [cellsL_at _ j i hi6 (by rw [rowsT_len]; exact hj), rowsT_at T k j hj]; exact hu)
 have e : (⟨gg, 0, none⟩ : Addr).add (j * 6 + i) = ⟨gg, j * 6 + i, none⟩ := by unfold Addr.add; split <;> simp_all
 rwa [e] at this
set_option maxHeartbeats 2000000 in
theorem Pair.termsOfP (g2 : Good base Q2) (h : Pair base (PSq base g most) Q2 L L2 K w0 w) (ns : Nat → Int) (T : Nat → Tm) (b m n cap : Nat) (hn0 : 0 < n) (hn : n ≤ 100) (hm : m ≤ n)
  (hc : ∀ k, k < n → w.cell? ⟨b, k, none⟩ = some (.int .i64 (ns k))) (hT : ∀ k, k < m → getT L (ns k) = (T k, true)) (hno : m < n → getT L (ns m) = (zeroT, false)) :
  Calls Tryz.prog 202 #[.pointer (some ⟨g, 0, none⟩), .slice (some ⟨b, 0, none⟩) n cap] w (TermsPost T m n (Pair base (PSq base g most) Q2 L L2 K w0) w) := by
 have gP := PSq.good base g most
 have H := Lib.hid h
 have HC := Lib.hid hc
 have HT := Lib.hid hT
 have HN := Lib.hid hno
 have hbw : b < w.heap.size := block_lt_of_cell (hc 0 hn0)
 clear h hc hT hno
 go_enter Tryz.func202, Tryz.ntmps202
 go_wp2_with fail
 obtain ⟨i0, hi0, hz0, hz1, hz2⟩ := info_parts info32
 go_loopw [6, 13] (fun l i wr => ∃ k, k ≤ m ∧ i = .int .i64 (k : Nat) ∧ Hid (wr.ownsRow w.heap.size 116 6 l k (cellsL (rowsT T k))) ∧ Hid (Pair base (PSq base g most) Q2 L L2 K w0 wr) ∧ Hid (Below w.heap.size w wr)) (fun _ i _ => n - (intOf i).toNat)
 case atStart => exact ⟨0, Nat.zero_le _, rfl, Lib.hid ⟨by simp [rowsT, cellsL], .inl ⟨rfl, rfl⟩⟩, H, Lib.hid (Below.refl _ _)⟩
 case round =>
  have HH : Hid (∀ W, Below w.heap.size w W → Hid (Pair base (PSq base g most) Q2 L L2 K w0 W)) := Lib.hid (fun W hb => Lib.hid (H.out.below gP g2 hb))
  clear H
  obtain ⟨k, hk, rfl, HO, HP, HB⟩ := hrel
  have hk100 : k ≤ 100 := by omega
  by_cases hlt : k < n
  ·have q0 : wr.cell? ⟨b, k, none⟩ = some (.int .i64 (ns k)) := (HB.out.cell (by exact hbw)).trans (HC.out k hlt)
   have hlt1 : (k : Int) < (n : Int) := by omega
   obtain ⟨x, hx⟩ : ∃ x, x = ns k := ⟨_, rfl⟩
   rw [← hx] at q0
   have Hlt := Lib.hid hlt
   by_cases hkm : k < m
   ·have hg := HT.out k hkm
    rw [← hx] at hg
    obtain ⟨t, ht⟩ : ∃ t, t = T k := ⟨_, rfl⟩
    rw [← ht] at hg
    obtain ⟨TK, TS, TN, TA, TB, TC⟩ := t
    have HG := Lib.hid hg
    have HTk := Lib.hid ht
    have Hkm := Lib.hid hkm
    clear hg ht hx hk hkm hlt
    go_wp2_with fail
    refine (HP.out.getP g2 x HG.out).mono ?_
    rintro e w1 ⟨rfl, h1, hb1⟩
    rw [show ((⟨TK, TS, TN, TA, TB, TC⟩, true) : Tm × Bool).1.v = .agg #[.int .i64 TK, .string TS, .int .u64 TN, .int .i64 TA, .int .i64 TB, .int .i64 TC] from rfl]
    have HO1 := Lib.hid (((Chg.of_below (S := fun _ => False) hb1).row HO.out (fun _ _ q => q)).alloc (.cells #[.int .i64 TK, .string TS, .int .u64 TN, .int .i64 TA, .int .i64 TB, .int .i64 TC] 116))
    have HP1 := Lib.hid h1
    have HB1 := Lib.hid (HB.out.trans (hb1.mono HB.out.size))
    clear h1 hb1 HO HP HB HG q0
    have hws := HB1.out.size
    go_wp2_with (at_builtin; refine wpList_append_own _ rfl _ _ 22 rfl w.heap.size 116 i0 _ 6 56 Tryz.underlying22 hi0 hz0 hz1 hz2 rfl (by decide) _ _ _ rfl (HO1.out.alloc _) ⟨w1.heap.size + 1, 0, none⟩ 1 1 [.int .i64 TK, .string TS, .int .u64 TN, .int .i64 TA, .int .i64 TB, .int .i64 TC] rfl rfl (World.news_of_block (cs := #[.int .i64 TK, .string TS, .int .u64 TN, .int .i64 TA, .int .i64 TB, .int .i64 TC]) (t := 116) (fr := (0, 0)) (heap_alloc2_new w1 _ _)) (by simp [Value.oneCell']) (by unfold maxLen; omega) (by omega) (by simp; omega) ?_; intro v' w3 hown' hgrow _)
    have O1 := Lib.hid hown'
    have O2 := Lib.hid hgrow
    have HBN : Below w.heap.size w w3 := Below.grown ((HB1.out.alloc hws _).alloc (by simp; omega) _) O2.out (by simp; omega) (fun y hy => (HO1.out.lt y hy).1)
    clear hown' hgrow
    go_wp2_with fail
    go_roundw
    case rel => exact ⟨k + 1, by have := Hkm.out; omega, by go_num, Lib.hid (by rw [rowsT_succ, cellsL_snoc, ← HTk.out]; exact O1.out), HH.out _ HBN, Lib.hid HBN⟩
    case measure => have := Hlt.out; simp [intOf]; omega
   ·obtain rfl : k = m := by omega
    have hg := HN.out hlt
    rw [← hx] at hg
    have HG := Lib.hid hg
    clear hg hx hk hkm hlt
    go_wp2_with fail
    refine (HP.out.getP g2 x HG.out).mono ?_
    rintro e w1 ⟨rfl, h1, hb1⟩
    rw [show ((zeroT, false) : Tm × Bool).1.v = .agg #[.int .i64 0, .string ⟨#[]⟩, .int .u64 0, .int .i64 0, .int .i64 0, .int .i64 0] from rfl]
    have HB1 := Lib.hid ((HB.out.trans (hb1.mono HB.out.size)).alloc (by have := HB.out.size; have := hb1.size; omega) (.cells #[.int .i64 0, .string ⟨#[]⟩, .int .u64 0, .int .i64 0, .int .i64 0, .int .i64 0] 116))
    have HP1 := Lib.hid (h1.below gP g2 ((Below.refl _ _).alloc (Nat.le_refl _) (.cells #[.int .i64 0, .string ⟨#[]⟩, .int .u64 0, .int .i64 0, .int .i64 0, .int .i64 0] 116)))
    clear h1 hb1 HO HP HB HG q0
    go_wp2_with fail
    go_ret2
    exact termsPost_no HP1.out HB1.out Hlt.out
  ·obtain rfl : k = n := by omega
   obtain rfl : k = m := by omega
   rcases HO.out.2 with ⟨_, h0⟩ | ⟨gg, cp, cur, rfl, _⟩
   ·omega
   ·have hlt1 : decide (k < k) = false := by simp
    clear hk hlt
    go_wp2_with fail
    go_ret2
    exact ⟨HP.out, HB.out, .inl ⟨rfl, gg, cp, rfl, fun j hj i u hu => cells_row HO.out hj hu⟩⟩
def NamesPost (most : Int) (T : Nat → Tm) (L : List Tm) (n : Nat) (P : List Tm → World → Prop) (K : Nat → Prop) (w : World) (e : Ending) (w' : World) : Prop :=
 (∀ k, K k → w'.heap[k]? = w.heap[k]?) ∧
   ((∃ ns M gg cap, Run most T L n ns M ∧ e = .returned (.tuple #[.slice (some ⟨gg, 0, none⟩) n cap, .int .i64 0]) ∧ P M w' ∧ ∀ j x, ns[j]? = some x → w'.cell? ⟨gg, j, none⟩ = some (.int .i64 x)) ∨
    (∃ j ns M a b M', j < n ∧ Run most T L j ns M ∧ putF M most (T j) = (a, b, M') ∧ b ≠ 0 ∧ e = .returned (.tuple #[.slice none 0 0, .int .i64 b]) ∧ P M' w'))
theorem ints_row {w : World} {base gg n cp j : Nat} {ns : List Int} {x : Int} (h : w.ownsRow base 3 1 (.slice (some ⟨gg, 0, none⟩) n cp) ns.length (intsR ns)) (hj : ns[j]? = some x) : w.cell? ⟨gg, j, none⟩ = some (.int .i64 x) := by
 have := h.cells (g := gg) rfl j (.int .i64 x) (by simp [intsR, hj])
 have e : (⟨gg, 0, none⟩ : Addr).add j = ⟨gg, j, none⟩ := by unfold Addr.add; split <;> simp_all
 rwa [e] at this
set_option maxHeartbeats 4000000 in
theorem Pair.namesOfP (g2 : Good base Q2) (h : Pair base (PSq base g most) Q2 L L2 K w0 w) (T : Nat → Tm) (b n cap : Nat) (hn0 : 0 < n) (hn : n ≤ 100) (hKb : K b) (hW : ∀ k, k < n → Wf (T k))
  (hc : ∀ k, k < n → ∀ j u, (T k).cl[j]? = some u → w.cell? ⟨b, k * 6 + j, none⟩ = some u) :
  Calls Tryz.prog 203 #[.pointer (some ⟨g, 0, none⟩), .slice (some ⟨b, 0, none⟩) n cap] w (NamesPost most T L n (fun M => Pair base (PSq base g most) Q2 M L2 K w0) K w) := by
 have gP := PSq.good base g most
 have gW := fun v xs => WithRow.good g2 v xs
 have H := Lib.hid h.addRow
 have HC := Lib.hid hc
 have HW := Lib.hid hW
 have HK := Lib.hid hKb
 clear h hc hW hKb
 obtain ⟨i0, hi0, hz0, hz1, hz2⟩ := info_parts info3
 go_enter Tryz.func203, Tryz.ntmps203
 go_wp2_with fail
 go_loopw [6, 13] (fun l i wr => ∃ k ns M, k ≤ n ∧ i = .int .i64 (k : Nat) ∧ Hid (Run most T L k ns M) ∧ Hid (Pair base (PSq base g most) (WithRow base Q2 l ns) M L2 K w0 wr) ∧ Hid (∀ k, K k → wr.heap[k]? = w.heap[k]?)) (fun _ i _ => n - (intOf i).toNat)
 case atStart => exact ⟨0, [], L, Nat.zero_le _, rfl, Lib.hid .nil, H, Lib.hid (fun _ _ => rfl)⟩
 case round =>
  clear H
  obtain ⟨k, ns, M, hk, rfl, HR, HP, HS⟩ := hrel
  have hk100 : k ≤ 100 := by omega
  by_cases hlt : k < n
  ·have hlt1 : (k : Int) < (n : Int) := by omega
   have q := fun j u hj => (World.cell?_of_block (a := ⟨b, k * 6 + j, none⟩) (HS.out b HK.out)).trans (HC.out k hlt j u hj)
   have hwt := HW.out k hlt
   obtain ⟨t, ht⟩ : ∃ t, t = T k := ⟨_, rfl⟩
   rw [← ht] at q hwt
   have HWt := Lib.hid hwt
   have HTk := Lib.hid ht
   obtain ⟨a, e, N, hf⟩ : ∃ a e N, putF M most t = (a, e, N) := ⟨_, _, _, rfl⟩
   have HF := Lib.hid hf
   obtain ⟨TK, TS, TN, TA, TB, TC⟩ := t
   have q0 := q 0 _ rfl
   have q1 := q 1 _ rfl
   have q2 := q 2 _ rfl
   have q3 := q 3 _ rfl
   have q4 := q 4 _ rfl
   have q5 := q 5 _ rfl
   simp at q0 q1 q2 q3 q4 q5
   have Hlt := Lib.hid hlt
   have HPA := Lib.hid (HP.out.below gP (gW _ _) ((Below.refl _ _).alloc (Nat.le_refl _) (.cells #[.int .i64 TK, .string TS, .int .u64 TN, .int .i64 TA, .int .i64 TB, .int .i64 TC] 116)))
   have HSA : Hid (∀ k, K k → (wr.alloc (.cells #[.int .i64 TK, .string TS, .int .u64 TN, .int .i64 TA, .int .i64 TB, .int .i64 TC] 116)).heap[k]? = w.heap[k]?) := Lib.hid (fun j hj => by
    rw [← HS.out j hj]
    obtain ⟨F1, F2, _, _, _, h4, _⟩ := HP.out
    exact ((Below.refl wr.heap.size wr).alloc (Nat.le_refl _) _).block j (h4 j hj).2.2)
   clear q ht hwt hf hk hlt HP HS
   go_wp2_with fail
   refine (HPA.out.putP (gW _ _) (⟨TK, TS, TN, TA, TB, TC⟩ : Tm) HWt.out HF.out).mono ?_
   rintro e1 w1 ⟨rfl, h1, hk1⟩
   have HP1 := Lib.hid h1
   have HS1 : Hid (∀ k, K k → w1.heap[k]? = w.heap[k]?) := Lib.hid (fun j hj => (hk1 j hj).trans (HSA.out j hj))
   clear h1 hk1 HPA HSA HWt
   by_cases he : e = 0
   ·subst he
    have hlen := HR.out.len
    have hbs := HP1.out.base_le
    have HRow := Lib.hid HP1.out.rowOf
    have hnl : ns.length ≤ 100 := by omega
    clear hlen q0 q1 q2 q3 q4 q5
    go_wp2_with (at_builtin; refine wpList_append_lies _ rfl _ _ 94 rfl base 3 i0 (.int .i64 0) 1 8 Tryz.underlying94 hi0 hz0 hz1 hz2 rfl (by decide) _ _ _ rfl (HRow.out.alloc _) ⟨w1.heap.size, 0, none⟩ 1 1 [.int .i64 a] rfl rfl (World.news_of_block (cs := #[.int .i64 a]) (t := 3) (fr := (0, 0)) (heap_alloc_new w1 _)) (by simp [Value.oneCell']) (by omega) (by unfold maxLen; omega) (by omega) (by simp; omega) (w1.heap.size + 1) (by simp) ?_; intro g2 cap3 w3 hown2 hgrow2 hat2 hlt3)
    have HN := Lib.hid (HP1.out.appRow gP (by assumption) hown2 hgrow2 hat2)
    clear hown2 hgrow2 hat2 hlt3 HRow
    go_wp2_with fail
    go_roundw
    case rel => exact ⟨k + 1, ns ++ [a], N, by have := Hlt.out; omega, by go_num, Lib.hid (.snoc HR.out (by rw [← HTk.out]; exact HF.out)), Lib.hid HN.out.1, Lib.hid (fun j hj => (HN.out.2 j hj).trans (HS1.out j hj))⟩
    case measure => have := Hlt.out; simp [intOf]; omega
   ·have he1 : (e != 0) = true := by simpa using he
    have HE := Lib.hid he
    clear he q0 q1 q2 q3 q4 q5
    go_wp2_with fail
    go_ret2
    exact ⟨HS1.out, .inr ⟨k, ns, M, a, e, N, Hlt.out, HR.out, by rw [← HTk.out]; exact HF.out, HE.out, rfl, HP1.out.dropRow.1⟩⟩
  ·obtain rfl : k = n := by omega
   have hlen := HR.out.len
   have hro := HP.out.rowOf
   rcases hro.2 with ⟨_, h0⟩ | ⟨gg, cp, cur, rfl, _⟩
   ·omega
   ·have hlt1 : decide (k < k) = false := by simp
    have HRo := Lib.hid hro
    have HL := Lib.hid hlen
    clear hk hlt hlen hro
    go_wp2_with fail
    go_ret2
    exact ⟨HS.out, .inl ⟨ns, M, gg, cp, HR.out, by rw [HL.out]; rfl, HP.out.dropRow.1, fun j x hx => ints_row HRo.out hx⟩⟩
def twoT (t u : Tm) : Nat → Tm := fun k => if k = 0 then t else u
def twoN (x y : Int) : Nat → Int := fun k => if k = 0 then x else y
theorem run_two {most : Int} {t u : Tm} {L M : List Tm} {ns : List Int} (h : Run most (twoT t u) L 2 ns M) : ∃ a b M1, ns = [a, b] ∧ putF L most t = (a, 0, M1) ∧ putF M1 most u = (b, 0, M) := by
 cases h with
 | snoc h1 e1 => cases h1 with
  | snoc h2 e2 => cases h2 with
   | nil => exact ⟨_, _, _, rfl, e2, e1⟩
theorem run_err {most : Int} {t u : Tm} {L M M' : List Tm} {ns : List Int} {j : Nat} {a b : Int} (hj : j < 2) (h : Run most (twoT t u) L j ns M) (hp : putF M most (twoT t u j) = (a, b, M')) (hb : b ≠ 0) :
  putF L most t = (a, b, M') ∨ ∃ c M1, putF L most t = (c, 0, M1) ∧ putF M1 most u = (a, b, M') := by
 cases h with
 | nil => exact .inl hp
 | snoc h1 e1 => cases h1 with
  | nil => exact .inr ⟨_, _, e1, hp⟩
  | snoc h2 e2 => omega
theorem wrap_no {L : List Tm} {most p d : Int} (h : ¬ ((getT L p).2 = true ∧ (getT L d).2 = true ∧ (getT L p).1.K = 5)) : wrapF L most p d = (0, 0, 1, L) := by
 unfold wrapF
 rw [if_neg h]
theorem wrap_yes {L M1 M : List Tm} {most p d A a b : Int} {tp td : Tm} (h1 : getT L p = (tp, true)) (h2 : getT L d = (td, true)) (hK : tp.K = 5) (hA : tp.A = A) (e1 : putF L most (boxT A d) = (a, 0, M1)) (e2 : putF M1 most (kemT A d) = (b, 0, M)) : wrapF L most p d = (a, b, 0, M) := by
 unfold wrapF
 rw [h1, h2, if_pos ⟨rfl, rfl, hK⟩]
 simp only [hA, e1, e2]
 simp
theorem wrap_err {L M : List Tm} {most p d A a b : Int} {tp td : Tm} (h1 : getT L p = (tp, true)) (h2 : getT L d = (td, true)) (hK : tp.K = 5) (hA : tp.A = A) (hb : b ≠ 0)
  (h : putF L most (boxT A d) = (a, b, M) ∨ ∃ c M1, putF L most (boxT A d) = (c, 0, M1) ∧ putF M1 most (kemT A d) = (a, b, M)) : wrapF L most p d = (0, 0, b, M) := by
 unfold wrapF
 rw [h1, h2, if_pos ⟨rfl, rfl, hK⟩]
 rcases h with e | ⟨c, M1, e1, e2⟩
 ·simp [hA, e, hb]
 ·simp [hA, e1, e2, hb]
set_option maxHeartbeats 400000 in
theorem inBox_any (x y : Int) (w : World) :
  Calls Tryz.prog 204 #[.int .i64 x, .int .i64 y] w fun e w' => e = .returned (kemT x y).v ∧ Below w.heap.size w w' := by
 go_enter Tryz.func204, Tryz.ntmps204
 go_wp2
 exact bodyPost_ret (v := (kemT x y).v) (by simp [results, Tryz.results204, go_sem, kemT, Tm.v]) rfl ⟨rfl, (Below.refl _ _).alloc (Nat.le_refl _) _⟩
theorem two_cells (A d : Int) (w2 : World) : ∀ k, k < 2 → ∀ j u, (twoT (boxT A d) (kemT A d) k).cl[j]? = some u → (w2.alloc (.cells #[.int .i64 6, .string ⟨#[]⟩, .int .u64 0, .int .i64 A, .int .i64 d, .int .i64 0, .int .i64 7, .string ⟨#[]⟩, .int .u64 0, .int .i64 A, .int .i64 d, .int .i64 0] 116)).cell? ⟨w2.heap.size, k * 6 + j, none⟩ = some u := by
 intro k hk j u hu
 rw [cell_of_row _ _ _ _ _ _ (heap_alloc_new w2 _)]
 have hj6 : j < 6 := by
  rcases Nat.lt_or_ge j 6 with q | q
  ·exact q
  ·rw [List.getElem?_eq_none (by simp [Tm.cl]; omega)] at hu; cases hu
 rcases (by omega : k = 0 ∨ k = 1) with rfl | rfl <;>
  rcases (by omega : j = 0 ∨ j = 1 ∨ j = 2 ∨ j = 3 ∨ j = 4 ∨ j = 5) with rfl | rfl | rfl | rfl | rfl | rfl <;>
  exact hu
set_option maxHeartbeats 4000000 in
theorem Pair.wrapP {L' : List Tm} {a b e p d : Int} (g2 : Good base Q2) (h : Pair base (PSq base g most) Q2 L L2 K w0 w) (hd : I64 d) (hf : wrapF L most p d = (a, b, e, L')) :
  Calls Tryz.prog 171 #[.pointer (some ⟨g, 0, none⟩), .int .i64 p, .int .i64 d] w (Three (.int .i64 a) (.int .i64 b) (.int .i64 e) (Pair base (PSq base g most) Q2 L' L2 K w0) K w) := by
 have gP := PSq.good base g most
 have hKl : ∀ k, K k → k < w.heap.size := by obtain ⟨F1, F2, _, _, _, h4, _⟩ := h; exact fun k hk => (h4 k hk).2.2
 have HKl := Lib.hid hKl
 have HFit := Lib.hid h.facts.1
 have hlen := h.facts
 have hBA : Below w.heap.size w (w.alloc (.cells #[.int .i64 p, .int .i64 d] 3)) := (Below.refl _ _).alloc (Nat.le_refl _) _
 have HA := Lib.hid (h.below gP g2 hBA)
 have HBA := Lib.hid hBA
 have hcells : ∀ k, k < 2 → (w.alloc (.cells #[.int .i64 p, .int .i64 d] 3)).cell? ⟨w.heap.size, k, none⟩ = some (.int .i64 (twoN p d k)) := by
  intro k hk
  rw [cell_of_row _ _ k _ _ _ (heap_alloc_new w _)]
  rcases (by omega : k = 0 ∨ k = 1) with rfl | rfl <;> rfl
 have HCl := Lib.hid hcells
 obtain ⟨⟨tp, okp⟩, hgp⟩ : ∃ x, getT L p = x := ⟨_, rfl⟩
 obtain ⟨⟨td, okd⟩, hgd⟩ : ∃ x, getT L d = x := ⟨_, rfl⟩
 have HGP := Lib.hid hgp
 have HGD := Lib.hid hgd
 have HD := Lib.hid hd
 have HF := Lib.hid hf
 clear h hBA hcells hKl hd hf hgp hgd
 cases okp with
 | false =>
  have hw := HF.out
  rw [wrap_no (by rw [HGP.out]; simp)] at hw
  injection hw with e1 hw
  injection hw with e2 hw
  injection hw with e3 e4
  subst e1 e2 e3 e4
  obtain rfl := getT_no HGP.out
  clear hlen
  go_enter Tryz.func171, Tryz.ntmps171
  go_wp2_with fail
  refine (HA.out.termsOfP g2 (twoN p d) (fun _ => zeroT) w.heap.size 0 2 2 (by omega) (by omega) (by omega) HCl.out (fun k hk => by omega) (fun _ => HGP.out)).mono ?_
  rintro e w1 ⟨h1, hb1, h⟩
  rcases h with ⟨h, _⟩ | ⟨_, rfl⟩
  ·omega
  have H1 := Lib.hid h1
  have HB1 := Lib.hid (HBA.out.trans (hb1.mono (by simp)))
  clear h1 hb1 HA
  go_wp2_with fail
  go_ret3
  exact ⟨rfl, H1.out, fun k hk => HB1.out.block k (HKl.out k hk)⟩
 | true =>
  cases okd with
  | false =>
   have hw := HF.out
   rw [wrap_no (by rw [HGD.out]; simp)] at hw
   injection hw with e1 hw
   injection hw with e2 hw
   injection hw with e3 e4
   subst e1 e2 e3 e4
   obtain rfl := getT_no HGD.out
   clear hlen
   go_enter Tryz.func171, Tryz.ntmps171
   go_wp2_with fail
   refine (HA.out.termsOfP g2 (twoN p d) (fun _ => tp) w.heap.size 1 2 2 (by omega) (by omega) (by omega) HCl.out (fun k hk => by have e : k = 0 := (by omega); subst e; exact HGP.out) (fun _ => HGD.out)).mono ?_
   rintro e w1 ⟨h1, hb1, h⟩
   rcases h with ⟨h, _⟩ | ⟨_, rfl⟩
   ·omega
   have H1 := Lib.hid h1
   have HB1 := Lib.hid (HBA.out.trans (hb1.mono (by simp)))
   clear h1 hb1 HA
   go_wp2_with fail
   go_ret3
   exact ⟨rfl, H1.out, fun k hk => HB1.out.block k (HKl.out k hk)⟩
  | true =>
   have HC2 := Lib.hid (show ∀ k, k < 2 → getT L (twoN p d k) = (twoT tp td k, true) from fun k hk => by
    rcases (by omega : k = 0 ∨ k = 1) with rfl | rfl
    ·exact HGP.out
    ·exact HGD.out)
   obtain ⟨TK, TS, TN, A, TB, TC⟩ := tp
   have q0' : ∀ gg (w' : World), (∀ k, k < 2 → ∀ j u, (twoT ⟨TK, TS, TN, A, TB, TC⟩ td k).cl[j]? = some u → w'.cell? ⟨gg, k * 6 + j, none⟩ = some u) → w'.cell? ⟨gg, 0, none⟩ = some (.int .i64 TK) ∧ w'.cell? ⟨gg, 3, none⟩ = some (.int .i64 A) :=
    fun gg w' hc => ⟨hc 0 (by omega) 0 _ rfl, hc 0 (by omega) 3 _ rfl⟩
   have HQ := Lib.hid q0'
   clear q0'
   by_cases hK : TK = 5
   ·subst hK
    have hpi := part_in HFit.out HGP.out 0 (by show 0 < many 5; decide)
    have hpr := getT_in HGP.out
    simp [prt] at hpi
    have HIA : Hid (I64 A) := Lib.hid (i64_small (by omega) (by omega))
    have HWT : Hid (∀ k, k < 2 → Wf (twoT (boxT A d) (kemT A d) k)) := Lib.hid (fun k hk => by
     rcases (by omega : k = 0 ∨ k = 1) with rfl | rfl
     ·exact box_wf HIA.out HD.out
     ·exact kem_wf HIA.out HD.out)
    clear hpi hpr hlen
    go_enter Tryz.func171, Tryz.ntmps171
    go_wp2_with fail
    refine (HA.out.termsOfP g2 (twoN p d) (twoT ⟨5, TS, TN, A, TB, TC⟩ td) w.heap.size 2 2 2 (by omega) (by omega) (by omega) HCl.out HC2.out (fun h => by omega)).mono ?_
    rintro e w1 ⟨h1, hb1, h⟩
    rcases h with ⟨_, gg, cp, rfl, hcell⟩ | ⟨h, _⟩
    case inr => omega
    obtain ⟨q0, q3⟩ := HQ.out gg w1 hcell
    have H1 := Lib.hid h1
    have HB1 := Lib.hid (HBA.out.trans (hb1.mono (by simp)))
    clear h1 hb1 HA hcell
    go_wp2_with fail
    refine (inBox_any _ _ _).mono ?_
    rintro e w2 ⟨rfl, hb2⟩
    rw [show (kemT A d).v = .agg #[.int .i64 7, .string ⟨#[]⟩, .int .u64 0, .int .i64 A, .int .i64 d, .int .i64 0] from rfl]
    have H2 := Lib.hid ((H1.out.below gP g2 hb2).box gP g2 (.cells #[.int .i64 6, .string ⟨#[]⟩, .int .u64 0, .int .i64 A, .int .i64 d, .int .i64 0, .int .i64 7, .string ⟨#[]⟩, .int .u64 0, .int .i64 A, .int .i64 d, .int .i64 0] 116))
    have HB2 := Lib.hid ((HB1.out.trans (hb2.mono HB1.out.size)).alloc (by have := HB1.out.size; have := hb2.size; omega) (.cells #[.int .i64 6, .string ⟨#[]⟩, .int .u64 0, .int .i64 A, .int .i64 d, .int .i64 0, .int .i64 7, .string ⟨#[]⟩, .int .u64 0, .int .i64 A, .int .i64 d, .int .i64 0] 116))
    have HB2s := HB1.out.size
    have HB3s := hb2.size
    clear hb2 H1 q0 q3
    go_wp2_with fail
    refine (H2.out.namesOfP g2 (twoT (boxT A d) (kemT A d)) w2.heap.size 2 2 (by omega) (by omega) (.inr rfl) HWT.out (two_cells A d w2)).mono ?_
    rintro e w3 ⟨hk3, h⟩
    have HK3 : Hid (∀ k, K k → w3.heap[k]? = w.heap[k]?) := Lib.hid (fun k hk => (hk3 k (.inl hk)).trans (HB2.out.block k (HKl.out k hk)))
    clear hk3
    rcases h with ⟨ns, M, g3, cp3, hrun, rfl, h3, hc3⟩ | ⟨j, ns, M, x, y, M', hj, hrun, hput, hy, rfl, h3⟩
    ·obtain ⟨a1, b1, M1, rfl, p1, p2⟩ := run_two hrun
     have hw := HF.out
     rw [wrap_yes HGP.out HGD.out rfl rfl p1 p2] at hw
     injection hw with e1 hw
     injection hw with e2 hw
     injection hw with e3 e4
     subst e1 e2 e3 e4
     have q0 := hc3 0 _ rfl
     have q1 := hc3 1 _ rfl
     have H3 := Lib.hid (h3.less (K' := K) (fun k hk => .inl hk))
     clear hc3 h3 p1 p2 hrun HF H2 HB2s HB3s
     go_wp2_with fail
     go_quiet (fail)
     go_wp2_with fail
     go_ret3
     exact ⟨rfl, H3.out.below gP g2 (drewN_below _ _), HK3.out⟩
    ·have hw := HF.out
     rw [wrap_err HGP.out HGD.out rfl rfl hy (run_err hj hrun hput hy)] at hw
     injection hw with e1 hw
     injection hw with e2 hw
     injection hw with e3 e4
     subst e1 e2 e3 e4
     have hy1 : (y != 0) = true := by simpa using hy
     have H3 := Lib.hid (h3.less (K' := K) (fun k hk => .inl hk))
     clear h3 hrun hput hy HF H2 HB2s HB3s
     go_wp2_with fail
     go_ret3
     exact ⟨rfl, H3.out, HK3.out⟩
   ·have hw := HF.out
    rw [wrap_no (by rw [HGP.out]; simp [hK])] at hw
    injection hw with e1 hw
    injection hw with e2 hw
    injection hw with e3 e4
    subst e1 e2 e3 e4
    have hK1 : (TK != 5) = true := by simpa using hK
    clear hlen hK
    go_enter Tryz.func171, Tryz.ntmps171
    go_wp2_with fail
    refine (HA.out.termsOfP g2 (twoN p d) (twoT ⟨TK, TS, TN, A, TB, TC⟩ td) w.heap.size 2 2 2 (by omega) (by omega) (by omega) HCl.out HC2.out (fun h => by omega)).mono ?_
    rintro e w1 ⟨h1, hb1, h⟩
    rcases h with ⟨_, gg, cp, rfl, hcell⟩ | ⟨h, _⟩
    case inr => omega
    obtain ⟨q0, q3⟩ := HQ.out gg w1 hcell
    have H1 := Lib.hid h1
    have HB1 := Lib.hid (HBA.out.trans (hb1.mono (by simp)))
    clear h1 hb1 HA hcell
    go_wp2_with fail
    go_ret3
    exact ⟨rfl, H1.out, fun k hk => HB1.out.block k (HKl.out k hk)⟩
theorem open_arg {L : List Tm} {most x c : Int} (h : ¬ ((getT L x).2 = true ∧ (getT L c).2 = true)) : kopenF L most x c = (0, 1, L) := by
 unfold kopenF
 rw [if_neg h]
theorem open_box {L : List Tm} {most x c : Int} {tx tc : Tm} (h1 : getT L x = (tx, true)) (h2 : getT L c = (tc, true)) (h : ¬ (tc.K = 6 ∧ tc.A = x)) : kopenF L most x c = (0, 10, L) := by
 unfold kopenF
 rw [h1, h2, if_pos ⟨rfl, rfl⟩, if_neg h]
theorem open_yes {L : List Tm} {most x c B : Int} {tx tc : Tm} (h1 : getT L x = (tx, true)) (h2 : getT L c = (tc, true)) (h : tc.K = 6 ∧ tc.A = x) (hB : tc.B = B) : kopenF L most x c = putF L most (kemT x B) := by
 unfold kopenF
 rw [h1, h2, if_pos ⟨rfl, rfl⟩, if_pos h, hB]
set_option maxHeartbeats 4000000 in
theorem Pair.openP {L' : List Tm} {a e x c : Int} (g2 : Good base Q2) (h : Pair base (PSq base g most) Q2 L L2 K w0 w) (hxw : I64 x) (hf : kopenF L most x c = (a, e, L')) :
  Calls Tryz.prog 181 #[.pointer (some ⟨g, 0, none⟩), .int .i64 x, .int .i64 c] w (TwoK (.int .i64 a) (.int .i64 e) (Pair base (PSq base g most) Q2 L' L2 K w0) K w) := by
 have gP := PSq.good base g most
 have hKl : ∀ k, K k → k < w.heap.size := by obtain ⟨F1, F2, _, _, _, h4, _⟩ := h; exact fun k hk => (h4 k hk).2.2
 have HKl := Lib.hid hKl
 have HFit := Lib.hid h.facts.1
 have hlen := h.facts
 have hBA : Below w.heap.size w (w.alloc (.cells #[.int .i64 x, .int .i64 c] 3)) := (Below.refl _ _).alloc (Nat.le_refl _) _
 have HA := Lib.hid (h.below gP g2 hBA)
 have HBA := Lib.hid hBA
 have hcells : ∀ k, k < 2 → (w.alloc (.cells #[.int .i64 x, .int .i64 c] 3)).cell? ⟨w.heap.size, k, none⟩ = some (.int .i64 (twoN x c k)) := by
  intro k hk
  rw [cell_of_row _ _ k _ _ _ (heap_alloc_new w _)]
  rcases (by omega : k = 0 ∨ k = 1) with rfl | rfl <;> rfl
 have HCl := Lib.hid hcells
 obtain ⟨⟨tx, okx⟩, hgx⟩ : ∃ y, getT L x = y := ⟨_, rfl⟩
 obtain ⟨⟨tc, okc⟩, hgc⟩ : ∃ y, getT L c = y := ⟨_, rfl⟩
 have HGX := Lib.hid hgx
 have HGC := Lib.hid hgc
 have HX := Lib.hid hxw
 have HF := Lib.hid hf
 clear h hBA hcells hKl hxw hf hgx hgc
 cases okx with
 | false =>
  have hw := HF.out
  rw [open_arg (by rw [HGX.out]; simp)] at hw
  injection hw with e1 hw
  injection hw with e2 e3
  subst e1 e2 e3
  obtain rfl := getT_no HGX.out
  clear hlen
  go_enter Tryz.func181, Tryz.ntmps181
  go_wp2_with fail
  refine (HA.out.termsOfP g2 (twoN x c) (fun _ => zeroT) w.heap.size 0 2 2 (by omega) (by omega) (by omega) HCl.out (fun k hk => by omega) (fun _ => HGX.out)).mono ?_
  rintro e w1 ⟨h1, hb1, h⟩
  rcases h with ⟨h, _⟩ | ⟨_, rfl⟩
  ·omega
  have H1 := Lib.hid h1
  have HB1 := Lib.hid (HBA.out.trans (hb1.mono (by simp)))
  clear h1 hb1 HA
  go_wp2_with fail
  go_ret2
  exact ⟨rfl, H1.out, fun k hk => HB1.out.block k (HKl.out k hk)⟩
 | true =>
  cases okc with
  | false =>
   have hw := HF.out
   rw [open_arg (by rw [HGC.out]; simp)] at hw
   injection hw with e1 hw
   injection hw with e2 e3
   subst e1 e2 e3
   obtain rfl := getT_no HGC.out
   clear hlen
   go_enter Tryz.func181, Tryz.ntmps181
   go_wp2_with fail
   refine (HA.out.termsOfP g2 (twoN x c) (fun _ => tx) w.heap.size 1 2 2 (by omega) (by omega) (by omega) HCl.out (fun k hk => by have e : k = 0 := (by omega); subst e; exact HGX.out) (fun _ => HGC.out)).mono ?_
   rintro e w1 ⟨h1, hb1, h⟩
   rcases h with ⟨h, _⟩ | ⟨_, rfl⟩
   ·omega
   have H1 := Lib.hid h1
   have HB1 := Lib.hid (HBA.out.trans (hb1.mono (by simp)))
   clear h1 hb1 HA
   go_wp2_with fail
   go_ret2
   exact ⟨rfl, H1.out, fun k hk => HB1.out.block k (HKl.out k hk)⟩
  | true =>
   have HC2 := Lib.hid (show ∀ k, k < 2 → getT L (twoN x c k) = (twoT tx tc k, true) from fun k hk => by
    rcases (by omega : k = 0 ∨ k = 1) with rfl | rfl
    ·exact HGX.out
    ·exact HGC.out)
   obtain ⟨TK, TS, TN, A, TB, TC⟩ := tc
   have HQ := Lib.hid (show ∀ gg (w' : World), (∀ k, k < 2 → ∀ j u, (twoT tx ⟨TK, TS, TN, A, TB, TC⟩ k).cl[j]? = some u → w'.cell? ⟨gg, k * 6 + j, none⟩ = some u) →
     w'.cell? ⟨gg, 6, none⟩ = some (.int .i64 TK) ∧ w'.cell? ⟨gg, 7, none⟩ = some (.string TS) ∧ w'.cell? ⟨gg, 8, none⟩ = some (.int .u64 TN) ∧ w'.cell? ⟨gg, 9, none⟩ = some (.int .i64 A) ∧ w'.cell? ⟨gg, 10, none⟩ = some (.int .i64 TB) ∧ w'.cell? ⟨gg, 11, none⟩ = some (.int .i64 TC) from
    fun gg w' hc => ⟨hc 1 (by omega) 0 _ rfl, hc 1 (by omega) 1 _ rfl, hc 1 (by omega) 2 _ rfl, hc 1 (by omega) 3 _ rfl, hc 1 (by omega) 4 _ rfl, hc 1 (by omega) 5 _ rfl⟩)
   by_cases hK : TK = 6
   ·subst hK
    by_cases hA : A = x
    ·subst hA
     have hpi := part_in HFit.out HGC.out 1 (by show 1 < many 6; decide)
     have hpr := getT_in HGC.out
     simp [prt] at hpi
     have HWk := Lib.hid (kem_wf HX.out (i64_small (x := TB) (by omega) (by omega)))
     have hf := HF.out
     rw [open_yes HGX.out HGC.out ⟨rfl, rfl⟩ rfl] at hf
     have HFP := Lib.hid hf
     have hAA : (A != A) = false := by simp
     clear hpi hpr hlen hf HF
     go_enter Tryz.func181, Tryz.ntmps181
     go_wp2_with fail
     refine (HA.out.termsOfP g2 (twoN A c) (twoT tx ⟨6, TS, TN, A, TB, TC⟩) w.heap.size 2 2 2 (by omega) (by omega) (by omega) HCl.out HC2.out (fun h => by omega)).mono ?_
     rintro e1 w1 ⟨h1, hb1, h⟩
     rcases h with ⟨_, gg, cp, rfl, hcell⟩ | ⟨h, _⟩
     case inr => omega
     obtain ⟨r0, r1, r2, r3, r4, r5⟩ := HQ.out gg w1 hcell
     have H1 := Lib.hid (h1.below gP g2 ((Below.refl _ _).alloc (Nat.le_refl _) (.cells #[.int .i64 6, .string TS, .int .u64 TN, .int .i64 A, .int .i64 TB, .int .i64 TC] 116)))
     have HB1 := Lib.hid ((HBA.out.trans (hb1.mono (by simp))).alloc (by have := hb1.size; simp at this; omega) (.cells #[.int .i64 6, .string TS, .int .u64 TN, .int .i64 A, .int .i64 TB, .int .i64 TC] 116))
     clear h1 hb1 HA hcell
     go_wp2_with fail
     refine (inBox_any _ _ _).mono ?_
     rintro e2 w2 ⟨rfl, hb2⟩
     have H2 := Lib.hid (H1.out.below gP g2 hb2)
     have HB2 := Lib.hid (HB1.out.trans (hb2.mono HB1.out.size))
     clear hb2 H1
     go_wp2_with fail
     refine (H2.out.putP g2 (kemT A TB) HWk.out HFP.out).mono ?_
     rintro e3 w3 ⟨rfl, h3, hk3⟩
     have H3 := Lib.hid h3
     have HK3 := Lib.hid hk3
     clear h3 hk3 H2
     go_wp2_with fail
     go_ret2
     exact ⟨rfl, H3.out, fun k hk => (HK3.out k hk).trans (HB2.out.block k (HKl.out k hk))⟩
    ·have hw := HF.out
     rw [open_box HGX.out HGC.out (by simp [hA])] at hw
     injection hw with e1 hw
     injection hw with e2 e3
     subst e1 e2 e3
     have hA1 : (A != x) = true := by simpa using hA
     clear hlen hA
     go_enter Tryz.func181, Tryz.ntmps181
     go_wp2_with fail
     refine (HA.out.termsOfP g2 (twoN x c) (twoT tx ⟨6, TS, TN, A, TB, TC⟩) w.heap.size 2 2 2 (by omega) (by omega) (by omega) HCl.out HC2.out (fun h => by omega)).mono ?_
     rintro e1 w1 ⟨h1, hb1, h⟩
     rcases h with ⟨_, gg, cp, rfl, hcell⟩ | ⟨h, _⟩
     case inr => omega
     obtain ⟨r0, r1, r2, r3, r4, r5⟩ := HQ.out gg w1 hcell
     have H1 := Lib.hid (h1.below gP g2 ((Below.refl _ _).alloc (Nat.le_refl _) (.cells #[.int .i64 6, .string TS, .int .u64 TN, .int .i64 A, .int .i64 TB, .int .i64 TC] 116)))
     have HB1 := Lib.hid ((HBA.out.trans (hb1.mono (by simp))).alloc (by have := hb1.size; simp at this; omega) (.cells #[.int .i64 6, .string TS, .int .u64 TN, .int .i64 A, .int .i64 TB, .int .i64 TC] 116))
     clear h1 hb1 HA hcell
     go_wp2_with fail
     go_ret2
     exact ⟨rfl, H1.out, fun k hk => HB1.out.block k (HKl.out k hk)⟩
   ·have hw := HF.out
    rw [open_box HGX.out HGC.out (by simp [hK])] at hw
    injection hw with e1 hw
    injection hw with e2 e3
    subst e1 e2 e3
    have hK1 : (TK != 6) = true := by simpa using hK
    clear hlen hK
    go_enter Tryz.func181, Tryz.ntmps181
    go_wp2_with fail
    refine (HA.out.termsOfP g2 (twoN x c) (twoT tx ⟨TK, TS, TN, A, TB, TC⟩) w.heap.size 2 2 2 (by omega) (by omega) (by omega) HCl.out HC2.out (fun h => by omega)).mono ?_
    rintro e1 w1 ⟨h1, hb1, h⟩
    rcases h with ⟨_, gg, cp, rfl, hcell⟩ | ⟨h, _⟩
    case inr => omega
    obtain ⟨r0, r1, r2, r3, r4, r5⟩ := HQ.out gg w1 hcell
    have H1 := Lib.hid (h1.below gP g2 ((Below.refl _ _).alloc (Nat.le_refl _) (.cells #[.int .i64 TK, .string TS, .int .u64 TN, .int .i64 A, .int .i64 TB, .int .i64 TC] 116)))
    have HB1 := Lib.hid ((HBA.out.trans (hb1.mono (by simp))).alloc (by have := hb1.size; simp at this; omega) (.cells #[.int .i64 TK, .string TS, .int .u64 TN, .int .i64 A, .int .i64 TB, .int .i64 TC] 116))
    clear h1 hb1 HA hcell
    go_wp2_with fail
    go_ret2
    exact ⟨rfl, H1.out, fun k hk => HB1.out.block k (HKl.out k hk)⟩
end
theorem may_kpub {n : Nat} {x : Int} (h1 : 1 ≤ x) (h2 : x ≤ (n : Int)) : (kpubT x).may n = true := by
 rw [may_iff]
 simp [May, below3, BadP, many, prt, kpubT, sz0]
 omega
theorem may_box {n : Nat} {x y : Int} (h1 : 1 ≤ x) (h2 : x ≤ (n : Int)) (h3 : 1 ≤ y) (h4 : y ≤ (n : Int)) : (boxT x y).may n = true := by
 rw [may_iff]
 simp [May, below3, BadP, many, prt, boxT, sz0]
 omega
theorem may_kem {n : Nat} {x y : Int} (h1 : 1 ≤ x) (h2 : x ≤ (n : Int)) (h3 : 1 ≤ y) (h4 : y ≤ (n : Int)) : (kemT x y).may n = true := by
 rw [may_iff]
 simp [May, below3, BadP, many, prt, kemT, sz0]
 omega
theorem getT_of2 {L : List Tm} {x : Int} (h1 : 1 ≤ x) (h2 : x ≤ (L.length : Int)) : ∃ t, getT L x = (t, true) := by
 unfold getT
 rw [if_pos ⟨h1, h2⟩]
 exact ⟨_, rfl⟩
theorem open_other {L : List Tm} {x z d a : Int} (most : Int) (ha : Named L a (boxT x d)) (hne : z ≠ x) (hz1 : 1 ≤ z) (hz2 : z ≤ (L.length : Int)) : kopenF L most z a = (0, 10, L) := by
 obtain ⟨tz, hz⟩ := getT_of2 hz1 hz2
 exact open_box hz ha.get (fun h => hne h.2.symm)
end Go.Proofs.YtgeonppckeiceaaGreatDoor
