/- TermOnce: of every row of terms, the same term has the same name whenever it comes, an unlike one another, and its parts have lesser names and are less deep. No condition. -/
import Derived.Test.YtbmbglbbojacpaaRows
import Derived.Test.YtbmbglbbojacpaaPair
import Derived.WalkKit
import Derived.ProofKit
import Derived.OpenShut
import Derived.ShutString
import Derived.ChangeOld
import Derived.Below
namespace Go.Proofs.Ytbmbglbbojacpaa.termOnce
open Go.ChangeShapes Go.WideShapes Go.ChangeAt Go.RowKit
open Go.ChangeMaps (open_string shut_string)
open Go.Proofs.Ytbmbglbbojacpaa
set_option linter.unusedVariables false

theorem own : ownKnob Try.prog.godebug = none := by kernel_rfl
theorem laidOut : laidOutB Try.prog = true := by kernel_rfl

theorem mx_congr {acc acc' : List Nat} {t : Tm} : ∀ j, (∀ i, i < j → acc.getD (prt t.A t.B t.C i).toNat 0 = acc'.getD (prt t.A t.B t.C i).toNat 0) → mx acc t j = mx acc' t j
  | 0, _ => rfl
  | j + 1, h => by simp only [mx]; rw [mx_congr j (fun i hi => h i (by omega)), h j (by omega)]
theorem deep_at (L : List Tm) (hf : Fit L) (k : Nat) (hk : k < L.length) : depthOf L ((k : Int) + 1) = ((mx (depths L) (L.getD k zeroT) (many (L.getD k zeroT).K) : Nat) : Int) + 1 := by
  have h1 := depthOf_in L (k + 1) (by omega) (by omega)
  rw [show ((k + 1 : Nat) : Int) = (k : Int) + 1 from by omega] at h1
  rw [h1]
  have h2 := depths_prefix L (k + 1) L.length (by omega) (Nat.le_refl _)
  rw [List.take_length] at h2
  rw [h2, take_snocT L k hk, depths_snoc, stepD]
  have hl : (depths (L.take k)).length = k + 1 := by rw [depths_length, List.length_take]; omega
  have e : (depths (L.take k) ++ [mx (depths (L.take k)) (L.getD k zeroT) (many (L.getD k zeroT).K) + 1]).getD (k + 1) 0 = mx (depths (L.take k)) (L.getD k zeroT) (many (L.getD k zeroT).K) + 1 := by
    simp [List.getD, hl]
  rw [e, mx_congr (acc := depths (L.take k)) (acc' := depths L)]
  · simp
  · intro i hi
    obtain ⟨p1, p2⟩ := hf k hk i hi
    have h3 := depths_prefix L (prt (L.getD k zeroT).A (L.getD k zeroT).B (L.getD k zeroT).C i).toNat k (by omega) (by omega)
    have h4 := depths_prefix L (prt (L.getD k zeroT).A (L.getD k zeroT).B (L.getD k zeroT).C i).toNat L.length (by omega) (Nat.le_refl _)
    rw [List.take_length] at h4
    rw [h3, h4]
theorem mx_ge (acc : List Nat) (t : Tm) : ∀ n j, j < n → acc.getD (prt t.A t.B t.C j).toNat 0 ≤ mx acc t n
  | 0, j, h => absurd h (Nat.not_lt_zero _)
  | n + 1, j, h => by
    simp only [mx]
    rcases Nat.lt_succ_iff_lt_or_eq.1 h with q | rfl
    · have := mx_ge acc t n j q; omega
    · omega
/-- A part has a lesser name, and is less deep. -/
theorem part_less (L : List Tm) (hf : Fit L) (k : Nat) (hk : k < L.length) (t : Tm) (ht : L.getD k zeroT = t) (j : Nat) (hj : j < many t.K) :
    1 ≤ partAt t.A t.B t.C j ∧ partAt t.A t.B t.C j ≤ (k : Int) ∧ depthOf L (partAt t.A t.B t.C j) < depthOf L ((k : Int) + 1) := by
  subst ht
  obtain ⟨p1, p2⟩ := hf k hk j hj
  refine ⟨p1, p2, ?_⟩
  rw [deep_at L hf k hk]
  have e : partAt (L.getD k zeroT).A (L.getD k zeroT).B (L.getD k zeroT).C j = prt (L.getD k zeroT).A (L.getD k zeroT).B (L.getD k zeroT).C j := rfl
  rw [e]
  have hm := mx_ge (depths L) (L.getD k zeroT) (many (L.getD k zeroT).K) j hj
  obtain ⟨p, hp⟩ := Int.eq_ofNat_of_zero_le (show 0 ≤ prt (L.getD k zeroT).A (L.getD k zeroT).B (L.getD k zeroT).C j by omega)
  rw [hp] at p1 p2 hm ⊢
  rw [depthOf_in L p (by omega) (by omega)]
  simp only [Int.toNat_natCast] at hm
  omega
theorem may_mono {n m : Nat} {t : Tm} (h : t.may n = true) (hnm : n ≤ m) : t.may m = true := by
  unfold Tm.may at *
  have h' := of_decide_eq_true h
  apply decide_eq_true
  obtain ⟨h1, h2, h3, h4, h5, h6, h7⟩ := h'
  refine ⟨h1, h2, h3, h4, h5, fun j hj hb => h6 j hj ?_, h7⟩
  unfold BadP at *
  omega
theorem put_case (L : List Tm) (t : Tm) (hl : L.length ≤ 40) : (putF L 1000 t = (0, 1, L)) ∨
    ∃ ix L', putF L 1000 t = (((ix : Nat) : Int) + 1, 0, L') ∧ ix < L'.length ∧ L'.getD ix zeroT = t ∧ nameOf L' t = ((ix : Nat) : Int) + 1 ∧ putF L' 1000 t = (((ix : Nat) : Int) + 1, 0, L') ∧ L'.length ≤ L.length + 1 ∧ ∀ u, nameOf L u ≠ 0 → nameOf L' u = nameOf L u := by
  rcases putF_cases L 1000 t with ⟨hp, _⟩ | ⟨j, hj, hp, hjt, _, hn⟩ | ⟨hr, hp, _, _⟩ | ⟨hr, hp, hm, h0⟩
  · exact .inl hp
  · exact .inr ⟨j, L, hp, hj, hjt, hn, hp, by omega, fun u _ => rfl⟩
  · omega
  · have hn := nameOf_snoc_same L t h0
    refine .inr ⟨L.length, L ++ [t], hp, by simp, getD_snoc_eq L t, hn, ?_, by simp, fun u hu => nameOf_snoc_old L t u hu⟩
    unfold putF
    rw [if_pos (may_mono hm (by simp)), hn, if_pos (by omega)]
theorem name_unique (L : List Tm) (t u : Tm) (h : nameOf L t = nameOf L u) (h0 : nameOf L t ≠ 0) : t = u := by
  rcases nameOf_cases L t with ⟨h1, _⟩ | ⟨k, hk, h1, h2, _⟩
  · exact absurd h1 h0
  · rcases nameOf_cases L u with ⟨h3, _⟩ | ⟨k', hk', h3, h4, _⟩
    · omega
    · have : k = k' := by omega
      subst this
      rw [← h2, h4]

/-- The row of names that were told. -/
def intsI (ns : List Int) : List Value := ns.map fun (n : Int) => Value.int .i64 n
def RowQ (base : Nat) (fv : Value) (ns : List Int) : (Nat → Prop) → List Tm → World → Prop := fun F _ w =>
  w.ownsRow base 3 1 fv ns.length (intsI ns) ∧ (∀ k, fv.ownBlock = some k → F k) ∧ (∀ k, F k → base ≤ k ∧ k < w.heap.size)
theorem RowQ.good (base : Nat) (fv : Value) (ns : List Int) : Good base (RowQ base fv ns) := by
  refine ⟨?_, ?_⟩
  · rintro F S L w w' ⟨h1, h2, h3⟩ hc hn
    exact ⟨hc.row h1 (fun k hk => hn k (h2 k hk)), h2, fun k hk => ⟨(h3 k hk).1, Nat.lt_of_lt_of_le (h3 k hk).2 hc.size⟩⟩
  · rintro F L w ⟨h1, h2, h3⟩
    exact h3
/-- The store and the row, in a world of the call, and blocks that are neither's. -/
def W2 (w : World) (g : Nat) (fv : Value) (L : List Tm) (ns : List Int) (K : Nat → Prop) (W : World) : Prop := Pair w.heap.size (PSq w.heap.size g 1000) (RowQ w.heap.size fv ns) L [] K w W
theorem W2.row {w W : World} {g : Nat} {fv : Value} {L : List Tm} {ns : List Int} {K : Nat → Prop} (h : W2 w g fv L ns K W) : W.ownsRow w.heap.size 3 1 fv ns.length (intsI ns) := by
  obtain ⟨F1, F2, h1, ⟨hr, _⟩, _⟩ := h
  exact hr
theorem W2.below {w W W' : World} {g : Nat} {fv : Value} {L : List Tm} {ns : List Int} {K : Nat → Prop} (h : W2 w g fv L ns K W) (hb : Below W.heap.size W W') : W2 w g fv L ns K W' := Pair.below (PSq.good _ _ _) (RowQ.good _ _ _) h hb
theorem W2.app {w W w3 : World} {g g2 cap : Nat} {fv : Value} {L : List Tm} {ns : List Int} {K : Nat → Prop} {x : Int} (h : W2 w g fv L ns K W) (hown : w3.ownsRow w.heap.size 3 1 (.slice (some ⟨g2, 0, none⟩) (ns.length + 1) cap) (ns.length + 1) (intsI ns ++ [.int .i64 x]))
    (hgrow : (W.alloc (.cells #[.int .i64 x] 3)).grownBy w3 fv.ownBlock) (hat : fv.ownBlock = some g2 ∨ g2 = W.heap.size + 1) :
    W2 w g (.slice (some ⟨g2, 0, none⟩) (ns.length + 1) cap) L (ns ++ [x]) K w3 ∧ ∀ k, K k → w3.heap[k]? = W.heap[k]? := by
  have hbl := h.base_le
  obtain ⟨F1, F2, p1, ⟨r1, r2, r3⟩, p3, p4, p5, p6⟩ := h
  have C : Chg F2 W w3 := ((Chg.alloc W _ _).trans (Chg.grown hgrow)).mono (fun k _ q => r2 k q.symm)
  have hlt := (hown.lt g2 rfl)
  refine ⟨⟨F1, fun k => F2 k ∨ (W.heap.size ≤ k ∧ k < w3.heap.size), (PSq.good _ _ _).frame p1 C (fun k a b => p3 k a b), ⟨by simpa [intsI] using hown, ?_, ?_⟩, ?_, ?_, p5, p6.trans (C.below (fun k hk => (r3 k hk).1) hbl)⟩, fun k hk => C.block k (p4 k hk).2.2 (p4 k hk).2.1⟩
  · intro k hk
    have hk : g2 = k := by simpa [Value.ownBlock] using hk
    subst hk
    rcases hat with hat | hat
    · exact .inl (r2 _ hat)
    · exact .inr ⟨by omega, hlt.2⟩
  · intro k hk
    rcases hk with q | q
    · exact ⟨(r3 k q).1, Nat.lt_of_lt_of_le (r3 k q).2 C.size⟩
    · exact ⟨by omega, q.2⟩
  · intro k a b
    rcases b with q | q
    · exact p3 k a q
    · have := ((PSq.good _ _ _).bounds p1 k a).2; omega
  · intro k hk
    have h4 := p4 k hk
    exact ⟨h4.1, fun e => by
      rcases e with q | q
      · exact h4.2.1 q
      · omega, Nat.lt_of_lt_of_le h4.2.2 C.size⟩
theorem W2.first {w W : World} {g : Nat} (hp : Pair w.heap.size (PSq w.heap.size g 1000) NoS [] [] (fun _ => False) w W) :
    W2 w g (.slice (some ⟨W.heap.size, 0, none⟩) 0 0) [] [] (fun _ => False) (W.alloc (.cells #[] 3)) := by
  have hb : Below W.heap.size W (W.alloc (.cells #[] 3)) := (Below.refl _ _).alloc (Nat.le_refl _) _
  have hbl := hp.base_le
  obtain ⟨F1, F2, p1, p2, p3, p4, p5, p6⟩ := hp
  refine ⟨F1, fun k => k = W.heap.size, (PSq.good _ _ _).frame p1 (S := fun _ => False) (.of_below hb) (fun _ _ q => q), ⟨⟨rfl, .inr ⟨W.heap.size, 0, #[], rfl, hbl, heap_alloc_new W _, Nat.le_refl _, Nat.zero_le _, rfl, rfl⟩⟩, ?_, ?_⟩, ?_, fun k q => q.elim, p5, p6.trans (hb.mono hbl)⟩
  · intro k hk; have : W.heap.size = k := by simpa [Value.ownBlock] using hk
    exact this.symm
  · intro k hk; exact ⟨by omega, by simp; omega⟩
  · intro k a b; have := ((PSq.good _ _ _).bounds p1 k a).2; omega

/-- The same with a term's box beside them. -/
def PB (w : World) (g : Nat) (fv : Value) (L : List Tm) (ns : List Int) (q : Nat) (K : Int) (S : ByteArray) (N A B C : Int) (W : World) : Prop :=
  W2 w g fv L ns (fun k => k = q) W ∧ W.heap[q]? = some (.cells #[.int .i64 K, .string S, .int .u64 N, .int .i64 A, .int .i64 B, .int .i64 C] 32 (0, 0))
theorem PB.below {w W W' : World} {g : Nat} {fv : Value} {L : List Tm} {ns : List Int} {q : Nat} {K : Int} {S : ByteArray} {N A B C : Int} (hb : Below W.heap.size W W') (h : PB w g fv L ns q K S N A B C W) : PB w g fv L ns q K S N A B C W' :=
  ⟨h.1.below hb, by rw [hb.block _ (blk_lt h.2)]; exact h.2⟩
/-- What the names of the row say. -/
def Inv (T : Nat → Tm) (k : Nat) (L : List Tm) (ns : List Int) : Prop := ns.length = k ∧ L.length ≤ k ∧ ∀ j, j < k → ns.getD j 0 = 0 ∨ (0 < ns.getD j 0 ∧ ns.getD j 0 = nameOf L (cutT (T j)))

theorem intsI_at (ns : List Int) (a : Int) (j : Nat) (h : j < ns.length) : (intsI (ns ++ [a]))[j]? = some (.int .i64 (ns.getD j 0)) := by
  unfold intsI
  rw [List.map_append, List.getElem?_append_left (by simpa using h)]
  simp [List.getD, h]
theorem ckeep {w w' : World} {p : Addr} {v : Value} (hb : Below w.heap.size w w') (h : w.cell? p = some v) : w'.cell? p = some v := (hb.cell (block_lt_of_cell h)).trans h
theorem ckeep13 {w w' : World} {p0 p1 p2 p3 p4 p5 p6 p7 p8 p9 p10 p11 p12 : Addr} {v0 v1 v2 v3 v4 v5 v6 v7 v8 v9 v10 v11 v12 : Value} (hb : Below w.heap.size w w')
    (h : w.cell? p0 = some v0 ∧ w.cell? p1 = some v1 ∧ w.cell? p2 = some v2 ∧ w.cell? p3 = some v3 ∧ w.cell? p4 = some v4 ∧ w.cell? p5 = some v5 ∧ w.cell? p6 = some v6 ∧ w.cell? p7 = some v7 ∧ w.cell? p8 = some v8 ∧ w.cell? p9 = some v9 ∧ w.cell? p10 = some v10 ∧ w.cell? p11 = some v11 ∧ w.cell? p12 = some v12) :
    w'.cell? p0 = some v0 ∧ w'.cell? p1 = some v1 ∧ w'.cell? p2 = some v2 ∧ w'.cell? p3 = some v3 ∧ w'.cell? p4 = some v4 ∧ w'.cell? p5 = some v5 ∧ w'.cell? p6 = some v6 ∧ w'.cell? p7 = some v7 ∧ w'.cell? p8 = some v8 ∧ w'.cell? p9 = some v9 ∧ w'.cell? p10 = some v10 ∧ w'.cell? p11 = some v11 ∧ w'.cell? p12 = some v12 := by
  obtain ⟨h0, h1, h2, h3, h4, h5, h6, h7, h8, h9, h10, h11, h12⟩ := h
  exact ⟨ckeep hb h0, ckeep hb h1, ckeep hb h2, ckeep hb h3, ckeep hb h4, ckeep hb h5, ckeep hb h6, ckeep hb h7, ckeep hb h8, ckeep hb h9, ckeep hb h10, ckeep hb h11, ckeep hb h12⟩
theorem Inv.zero {T : Nat → Tm} {k : Nat} {L : List Tm} {ns : List Int} (h : Inv T k L ns) : Inv T (k + 1) L (ns ++ [0]) := by
  obtain ⟨h1, h2, h3⟩ := h
  refine ⟨by simp [h1], by omega, fun j hj => ?_⟩
  rcases Nat.lt_succ_iff_lt_or_eq.1 hj with q | rfl
  · have : (ns ++ [0]).getD j 0 = ns.getD j 0 := by simp [List.getD, List.getElem?_append_left (show j < ns.length by omega)]
    rw [this]; exact h3 j q
  · left; subst h1; simp [List.getD]
theorem Inv.some {T : Nat → Tm} {k ix : Nat} {L L' : List Tm} {ns : List Int} {t : Tm} (h : Inv T k L ns) (ht : t = cutT (T k)) (hname : nameOf L' t = (ix : Int) + 1) (hlen : L'.length ≤ L.length + 1) (hkeep : ∀ u, nameOf L u ≠ 0 → nameOf L' u = nameOf L u) :
    Inv T (k + 1) L' (ns ++ [(ix : Int) + 1]) := by
  obtain ⟨h1, h2, h3⟩ := h
  refine ⟨by simp [h1], by omega, fun j hj => ?_⟩
  rcases Nat.lt_succ_iff_lt_or_eq.1 hj with q | rfl
  · have : (ns ++ [(ix : Int) + 1]).getD j 0 = ns.getD j 0 := by simp [List.getD, List.getElem?_append_left (show j < ns.length by omega)]
    rw [this]
    rcases h3 j q with e | ⟨e1, e2⟩
    · exact .inl e
    · exact .inr ⟨e1, by rw [hkeep _ (by omega)]; exact e2⟩
  · right
    have : (ns ++ [(ix : Int) + 1]).getD j 0 = (ix : Int) + 1 := by subst h1; simp [List.getD]
    rw [this]
    exact ⟨by omega, by rw [← ht, hname]⟩
theorem Inv.told {T : Nat → Tm} {k ix : Nat} {L L' : List Tm} {ns : List Int} {t : Tm} (h : Inv T k L ns) (hname : nameOf L' t = (ix : Int) + 1) (hkeep : ∀ u, nameOf L u ≠ 0 → nameOf L' u = nameOf L u) (j : Nat) (hj : j < k) :
    (cutT (T j) = t → (ns.getD j 0 = 0) ∨ (ns.getD j 0 = (ix : Int) + 1)) ∧ (cutT (T j) ≠ t → ns.getD j 0 ≠ (ix : Int) + 1) := by
  refine ⟨fun e => ?_, fun e he => ?_⟩
  · rcases h.2.2 j hj with q | ⟨q1, q2⟩
    · exact .inl q
    · right
      rw [q2, ← hkeep _ (by omega), e, hname]
  · rcases h.2.2 j hj with q | ⟨q1, q2⟩
    · omega
    · apply e
      apply name_unique L'
      · rw [hkeep _ (by omega), ← q2, he, hname]
      · rw [hkeep _ (by omega)]; omega

set_option maxHeartbeats 4000000 in
set_option maxRecDepth 100000 in
theorem walkN (a0 : Option Addr) (len0 cap0 : Nat) (T : Nat → Tm) (w : World) (hcm : cap0 ≤ maxLen) (hlc : len0 ≤ cap0) (b off : Nat)
    (hT : Hid (∀ i, i < len0 → a0 = some ⟨b, off, none⟩ ∧ Wf (T i) ∧ ∀ j u, (T i).cl[j]? = some u → w.cell? ⟨b, off + i * 6 + j, none⟩ = some u)) :
    Calls Try.prog 4 #[.slice a0 len0 cap0] w fun e w' => e = .returned (.bool true) ∧ Below w.heap.size w w' := by
  unfold maxLen at hcm
  go_enter Try.func4, Try.ntmps4
  go_wp2_with fail
  refine (Pair.new1 (base := w.heap.size) (w0 := w) rfl (Below.refl _ _) (by omega) (by omega)).mono ?_
  rintro e w1 ⟨g, rfl, hp⟩
  have HS0 : Hid (W2 w g (.slice (some ⟨w1.heap.size, 0, none⟩) 0 0) [] [] (fun _ => False) (w1.alloc (.cells #[] 3))) := Lib.hid (W2.first hp)
  clear hp
  go_wp2_with fail
  go_loopw [5, 6] (fun v i wr => ∃ k, ∃ L : List Tm, ∃ ns : List Int, k ≤ len0 ∧ k ≤ 40 ∧ i = .int .i64 (k : Nat) ∧ (∃ a' cap', v = .slice a' ns.length cap') ∧ Hid (W2 w g v L ns (fun _ => False) wr) ∧ Hid (Inv T k L ns)) (fun _ i _ => 40 - (intOf i).toNat)
  case atStart => exact ⟨0, [], [], Nat.zero_le _, Nat.zero_le _, rfl, ⟨_, _, rfl⟩, HS0, Lib.hid ⟨rfl, Nat.le_refl _, fun j hj => absurd hj (Nat.not_lt_zero _)⟩⟩
  case round =>
    obtain ⟨k, L, ns, hk, hk40, rfl, ⟨a', cap', rfl⟩, HS, HI⟩ := hrel
    clear HS0
    by_cases hlt : k < len0
    · have hlt1 : (k : Int) < (len0 : Int) := by omega
      by_cases h40 : k < 40
      · have h41 : (k : Int) < 40 := by omega
        obtain ⟨rfl, hwf, hcl⟩ := hT.out k hlt
        have hbw : b < w.heap.size := block_lt_of_cell (hcl 0 _ rfl)
        have hbl := HS.out.belowW
        have hcut := Lib.hid (fun W => cut_c (T k) W hwf)
        have HWF0 := Lib.hid (cutT_wf hwf)
        obtain ⟨⟨K, S, N, A, B, C⟩, ht⟩ : ∃ u, u = cutT (T k) := ⟨_, rfl⟩
        rw [← ht] at hcut HWF0
        have HT := Lib.hid ht
        have HWF := HWF0
        obtain ⟨⟨K', S', N', A', B', C'⟩, ht'⟩ : ∃ u, u = T k := ⟨_, rfl⟩
        rw [← ht'] at hcut hcl
        have q0 := hcl 0 _ rfl
        have q1 := hcl 1 _ rfl
        have q2 := hcl 2 _ rfl
        have q3 := hcl 3 _ rfl
        have q4 := hcl 4 _ rfl
        have q5 := hcl 5 _ rfl
        rw [← hbl.cell (by exact hbw)] at q0 q1 q2 q3 q4 q5
        simp at q0 q1 q2 q3 q4 q5
        have Hk := Lib.hid h40
        have Hkl := Lib.hid hlt
        have hns : ns.length ≤ 40 := by have := HI.out.1; omega
        clear hcl ht ht' hbl HWF0 hwf hk
        go_wp2_with fail
        refine (hcut.out _).mono ?_
        rintro e w3 ⟨rfl, hb3⟩
        rw [show Tm.v ⟨K, S, N, A, B, C⟩ = .agg #[.int .i64 K, .string S, .int .u64 N, .int .i64 A, .int .i64 B, .int .i64 C] from rfl]
        have HP3 := Lib.hid (HS.out.below hb3)
        clear hb3 HS hcut q0 q1 q2 q3 q4 q5
        go_wp2_with fail
        have HP := Lib.hid (Pair.box (PSq.good _ _ _) (RowQ.good _ _ _) HP3.out (.cells #[.int .i64 K, .string S, .int .u64 N, .int .i64 A, .int .i64 B, .int .i64 C] 32))
        have HBX := Lib.hid (heap_alloc_new w3 (.cells #[.int .i64 K, .string S, .int .u64 N, .int .i64 A, .int .i64 B, .int .i64 C] 32))
        generalize w3.alloc (.cells #[.int .i64 K, .string S, .int .u64 N, .int .i64 A, .int .i64 B, .int .i64 C] 32) = w3' at HP HBX ⊢
        clear HP3
        have HM3 := Lib.hid (many_le K)
        rcases put_case L ⟨K, S, N, A, B, C⟩ (by have := HI.out.2.1; omega) with hp | ⟨ix, L', hp1, hix, hixt, hname, hp2, hlen, hkeep⟩
        · have HP1 := Lib.hid hp
          have HP2 := Lib.hid hp
          clear hp
          refine (HP.out.putP (RowQ.good _ _ _) ⟨K, S, N, A, B, C⟩ HWF.out HP1.out).mono ?_
          rintro e w4 ⟨rfl, hP4, hk4⟩
          have HP4 := Lib.hid hP4
          have HBX4 : Hid (w4.heap[w3.heap.size]? = some (.cells #[.int .i64 K, .string S, .int .u64 N, .int .i64 A, .int .i64 B, .int .i64 C] 32 (0, 0))) := Lib.hid (by rw [hk4 _ (.inr rfl)]; exact HBX.out)
          clear hP4 hk4 HP HBX
          have z0 := (cell_of_row _ _ 0 _ _ _ HBX4.out)
          have z1 := (cell_of_row _ _ 1 _ _ _ HBX4.out)
          have z2 := (cell_of_row _ _ 2 _ _ _ HBX4.out)
          have z3 := (cell_of_row _ _ 3 _ _ _ HBX4.out)
          have z4 := (cell_of_row _ _ 4 _ _ _ HBX4.out)
          have z5 := (cell_of_row _ _ 5 _ _ _ HBX4.out)
          simp at z0 z1 z2 z3 z4 z5
          go_wp2_with fail
          refine (HP4.out.putP (RowQ.good _ _ _) ⟨K, S, N, A, B, C⟩ HWF.out HP2.out).mono ?_
          rintro e w5 ⟨rfl, hP5, hk5⟩
          have HP5 : Hid (W2 w g (.slice a' ns.length cap') L ns (fun k => False ∨ k = w3.heap.size) w5) := Lib.hid hP5
          have HBX5 : Hid (w5.heap[w3.heap.size]? = some (.cells #[.int .i64 K, .string S, .int .u64 N, .int .i64 A, .int .i64 B, .int .i64 C] 32 (0, 0))) := Lib.hid (by rw [hk5 _ (.inr rfl)]; exact HBX4.out)
          clear hP5 hk5 HP4 HBX4 z0 z1 z2 z3 z4 z5
          obtain ⟨i0, hi0, hz0, hz1, hz2⟩ := info_parts info3
          have hbs : w.heap.size ≤ w5.heap.size := HP5.out.base_le
          have HO := Lib.hid HP5.out.row
          go_wp2_with (at_builtin; refine wpList_append_lies _ rfl _ _ 45 rfl w.heap.size 3 i0 (.int .i64 0) 1 8 Try.underlying45 hi0 hz0 hz1 hz2 rfl (by decide) _ _ _ rfl (HO.out.alloc _) ⟨w5.heap.size, 0, none⟩ 1 1 [.int .i64 0] rfl rfl (World.news_of_block (cs := #[.int .i64 0]) (t := 3) (fr := (0, 0)) (heap_alloc_new w5 _)) (by simp [Value.oneCell']) (by omega) (by unfold maxLen; omega) (by omega) (by simp; omega) (w5.heap.size + 1) (by simp) ?_; intro g2 cap3 w6 hown2 hgrow2 hat2 hlt3; have Q1 := Lib.hid hown2; have Q2 := Lib.hid hgrow2; have Q3 := Lib.hid hat2; clear hown2 hgrow2 hat2 hlt3; have hM0 := W2.app HP5.out Q1.out Q2.out Q3.out; have HMM := Lib.hid hM0; clear hM0; have HBX6 : Hid (w6.heap[w3.heap.size]? = some (.cells #[.int .i64 K, .string S, .int .u64 N, .int .i64 A, .int .i64 B, .int .i64 C] 32 (0, 0))) := Lib.hid (by rw [HMM.out.2 _ (.inr rfl)]; exact HBX5.out); have z0 := (cell_of_row _ _ 0 _ _ _ HBX6.out); have z1 := (cell_of_row _ _ 1 _ _ _ HBX6.out); have z2 := (cell_of_row _ _ 2 _ _ _ HBX6.out); have z3 := (cell_of_row _ _ 3 _ _ _ HBX6.out); have z4 := (cell_of_row _ _ 4 _ _ _ HBX6.out); have z5 := (cell_of_row _ _ 5 _ _ _ HBX6.out); simp at z0 z1 z2 z3 z4 z5)
          have hM := HMM.out
          have HP6 : Hid (W2 w g (.slice (some ⟨g2, 0, none⟩) (ns.length + 1) cap3) L (ns ++ [0]) (fun k => False ∨ k = w3.heap.size) w6) := Lib.hid hM.1
          clear hM HMM Q1 Q2 Q3 HP5 HBX5 HO hi0 hz0 hz1 hz2
          refine (parts_prog _ _ _ _ _ _ _).mono ?_
          rintro e w7 ⟨bb, rfl, hb7, hbs7, hcells⟩
          have HPB : Hid (PB w g (.slice (some ⟨g2, 0, none⟩) (ns.length + 1) cap3) L (ns ++ [0]) w3.heap.size K S N A B C w7) := Lib.hid (PB.below hb7 ⟨HP6.out.less (fun k q => .inr q), HBX6.out⟩)
          have HCC := Lib.hid hcells
          clear hb7 hbs7 hcells HP6 HBX6 z0 z1 z2 z3 z4 z5 hbs

          go_wp2_with fail
          go_loop [13] (fun i => i = .int .i64 0) (fun _ => 0)
          case atStart => rfl
          case round =>
            obtain rfl := hrel
            go_wp2_with fail
            go_loopw [14] (fun i wr => ∃ j : Nat, j ≤ k ∧ i = .int .i64 j ∧ Hid (PB w g (.slice (some ⟨g2, 0, none⟩) (ns.length + 1) cap3) L (ns ++ [0]) w3.heap.size K S N A B C wr)) (fun i _ => k - (intOf i).toNat)
            case atStart => exact ⟨0, Nat.zero_le _, rfl, HPB⟩
            case round =>
              obtain ⟨j, hj, rfl, HPJ⟩ := hrel
              clear HPB
              by_cases hjk : j < k
              · have Hjk := Lib.hid hjk
                have hjk1 : (j : Int) < (k : Int) := by omega
                clear hjk hj
                go_wp2
                go_quiet (fail)
                go_wp2
                go_roundw
                case rel => exact ⟨j + 1, by have := Hjk.out; omega, by go_num, Lib.hid (PB.below (drewN_below _ _) HPJ.out)⟩
                case measure => have := Hjk.out; simp [intOf]; omega
              · obtain rfl : j = k := by omega
                have hjk1 : decide (j < j) = false := by simp
                clear hjk hj
                go_wp2_with fail
                go_roundw
                case rel => exact ⟨j + 1, L, ns ++ [0], by have := Hkl.out; omega, by have := Hk.out; omega, by go_num, ⟨_, _, by rw [List.length_append]; rfl⟩, Lib.hid (HPJ.out.1.less (fun _ q => q.elim)), Lib.hid HI.out.zero⟩
                case measure => have := Hk.out; simp [intOf]; omega
        · have HP1 := Lib.hid hp1
          have HP2 := Lib.hid hp2
          have HIX := Lib.hid hix
          have HIXT := Lib.hid hixt
          have HNM := Lib.hid hname
          have HLEN := Lib.hid hlen
          have HKEEP := Lib.hid hkeep
          have hixb : (ix : Int) ≤ 41 := by have := HI.out.2.1; omega
          clear hp1 hp2 hix hixt hname hlen hkeep
          refine (HP.out.putP (RowQ.good _ _ _) ⟨K, S, N, A, B, C⟩ HWF.out HP1.out).mono ?_
          rintro e w4 ⟨rfl, hP4, hk4⟩
          have HP4 := Lib.hid hP4
          have HBX4 : Hid (w4.heap[w3.heap.size]? = some (.cells #[.int .i64 K, .string S, .int .u64 N, .int .i64 A, .int .i64 B, .int .i64 C] 32 (0, 0))) := Lib.hid (by rw [hk4 _ (.inr rfl)]; exact HBX.out)
          clear hP4 hk4 HP HBX
          have z0 := (cell_of_row _ _ 0 _ _ _ HBX4.out)
          have z1 := (cell_of_row _ _ 1 _ _ _ HBX4.out)
          have z2 := (cell_of_row _ _ 2 _ _ _ HBX4.out)
          have z3 := (cell_of_row _ _ 3 _ _ _ HBX4.out)
          have z4 := (cell_of_row _ _ 4 _ _ _ HBX4.out)
          have z5 := (cell_of_row _ _ 5 _ _ _ HBX4.out)
          simp at z0 z1 z2 z3 z4 z5
          go_wp2_with fail
          refine (HP4.out.putP (RowQ.good _ _ _) ⟨K, S, N, A, B, C⟩ HWF.out HP2.out).mono ?_
          rintro e w5 ⟨rfl, hP5, hk5⟩
          have HP5 : Hid (W2 w g (.slice a' ns.length cap') L' ns (fun k => False ∨ k = w3.heap.size) w5) := Lib.hid hP5
          have HBX5 : Hid (w5.heap[w3.heap.size]? = some (.cells #[.int .i64 K, .string S, .int .u64 N, .int .i64 A, .int .i64 B, .int .i64 C] 32 (0, 0))) := Lib.hid (by rw [hk5 _ (.inr rfl)]; exact HBX4.out)
          clear hP5 hk5 HP4 HBX4 z0 z1 z2 z3 z4 z5
          obtain ⟨i0, hi0, hz0, hz1, hz2⟩ := info_parts info3
          have hbs : w.heap.size ≤ w5.heap.size := HP5.out.base_le
          have HO := Lib.hid HP5.out.row
          go_wp2_with (at_builtin; refine wpList_append_lies _ rfl _ _ 45 rfl w.heap.size 3 i0 (.int .i64 0) 1 8 Try.underlying45 hi0 hz0 hz1 hz2 rfl (by decide) _ _ _ rfl (HO.out.alloc _) ⟨w5.heap.size, 0, none⟩ 1 1 [.int .i64 ((ix : Int) + 1)] rfl rfl (World.news_of_block (cs := #[.int .i64 ((ix : Int) + 1)]) (t := 3) (fr := (0, 0)) (heap_alloc_new w5 _)) (by simp [Value.oneCell']) (by omega) (by unfold maxLen; omega) (by omega) (by simp; omega) (w5.heap.size + 1) (by simp) ?_; intro g2 cap3 w6 hown2 hgrow2 hat2 hlt3; have Q1 := Lib.hid hown2; have Q2 := Lib.hid hgrow2; have Q3 := Lib.hid hat2; clear hown2 hgrow2 hat2 hlt3; have hM0 := W2.app HP5.out Q1.out Q2.out Q3.out; have HMM := Lib.hid hM0; clear hM0; have HBX6 : Hid (w6.heap[w3.heap.size]? = some (.cells #[.int .i64 K, .string S, .int .u64 N, .int .i64 A, .int .i64 B, .int .i64 C] 32 (0, 0))) := Lib.hid (by rw [HMM.out.2 _ (.inr rfl)]; exact HBX5.out); have z0 := (cell_of_row _ _ 0 _ _ _ HBX6.out); have z1 := (cell_of_row _ _ 1 _ _ _ HBX6.out); have z2 := (cell_of_row _ _ 2 _ _ _ HBX6.out); have z3 := (cell_of_row _ _ 3 _ _ _ HBX6.out); have z4 := (cell_of_row _ _ 4 _ _ _ HBX6.out); have z5 := (cell_of_row _ _ 5 _ _ _ HBX6.out); simp at z0 z1 z2 z3 z4 z5)
          have hM := HMM.out
          have HP6 : Hid (W2 w g (.slice (some ⟨g2, 0, none⟩) (ns.length + 1) cap3) L' (ns ++ [((ix : Int) + 1)]) (fun k => False ∨ k = w3.heap.size) w6) := Lib.hid hM.1
          clear hM HMM Q1 Q2 Q3 HP5 HBX5 HO hi0 hz0 hz1 hz2
          refine (parts_prog _ _ _ _ _ _ _).mono ?_
          rintro e w7 ⟨bb, rfl, hb7, hbs7, hcells⟩
          have HPB : Hid (PB w g (.slice (some ⟨g2, 0, none⟩) (ns.length + 1) cap3) L' (ns ++ [((ix : Int) + 1)]) w3.heap.size K S N A B C w7) := Lib.hid (PB.below hb7 ⟨HP6.out.less (fun k q => .inr q), HBX6.out⟩)
          have HCC := Lib.hid hcells
          clear hb7 hbs7 hcells HP6 HBX6 z0 z1 z2 z3 z4 z5 hbs

          obtain ⟨n1, hn1⟩ : ∃ n1, n1 = ns.length + 1 := ⟨_, rfl⟩
          rw [← hn1] at HPB ⊢
          have HN1 := Lib.hid hn1
          clear hn1
          have hm0 : many K = 0 ∨ 0 < many K := by omega
          have hFit := Lib.hid HPB.out.1.facts.1
          obtain ⟨aP, hpv, hap⟩ : ∃ aP, partsV bb K = .slice aP (many K) (many K) ∧ (0 < many K → aP = some ⟨bb, 0, none⟩) := by
            unfold partsV
            rcases hm0 with hm0 | hm0
            · exact ⟨none, by rw [if_pos hm0, hm0], fun h => by omega⟩
            · exact ⟨_, by rw [if_neg (by omega)], fun _ => rfl⟩
          rw [hpv]
          have HAP := Lib.hid hap
          clear hm0 hpv hap
          go_wp2_with fail
          go_loop [13] (fun i => ∃ jj : Nat, jj ≤ many K ∧ i = .int .i64 jj) (fun i => many K - (intOf i).toNat)
          case atStart => exact ⟨0, Nat.zero_le _, rfl⟩
          case round =>
            obtain ⟨jj, hjj, rfl⟩ := hrel
            by_cases hjm : jj < many K
            · have ck := HCC.out jj hjm
              obtain rfl := HAP.out (by omega)
              have Hjm := Lib.hid hjm
              have hj1 : (jj : Int) < many K := by omega
              have hj3 : (jj : Int) ≤ 3 := by have := HM3.out; omega
              obtain ⟨p1, p2, p3⟩ := part_less L' hFit.out ix HIX.out ⟨K, S, N, A, B, C⟩ HIXT.out jj hjm
              obtain ⟨p, hp⟩ : ∃ p, p = partAt A B C jj := ⟨_, rfl⟩
              rw [← hp] at ck p1 p2 p3
              obtain ⟨d1, hd1⟩ : ∃ d, depthOf L' p = d := ⟨_, rfl⟩
              obtain ⟨d2, hd2⟩ : ∃ d, depthOf L' ((ix : Int) + 1) = d := ⟨_, rfl⟩
              rw [hd1, hd2] at p3
              have e1 : decide ((ix : Int) + 1 ≤ p) = false := decide_eq_false (by omega)
              have e2 : decide (p < 1) = false := decide_eq_false (by omega)
              have e3 : decide (d2 ≤ d1) = false := decide_eq_false (by omega)
              have HD1 := Lib.hid hd1
              have HD2 := Lib.hid hd2
              clear hp hjj hjm p1 p2 p3 hd1 hd2
              go_wp2_with fail
              refine (Pair.depthP HPB.out.1 p).mono ?_
              rintro e w8 ⟨rfl, rfl⟩
              rw [HD1.out]
              go_wp2_with fail
              refine (Pair.depthP HPB.out.1 ((ix : Int) + 1)).mono ?_
              rintro e w8 ⟨rfl, rfl⟩
              rw [HD2.out]
              go_wp2_with fail
              go_round
              case rel => exact ⟨jj + 1, by have := Hjm.out; omega, by go_num⟩
              case measure => have := Hjm.out; simp [intOf]; omega
            · obtain rfl : jj = many K := by omega
              have hjm1 : decide (many K < many K) = false := by simp
              clear hjm hjj
              go_wp2_with fail
              go_loopw [14] (fun i wr => ∃ j : Nat, j ≤ k ∧ i = .int .i64 j ∧ Hid (PB w g (.slice (some ⟨g2, 0, none⟩) n1 cap3) L' (ns ++ [(ix : Int) + 1]) w3.heap.size K S N A B C wr)) (fun i _ => k - (intOf i).toNat)
              case atStart => exact ⟨0, Nat.zero_le _, rfl, HPB⟩
              case round =>
                obtain ⟨j, hj, rfl, HPJ⟩ := hrel
                clear HPB HCC
                by_cases hjk : j < k
                · have Hjk := Lib.hid hjk
                  have hjk1 : (j : Int) < (k : Int) := by omega
                  have hns1 : ns.length = k := HI.out.1
                  have hj1 : (j : Int) < (n1 : Int) := by have := HN1.out; omega
                  have hj2 : (j : Int) ≤ (ns.length : Int) := by omega
                  have hj3 : j ≤ ns.length := by omega
                  have hjl : j < len0 := by have := Hkl.out; omega
                  have hjl1 : (j : Int) < (len0 : Int) := by omega
                  obtain ⟨_, hwf, hcl⟩ := hT.out j hjl
                  have hbl := HPJ.out.1.belowW
                  have hct := fun W => cut_c (T j) W hwf
                  obtain ⟨hto1, hto2⟩ := HI.out.told HNM.out HKEEP.out j hjk
                  have cn : wr.cell? ⟨g2, j, none⟩ = some (.int .i64 (ns.getD j 0)) := by
                    have := HPJ.out.1.row.cells (g := g2) rfl j (.int .i64 (ns.getD j 0)) (intsI_at ns _ j (by omega))
                    rwa [addr_add] at this
                  obtain ⟨x, hx⟩ : ∃ x, x = ns.getD j 0 := ⟨_, rfl⟩
                  rw [← hx] at hto1 hto2 cn
                  obtain ⟨⟨K3, S3, N3, A3, B3, C3⟩, ht⟩ : ∃ u, u = cutT (T j) := ⟨_, rfl⟩
                  rw [← ht] at hct hto1 hto2
                  obtain ⟨⟨K2, S2, N2, A2, B2, C2⟩, ht'⟩ : ∃ u, u = T j := ⟨_, rfl⟩
                  rw [← ht'] at hct hcl
                  have q0 := hcl 0 _ rfl
                  have q1 := hcl 1 _ rfl
                  have q2 := hcl 2 _ rfl
                  have q3 := hcl 3 _ rfl
                  have q4 := hcl 4 _ rfl
                  have q5 := hcl 5 _ rfl
                  rw [← hbl.cell (by exact hbw)] at q0 q1 q2 q3 q4 q5
                  simp at q0 q1 q2 q3 q4 q5
                  have z0 := (cell_of_row _ _ 0 _ _ _ HPJ.out.2)
                  have z1 := (cell_of_row _ _ 1 _ _ _ HPJ.out.2)
                  have z2 := (cell_of_row _ _ 2 _ _ _ HPJ.out.2)
                  have z3 := (cell_of_row _ _ 3 _ _ _ HPJ.out.2)
                  have z4 := (cell_of_row _ _ 4 _ _ _ HPJ.out.2)
                  have z5 := (cell_of_row _ _ 5 _ _ _ HPJ.out.2)
                  simp at z0 z1 z2 z3 z4 z5
                  have hE := fun W => eql_termP ⟨K3, S3, N3, A3, B3, C3⟩ ⟨K, S, N, A, B, C⟩ W
                  have hgd := guard32
                  unfold Tm.v at hct hE
                  simp only [] at hct hE
                  have HCT := Lib.hid hct
                  have e1 : decide ((0 : Int) < (ix : Int) + 1) = true := decide_eq_true (by omega)
                  have hk0 : (0 : Int) ≤ (j : Int) := by omega
                  clear hcl ht ht' hct hbl hwf hx hj hns1
                  by_cases he : eqB ⟨K3, S3, N3, A3, B3, C3⟩ ⟨K, S, N, A, B, C⟩ = true
                  · rw [he] at hE
                    have ex : ∃ v : Bool, (x == (ix : Int) + 1) = v ∧ decide (0 < x) = v := by
                      rcases hto1 ((eqB_iff _ _).1 he) with hx0 | hxa
                      · exact ⟨false, beq_eq_false_iff_ne.2 (by omega), decide_eq_false (by omega)⟩
                      · exact ⟨true, beq_iff_eq.2 hxa, decide_eq_true (by omega)⟩
                    obtain ⟨v, e2, e3⟩ := ex
                    clear he hto1 hto2 hjk
                    cases v
                    · go_wp2
                      refine wp_region_held_drew (S := (fun w' => w'.cell? ⟨g2, j, none⟩ = some (.int .i64 x) ∧ w'.cell? ⟨b, off + j * 6, none⟩ = some (.int .i64 K2) ∧ w'.cell? ⟨b, off + j * 6 + 1, none⟩ = some (.string S2) ∧ w'.cell? ⟨b, off + j * 6 + 2, none⟩ = some (.int .u64 N2) ∧ w'.cell? ⟨b, off + j * 6 + 3, none⟩ = some (.int .i64 A2) ∧ w'.cell? ⟨b, off + j * 6 + 4, none⟩ = some (.int .i64 B2) ∧ w'.cell? ⟨b, off + j * 6 + 5, none⟩ = some (.int .i64 C2) ∧ w'.cell? ⟨w3.heap.size, 0, none⟩ = some (.int .i64 K) ∧ w'.cell? ⟨w3.heap.size, 1, none⟩ = some (.string S) ∧ w'.cell? ⟨w3.heap.size, 2, none⟩ = some (.int .u64 N) ∧ w'.cell? ⟨w3.heap.size, 3, none⟩ = some (.int .i64 A) ∧ w'.cell? ⟨w3.heap.size, 4, none⟩ = some (.int .i64 B) ∧ w'.cell? ⟨w3.heap.size, 5, none⟩ = some (.int .i64 C))) (by kernel_rfl) ⟨cn, q0, q1, q2, q3, q4, q5, z0, z1, z2, z3, z4, z5⟩ ?_
                      intro hS
                      refine wpAnyH_take (i := 0) (v := (.int .i64 ((ix : Int) + 1))) rfl (by kernel_rfl) (by kernel_rfl) (by kernel_rfl) (fun _ _ _ h => h) (Or.inl ⟨by kernel_rfl, fun W ⟨sn, s0, s1, s2, s3, s4, s5, t0, t1, t2, t3, t4, t5⟩ => by go_simp⟩) hS ?_
                      refine wpAnyH_take (i := 1) (v := (.bool true)) rfl (by kernel_rfl) (by kernel_rfl) (by kernel_rfl) (fun _ _ _ h => h) (Or.inl ⟨by kernel_rfl, fun W ⟨sn, s0, s1, s2, s3, s4, s5, t0, t1, t2, t3, t4, t5⟩ => by go_simp⟩) hS ?_
                      refine wpAnyH_take (i := 2) (v := (.bool true)) rfl (by kernel_rfl) (by kernel_rfl) (by kernel_rfl) (fun _ _ _ h => h) (Or.inl ⟨by kernel_rfl, fun W ⟨sn, s0, s1, s2, s3, s4, s5, t0, t1, t2, t3, t4, t5⟩ => by go_simp⟩) hS ?_
                      refine wpAnyH_take (i := 3) (v := (.slice (some ⟨g2, 0, none⟩) n1 cap3)) rfl (by kernel_rfl) (by kernel_rfl) (by kernel_rfl) (fun _ _ _ h => h) (Or.inl ⟨by kernel_rfl, fun W ⟨sn, s0, s1, s2, s3, s4, s5, t0, t1, t2, t3, t4, t5⟩ => by go_simp⟩) hS ?_
                      refine wpAnyH_take (i := 4) (v := (.int .i64 j)) rfl (by kernel_rfl) (by kernel_rfl) (by kernel_rfl) (fun _ _ _ h => h) (Or.inl ⟨by kernel_rfl, fun W ⟨sn, s0, s1, s2, s3, s4, s5, t0, t1, t2, t3, t4, t5⟩ => by go_simp⟩) hS ?_
                      refine wpAnyH_take (i := 5) (v := (.pointer (some ⟨g2, j, none⟩))) rfl (by kernel_rfl) (by kernel_rfl) (by kernel_rfl) (fun _ _ _ h => h) (Or.inl ⟨by kernel_rfl, fun W ⟨sn, s0, s1, s2, s3, s4, s5, t0, t1, t2, t3, t4, t5⟩ => by go_simp⟩) hS ?_
                      refine wpAnyH_take (i := 6) (v := (.int .i64 x)) rfl (by kernel_rfl) (by kernel_rfl) (by kernel_rfl) (fun _ _ _ h => h) (Or.inl ⟨by kernel_rfl, fun W ⟨sn, s0, s1, s2, s3, s4, s5, t0, t1, t2, t3, t4, t5⟩ => by go_simp⟩) hS ?_
                      refine wpAnyH_take (i := 7) (v := (.int .i64 ((ix : Int) + 1))) rfl (by kernel_rfl) (by kernel_rfl) (by kernel_rfl) (fun _ _ _ h => h) (Or.inl ⟨by kernel_rfl, fun W ⟨sn, s0, s1, s2, s3, s4, s5, t0, t1, t2, t3, t4, t5⟩ => by go_simp⟩) hS ?_
                      refine wpAnyH_take (i := 8) (v := (.bool false)) rfl (by kernel_rfl) (by kernel_rfl) (by kernel_rfl) (fun _ _ _ h => h) (Or.inl ⟨by kernel_rfl, fun W ⟨sn, s0, s1, s2, s3, s4, s5, t0, t1, t2, t3, t4, t5⟩ => by go_simp⟩) hS ?_
                      refine wpAnyH_take (i := 9) (v := (.slice (some ⟨b, off, none⟩) len0 cap0)) rfl (by kernel_rfl) (by kernel_rfl) (by kernel_rfl) (fun _ _ _ h => h) (Or.inl ⟨by kernel_rfl, fun W ⟨sn, s0, s1, s2, s3, s4, s5, t0, t1, t2, t3, t4, t5⟩ => by go_simp⟩) hS ?_
                      refine wpAnyH_take (i := 10) (v := (.int .i64 j)) rfl (by kernel_rfl) (by kernel_rfl) (by kernel_rfl) (fun _ _ _ h => h) (Or.inl ⟨by kernel_rfl, fun W ⟨sn, s0, s1, s2, s3, s4, s5, t0, t1, t2, t3, t4, t5⟩ => by go_simp⟩) hS ?_
                      refine wpAnyH_take (i := 11) (v := (.pointer (some ⟨b, off + j * 6, none⟩))) rfl (by kernel_rfl) (by kernel_rfl) (by kernel_rfl) (fun _ _ _ h => h) (Or.inl ⟨by kernel_rfl, fun W ⟨sn, s0, s1, s2, s3, s4, s5, t0, t1, t2, t3, t4, t5⟩ => by go_simp⟩) hS ?_
                      refine wpAnyH_take (i := 12) (v := (.agg #[.int .i64 K2, .string S2, .int .u64 N2, .int .i64 A2, .int .i64 B2, .int .i64 C2])) rfl (by kernel_rfl) (by kernel_rfl) (by kernel_rfl) (fun _ _ _ h => h) (Or.inl ⟨by kernel_rfl, fun W ⟨sn, s0, s1, s2, s3, s4, s5, t0, t1, t2, t3, t4, t5⟩ => by go_simp⟩) hS ?_
                      refine wpAnyH_take (i := 14) (v := (.agg #[.int .i64 K, .string S, .int .u64 N, .int .i64 A, .int .i64 B, .int .i64 C])) rfl (by kernel_rfl) (by kernel_rfl) (by kernel_rfl) (fun _ _ _ h => h) (Or.inl ⟨by kernel_rfl, fun W ⟨sn, s0, s1, s2, s3, s4, s5, t0, t1, t2, t3, t4, t5⟩ => by go_simp⟩) hS ?_
                      refine wpAnyH_ready (rs := [13]) (by kernel_rfl) (by simp) ?_
                      refine AllReadyH.cons rfl (fun K9 hK9 => ?_) AllReadyH.nil
                      go_simp
                      refine (HCT.out _).mono ?_
                      rintro e W12 ⟨rfl, hb12⟩
                      have hS9 := ckeep13 hb12 hS
                      refine hK9.out _ _ hS9 (fun hS8 => ?_)
                      refine wpAnyH_take (i := 15) (v := (.bool true)) rfl (by kernel_rfl) (by kernel_rfl) (by kernel_rfl) (fun _ _ _ h => h) (Or.inl ⟨by kernel_rfl, fun W ⟨sn, s0, s1, s2, s3, s4, s5, t0, t1, t2, t3, t4, t5⟩ => by go_simp⟩) hS8 ?_
                      refine wpAnyH_take (i := 16) (v := (.bool true)) rfl (by kernel_rfl) (by kernel_rfl) (by kernel_rfl) (fun _ _ _ h => h) (Or.inl ⟨by kernel_rfl, fun W ⟨sn, s0, s1, s2, s3, s4, s5, t0, t1, t2, t3, t4, t5⟩ => by go_simp⟩) hS8 ?_
                      refine wpAnyH_take (i := 17) (v := (.slice (some ⟨g2, 0, none⟩) n1 cap3)) rfl (by kernel_rfl) (by kernel_rfl) (by kernel_rfl) (fun _ _ _ h => h) (Or.inl ⟨by kernel_rfl, fun W ⟨sn, s0, s1, s2, s3, s4, s5, t0, t1, t2, t3, t4, t5⟩ => by go_simp⟩) hS8 ?_
                      refine wpAnyH_take (i := 18) (v := (.int .i64 j)) rfl (by kernel_rfl) (by kernel_rfl) (by kernel_rfl) (fun _ _ _ h => h) (Or.inl ⟨by kernel_rfl, fun W ⟨sn, s0, s1, s2, s3, s4, s5, t0, t1, t2, t3, t4, t5⟩ => by go_simp⟩) hS8 ?_
                      refine wpAnyH_take (i := 19) (v := (.pointer (some ⟨g2, j, none⟩))) rfl (by kernel_rfl) (by kernel_rfl) (by kernel_rfl) (fun _ _ _ h => h) (Or.inl ⟨by kernel_rfl, fun W ⟨sn, s0, s1, s2, s3, s4, s5, t0, t1, t2, t3, t4, t5⟩ => by go_simp⟩) hS8 ?_
                      refine wpAnyH_take (i := 20) (v := (.int .i64 x)) rfl (by kernel_rfl) (by kernel_rfl) (by kernel_rfl) (fun _ _ _ h => h) (Or.inl ⟨by kernel_rfl, fun W ⟨sn, s0, s1, s2, s3, s4, s5, t0, t1, t2, t3, t4, t5⟩ => by go_simp⟩) hS8 ?_
                      refine wpAnyH_take (i := 21) (v := (.bool false)) rfl (by kernel_rfl) (by kernel_rfl) (by kernel_rfl) (fun _ _ _ h => h) (Or.inl ⟨by kernel_rfl, fun W ⟨sn, s0, s1, s2, s3, s4, s5, t0, t1, t2, t3, t4, t5⟩ => by go_simp⟩) hS8 ?_
                      refine wpAnyH_take (i := 22) (v := (.bool false)) rfl (by kernel_rfl) (by kernel_rfl) (by kernel_rfl) (fun _ _ _ h => h) (Or.inl ⟨by kernel_rfl, fun W ⟨sn, s0, s1, s2, s3, s4, s5, t0, t1, t2, t3, t4, t5⟩ => by go_simp⟩) hS8 ?_
                      refine wpAnyH_take (i := 23) (v := (.bool false)) rfl (by kernel_rfl) (by kernel_rfl) (by kernel_rfl) (fun _ _ _ h => h) (Or.inl ⟨by kernel_rfl, fun W ⟨sn, s0, s1, s2, s3, s4, s5, t0, t1, t2, t3, t4, t5⟩ => by go_simp⟩) hS8 ?_
                      refine wpAnyH_take (i := 24) (v := (.bool false)) rfl (by kernel_rfl) (by kernel_rfl) (by kernel_rfl) (fun _ _ _ h => h) (Or.inl ⟨by kernel_rfl, fun W ⟨sn, s0, s1, s2, s3, s4, s5, t0, t1, t2, t3, t4, t5⟩ => by go_simp⟩) hS8 ?_
                      refine wpAnyH_done (by kernel_rfl) ?_ _
                      go_simp
                      have HPJ2 := Lib.hid (PB.below hb12 (PB.below (W' := wr.drew) ((Below.refl _ _).drew) HPJ.out))
                      clear hb12 hS9 hS8 hS
                      go_wp2
                      go_roundw
                      case rel => exact ⟨j + 1, by have := Hjk.out; omega, by go_num, HPJ2⟩
                      case measure => have := Hjk.out; simp [intOf]; omega
                    · go_wp2
                      refine wp_region_held_drew (S := (fun w' => w'.cell? ⟨g2, j, none⟩ = some (.int .i64 x) ∧ w'.cell? ⟨b, off + j * 6, none⟩ = some (.int .i64 K2) ∧ w'.cell? ⟨b, off + j * 6 + 1, none⟩ = some (.string S2) ∧ w'.cell? ⟨b, off + j * 6 + 2, none⟩ = some (.int .u64 N2) ∧ w'.cell? ⟨b, off + j * 6 + 3, none⟩ = some (.int .i64 A2) ∧ w'.cell? ⟨b, off + j * 6 + 4, none⟩ = some (.int .i64 B2) ∧ w'.cell? ⟨b, off + j * 6 + 5, none⟩ = some (.int .i64 C2) ∧ w'.cell? ⟨w3.heap.size, 0, none⟩ = some (.int .i64 K) ∧ w'.cell? ⟨w3.heap.size, 1, none⟩ = some (.string S) ∧ w'.cell? ⟨w3.heap.size, 2, none⟩ = some (.int .u64 N) ∧ w'.cell? ⟨w3.heap.size, 3, none⟩ = some (.int .i64 A) ∧ w'.cell? ⟨w3.heap.size, 4, none⟩ = some (.int .i64 B) ∧ w'.cell? ⟨w3.heap.size, 5, none⟩ = some (.int .i64 C))) (by kernel_rfl) ⟨cn, q0, q1, q2, q3, q4, q5, z0, z1, z2, z3, z4, z5⟩ ?_
                      intro hS
                      refine wpAnyH_take (i := 0) (v := (.int .i64 ((ix : Int) + 1))) rfl (by kernel_rfl) (by kernel_rfl) (by kernel_rfl) (fun _ _ _ h => h) (Or.inl ⟨by kernel_rfl, fun W ⟨sn, s0, s1, s2, s3, s4, s5, t0, t1, t2, t3, t4, t5⟩ => by go_simp⟩) hS ?_
                      refine wpAnyH_take (i := 1) (v := (.bool true)) rfl (by kernel_rfl) (by kernel_rfl) (by kernel_rfl) (fun _ _ _ h => h) (Or.inl ⟨by kernel_rfl, fun W ⟨sn, s0, s1, s2, s3, s4, s5, t0, t1, t2, t3, t4, t5⟩ => by go_simp⟩) hS ?_
                      refine wpAnyH_take (i := 2) (v := (.bool true)) rfl (by kernel_rfl) (by kernel_rfl) (by kernel_rfl) (fun _ _ _ h => h) (Or.inl ⟨by kernel_rfl, fun W ⟨sn, s0, s1, s2, s3, s4, s5, t0, t1, t2, t3, t4, t5⟩ => by go_simp⟩) hS ?_
                      refine wpAnyH_take (i := 3) (v := (.slice (some ⟨g2, 0, none⟩) n1 cap3)) rfl (by kernel_rfl) (by kernel_rfl) (by kernel_rfl) (fun _ _ _ h => h) (Or.inl ⟨by kernel_rfl, fun W ⟨sn, s0, s1, s2, s3, s4, s5, t0, t1, t2, t3, t4, t5⟩ => by go_simp⟩) hS ?_
                      refine wpAnyH_take (i := 4) (v := (.int .i64 j)) rfl (by kernel_rfl) (by kernel_rfl) (by kernel_rfl) (fun _ _ _ h => h) (Or.inl ⟨by kernel_rfl, fun W ⟨sn, s0, s1, s2, s3, s4, s5, t0, t1, t2, t3, t4, t5⟩ => by go_simp⟩) hS ?_
                      refine wpAnyH_take (i := 5) (v := (.pointer (some ⟨g2, j, none⟩))) rfl (by kernel_rfl) (by kernel_rfl) (by kernel_rfl) (fun _ _ _ h => h) (Or.inl ⟨by kernel_rfl, fun W ⟨sn, s0, s1, s2, s3, s4, s5, t0, t1, t2, t3, t4, t5⟩ => by go_simp⟩) hS ?_
                      refine wpAnyH_take (i := 6) (v := (.int .i64 x)) rfl (by kernel_rfl) (by kernel_rfl) (by kernel_rfl) (fun _ _ _ h => h) (Or.inl ⟨by kernel_rfl, fun W ⟨sn, s0, s1, s2, s3, s4, s5, t0, t1, t2, t3, t4, t5⟩ => by go_simp⟩) hS ?_
                      refine wpAnyH_take (i := 7) (v := (.int .i64 ((ix : Int) + 1))) rfl (by kernel_rfl) (by kernel_rfl) (by kernel_rfl) (fun _ _ _ h => h) (Or.inl ⟨by kernel_rfl, fun W ⟨sn, s0, s1, s2, s3, s4, s5, t0, t1, t2, t3, t4, t5⟩ => by go_simp⟩) hS ?_
                      refine wpAnyH_take (i := 8) (v := (.bool true)) rfl (by kernel_rfl) (by kernel_rfl) (by kernel_rfl) (fun _ _ _ h => h) (Or.inl ⟨by kernel_rfl, fun W ⟨sn, s0, s1, s2, s3, s4, s5, t0, t1, t2, t3, t4, t5⟩ => by go_simp⟩) hS ?_
                      refine wpAnyH_take (i := 9) (v := (.slice (some ⟨b, off, none⟩) len0 cap0)) rfl (by kernel_rfl) (by kernel_rfl) (by kernel_rfl) (fun _ _ _ h => h) (Or.inl ⟨by kernel_rfl, fun W ⟨sn, s0, s1, s2, s3, s4, s5, t0, t1, t2, t3, t4, t5⟩ => by go_simp⟩) hS ?_
                      refine wpAnyH_take (i := 10) (v := (.int .i64 j)) rfl (by kernel_rfl) (by kernel_rfl) (by kernel_rfl) (fun _ _ _ h => h) (Or.inl ⟨by kernel_rfl, fun W ⟨sn, s0, s1, s2, s3, s4, s5, t0, t1, t2, t3, t4, t5⟩ => by go_simp⟩) hS ?_
                      refine wpAnyH_take (i := 11) (v := (.pointer (some ⟨b, off + j * 6, none⟩))) rfl (by kernel_rfl) (by kernel_rfl) (by kernel_rfl) (fun _ _ _ h => h) (Or.inl ⟨by kernel_rfl, fun W ⟨sn, s0, s1, s2, s3, s4, s5, t0, t1, t2, t3, t4, t5⟩ => by go_simp⟩) hS ?_
                      refine wpAnyH_take (i := 12) (v := (.agg #[.int .i64 K2, .string S2, .int .u64 N2, .int .i64 A2, .int .i64 B2, .int .i64 C2])) rfl (by kernel_rfl) (by kernel_rfl) (by kernel_rfl) (fun _ _ _ h => h) (Or.inl ⟨by kernel_rfl, fun W ⟨sn, s0, s1, s2, s3, s4, s5, t0, t1, t2, t3, t4, t5⟩ => by go_simp⟩) hS ?_
                      refine wpAnyH_take (i := 14) (v := (.agg #[.int .i64 K, .string S, .int .u64 N, .int .i64 A, .int .i64 B, .int .i64 C])) rfl (by kernel_rfl) (by kernel_rfl) (by kernel_rfl) (fun _ _ _ h => h) (Or.inl ⟨by kernel_rfl, fun W ⟨sn, s0, s1, s2, s3, s4, s5, t0, t1, t2, t3, t4, t5⟩ => by go_simp⟩) hS ?_
                      refine wpAnyH_ready (rs := [13]) (by kernel_rfl) (by simp) ?_
                      refine AllReadyH.cons rfl (fun K9 hK9 => ?_) AllReadyH.nil
                      go_simp
                      refine (HCT.out _).mono ?_
                      rintro e W12 ⟨rfl, hb12⟩
                      have hS9 := ckeep13 hb12 hS
                      refine hK9.out _ _ hS9 (fun hS8 => ?_)
                      refine wpAnyH_take (i := 15) (v := (.bool true)) rfl (by kernel_rfl) (by kernel_rfl) (by kernel_rfl) (fun _ _ _ h => h) (Or.inl ⟨by kernel_rfl, fun W ⟨sn, s0, s1, s2, s3, s4, s5, t0, t1, t2, t3, t4, t5⟩ => by go_simp⟩) hS8 ?_
                      refine wpAnyH_take (i := 16) (v := (.bool true)) rfl (by kernel_rfl) (by kernel_rfl) (by kernel_rfl) (fun _ _ _ h => h) (Or.inl ⟨by kernel_rfl, fun W ⟨sn, s0, s1, s2, s3, s4, s5, t0, t1, t2, t3, t4, t5⟩ => by go_simp⟩) hS8 ?_
                      refine wpAnyH_take (i := 17) (v := (.slice (some ⟨g2, 0, none⟩) n1 cap3)) rfl (by kernel_rfl) (by kernel_rfl) (by kernel_rfl) (fun _ _ _ h => h) (Or.inl ⟨by kernel_rfl, fun W ⟨sn, s0, s1, s2, s3, s4, s5, t0, t1, t2, t3, t4, t5⟩ => by go_simp⟩) hS8 ?_
                      refine wpAnyH_take (i := 18) (v := (.int .i64 j)) rfl (by kernel_rfl) (by kernel_rfl) (by kernel_rfl) (fun _ _ _ h => h) (Or.inl ⟨by kernel_rfl, fun W ⟨sn, s0, s1, s2, s3, s4, s5, t0, t1, t2, t3, t4, t5⟩ => by go_simp⟩) hS8 ?_
                      refine wpAnyH_take (i := 19) (v := (.pointer (some ⟨g2, j, none⟩))) rfl (by kernel_rfl) (by kernel_rfl) (by kernel_rfl) (fun _ _ _ h => h) (Or.inl ⟨by kernel_rfl, fun W ⟨sn, s0, s1, s2, s3, s4, s5, t0, t1, t2, t3, t4, t5⟩ => by go_simp⟩) hS8 ?_
                      refine wpAnyH_take (i := 20) (v := (.int .i64 x)) rfl (by kernel_rfl) (by kernel_rfl) (by kernel_rfl) (fun _ _ _ h => h) (Or.inl ⟨by kernel_rfl, fun W ⟨sn, s0, s1, s2, s3, s4, s5, t0, t1, t2, t3, t4, t5⟩ => by go_simp⟩) hS8 ?_
                      refine wpAnyH_take (i := 21) (v := (.bool true)) rfl (by kernel_rfl) (by kernel_rfl) (by kernel_rfl) (fun _ _ _ h => h) (Or.inl ⟨by kernel_rfl, fun W ⟨sn, s0, s1, s2, s3, s4, s5, t0, t1, t2, t3, t4, t5⟩ => by go_simp⟩) hS8 ?_
                      refine wpAnyH_take (i := 22) (v := (.bool true)) rfl (by kernel_rfl) (by kernel_rfl) (by kernel_rfl) (fun _ _ _ h => h) (Or.inl ⟨by kernel_rfl, fun W ⟨sn, s0, s1, s2, s3, s4, s5, t0, t1, t2, t3, t4, t5⟩ => by go_simp⟩) hS8 ?_
                      refine wpAnyH_take (i := 23) (v := (.bool false)) rfl (by kernel_rfl) (by kernel_rfl) (by kernel_rfl) (fun _ _ _ h => h) (Or.inl ⟨by kernel_rfl, fun W ⟨sn, s0, s1, s2, s3, s4, s5, t0, t1, t2, t3, t4, t5⟩ => by go_simp⟩) hS8 ?_
                      refine wpAnyH_take (i := 24) (v := (.bool false)) rfl (by kernel_rfl) (by kernel_rfl) (by kernel_rfl) (fun _ _ _ h => h) (Or.inl ⟨by kernel_rfl, fun W ⟨sn, s0, s1, s2, s3, s4, s5, t0, t1, t2, t3, t4, t5⟩ => by go_simp⟩) hS8 ?_
                      refine wpAnyH_done (by kernel_rfl) ?_ _
                      go_simp
                      have HPJ2 := Lib.hid (PB.below hb12 (PB.below (W' := wr.drew) ((Below.refl _ _).drew) HPJ.out))
                      clear hb12 hS9 hS8 hS
                      go_wp2
                      go_roundw
                      case rel => exact ⟨j + 1, by have := Hjk.out; omega, by go_num, HPJ2⟩
                      case measure => have := Hjk.out; simp [intOf]; omega
                  · have he' : eqB ⟨K3, S3, N3, A3, B3, C3⟩ ⟨K, S, N, A, B, C⟩ = false := by simpa using he
                    rw [he'] at hE
                    have hxn := hto2 (fun q => he ((eqB_iff _ _).2 q))
                    have e2 : (x == (ix : Int) + 1) = false := beq_eq_false_iff_ne.2 hxn
                    clear he he' hto1 hto2 hxn hjk
                    go_wp2
                    refine wp_region_held_drew (S := (fun w' => w'.cell? ⟨g2, j, none⟩ = some (.int .i64 x) ∧ w'.cell? ⟨b, off + j * 6, none⟩ = some (.int .i64 K2) ∧ w'.cell? ⟨b, off + j * 6 + 1, none⟩ = some (.string S2) ∧ w'.cell? ⟨b, off + j * 6 + 2, none⟩ = some (.int .u64 N2) ∧ w'.cell? ⟨b, off + j * 6 + 3, none⟩ = some (.int .i64 A2) ∧ w'.cell? ⟨b, off + j * 6 + 4, none⟩ = some (.int .i64 B2) ∧ w'.cell? ⟨b, off + j * 6 + 5, none⟩ = some (.int .i64 C2) ∧ w'.cell? ⟨w3.heap.size, 0, none⟩ = some (.int .i64 K) ∧ w'.cell? ⟨w3.heap.size, 1, none⟩ = some (.string S) ∧ w'.cell? ⟨w3.heap.size, 2, none⟩ = some (.int .u64 N) ∧ w'.cell? ⟨w3.heap.size, 3, none⟩ = some (.int .i64 A) ∧ w'.cell? ⟨w3.heap.size, 4, none⟩ = some (.int .i64 B) ∧ w'.cell? ⟨w3.heap.size, 5, none⟩ = some (.int .i64 C))) (by kernel_rfl) ⟨cn, q0, q1, q2, q3, q4, q5, z0, z1, z2, z3, z4, z5⟩ ?_
                    intro hS
                    refine wpAnyH_take (i := 0) (v := (.int .i64 ((ix : Int) + 1))) rfl (by kernel_rfl) (by kernel_rfl) (by kernel_rfl) (fun _ _ _ h => h) (Or.inl ⟨by kernel_rfl, fun W ⟨sn, s0, s1, s2, s3, s4, s5, t0, t1, t2, t3, t4, t5⟩ => by go_simp⟩) hS ?_
                    refine wpAnyH_take (i := 1) (v := (.bool true)) rfl (by kernel_rfl) (by kernel_rfl) (by kernel_rfl) (fun _ _ _ h => h) (Or.inl ⟨by kernel_rfl, fun W ⟨sn, s0, s1, s2, s3, s4, s5, t0, t1, t2, t3, t4, t5⟩ => by go_simp⟩) hS ?_
                    refine wpAnyH_take (i := 2) (v := (.bool true)) rfl (by kernel_rfl) (by kernel_rfl) (by kernel_rfl) (fun _ _ _ h => h) (Or.inl ⟨by kernel_rfl, fun W ⟨sn, s0, s1, s2, s3, s4, s5, t0, t1, t2, t3, t4, t5⟩ => by go_simp⟩) hS ?_
                    refine wpAnyH_take (i := 3) (v := (.slice (some ⟨g2, 0, none⟩) n1 cap3)) rfl (by kernel_rfl) (by kernel_rfl) (by kernel_rfl) (fun _ _ _ h => h) (Or.inl ⟨by kernel_rfl, fun W ⟨sn, s0, s1, s2, s3, s4, s5, t0, t1, t2, t3, t4, t5⟩ => by go_simp⟩) hS ?_
                    refine wpAnyH_take (i := 4) (v := (.int .i64 j)) rfl (by kernel_rfl) (by kernel_rfl) (by kernel_rfl) (fun _ _ _ h => h) (Or.inl ⟨by kernel_rfl, fun W ⟨sn, s0, s1, s2, s3, s4, s5, t0, t1, t2, t3, t4, t5⟩ => by go_simp⟩) hS ?_
                    refine wpAnyH_take (i := 5) (v := (.pointer (some ⟨g2, j, none⟩))) rfl (by kernel_rfl) (by kernel_rfl) (by kernel_rfl) (fun _ _ _ h => h) (Or.inl ⟨by kernel_rfl, fun W ⟨sn, s0, s1, s2, s3, s4, s5, t0, t1, t2, t3, t4, t5⟩ => by go_simp⟩) hS ?_
                    refine wpAnyH_take (i := 6) (v := (.int .i64 x)) rfl (by kernel_rfl) (by kernel_rfl) (by kernel_rfl) (fun _ _ _ h => h) (Or.inl ⟨by kernel_rfl, fun W ⟨sn, s0, s1, s2, s3, s4, s5, t0, t1, t2, t3, t4, t5⟩ => by go_simp⟩) hS ?_
                    refine wpAnyH_take (i := 7) (v := (.int .i64 ((ix : Int) + 1))) rfl (by kernel_rfl) (by kernel_rfl) (by kernel_rfl) (fun _ _ _ h => h) (Or.inl ⟨by kernel_rfl, fun W ⟨sn, s0, s1, s2, s3, s4, s5, t0, t1, t2, t3, t4, t5⟩ => by go_simp⟩) hS ?_
                    refine wpAnyH_take (i := 8) (v := (.bool false)) rfl (by kernel_rfl) (by kernel_rfl) (by kernel_rfl) (fun _ _ _ h => h) (Or.inl ⟨by kernel_rfl, fun W ⟨sn, s0, s1, s2, s3, s4, s5, t0, t1, t2, t3, t4, t5⟩ => by go_simp⟩) hS ?_
                    refine wpAnyH_take (i := 9) (v := (.slice (some ⟨b, off, none⟩) len0 cap0)) rfl (by kernel_rfl) (by kernel_rfl) (by kernel_rfl) (fun _ _ _ h => h) (Or.inl ⟨by kernel_rfl, fun W ⟨sn, s0, s1, s2, s3, s4, s5, t0, t1, t2, t3, t4, t5⟩ => by go_simp⟩) hS ?_
                    refine wpAnyH_take (i := 10) (v := (.int .i64 j)) rfl (by kernel_rfl) (by kernel_rfl) (by kernel_rfl) (fun _ _ _ h => h) (Or.inl ⟨by kernel_rfl, fun W ⟨sn, s0, s1, s2, s3, s4, s5, t0, t1, t2, t3, t4, t5⟩ => by go_simp⟩) hS ?_
                    refine wpAnyH_take (i := 11) (v := (.pointer (some ⟨b, off + j * 6, none⟩))) rfl (by kernel_rfl) (by kernel_rfl) (by kernel_rfl) (fun _ _ _ h => h) (Or.inl ⟨by kernel_rfl, fun W ⟨sn, s0, s1, s2, s3, s4, s5, t0, t1, t2, t3, t4, t5⟩ => by go_simp⟩) hS ?_
                    refine wpAnyH_take (i := 12) (v := (.agg #[.int .i64 K2, .string S2, .int .u64 N2, .int .i64 A2, .int .i64 B2, .int .i64 C2])) rfl (by kernel_rfl) (by kernel_rfl) (by kernel_rfl) (fun _ _ _ h => h) (Or.inl ⟨by kernel_rfl, fun W ⟨sn, s0, s1, s2, s3, s4, s5, t0, t1, t2, t3, t4, t5⟩ => by go_simp⟩) hS ?_
                    refine wpAnyH_take (i := 14) (v := (.agg #[.int .i64 K, .string S, .int .u64 N, .int .i64 A, .int .i64 B, .int .i64 C])) rfl (by kernel_rfl) (by kernel_rfl) (by kernel_rfl) (fun _ _ _ h => h) (Or.inl ⟨by kernel_rfl, fun W ⟨sn, s0, s1, s2, s3, s4, s5, t0, t1, t2, t3, t4, t5⟩ => by go_simp⟩) hS ?_
                    refine wpAnyH_ready (rs := [13]) (by kernel_rfl) (by simp) ?_
                    refine AllReadyH.cons rfl (fun K9 hK9 => ?_) AllReadyH.nil
                    go_simp
                    refine (HCT.out _).mono ?_
                    rintro e W12 ⟨rfl, hb12⟩
                    have hS9 := ckeep13 hb12 hS
                    refine hK9.out _ _ hS9 (fun hS8 => ?_)
                    refine wpAnyH_take (i := 15) (v := (.bool false)) rfl (by kernel_rfl) (by kernel_rfl) (by kernel_rfl) (fun _ _ _ h => h) (Or.inl ⟨by kernel_rfl, fun W ⟨sn, s0, s1, s2, s3, s4, s5, t0, t1, t2, t3, t4, t5⟩ => by go_simp⟩) hS8 ?_
                    refine wpAnyH_take (i := 16) (v := (.bool false)) rfl (by kernel_rfl) (by kernel_rfl) (by kernel_rfl) (fun _ _ _ h => h) (Or.inl ⟨by kernel_rfl, fun W ⟨sn, s0, s1, s2, s3, s4, s5, t0, t1, t2, t3, t4, t5⟩ => by go_simp⟩) hS8 ?_
                    refine wpAnyH_take (i := 17) (v := undef) rfl (by kernel_rfl) (by kernel_rfl) (by kernel_rfl) (fun _ _ _ h => h) (Or.inr ⟨by kernel_rfl, rfl⟩) hS8 ?_
                    refine wpAnyH_take (i := 18) (v := undef) rfl (by kernel_rfl) (by kernel_rfl) (by kernel_rfl) (fun _ _ _ h => h) (Or.inr ⟨by kernel_rfl, rfl⟩) hS8 ?_
                    refine wpAnyH_take (i := 19) (v := undef) rfl (by kernel_rfl) (by kernel_rfl) (by kernel_rfl) (fun _ _ _ h => h) (Or.inr ⟨by kernel_rfl, rfl⟩) hS8 ?_
                    refine wpAnyH_take (i := 20) (v := undef) rfl (by kernel_rfl) (by kernel_rfl) (by kernel_rfl) (fun _ _ _ h => h) (Or.inr ⟨by kernel_rfl, rfl⟩) hS8 ?_
                    refine wpAnyH_take (i := 21) (v := undef) rfl (by kernel_rfl) (by kernel_rfl) (by kernel_rfl) (fun _ _ _ h => h) (Or.inr ⟨by kernel_rfl, rfl⟩) hS8 ?_
                    refine wpAnyH_take (i := 22) (v := (.bool false)) rfl (by kernel_rfl) (by kernel_rfl) (by kernel_rfl) (fun _ _ _ h => h) (Or.inl ⟨by kernel_rfl, fun W ⟨sn, s0, s1, s2, s3, s4, s5, t0, t1, t2, t3, t4, t5⟩ => by go_simp⟩) hS8 ?_
                    refine wpAnyH_take (i := 23) (v := (.bool false)) rfl (by kernel_rfl) (by kernel_rfl) (by kernel_rfl) (fun _ _ _ h => h) (Or.inl ⟨by kernel_rfl, fun W ⟨sn, s0, s1, s2, s3, s4, s5, t0, t1, t2, t3, t4, t5⟩ => by go_simp⟩) hS8 ?_
                    refine wpAnyH_take (i := 24) (v := (.bool false)) rfl (by kernel_rfl) (by kernel_rfl) (by kernel_rfl) (fun _ _ _ h => h) (Or.inl ⟨by kernel_rfl, fun W ⟨sn, s0, s1, s2, s3, s4, s5, t0, t1, t2, t3, t4, t5⟩ => by go_simp⟩) hS8 ?_
                    refine wpAnyH_done (by kernel_rfl) ?_ _
                    go_simp
                    have HPJ2 := Lib.hid (PB.below hb12 (PB.below (W' := wr.drew) ((Below.refl _ _).drew) HPJ.out))
                    clear hb12 hS9 hS8 hS
                    go_wp2
                    go_roundw
                    case rel => exact ⟨j + 1, by have := Hjk.out; omega, by go_num, HPJ2⟩
                    case measure => have := Hjk.out; simp [intOf]; omega
                · obtain rfl : j = k := by omega
                  have hjk1 : decide (j < j) = false := by simp
                  clear hjk hj
                  go_wp2_with fail
                  go_roundw
                  case rel => exact ⟨j + 1, L', ns ++ [(ix : Int) + 1], by have := Hkl.out; omega, by have := Hk.out; omega, by go_num, ⟨_, _, by rw [HN1.out, List.length_append]; rfl⟩, Lib.hid (HPJ.out.1.less (fun _ q => q.elim)), Lib.hid (HI.out.some HT.out HNM.out HLEN.out HKEEP.out)⟩
                  case measure => have := Hk.out; simp [intOf]; omega
      · have h61 : decide ((k : Int) < 40) = false := by simp; omega
        clear hk
        go_wp2_with fail
        refine (fixed_any _).mono ?_
        rintro e w1 ⟨rfl, hb1⟩
        have hb4 := HS.out.belowW.trans (hb1.mono HS.out.base_le)
        clear hb1
        go_wp2
        go_ret
        exact ⟨rfl, hb4⟩
    · have hlt1 : decide (k < len0) = false := by simpa using hlt
      clear hlt
      go_wp2_with fail
      refine (fixed_any _).mono ?_
      rintro e w1 ⟨rfl, hb1⟩
      have hb4 := HS.out.belowW.trans (hb1.mono HS.out.base_le)
      clear hb1
      go_wp2
      go_ret
      exact ⟨rfl, hb4⟩

theorem walk (a0 : Option Addr) (len0 cap0 : Nat) (T0 : Nat → Tm) (w : World) (w0 : Terms w a0 len0 cap0 T0) :
    Calls Try.prog 4 #[.slice a0 len0 cap0] w fun e w' => e = .returned (.bool true) ∧ Below w.heap.size w w' := by
  obtain ⟨h1, h2, b, off, h3⟩ := w0
  exact walkN a0 len0 cap0 T0 w h1 h2 b off (Lib.hid h3)

set_option maxRecDepth 100000 in
theorem lifted (os : Os) (started : os.Started) (H : Type) (enc : TypeId × Value → H) :
    ReturnsInHanded {} Try.checked os 4 .any (Rows.termOnceSpec.pre6 enc Try.prog Try.f4 Rows.termOnceRow.domain false) (Rows.termOnceSpec.post enc Try.prog Try.f4 false true false false) := by
  refine returnsInHanded_of_change (C := Try.checked) own started (by kernel_rfl) Try.func4
    (ChangeSpec.witness6 (enc := enc) (C := Try.checked) false ⟨#[], #[.slice none 0 0], []⟩ 8 (by kernel_rfl) (by kernel_rfl) (by kernel_rfl) (by kernel_rfl)) ?_
  intro W base args ds gs before hval0 hW hcnd _
  have hval : ∀ (j : Nat) t v, Try.f4.params[j]? = some t → args[j]? = some v → Value.okWide Try.prog W .any base t v := hval0
  have hW' := hW
  obtain ⟨p, q, hA0, hV, rfl, hfz, hnd⟩ := hW
  have hA : DataW.TrodAll enc Try.prog W 0 (fun _ => true) true Try.f4.params.toList args.toList ds p := hA0
  rw [Try.params4] at hA hval
  obtain ⟨v0, vs0, d0, ds0, p0, q0, hargs, rfl, rfl, h0, r0⟩ := trodAll_cons hA
  obtain ⟨rfl, rfl, rfl⟩ := trodAll_nil r0
  obtain rfl : args = #[v0] := by cases args; simp_all
  obtain ⟨rfl, rfl⟩ := trodVars_none hV
  obtain ⟨a0, len0, cap0, rfl⟩ := okWide_slice Try.underlying22 (hval 0 22 v0 rfl rfl)
  have k0 := h0
  have lt0 : ∀ x ∈ p0, x.block < W.heap.size := by obtain ⟨m, hm⟩ := k0; exact DataW.trod_lt m _ _ _ hm
  obtain ⟨T0, w0⟩ : ∃ T, Terms W a0 len0 cap0 T := by
    obtain ⟨fuel, hf⟩ := h0
    exact open_terms (by simpa [Value.cells] using hf)
  clear hA0 hval0
  refine (walk a0 len0 cap0 T0 W w0).mono fun e W' ⟨he, bel⟩ => ?_
  subst he
  exact ⟨_, rfl, _, _, _, [], _, [], hW', trodAll_mk1 (shut_bool Try.underlying4 _), (trodAll_cons_mk (Below.trod laidOut (by kernel_rfl) (of_decide_eq_true (by kernel_rfl)) k0 bel lt0) trodAll_mk0), rfl, bel.frame _, fun h => by cases h⟩

theorem over : Rows.termOnceRow.holds Try.pinned (OpenSpec.ofChange Rows.termOnceSpec) :=
  OpenClaim.holds_of_wide 4 Try.f4 rfl rfl rfl rfl rfl rfl rfl ⟨rfl, rfl, rfl, rfl, rfl⟩ rfl rfl rfl rfl rfl (by kernel_rfl) Try.func4 (by kernel_rfl)
    (of_decide_eq_true (by kernel_rfl)) (by unfold Func.isWrapper; first | (rw [if_pos (by decide +kernel)]; kernel_rfl) | (rw [if_neg (by decide +kernel)]; exact ⟨rfl, rfl⟩))
    (fun os started H enc _ => lifted os started H enc)

theorem proved : Rows.TermOnceSaid := over
#print axioms proved
end Go.Proofs.Ytbmbglbbojacpaa.termOnce
