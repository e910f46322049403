/- The program's rules, note and others. The program's others, and hang: who waits for whom. A name that is hung on another one: what the program's mind is behind it. -/
import Derived.Test.YtgeonppckeiceaaGreatDoorGq01
import Derived.Test.YtgeonppckeiceaaGreatDoorGq32
import Derived.Deep.RegionHeld3
import Derived.Deep.RegionLaw
namespace Go.Proofs.YtgeonppckeiceaaGreatDoor
open Go.RowKit
open Go.Maps
set_option linter.unusedVariables false
set_option linter.unusedSimpArgs false
set_option maxRecDepth 20000
def rulesV : Array Value := #[.nilFunc, .func (.func 188) #[] #[], .func (.func 189) #[] #[], .func (.func 188) #[] #[], .func (.func 190) #[] #[],
  .func (.func 188) #[] #[], .func (.func 191) #[] #[], .func (.func 192) #[] #[], .func (.func 188) #[] #[], .func (.func 188) #[] #[],
  .func (.func 188) #[] #[], .func (.func 188) #[] #[]]
set_option maxHeartbeats 1000000 in
theorem rules_k (w : World) : Calls Tryz.prog 155 #[] w fun e w' => e = .returned (.agg rulesV) ∧ Below w.heap.size w w' := by
 go_enter Tryz.func155, Tryz.ntmps155
 go_wp2
 exact bodyPost_ret (v := .agg rulesV) (by simp [results, Tryz.results155, go_sem, rulesV]) rfl ⟨rfl, (Below.refl _ _).alloc (Nat.le_refl _) _⟩
def Few (B : MB) (nm : Tm → Int) (k : Nat) (w : World) : Prop := ∃ n D, w.ownsMap Tryz.prog 116 (plainElem Tryz.prog 3) B.n n D ∧ n ≤ k ∧ NoteOk D nm
section
variable {w0 w w' : World} {g : Nat} {L : List Tm} {dh kem : Bool} {B : MB} {nm nm' : Tm → Int} {H : Nat → List Int} {vs : Nat → Value} {v : Value} {M : List Int}
theorem Few.chg {S : Nat → Prop} {k : Nat} (h : Few B nm k w) (hc : Chg S w w') (hn : ¬ S B.n) : Few B nm k w' := by
 obtain ⟨n, D, hm, r⟩ := h
 exact ⟨n, D, hc.own hm hn, r⟩
theorem Few.next {k : Nat} (h : Few B nm k w) (hb : Below w.heap.size w w') : Few B nm k w' := h.chg (S := fun _ => False) (.of_below hb) (fun q => q)
theorem Few.same {k : Nat} (h : Few B nm k w) (e : ∀ t, nm' t = nm t) : Few B nm' (k + 1) w := by
 obtain ⟨n, D, hm, h1, h2⟩ := h
 exact ⟨n, D, hm, by omega, fun t kl hk => by rw [h2 t kl hk, e t]⟩
theorem Mind.renote {k : Nat} (h : Mind w0 g L dh kem B nm H vs v M w) (hc : Chg (fun j => j = B.n) w w') (hf : Few B nm' k w') (hk : k ≤ L.length) : Mind w0 g L dh kem B nm' H vs v M w' := by
 have ne : ∀ i j, tagged B v vs i = some j → i ≠ 2 → ¬ j = B.n := fun i j hj hi e => hi (h.apart i 2 j hj (by rw [e]; rfl))
 exact {
  st := hc.blk h.st (ne 0 _ rfl (by decide))
  can := hc.blk h.can (ne 1 _ rfl (by decide))
  row := h.row.chg hc (fun k hk => ne 4 k hk (by decide))
  names := by
   obtain ⟨n, D, hm, h1, h2⟩ := hf
   exact ⟨n, D, hm, by omega, h2⟩
  hang := hc.blk h.hang (ne 3 _ rfl (by decide))
  rows := fun i => (h.rows i).chg hc (fun k hk => ne (i + 5) k hk (by omega))
  apart := h.apart
  lo := h.lo
  below := h.below.trans (hc.below (fun k e => by rw [e]; exact h.lo.2.2.1) h.below.size)
  nodup := h.nodup
  inL := h.inL
  most := h.most }
def Noted (w0 : World) (g : Nat) (L : List Tm) (dh kem : Bool) (B : MB) (k : Nat) (H : Nat → List Int) (vs : Nat → Value) (v : Value) (M : List Int) (e : Ending) (W' : World) : Prop :=
 e = .returned (.tuple #[]) ∧ Mind w0 g L dh kem B (noteOf L (k + 1)) H vs v M W' ∧ Few B (noteOf L (k + 1)) (k + 1) W'
theorem noted_of {k : Nat} {w1 w5 : World} {n : Nat} {D : DataW Unit} {kl : Lit} {t : Tm} (hU : Uniq L) (hk : k < L.length) (ht : L.getD k zeroT = t) (ha : asked3 t) (h : Mind w0 g L dh kem B (noteOf L k) H vs v M w1) (hm : w1.ownsMap Tryz.prog 116 (plainElem Tryz.prog 3) B.n n D) (hn : n ≤ k) (hok : NoteOk D (noteOf L k)) (hkey : keyOf Tryz.prog 116 t.v = some kl)
  (hown : w5.ownsMap Tryz.prog 116 (plainElem Tryz.prog 3) B.n (n + 1) (D.put kl (.lit (.int .i64 ((k : Int) + 1))))) (hgrow : w1.drew.grownBy w5 (some B.n)) : Noted w0 g L dh kem B k H vs v M (.returned (.tuple #[])) w5 := by
 have hf : Few B (noteOf L (k + 1)) (k + 1) w5 := ⟨n + 1, _, hown, by omega, hok.snoc hm.isMap hkey (by rw [← ht]; exact noteOf_same hU hk (by rw [ht]; exact ha)) (fun u hu => noteOf_other hU hk (.inl (by rw [ht]; exact hu)))⟩
 exact ⟨rfl, h.renote (((Chg.drew w1 _).trans (Chg.grown hgrow)).mono (fun k _ q => by injection q)) hf (by omega), hf⟩
theorem noted_not {k : Nat} {w1 : World} {t : Tm} (hU : Uniq L) (hk : k < L.length) (ht : L.getD k zeroT = t) (ha : ¬ asked3 t) (h : Mind w0 g L dh kem B (noteOf L k) H vs v M w1) (hf : Few B (noteOf L k) k w1) : Noted w0 g L dh kem B k H vs v M (.returned (.tuple #[])) w1 := by
 have hf2 : Few B (noteOf L (k + 1)) (k + 1) w1 := hf.same (fun t' => by
  by_cases e : t' = t
  ·exact noteOf_other hU hk (.inr (by rw [e]; exact ha))
  ·exact noteOf_other hU hk (.inl (by rw [ht]; exact e)))
 exact ⟨rfl, h.renote (Chg.of_below (Below.refl _ _)) hf2 (by omega), hf2⟩
set_option maxHeartbeats 4000000 in
set_option maxRecDepth 100000 in
theorem note_k (hg : StoreAt w0 g L) (hU : Uniq L) (hW : ∀ t, t ∈ L → Wf t) (k : Nat) (hk : k < L.length) (W : World) (h : Mind w0 g L dh kem B (noteOf L k) H vs v M W) (hf : Few B (noteOf L k) k W) :
  Calls Tryz.prog 156 #[.pointer (some ⟨B.m, 0, none⟩), .int .i64 ((k : Int) + 1)] W (Noted w0 g L dh kem B k H vs v M) := by
 have hgt : getT L ((k : Int) + 1) = (L.getD k zeroT, true) := by rw [getT_tm (show InL L ((k : Int) + 1) by unfold InL; omega), tm_nat]
 have hmem : L.getD k zeroT ∈ L := by simp [List.getD, hk]
 obtain ⟨kl, hkl⟩ := (hW _ hmem).key
 obtain ⟨⟨K, S, N, A, Bx, C⟩, ht⟩ : ∃ t, t = L.getD k zeroT := ⟨_, rfl⟩
 have HGET : Hid (Calls Tryz.prog 102 #[.pointer (some ⟨g, 0, none⟩), .int .i64 ((k : Int) + 1)] W fun e W' => e = .returned (.tuple #[Tm.v ⟨K, S, N, A, Bx, C⟩, .bool true]) ∧ Below W.heap.size W W') := Lib.hid (by
  have := hg.get h.below ((k : Int) + 1)
  rw [hgt, ← ht] at this
  exact this)
 unfold Tm.v at HGET
 rw [← ht] at hkl
 have HK := Lib.hid hkl
 have HT := Lib.hid ht.symm
 have HU := Lib.hid hU
 have HM := Lib.hid h
 have HF := Lib.hid hf
 have hmost := h.most
 obtain ⟨d0, _⟩ := h.cells
 clear hgt hmem hkl ht hg hU hW h hf
 go_enter Tryz.func156, Tryz.ntmps156
 go_wp2_with fail
 refine HGET.out.mono ?_
 rintro e w1 ⟨rfl, hb1⟩
 obtain ⟨W1, hW1⟩ : ∃ W1, W1 = w1.alloc (.cells #[.int .i64 K, .string S, .int .u64 N, .int .i64 A, .int .i64 Bx, .int .i64 C] 116) := ⟨_, rfl⟩
 have HB1 : Hid (Below W.heap.size W W1) := Lib.hid (by rw [hW1]; exact hb1.alloc hb1.size _)
 have z : ∀ j, W1.cell? ⟨w1.heap.size, j, none⟩ = #[Value.int .i64 K, .string S, .int .u64 N, .int .i64 A, .int .i64 Bx, .int .i64 C][j]? := fun j => by rw [hW1]; exact cell_of_row _ _ j _ _ _ (heap_alloc_new w1 _)
 have z0 := z 0
 have z1 := z 1
 have z2 := z 2
 have z3 := z 3
 have z4 := z 4
 have z5 := z 5
 simp at z0 z1 z2 z3 z4 z5
 have HM1 : Hid (Mind w0 g L dh kem B (noteOf L k) H vs v M W1) := Lib.hid (HM.out.next HB1.out)
 have HF1 : Hid (Few B (noteOf L k) k W1) := Lib.hid (HF.out.next HB1.out)
 obtain ⟨_, _, _, c17, _⟩ := HM1.out.cells
 clear z HM HF hb1 HGET
 by_cases hq : K = 3 ∨ K = 5 ∨ K = 6
 ·have HA : Hid (asked3 ⟨K, S, N, A, Bx, C⟩) := Lib.hid hq
  obtain ⟨n, D, hm, hn, hok⟩ := HF1.out
  have HMP := Lib.hid hm
  have HOK := Lib.hid hok
  have HN := Lib.hid hn
  have HMW : Hid (W1.drew.ownsMap Tryz.prog 116 (plainElem Tryz.prog 3) B.n n D) := Lib.hid hm.drew
  have hml : n < maxLen := by unfold maxLen; omega
  have hwf : (Lit.int .i64 ((k : Int) + 1)).wf = true := wf_small _ (by omega) (by omega)
  clear hm hok hn HF1
  rcases hq with rfl | rfl | rfl
  all_goals
   go_wp2
   rw [← hW1]
   clear hW1
   go_still_tail 6, (by kernel_rfl)
   change wpList _ _ _ _ _ W1.drew
   clear z0 z1 z2 z3 z4 z5 d0 c17
   go_wp2_with (at_mapUpdate; refine wpList_mapUpdate_own _ rfl _ _ _ 185 rfl 116 3 law32 Tryz.underlying185 _ B.n n D rfl HMW.out hml _ _ kl rfl rfl HK.out (.lit (.int .i64 ((k : Int) + 1))) [] (plainElem_int Tryz.underlying3 hwf) ?_; intro w5 hown5 hgrow5; have R1 := Lib.hid hown5; have R2 := Lib.hid hgrow5; clear hown5 hgrow5)
   go_end0
   exact noted_of HU.out hk HT.out HA.out HM1.out HMP.out HN.out HOK.out HK.out R1.out R2.out
 ·have HA : Hid (¬ asked3 ⟨K, S, N, A, Bx, C⟩) := Lib.hid hq
  have h3 : (K == 3) = false := beq_eq_false_iff_ne.2 (by omega)
  have h5 : (K == 5) = false := beq_eq_false_iff_ne.2 (by omega)
  have h6 : (K == 6) = false := beq_eq_false_iff_ne.2 (by omega)
  clear hq
  go_wp2
  rw [← hW1]
  go_end0
  exact noted_not HU.out hk HT.out HA.out HM1.out HF1.out
end
end Go.Proofs.YtgeonppckeiceaaGreatDoor
namespace Go.Proofs.YtgeonppckeiceaaGreatDoor
open Go.RowKit
open Go.Maps
set_option linter.unusedVariables false
set_option linter.unusedSimpArgs false
set_option maxRecDepth 20000
def TermsAt (w : World) (a : Option Addr) (b : Nat) (ts : List Tm) : Prop := ∀ k, k < ts.length → a = some ⟨b, 0, none⟩ ∧ w.cell? ⟨b, k * 6, none⟩ = some (.int .i64 (ts.getD k zeroT).K) ∧ w.cell? ⟨b, k * 6 + 1, none⟩ = some (.string (ts.getD k zeroT).S) ∧ w.cell? ⟨b, k * 6 + 2, none⟩ = some (.int .u64 (ts.getD k zeroT).N) ∧
 w.cell? ⟨b, k * 6 + 3, none⟩ = some (.int .i64 (ts.getD k zeroT).A) ∧ w.cell? ⟨b, k * 6 + 4, none⟩ = some (.int .i64 (ts.getD k zeroT).B) ∧ w.cell? ⟨b, k * 6 + 5, none⟩ = some (.int .i64 (ts.getD k zeroT).C)
theorem TermsAt.chg {S : Nat → Prop} {w w' : World} {a : Option Addr} {b : Nat} {ts : List Tm} (h : TermsAt w a b ts) (hc : Chg S w w') (hb : 0 < ts.length → b < w.heap.size) (hn : ¬ S b) : TermsAt w' a b ts := fun k hk => by
 have hbl := hc.block b (hb (by omega)) hn
 have e : ∀ i, w'.cell? ⟨b, i, none⟩ = w.cell? ⟨b, i, none⟩ := fun i => World.cell?_of_block (a := ⟨b, i, none⟩) hbl
 obtain ⟨ea, c⟩ := h k hk
 exact ⟨ea, by simpa only [e] using c⟩
def TermsIn (lo : Nat) (w : World) (v : Value) (ts : List Tm) : Prop := ∃ a cap b, v = .slice a ts.length cap ∧ lo ≤ b ∧ b ≤ w.heap.size ∧ (0 < ts.length → b < w.heap.size) ∧ TermsAt w a b ts
theorem TermsIn.one (w : World) (lo : Nat) (hl : lo ≤ w.heap.size) (t : Tm) : TermsIn lo (w.alloc (.cells #[.int .i64 t.K, .string t.S, .int .u64 t.N, .int .i64 t.A, .int .i64 t.B, .int .i64 t.C] 116)) (.slice (some ⟨w.heap.size, 0, none⟩) 1 1) [t] := by
 refine ⟨_, 1, w.heap.size, rfl, hl, by simp, fun _ => by simp, fun k hk => ?_⟩
 obtain rfl : k = 0 := by simp at hk; omega
 have z : ∀ j, (w.alloc (.cells #[.int .i64 t.K, .string t.S, .int .u64 t.N, .int .i64 t.A, .int .i64 t.B, .int .i64 t.C] 116)).cell? ⟨w.heap.size, j, none⟩ = #[Value.int .i64 t.K, .string t.S, .int .u64 t.N, .int .i64 t.A, .int .i64 t.B, .int .i64 t.C][j]? := fun j => cell_of_row _ _ j _ _ _ (heap_alloc_new w _)
 exact ⟨rfl, z 0, z 1, z 2, z 3, z 4, z 5⟩
theorem TermsIn.two (w : World) (lo : Nat) (hl : lo ≤ w.heap.size) (t u : Tm) : TermsIn lo (w.alloc (.cells #[.int .i64 t.K, .string t.S, .int .u64 t.N, .int .i64 t.A, .int .i64 t.B, .int .i64 t.C, .int .i64 u.K, .string u.S, .int .u64 u.N, .int .i64 u.A, .int .i64 u.B, .int .i64 u.C] 116)) (.slice (some ⟨w.heap.size, 0, none⟩) 2 2) [t, u] := by
 refine ⟨_, 2, w.heap.size, rfl, hl, by simp, fun _ => by simp, fun k hk => ?_⟩
 have z : ∀ j, (w.alloc (.cells #[.int .i64 t.K, .string t.S, .int .u64 t.N, .int .i64 t.A, .int .i64 t.B, .int .i64 t.C, .int .i64 u.K, .string u.S, .int .u64 u.N, .int .i64 u.A, .int .i64 u.B, .int .i64 u.C] 116)).cell? ⟨w.heap.size, j, none⟩ = #[Value.int .i64 t.K, .string t.S, .int .u64 t.N, .int .i64 t.A, .int .i64 t.B, .int .i64 t.C, .int .i64 u.K, .string u.S, .int .u64 u.N, .int .i64 u.A, .int .i64 u.B, .int .i64 u.C][j]? := fun j => cell_of_row _ _ j _ _ _ (heap_alloc_new w _)
 rcases (by simp at hk; omega : k = 0 ∨ k = 1) with rfl | rfl
 ·exact ⟨rfl, z 0, z 1, z 2, z 3, z 4, z 5⟩
 ·exact ⟨rfl, z 6, z 7, z 8, z 9, z 10, z 11⟩
def Others (t : Tm) (W : World) (e : Ending) (W' : World) : Prop := ∃ v, e = .returned v ∧ TermsIn W.heap.size W' v (othersT t) ∧ Below W.heap.size W W'
def HeldA (W : World) (A Bx : Int) (w : World) : Prop := w.cell? ⟨W.heap.size, 3, none⟩ = some (.int .i64 A) ∧ w.cell? ⟨W.heap.size, 4, none⟩ = some (.int .i64 Bx) ∧ Hid (Below W.heap.size W w)
theorem HeldA.below {W w w' : World} {A Bx : Int} (hb : Below w.heap.size w w') (h : HeldA W A Bx w) : HeldA W A Bx w' := by
 obtain ⟨a1, a2, a3⟩ := h
 exact ⟨(hb.cell (block_lt_of_cell a1)).trans a1, (hb.cell (block_lt_of_cell a2)).trans a2, Lib.hid (a3.out.trans (hb.mono a3.out.size))⟩
theorem kpub_a (x : Int) (w : World) : Calls Tryz.prog 216 #[.int .i64 x] w fun e w' => e = .returned (.agg #[.int .i64 3, .string ⟨#[]⟩, .int .u64 0, .int .i64 x, .int .i64 0, .int .i64 0]) ∧ Below w.heap.size w w' := kpub_k x w
theorem kkpub_a (x : Int) (w : World) : Calls Tryz.prog 217 #[.int .i64 x] w fun e w' => e = .returned (.agg #[.int .i64 5, .string ⟨#[]⟩, .int .u64 0, .int .i64 x, .int .i64 0, .int .i64 0]) ∧ Below w.heap.size w w' := kkpub_k x w
theorem kbox_a (x y : Int) (w : World) : Calls Tryz.prog 218 #[.int .i64 x, .int .i64 y] w fun e w' => e = .returned (.agg #[.int .i64 6, .string ⟨#[]⟩, .int .u64 0, .int .i64 x, .int .i64 y, .int .i64 0]) ∧ Below w.heap.size w w' := kbox_k x y w
set_option maxHeartbeats 4000000 in
set_option maxRecDepth 100000 in
theorem others4 (S : ByteArray) (N A Bx C : Int) (W : World) : Calls Tryz.prog 193 #[Tm.v ⟨4, S, N, A, Bx, C⟩] W (Others ⟨4, S, N, A, Bx, C⟩ W) := by
 obtain ⟨W1, hW1⟩ : ∃ W1, W1 = W.alloc (.cells #[.int .i64 4, .string S, .int .u64 N, .int .i64 A, .int .i64 Bx, .int .i64 C] 116) := ⟨_, rfl⟩
 have HB1 : Hid (Below W.heap.size W W1) := Lib.hid (by rw [hW1]; exact (Below.refl _ _).alloc (Nat.le_refl _) _)
 have z : ∀ j, W1.cell? ⟨W.heap.size, j, none⟩ = #[Value.int .i64 4, .string S, .int .u64 N, .int .i64 A, .int .i64 Bx, .int .i64 C][j]? := fun j => by rw [hW1]; exact cell_of_row _ _ j _ _ _ (heap_alloc_new W _)
 have z0 := z 0
 have z3 := z 3
 have z4 := z 4
 simp at z0 z3 z4
 have hS1 : HeldA W A Bx W1 := ⟨z3, z4, HB1⟩
 have hS2 : HeldA W A Bx W1.drew := HeldA.below (drewN_below W1 1) hS1
 clear z
 unfold Tm.v
 go_enter Tryz.func193, Tryz.ntmps193
 go_wp2_with fail
 rw [← hW1]
 clear hW1
 clear z0 z3 z4 HB1 hS1
 go_wp2_with fail
 refine wp_region_held_drew (S := (fun w' => w'.cell? ⟨W.heap.size, 3, none⟩ = some (.int .i64 A) ∧ w'.cell? ⟨W.heap.size, 4, none⟩ = some (.int .i64 Bx) ∧ Hid (Below W.heap.size W w'))) (by kernel_rfl) hS2 (fun hHeld => ?_)
 refine tk 0 (h := ?_)
 refine tk 1 (h := ?_)
 refine tk 3 (h := ?_)
 refine tk 4 (h := ?_)
 refine rd 2 (h := fun K' hK => ?_)
 go_simp
 go_at_call 216
 refine (kpub_a _ _).mono ?_
 rintro e W13 ⟨rfl, hb13⟩
 have hS13 : HeldA W A Bx W13 := HeldA.below hb13 (by assumption)
 clear hb13
 go_wp2_with fail
 refine hK.out _ _ hS13 (fun hHeld => ?_)
 clear hK K'
 try simp only [Act.put, p1, p2, p3]
 refine rd 5 (h := fun K' hK => ?_)
 go_simp
 go_at_call 216
 refine (kpub_a _ _).mono ?_
 rintro e W13 ⟨rfl, hb13⟩
 have hS13 : HeldA W A Bx W13 := HeldA.below hb13 (by assumption)
 clear hb13
 go_wp2_with fail
 refine hK.out _ _ hS13 (fun hHeld => ?_)
 clear hK K'
 try simp only [Act.put, p1, p2, p3]
 refine rd 6 (h := fun K' hK => ?_)
 go_simp
 refine hK.out _ _ (HeldA.below ((Below.refl _ _).alloc (Nat.le_refl _) _) hS13) (fun hHeld => ?_)
 clear hK K'
 try simp only [Act.put, p1, p2, p3]
 refine tk 7 (h := ?_)
 refine wpAnyH_done (by kernel_rfl) ?_ _
 obtain ⟨_, _, HB3⟩ := hS13
 go_wp2
 go_ret
 exact ⟨_, rfl, TermsIn.two _ _ HB3.out.size (pubT A) (pubT Bx), HB3.out.alloc HB3.out.size _⟩
set_option maxHeartbeats 4000000 in
set_option maxRecDepth 100000 in
theorem others6 (S : ByteArray) (N A Bx C : Int) (W : World) : Calls Tryz.prog 193 #[Tm.v ⟨6, S, N, A, Bx, C⟩] W (Others ⟨6, S, N, A, Bx, C⟩ W) := by
 obtain ⟨W1, hW1⟩ : ∃ W1, W1 = W.alloc (.cells #[.int .i64 6, .string S, .int .u64 N, .int .i64 A, .int .i64 Bx, .int .i64 C] 116) := ⟨_, rfl⟩
 have HB1 : Hid (Below W.heap.size W W1) := Lib.hid (by rw [hW1]; exact (Below.refl _ _).alloc (Nat.le_refl _) _)
 have z : ∀ j, W1.cell? ⟨W.heap.size, j, none⟩ = #[Value.int .i64 6, .string S, .int .u64 N, .int .i64 A, .int .i64 Bx, .int .i64 C][j]? := fun j => by rw [hW1]; exact cell_of_row _ _ j _ _ _ (heap_alloc_new W _)
 have z0 := z 0
 have z3 := z 3
 have z4 := z 4
 simp at z0 z3 z4
 have hS1 : HeldA W A Bx W1 := ⟨z3, z4, HB1⟩
 have hS2 : HeldA W A Bx W1.drew := HeldA.below (drewN_below W1 1) hS1
 clear z
 unfold Tm.v
 go_enter Tryz.func193, Tryz.ntmps193
 go_wp2_with fail
 rw [← hW1]
 clear hW1
 clear hS1 hS2
 refine (kkpub_a _ _).mono ?_
 rintro e W3 ⟨rfl, hb3⟩
 have HB3 : Hid (Below W.heap.size W W3) := Lib.hid (HB1.out.trans (hb3.mono HB1.out.size))
 clear hb3 HB1
 go_wp2_with fail
 go_ret
 exact ⟨_, rfl, TermsIn.one _ _ HB3.out.size (kpubT A), HB3.out.alloc HB3.out.size _⟩
set_option maxHeartbeats 4000000 in
set_option maxRecDepth 100000 in
theorem others7 (S : ByteArray) (N A Bx C : Int) (W : World) : Calls Tryz.prog 193 #[Tm.v ⟨7, S, N, A, Bx, C⟩] W (Others ⟨7, S, N, A, Bx, C⟩ W) := by
 obtain ⟨W1, hW1⟩ : ∃ W1, W1 = W.alloc (.cells #[.int .i64 7, .string S, .int .u64 N, .int .i64 A, .int .i64 Bx, .int .i64 C] 116) := ⟨_, rfl⟩
 have HB1 : Hid (Below W.heap.size W W1) := Lib.hid (by rw [hW1]; exact (Below.refl _ _).alloc (Nat.le_refl _) _)
 have z : ∀ j, W1.cell? ⟨W.heap.size, j, none⟩ = #[Value.int .i64 7, .string S, .int .u64 N, .int .i64 A, .int .i64 Bx, .int .i64 C][j]? := fun j => by rw [hW1]; exact cell_of_row _ _ j _ _ _ (heap_alloc_new W _)
 have z0 := z 0
 have z3 := z 3
 have z4 := z 4
 simp at z0 z3 z4
 have hS1 : HeldA W A Bx W1 := ⟨z3, z4, HB1⟩
 have hS2 : HeldA W A Bx W1.drew := HeldA.below (drewN_below W1 1) hS1
 clear z
 unfold Tm.v
 go_enter Tryz.func193, Tryz.ntmps193
 go_wp2_with fail
 rw [← hW1]
 clear hW1
 clear z0 z3 z4 HB1 hS1
 go_wp2_with fail
 refine wp_region_held_drew (S := (fun w' => w'.cell? ⟨W.heap.size, 3, none⟩ = some (.int .i64 A) ∧ w'.cell? ⟨W.heap.size, 4, none⟩ = some (.int .i64 Bx) ∧ Hid (Below W.heap.size W w'))) (by kernel_rfl) hS2 (fun hHeld => ?_)
 refine tk 0 (h := ?_)
 refine tk 1 (h := ?_)
 refine tk 3 (h := ?_)
 refine tk 4 (h := ?_)
 refine tk 5 (h := ?_)
 refine tk 6 (h := ?_)
 refine rd 2 (h := fun K' hK => ?_)
 go_simp
 go_at_call 217
 refine (kkpub_a _ _).mono ?_
 rintro e W13 ⟨rfl, hb13⟩
 have hS13 : HeldA W A Bx W13 := HeldA.below hb13 (by assumption)
 clear hb13
 go_wp2_with fail
 refine hK.out _ _ hS13 (fun hHeld => ?_)
 clear hK K'
 try simp only [Act.put, p1, p2, p3]
 refine rd 7 (h := fun K' hK => ?_)
 go_simp
 go_at_call 218
 refine (kbox_a _ _ _).mono ?_
 rintro e W13 ⟨rfl, hb13⟩
 have hS13 : HeldA W A Bx W13 := HeldA.below hb13 (by assumption)
 clear hb13
 go_wp2_with fail
 refine hK.out _ _ hS13 (fun hHeld => ?_)
 clear hK K'
 try simp only [Act.put, p1, p2, p3]
 refine rd 8 (h := fun K' hK => ?_)
 go_simp
 refine hK.out _ _ (HeldA.below ((Below.refl _ _).alloc (Nat.le_refl _) _) hS13) (fun hHeld => ?_)
 clear hK K'
 try simp only [Act.put, p1, p2, p3]
 refine tk 9 (h := ?_)
 refine wpAnyH_done (by kernel_rfl) ?_ _
 obtain ⟨_, _, HB3⟩ := hS13
 go_wp2
 go_ret
 exact ⟨_, rfl, TermsIn.two _ _ HB3.out.size (kpubT A) (boxT A Bx), HB3.out.alloc HB3.out.size _⟩
set_option maxHeartbeats 4000000 in
theorem others0 (K : Int) (S : ByteArray) (N A Bx C : Int) (h4 : K ≠ 4) (h6 : K ≠ 6) (h7 : K ≠ 7) (W : World) : Calls Tryz.prog 193 #[Tm.v ⟨K, S, N, A, Bx, C⟩] W (Others ⟨K, S, N, A, Bx, C⟩ W) := by
 have e4 : (K == 4) = false := beq_eq_false_iff_ne.2 h4
 have e6 : (K == 6) = false := beq_eq_false_iff_ne.2 h6
 have e7 : (K == 7) = false := beq_eq_false_iff_ne.2 h7
 have e : Hid (othersT ⟨K, S, N, A, Bx, C⟩ = []) := Lib.hid (by unfold othersT; rw [if_neg h4, if_neg h6, if_neg h7])
 clear h4 h6 h7
 unfold Tm.v
 go_enter Tryz.func193, Tryz.ntmps193
 go_wp2
 go_ret
 refine ⟨_, rfl, ?_, (Below.refl _ _).alloc (Nat.le_refl _) _⟩
 rw [e.out]
 exact ⟨none, 0, W.heap.size, rfl, Nat.le_refl _, by simp, fun q => by simp at q, fun k hk => by simp at hk⟩
theorem others_k (t : Tm) (W : World) : Calls Tryz.prog 193 #[t.v] W (Others t W) := by
 obtain ⟨K, S, N, A, Bx, C⟩ := t
 by_cases h4 : K = 4
 ·subst h4; exact others4 S N A Bx C W
 by_cases h6 : K = 6
 ·subst h6; exact others6 S N A Bx C W
 by_cases h7 : K = 7
 ·subst h7; exact others7 S N A Bx C W
 exact others0 K S N A Bx C h4 h6 h7 W
end Go.Proofs.YtgeonppckeiceaaGreatDoor
namespace Go.Proofs.YtgeonppckeiceaaGreatDoor
open Go.RowKit
open Go.Maps
set_option linter.unusedVariables false
set_option linter.unusedSimpArgs false
set_option maxRecDepth 20000
theorem OwnI.low {base b : Nat} {v : Value} {M : List Int} {w : World} (h : OwnI base v M w) (hb : b ≤ base) : OwnI b v M w := by
 refine ⟨h.1, ?_⟩
 rcases h.2 with q | ⟨g, cap, cur, hv, hg, r⟩
 ·exact .inl q
 ·exact .inr ⟨g, cap, cur, hv, Nat.le_trans hb hg, r⟩
theorem Mind.hung {w0 w w3 : World} {g : Nat} {L : List Tm} {dh kem : Bool} {B : MB} {nm : Tm → Int} {H : Nat → List Int} {vs : Nat → Value} {v : Value} {M : List Int} (h : Mind w0 g L dh kem B nm H vs v M w) {x : Nat} (hx : x ≤ L.length) {n : Int} {g2 cap3 : Nat}
  (hown : w3.ownsRow w0.heap.size 3 1 (.slice (some ⟨g2, 0, none⟩) ((H x).length + 1) cap3) ((H x).length + 1) (intsR (H x) ++ [.int .i64 n])) (hc : Chg (fun k => some k = (vs x).ownBlock) w w3) (hat : (vs x).ownBlock = some g2 ∨ w.heap.size ≤ g2) :
  Mind w0 g L dh kem B nm (hangOne H n (x : Int)) (fun i => if i = x then .slice (some ⟨g2, 0, none⟩) ((H x).length + 1) cap3 else vs i) v M (w3.setCell ⟨B.h, x, none⟩ (.slice (some ⟨g2, 0, none⟩) ((H x).length + 1) cap3)) ∧
  Chg (fun k => k = B.h ∨ some k = (vs x).ownBlock) w (w3.setCell ⟨B.h, x, none⟩ (.slice (some ⟨g2, 0, none⟩) ((H x).length + 1) cap3)) := by
 obtain ⟨u, hu⟩ : ∃ u, u = Value.slice (some ⟨g2, 0, none⟩) ((H x).length + 1) cap3 := ⟨_, rfl⟩
 have hu2 : u.ownBlock = some g2 := by rw [hu]; rfl
 have hown' := OwnI.app hown
 rw [← hu] at hown' ⊢
 have C2 : Chg (fun k => k = B.h) w3 (w3.setCell ⟨B.h, x, none⟩ u) := Chg.setCell w3 B.h x u
 have C : Chg (fun k => k = B.h ∨ some k = (vs x).ownBlock) w (w3.setCell ⟨B.h, x, none⟩ u) := (hc.mono fun k _ q => .inr q).trans (C2.mono fun k _ q => .inl q)
 have ne : ∀ i j k, tagged B v vs i = some k → tagged B v vs j = some k → i = j := h.apart
 have far : ∀ i k, i ≠ 3 → i ≠ x + 5 → tagged B v vs i = some k → ¬ (k = B.h ∨ some k = (vs x).ownBlock) := by
  rintro i k h1 h2 hk (e | e)
  ·exact h1 (ne i 3 k hk (by rw [e]; rfl))
  ·exact h2 (ne i (x + 5) k hk e.symm)
 have hbh : B.h < w.heap.size := (h.at 3 B.h rfl).2
 have hxh : (vs x).ownBlock ≠ some B.h := fun e => by have := ne (x + 5) 3 B.h e rfl; omega
 have g2h : g2 ≠ B.h := by
  rcases hat with q | q
  ·intro e; exact hxh (by rw [q, e])
  ·omega
 refine ⟨?_, C⟩
 exact {
  st := C.blk h.st (far 0 _ (by decide) (by omega) rfl)
  can := C.blk h.can (far 1 _ (by decide) (by omega) rfl)
  row := h.row.chg C (fun k hk => far 4 k (by decide) (by omega) hk)
  names := by
   obtain ⟨n, D, hm, q⟩ := h.names
   exact ⟨n, D, C.own hm (far 2 B.n (by decide) (by omega) rfl), q⟩
  hang := by
   have hb : w3.heap[B.h]? = some (.cells (hangV L.length vs) 94 (0, 0)) := hc.blk h.hang (fun e => hxh e.symm)
   have := heap_setCell_same w3 B.h x _ _ u hb
   rw [hangV_set hx] at this
   exact this
  rows := fun i => by
   by_cases hi : i = x
   ·subst hi
    have e1 : hangOne H n (i : Int) i = H i ++ [n] := by unfold hangOne; rw [if_pos (by omega)]
    have e2 : (if i = i then u else vs i) = u := if_pos rfl
    show OwnI _ (if i = i then u else vs i) _ _
    rw [e1, e2]
    exact hown'.chg C2 (fun k hk e => g2h (by rw [hu2] at hk; injection hk with hk; omega))
   ·have e1 : hangOne H n (x : Int) i = H i := by unfold hangOne; rw [if_neg (by omega)]
    show OwnI _ (if i = x then u else vs i) _ _
    rw [e1, if_neg hi]
    exact (h.rows i).chg C (fun k hk => far (i + 5) k (by omega) (by omega) hk)
  apart := by
   refine h.apart.set (n := w.heap.size) (fun i k hk => (h.at i k hk).2) (x + 5) (fun i hi => ?_) (fun k hk => ?_)
   ·match i, hi with
    | 0, _ => rfl
    | 1, _ => rfl
    | 2, _ => rfl
    | 3, _ => rfl
    | 4, _ => rfl
    | i + 5, hi => show (if i = x then u else vs i).ownBlock = (vs i).ownBlock; rw [if_neg (by omega)]
   ·have hk' : (if x = x then u else vs x).ownBlock = some k := hk
    rw [if_pos rfl, hu2] at hk'
    injection hk' with hk'
    subst hk'
    exact hat
  lo := h.lo
  below := h.below.trans (C.below (fun k hk => by
   rcases hk with e | e
   ·rw [e]; exact h.lo.2.2.2
   ·exact (World.ownsRow.lt (h.rows x) k e.symm).1) h.below.size)
  nodup := h.nodup
  inL := h.inL
  most := h.most }
theorem Mind.hung_far {w0 w : World} {g : Nat} {L : List Tm} {dh kem : Bool} {B : MB} {nm : Tm → Int} {H : Nat → List Int} {vs : Nat → Value} {v : Value} {M : List Int} (h : Mind w0 g L dh kem B nm H vs v M w) {x g2 q N cap3 : Nat} (hq : q < w.heap.size) (hf : ∀ i k, tagged B v vs i = some k → k ≠ q) (hat : (vs x).ownBlock = some g2 ∨ w.heap.size ≤ g2) :
  ∀ i k, tagged B v (fun i => if i = x then Value.slice (some ⟨g2, 0, none⟩) N cap3 else vs i) i = some k → k ≠ q := by
 intro i k hk
 match i, hk with
 | 0, hk => exact hf 0 k hk
 | 1, hk => exact hf 1 k hk
 | 2, hk => exact hf 2 k hk
 | 3, hk => exact hf 3 k hk
 | 4, hk => exact hf 4 k hk
 | i + 5, hk =>
  by_cases hi : i = x
  ·subst hi
   have hk' : (if i = i then Value.slice (some ⟨g2, 0, none⟩) N cap3 else vs i).ownBlock = some k := hk
   rw [if_pos rfl] at hk'
   have e : g2 = k := by injection hk'
   subst e
   rcases hat with r | r
   ·exact hf (i + 5) _ r
   ·omega
  ·have hk' : (if i = x then Value.slice (some ⟨g2, 0, none⟩) N cap3 else vs i).ownBlock = some k := hk
   rw [if_neg hi] at hk'
   exact hf (i + 5) k hk'
end Go.Proofs.YtgeonppckeiceaaGreatDoor
