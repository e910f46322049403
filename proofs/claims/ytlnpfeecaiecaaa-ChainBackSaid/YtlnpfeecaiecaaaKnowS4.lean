/- The program's rules that look up in its map: shared, wrapped, inBox. The program's rule that looks into a box: inBox. -/
import Derived.Test.YtlnpfeecaiecaaaKnowS
import Derived.Deep.RegionHeld3
namespace Go.Proofs.Ytlnpfeecaiecaaa
open Go.RowKit
open Go.Maps
set_option linter.unusedVariables false
set_option linter.unusedSimpArgs false
set_option maxRecDepth 20000

theorem wf_name {L : List Tm} (hm : L.length ≤ 1048576) {x : Int} (h : InL L x) : (Lit.int .i64 x).wf = true := by
  have h1 := h.1
  have h2 := h.2
  exact wf_small _ (by omega) (by omega)
theorem wf_pub {L : List Tm} (hm : L.length ≤ 1048576) {x : Int} (h : InL L x) : Wf (pubT x) := ⟨by show (⟨#[]⟩ : ByteArray).size ≤ maxLen; decide, by show (Lit.int .i64 3).wf = true; decide, by show (Lit.int .u64 0).wf = true; decide, wf_name hm h, by show (Lit.int .i64 0).wf = true; decide, by show (Lit.int .i64 0).wf = true; decide⟩
theorem wf_kpub {L : List Tm} (hm : L.length ≤ 1048576) {x : Int} (h : InL L x) : Wf (kpubT x) := ⟨by show (⟨#[]⟩ : ByteArray).size ≤ maxLen; decide, by show (Lit.int .i64 5).wf = true; decide, by show (Lit.int .u64 0).wf = true; decide, wf_name hm h, by show (Lit.int .i64 0).wf = true; decide, by show (Lit.int .i64 0).wf = true; decide⟩
theorem wf_box {L : List Tm} (hm : L.length ≤ 1048576) {x y : Int} (h : InL L x) (k : InL L y) : Wf (boxT x y) := ⟨by show (⟨#[]⟩ : ByteArray).size ≤ maxLen; decide, by show (Lit.int .i64 6).wf = true; decide, by show (Lit.int .u64 0).wf = true; decide, wf_name hm h, wf_name hm k, by show (Lit.int .i64 0).wf = true; decide⟩
/-- What stays where only memory is made: the term's box, what is read of the mind. -/
def HeldN (W : World) (B : MB) (N ja jb : Nat) (xa xb dh kem : Bool) (w : World) : Prop := w.cell? ⟨W.heap.size, 3, none⟩ = some (.int .i64 (ja : Int)) ∧ w.cell? ⟨W.heap.size, 4, none⟩ = some (.int .i64 (jb : Int)) ∧ w.cell? ⟨B.m, 15, none⟩ = some (.slice (some ⟨B.c, 0, none⟩) (N + 1) (N + 1)) ∧
  w.cell? ⟨B.c, ja, none⟩ = some (.bool xa) ∧ w.cell? ⟨B.c, jb, none⟩ = some (.bool xb) ∧ w.cell? ⟨B.m, 1, none⟩ = some (.bool dh) ∧ w.cell? ⟨B.m, 2, none⟩ = some (.bool kem) ∧ Hid (Below W.heap.size W w)
theorem HeldN.below {W w w' : World} {B : MB} {N ja jb : Nat} {xa xb dh kem : Bool} (hb : Below w.heap.size w w') (h : HeldN W B N ja jb xa xb dh kem w) : HeldN W B N ja jb xa xb dh kem w' := by
  obtain ⟨h1, h2, h3, h4, h5, h6, h7, h8⟩ := h
  exact ⟨(hb.cell (block_lt_of_cell h1)).trans h1, (hb.cell (block_lt_of_cell h2)).trans h2, (hb.cell (block_lt_of_cell h3)).trans h3, (hb.cell (block_lt_of_cell h4)).trans h4, (hb.cell (block_lt_of_cell h5)).trans h5, (hb.cell (block_lt_of_cell h6)).trans h6, (hb.cell (block_lt_of_cell h7)).trans h7, Lib.hid (h8.out.trans (hb.mono h8.out.size))⟩
section
variable {w0 : World} {g : Nat} {L : List Tm} {dh kem : Bool} {B : MB} {H : Nat → List Int} {vs : Nat → Value} {v : Value} {M : List Int}

set_option maxHeartbeats 4000000 in
set_option maxRecDepth 100000 in
theorem shared_k (K : Int) (S : ByteArray) (N : Int) (ja jb : Nat) (C : Int) (hA : InL L (ja : Int)) (hB : InL L (jb : Int)) (W : World) (h : MindF w0 g L dh kem B H vs v M W) :
    Calls Try.prog 62 #[.pointer (some ⟨B.m, 0, none⟩), Tm.v ⟨K, S, N, (ja : Int), (jb : Int), C⟩] W fun e W' => e = .returned (.bool ((has M (ja : Int) && (has M (jb : Int) || hasT L (has M) (pubT (jb : Int)))) || (has M (jb : Int) && hasT L (has M) (pubT (ja : Int))) || (dh && hasT L (has M) (pubT (ja : Int)) && hasT L (has M) (pubT (jb : Int))))) ∧ Below W.heap.size W W' := by
  have HCAN : Hid (∀ w', Hid (Below W.heap.size W w') → ∀ t, Wf t → asked3 t → Calls Try.prog 78 #[.pointer (some ⟨B.m, 0, none⟩), t.v] w' fun e W' => e = .returned (.bool (hasT L (has M) t)) ∧ Below w'.heap.size w' W') := Lib.hid (fun w' hb t ht ha => canBe_k t ht ha w' (h.next hb.out))
  have HCP : Hid (∀ w', HeldN W B L.length ja jb (has M (ja : Int)) (has M (jb : Int)) dh kem w' → ∀ y, (y = (ja : Int) ∨ y = (jb : Int)) → Calls Try.prog 78 #[.pointer (some ⟨B.m, 0, none⟩), (pubT y).v] w' fun e W' => e = .returned (.bool (hasT L (has M) (pubT y))) ∧ Below w'.heap.size w' W') := Lib.hid (fun w' hs y hy => HCAN.out w' hs.2.2.2.2.2.2.2 _ (wf_pub h.most (by rcases hy with rfl | rfl; exact hA; exact hB)) (.inl rfl))
  obtain ⟨W1, hW1⟩ : ∃ W1, W1 = W.alloc (.cells #[.int .i64 K, .string S, .int .u64 N, .int .i64 (ja : Int), .int .i64 (jb : Int), .int .i64 C] 59) := ⟨_, rfl⟩
  have hb1 : Below W.heap.size W W1 := by rw [hW1]; exact (Below.refl _ _).alloc (Nat.le_refl _) _
  have HM1 : Hid (MindF w0 g L dh kem B H vs v M W1) := Lib.hid (h.next hb1)
  have z : ∀ j, W1.cell? ⟨W.heap.size, j, none⟩ = #[Value.int .i64 K, .string S, .int .u64 N, .int .i64 (ja : Int), .int .i64 (jb : Int), .int .i64 C][j]? := fun j => by rw [hW1]; exact cell_of_row _ _ j _ _ _ (heap_alloc_new W _)
  have z0 := z 0
  have z1 := z 1
  have z2 := z 2
  have z3 := z 3
  have z4 := z 4
  have z5 := z 5
  simp at z0 z1 z2 z3 z4 z5
  have HB1 := Lib.hid hb1
  obtain ⟨_, c15, _, _, _, c1, c2⟩ := HM1.out.cells
  have hsW1 : W.heap.size < W1.heap.size := by rw [hW1]; simp
  have hmost := h.most
  clear z h hb1
  obtain ⟨xa, hxa⟩ : ∃ x, x = has M (ja : Int) := ⟨_, rfl⟩
  obtain ⟨xb, hxb⟩ : ∃ x, x = has M (jb : Int) := ⟨_, rfl⟩
  have ca := HM1.out.canAt (i := ja) (by have := hA.2; omega)
  have cb := HM1.out.canAt (i := jb) (by have := hB.2; omega)
  rw [← hxa] at ca
  rw [← hxb] at cb
  have hjl : (ja : Int) < (L.length : Int) + 1 := by have := hA.2; omega
  have hjl2 : (jb : Int) < (L.length : Int) + 1 := by have := hB.2; omega
  rw [← hxa, ← hxb] at HCP ⊢
  obtain ⟨pa, hpa⟩ : ∃ x, x = hasT L (has M) (pubT (ja : Int)) := ⟨_, rfl⟩
  obtain ⟨pb, hpb⟩ : ∃ x, x = hasT L (has M) (pubT (jb : Int)) := ⟨_, rfl⟩
  rw [← hpa, ← hpb]
  have HPA := Lib.hid hpa
  have HPB := Lib.hid hpb
  clear hpa hpb hxa hxb hA hB HCAN
  unfold Tm.v
  go_enter Try.func62, Try.ntmps62
  go_wp2
  rw [← hW1]
  clear hW1
  go_quiet (fail)
  have HB2 : Hid (Below W.heap.size W (W1.drewN nq)) := Lib.hid (HB1.out.trans ((drewN_below W1 nq).mono HB1.out.size))
  have hS1 : HeldN W B L.length ja jb xa xb dh kem (W1.drewN nq) := ⟨z3, z4, c15, ca, cb, c1, c2, HB2⟩
  generalize W1.drewN nq = W2 at hS1 ⊢
  clear z0 z1 z2 z3 z4 z5 c15 ca cb c1 c2 HB2 HM1 HB1
  go_wp2
  have hS2 : HeldN W B L.length ja jb xa xb dh kem W2.drew := HeldN.below (drewN_below W2 1) hS1
  clear hS1
  go_region_held3 (fun w' => w'.cell? ⟨W.heap.size, 3, none⟩ = some (.int .i64 (ja : Int)) ∧ w'.cell? ⟨W.heap.size, 4, none⟩ = some (.int .i64 (jb : Int)) ∧ w'.cell? ⟨B.m, 15, none⟩ = some (.slice (some ⟨B.c, 0, none⟩) (L.length + 1) (L.length + 1)) ∧ w'.cell? ⟨B.c, ja, none⟩ = some (.bool xa) ∧ w'.cell? ⟨B.c, jb, none⟩ = some (.bool xb) ∧ w'.cell? ⟨B.m, 1, none⟩ = some (.bool dh) ∧ w'.cell? ⟨B.m, 2, none⟩ = some (.bool kem) ∧ Hid (Below W.heap.size W w')) (first | assumption | go_keep) (first | (go_at_call 79; refine (kpub_k _ _).mono ?_; rintro e W13 ⟨rfl, hb13⟩; have hS13 : HeldN W B L.length ja jb xa xb dh kem W13 := HeldN.below hb13 (by assumption)) | (go_at_call 78; refine (HCP.out _ (by assumption) _ (by first | exact .inl rfl | exact .inr rfl)).mono ?_; rintro e W13 ⟨rfl, hb13⟩; have hS13 : HeldN W B L.length ja jb xa xb dh kem W13 := HeldN.below hb13 (by assumption)))
  rw [← HPA.out, ← HPB.out]
  obtain ⟨_, _, _, _, _, d1, _, HB3⟩ := hS13
  clear hS2 HCP HPA HPB
  cases xa <;> cases xb <;> cases pa <;> cases pb <;> cases dh
  all_goals
    go_wp2
    go_ret
    exact ⟨rfl, HB3.out⟩

set_option maxHeartbeats 4000000 in
set_option maxRecDepth 100000 in
theorem wrapped_k (K : Int) (S : ByteArray) (N : Int) (ja jb : Nat) (C : Int) (hA : InL L (ja : Int)) (hB : InL L (jb : Int)) (W : World) (h : MindF w0 g L dh kem B H vs v M W) :
    Calls Try.prog 63 #[.pointer (some ⟨B.m, 0, none⟩), Tm.v ⟨K, S, N, (ja : Int), (jb : Int), C⟩] W fun e W' => e = .returned (.bool (has M (jb : Int) && (has M (ja : Int) || hasT L (has M) (kpubT (ja : Int))))) ∧ Below W.heap.size W W' := by
  have HCAN : Hid (∀ w', Hid (Below W.heap.size W w') → ∀ t, Wf t → asked3 t → Calls Try.prog 78 #[.pointer (some ⟨B.m, 0, none⟩), t.v] w' fun e W' => e = .returned (.bool (hasT L (has M) t)) ∧ Below w'.heap.size w' W') := Lib.hid (fun w' hb t ht ha => canBe_k t ht ha w' (h.next hb.out))
  have HCP : Hid (∀ w', HeldN W B L.length ja jb false true dh kem w' → Calls Try.prog 78 #[.pointer (some ⟨B.m, 0, none⟩), (kpubT (ja : Int)).v] w' fun e W' => e = .returned (.bool (hasT L (has M) (kpubT (ja : Int)))) ∧ Below w'.heap.size w' W') := Lib.hid (fun w' hs => HCAN.out w' hs.2.2.2.2.2.2.2 _ (wf_kpub h.most hA) (.inr (.inl rfl)))
  obtain ⟨W1, hW1⟩ : ∃ W1, W1 = W.alloc (.cells #[.int .i64 K, .string S, .int .u64 N, .int .i64 (ja : Int), .int .i64 (jb : Int), .int .i64 C] 59) := ⟨_, rfl⟩
  have hb1 : Below W.heap.size W W1 := by rw [hW1]; exact (Below.refl _ _).alloc (Nat.le_refl _) _
  have HM1 : Hid (MindF w0 g L dh kem B H vs v M W1) := Lib.hid (h.next hb1)
  have z : ∀ j, W1.cell? ⟨W.heap.size, j, none⟩ = #[Value.int .i64 K, .string S, .int .u64 N, .int .i64 (ja : Int), .int .i64 (jb : Int), .int .i64 C][j]? := fun j => by rw [hW1]; exact cell_of_row _ _ j _ _ _ (heap_alloc_new W _)
  have z0 := z 0
  have z1 := z 1
  have z2 := z 2
  have z3 := z 3
  have z4 := z 4
  have z5 := z 5
  simp at z0 z1 z2 z3 z4 z5
  have HB1 := Lib.hid hb1
  obtain ⟨_, c15, _, _, _, c1, c2⟩ := HM1.out.cells
  have hsW1 : W.heap.size < W1.heap.size := by rw [hW1]; simp
  have hmost := h.most
  clear z h hb1
  obtain ⟨xa, hxa⟩ : ∃ x, x = has M (ja : Int) := ⟨_, rfl⟩
  obtain ⟨xb, hxb⟩ : ∃ x, x = has M (jb : Int) := ⟨_, rfl⟩
  have ca := HM1.out.canAt (i := ja) (by have := hA.2; omega)
  have cb := HM1.out.canAt (i := jb) (by have := hB.2; omega)
  rw [← hxa] at ca
  rw [← hxb] at cb
  have hjl : (ja : Int) < (L.length : Int) + 1 := by have := hA.2; omega
  have hjl2 : (jb : Int) < (L.length : Int) + 1 := by have := hB.2; omega
  rw [← hxa, ← hxb]
  clear hxa hxb hA hB HCAN
  unfold Tm.v
  cases xb
  · go_enter Try.func63, Try.ntmps63
    go_wp2
    rw [← hW1]
    clear hW1
    go_quiet (fail)
    go_wp2
    go_ret
    exact ⟨rfl, HB1.out.trans ((drewN_below W1 nq).mono HB1.out.size)⟩
  · cases xa
    · have hS1 : HeldN W B L.length ja jb false true dh kem W1 := ⟨z3, z4, c15, ca, cb, c1, c2, HB1⟩
      have hS2 : HeldN W B L.length ja jb false true dh kem W1.drew := HeldN.below (drewN_below W1 1) hS1
      go_enter Try.func63, Try.ntmps63
      go_wp2
      rw [← hW1]
      clear hW1 z0 z1 z2 z3 z4 z5 c15 ca cb c1 c2 HM1 HB1 hS1
      go_region_held3 (fun w' => w'.cell? ⟨W.heap.size, 3, none⟩ = some (.int .i64 (ja : Int)) ∧ w'.cell? ⟨W.heap.size, 4, none⟩ = some (.int .i64 (jb : Int)) ∧ w'.cell? ⟨B.m, 15, none⟩ = some (.slice (some ⟨B.c, 0, none⟩) (L.length + 1) (L.length + 1)) ∧ w'.cell? ⟨B.c, ja, none⟩ = some (.bool false) ∧ w'.cell? ⟨B.c, jb, none⟩ = some (.bool true) ∧ w'.cell? ⟨B.m, 1, none⟩ = some (.bool dh) ∧ w'.cell? ⟨B.m, 2, none⟩ = some (.bool kem) ∧ Hid (Below W.heap.size W w')) (first | assumption | go_keep) (first | (go_at_call 80; refine (kkpub_k _ _).mono ?_; rintro e W13 ⟨rfl, hb13⟩; have hS13 : HeldN W B L.length ja jb false true dh kem W13 := HeldN.below hb13 (by assumption)) | (go_at_call 78; refine (HCP.out _ (by assumption)).mono ?_; rintro e W13 ⟨rfl, hb13⟩; have hS13 : HeldN W B L.length ja jb false true dh kem W13 := HeldN.below hb13 (by assumption)))
      obtain ⟨_, _, _, _, _, _, _, HB3⟩ := hS13
      go_wp2
      go_ret
      exact ⟨rfl, HB3.out⟩
    · go_enter Try.func63, Try.ntmps63
      go_wp2
      rw [← hW1]
      clear hW1
      go_quiet (fail)
      go_wp2
      go_ret
      exact ⟨rfl, HB1.out.trans ((drewN_below W1 nq).mono HB1.out.size)⟩
end
end Go.Proofs.Ytlnpfeecaiecaaa

namespace Go.Proofs.Ytlnpfeecaiecaaa
open Go.RowKit
open Go.Maps
set_option linter.unusedVariables false
set_option linter.unusedSimpArgs false
set_option maxRecDepth 20000

/-- What stays where only memory is made: the term's box with all its fields, what is read of the mind. -/
def HeldX (W : World) (B : MB) (n : Nat) (K : Int) (S : ByteArray) (N : Int) (ja jb : Nat) (C : Int) (xa dh kem : Bool) (w : World) : Prop := w.cell? ⟨W.heap.size, 0, none⟩ = some (.int .i64 K) ∧ w.cell? ⟨W.heap.size, 1, none⟩ = some (.string S) ∧ w.cell? ⟨W.heap.size, 2, none⟩ = some (.int .u64 N) ∧ w.cell? ⟨W.heap.size, 3, none⟩ = some (.int .i64 (ja : Int)) ∧ w.cell? ⟨W.heap.size, 4, none⟩ = some (.int .i64 (jb : Int)) ∧ w.cell? ⟨W.heap.size, 5, none⟩ = some (.int .i64 C) ∧
  w.cell? ⟨B.m, 15, none⟩ = some (.slice (some ⟨B.c, 0, none⟩) (n + 1) (n + 1)) ∧ w.cell? ⟨B.c, ja, none⟩ = some (.bool xa) ∧ w.cell? ⟨B.m, 1, none⟩ = some (.bool dh) ∧ w.cell? ⟨B.m, 2, none⟩ = some (.bool kem) ∧ Hid (Below W.heap.size W w)
theorem HeldX.below {W w w' : World} {B : MB} {n : Nat} {K : Int} {S : ByteArray} {N : Int} {ja jb : Nat} {C : Int} {xa dh kem : Bool} (hb : Below w.heap.size w w') (h : HeldX W B n K S N ja jb C xa dh kem w) : HeldX W B n K S N ja jb C xa dh kem w' := by
  obtain ⟨a1, a2, a3, a4, a5, a6, a7, a8, a9, a10, a11⟩ := h
  exact ⟨(hb.cell (block_lt_of_cell a1)).trans a1, (hb.cell (block_lt_of_cell a2)).trans a2, (hb.cell (block_lt_of_cell a3)).trans a3, (hb.cell (block_lt_of_cell a4)).trans a4, (hb.cell (block_lt_of_cell a5)).trans a5, (hb.cell (block_lt_of_cell a6)).trans a6, (hb.cell (block_lt_of_cell a7)).trans a7, (hb.cell (block_lt_of_cell a8)).trans a8, (hb.cell (block_lt_of_cell a9)).trans a9, (hb.cell (block_lt_of_cell a10)).trans a10, Lib.hid (a11.out.trans (hb.mono a11.out.size))⟩
section
variable {w0 : World} {g : Nat} {L : List Tm} {dh kem : Bool} {B : MB} {H : Nat → List Int} {vs : Nat → Value} {v : Value} {M : List Int}
set_option maxHeartbeats 4000000 in
set_option maxRecDepth 100000 in
theorem inBox_k (K : Int) (S : ByteArray) (N : Int) (ja jb : Nat) (C : Int) (hA : InL L (ja : Int)) (hB : InL L (jb : Int)) (W : World) (h : MindF w0 g L dh kem B H vs v M W) :
    Calls Try.prog 64 #[.pointer (some ⟨B.m, 0, none⟩), Tm.v ⟨K, S, N, (ja : Int), (jb : Int), C⟩] W fun e W' => e = .returned (.bool ((has M (jb : Int) && (has M (ja : Int) || hasT L (has M) (kpubT (ja : Int)))) || (hasT L (has M) (boxT (ja : Int) (jb : Int)) && (has M (ja : Int) || kem)))) ∧ Below W.heap.size W W' := by
  have HCAN : Hid (∀ w', Hid (Below W.heap.size W w') → ∀ t, Wf t → asked3 t → Calls Try.prog 78 #[.pointer (some ⟨B.m, 0, none⟩), t.v] w' fun e W' => e = .returned (.bool (hasT L (has M) t)) ∧ Below w'.heap.size w' W') := Lib.hid (fun w' hb t ht ha => canBe_k t ht ha w' (h.next hb.out))
  have HCP : Hid (∀ w', HeldX W B L.length K S N ja jb C (has M (ja : Int)) dh kem w' → Calls Try.prog 78 #[.pointer (some ⟨B.m, 0, none⟩), (boxT (ja : Int) (jb : Int)).v] w' fun e W' => e = .returned (.bool (hasT L (has M) (boxT (ja : Int) (jb : Int)))) ∧ Below w'.heap.size w' W') := Lib.hid (fun w' hs => HCAN.out w' hs.2.2.2.2.2.2.2.2.2.2 _ (wf_box h.most hA hB) (.inr (.inr rfl)))
  have HWR : Hid (∀ w', HeldX W B L.length K S N ja jb C (has M (ja : Int)) dh kem w' → Calls Try.prog 63 #[.pointer (some ⟨B.m, 0, none⟩), Tm.v ⟨K, S, N, (ja : Int), (jb : Int), C⟩] w' fun e W' => e = .returned (.bool (has M (jb : Int) && (has M (ja : Int) || hasT L (has M) (kpubT (ja : Int))))) ∧ Below w'.heap.size w' W') := Lib.hid (fun w' hs => wrapped_k K S N ja jb C hA hB w' (h.next hs.2.2.2.2.2.2.2.2.2.2.out))
  obtain ⟨wB, hwB⟩ : ∃ x, x = (has M (jb : Int) && (has M (ja : Int) || hasT L (has M) (kpubT (ja : Int)))) := ⟨_, rfl⟩
  obtain ⟨bx, hbx⟩ : ∃ x, x = hasT L (has M) (boxT (ja : Int) (jb : Int)) := ⟨_, rfl⟩
  rw [← hwB] at HWR
  rw [← hbx] at HCP
  rw [← hwB, ← hbx]
  obtain ⟨W1, hW1⟩ : ∃ W1, W1 = W.alloc (.cells #[.int .i64 K, .string S, .int .u64 N, .int .i64 (ja : Int), .int .i64 (jb : Int), .int .i64 C] 59) := ⟨_, rfl⟩
  have hb1 : Below W.heap.size W W1 := by rw [hW1]; exact (Below.refl _ _).alloc (Nat.le_refl _) _
  have HM1 : Hid (MindF w0 g L dh kem B H vs v M W1) := Lib.hid (h.next hb1)
  have z : ∀ j, W1.cell? ⟨W.heap.size, j, none⟩ = #[Value.int .i64 K, .string S, .int .u64 N, .int .i64 (ja : Int), .int .i64 (jb : Int), .int .i64 C][j]? := fun j => by rw [hW1]; exact cell_of_row _ _ j _ _ _ (heap_alloc_new W _)
  have z0 := z 0
  have z1 := z 1
  have z2 := z 2
  have z3 := z 3
  have z4 := z 4
  have z5 := z 5
  simp at z0 z1 z2 z3 z4 z5
  have HB1 := Lib.hid hb1
  obtain ⟨_, c15, _, _, _, c1, c2⟩ := HM1.out.cells
  have hsW1 : W.heap.size < W1.heap.size := by rw [hW1]; simp
  have hmost := h.most
  clear z h hb1
  obtain ⟨xa, hxa⟩ : ∃ x, x = has M (ja : Int) := ⟨_, rfl⟩
  have ca := HM1.out.canAt (i := ja) (by have := hA.2; omega)
  rw [← hxa] at ca HCP HWR ⊢
  have hjl : (ja : Int) < (L.length : Int) + 1 := by have := hA.2; omega
  have hS1 : HeldX W B L.length K S N ja jb C xa dh kem W1 := ⟨z0, z1, z2, z3, z4, z5, c15, ca, c1, c2, HB1⟩
  have hS2 : HeldX W B L.length K S N ja jb C xa dh kem W1.drew := HeldX.below (drewN_below W1 1) hS1
  clear hxa hA hB HCAN hwB hbx z0 z1 z2 z3 z4 z5 c15 ca c1 c2 HM1 HB1 hS1
  unfold Tm.v at HWR ⊢
  cases wB
  · cases bx
    · go_enter Try.func64, Try.ntmps64
      go_wp2
      rw [← hW1]
      clear hW1
      refine wp_region_held_drew (S := (fun w' => w'.cell? ⟨W.heap.size, 0, none⟩ = some (.int .i64 K) ∧ w'.cell? ⟨W.heap.size, 1, none⟩ = some (.string S) ∧ w'.cell? ⟨W.heap.size, 2, none⟩ = some (.int .u64 N) ∧ w'.cell? ⟨W.heap.size, 3, none⟩ = some (.int .i64 (ja : Int)) ∧ w'.cell? ⟨W.heap.size, 4, none⟩ = some (.int .i64 (jb : Int)) ∧ w'.cell? ⟨W.heap.size, 5, none⟩ = some (.int .i64 C) ∧ w'.cell? ⟨B.m, 15, none⟩ = some (.slice (some ⟨B.c, 0, none⟩) (L.length + 1) (L.length + 1)) ∧ w'.cell? ⟨B.c, ja, none⟩ = some (.bool xa) ∧ w'.cell? ⟨B.m, 1, none⟩ = some (.bool dh) ∧ w'.cell? ⟨B.m, 2, none⟩ = some (.bool kem) ∧ Hid (Below W.heap.size W w'))) (by kernel_rfl) hS2 (fun hHeld => ?_)
      refine wpAnyH_take (i := 0) (oi := ?o1) (v := ?v1) ?i1 (by kernel_rfl) (by kernel_rfl) (by kernel_rfl) ?q1 (Or.inl ⟨?w1, ?y1⟩) (by assumption) ?r1
      case' i1 => simp only [List.getElem?_toArray, List.getElem?_cons_succ, List.getElem?_cons_zero]
      case i1 => rfl
      case q1 => exact fun _ _ _ h => h
      case w1 => rfl
      case y1 => (intro w hSw; (try dsimp only at hSw); go_simp) <;> with_reducible rfl
      try simp only [Act.put, List.setIfInBounds_toArray, List.set_cons_zero, List.set_cons_succ]
      refine wpAnyH_take (i := 1) (oi := ?o2) (v := ?v2) ?i2 (by kernel_rfl) (by kernel_rfl) (by kernel_rfl) ?q2 (Or.inl ⟨?w2, ?y2⟩) (by assumption) ?r2
      case' i2 => simp only [List.getElem?_toArray, List.getElem?_cons_succ, List.getElem?_cons_zero]
      case i2 => rfl
      case q2 => exact fun _ _ _ h => h
      case w2 => rfl
      case y2 => (intro w hSw; (try dsimp only at hSw); go_simp) <;> with_reducible rfl
      try simp only [Act.put, List.setIfInBounds_toArray, List.set_cons_zero, List.set_cons_succ]
      refine wpAnyH_ready (rs := [2]) (by kernel_rfl) (by simp) ?_
      refine AllReadyH.cons (o := ?o2x3) ?i2x3 (fun K' hK => ?_) AllReadyH.nil
      case' i2x3 => simp only [List.getElem?_toArray, List.getElem?_cons_succ, List.getElem?_cons_zero]
      case i2x3 => rfl
      go_simp
      go_at_call 63
      refine (HWR.out _ (by assumption)).mono ?_
      rintro e W13 ⟨rfl, hb13⟩
      have hS13 : HeldX W B L.length K S N ja jb C xa dh kem W13 := HeldX.below hb13 (by assumption)
      clear hb13
      go_wp2_with fail
      refine hK.out _ _ hS13 (fun hHeld => ?_)
      clear hK K'
      try simp only [Act.put, List.setIfInBounds_toArray, List.set_cons_zero, List.set_cons_succ]
      refine wpAnyH_take (i := 3) (oi := ?o4) (v := ?v4) ?i4 (by kernel_rfl) (by kernel_rfl) (by kernel_rfl) ?q4 (Or.inl ⟨?w4, ?y4⟩) (by assumption) ?r4
      case' i4 => simp only [List.getElem?_toArray, List.getElem?_cons_succ, List.getElem?_cons_zero]
      case i4 => rfl
      case q4 => exact fun _ _ _ h => h
      case w4 => rfl
      case y4 => (intro w hSw; (try dsimp only at hSw); go_simp) <;> with_reducible rfl
      try simp only [Act.put, List.setIfInBounds_toArray, List.set_cons_zero, List.set_cons_succ]
      refine wpAnyH_take (i := 4) (oi := ?o5) (v := ?v5) ?i5 (by kernel_rfl) (by kernel_rfl) (by kernel_rfl) ?q5 (Or.inl ⟨?w5, ?y5⟩) (by assumption) ?r5
      case' i5 => simp only [List.getElem?_toArray, List.getElem?_cons_succ, List.getElem?_cons_zero]
      case i5 => rfl
      case q5 => exact fun _ _ _ h => h
      case w5 => rfl
      case y5 => (intro w hSw; (try dsimp only at hSw); go_simp) <;> with_reducible rfl
      try simp only [Act.put, List.setIfInBounds_toArray, List.set_cons_zero, List.set_cons_succ]
      refine wpAnyH_take (i := 5) (oi := ?o6) (v := ?v6) ?i6 (by kernel_rfl) (by kernel_rfl) (by kernel_rfl) ?q6 (Or.inl ⟨?w6, ?y6⟩) (by assumption) ?r6
      case' i6 => simp only [List.getElem?_toArray, List.getElem?_cons_succ, List.getElem?_cons_zero]
      case i6 => rfl
      case q6 => exact fun _ _ _ h => h
      case w6 => rfl
      case y6 => (intro w hSw; (try dsimp only at hSw); go_simp) <;> with_reducible rfl
      try simp only [Act.put, List.setIfInBounds_toArray, List.set_cons_zero, List.set_cons_succ]
      refine wpAnyH_take (i := 6) (oi := ?o7) (v := ?v7) ?i7 (by kernel_rfl) (by kernel_rfl) (by kernel_rfl) ?q7 (Or.inl ⟨?w7, ?y7⟩) (by assumption) ?r7
      case' i7 => simp only [List.getElem?_toArray, List.getElem?_cons_succ, List.getElem?_cons_zero]
      case i7 => rfl
      case q7 => exact fun _ _ _ h => h
      case w7 => rfl
      case y7 => (intro w hSw; (try dsimp only at hSw); go_simp) <;> with_reducible rfl
      try simp only [Act.put, List.setIfInBounds_toArray, List.set_cons_zero, List.set_cons_succ]
      refine wpAnyH_take (i := 7) (oi := ?o8) (v := ?v8) ?i8 (by kernel_rfl) (by kernel_rfl) (by kernel_rfl) ?q8 (Or.inl ⟨?w8, ?y8⟩) (by assumption) ?r8
      case' i8 => simp only [List.getElem?_toArray, List.getElem?_cons_succ, List.getElem?_cons_zero]
      case i8 => rfl
      case q8 => exact fun _ _ _ h => h
      case w8 => rfl
      case y8 => (intro w hSw; (try dsimp only at hSw); go_simp) <;> with_reducible rfl
      try simp only [Act.put, List.setIfInBounds_toArray, List.set_cons_zero, List.set_cons_succ]
      refine wpAnyH_take (i := 8) (oi := ?o9) (v := ?v9) ?i9 (by kernel_rfl) (by kernel_rfl) (by kernel_rfl) ?q9 (Or.inl ⟨?w9, ?y9⟩) (by assumption) ?r9
      case' i9 => simp only [List.getElem?_toArray, List.getElem?_cons_succ, List.getElem?_cons_zero]
      case i9 => rfl
      case q9 => exact fun _ _ _ h => h
      case w9 => rfl
      case y9 => (intro w hSw; (try dsimp only at hSw); go_simp) <;> with_reducible rfl
      try simp only [Act.put, List.setIfInBounds_toArray, List.set_cons_zero, List.set_cons_succ]
      refine wpAnyH_ready (rs := [9]) (by kernel_rfl) (by simp) ?_
      refine AllReadyH.cons (o := ?o9x10) ?i9x10 (fun K' hK => ?_) AllReadyH.nil
      case' i9x10 => simp only [List.getElem?_toArray, List.getElem?_cons_succ, List.getElem?_cons_zero]
      case i9x10 => rfl
      go_simp
      go_at_call 81
      refine (kbox_k _ _ _).mono ?_
      rintro e W13 ⟨rfl, hb13⟩
      have hS13 : HeldX W B L.length K S N ja jb C xa dh kem W13 := HeldX.below hb13 (by assumption)
      clear hb13
      go_wp2_with fail
      refine hK.out _ _ hS13 (fun hHeld => ?_)
      clear hK K'
      try simp only [Act.put, List.setIfInBounds_toArray, List.set_cons_zero, List.set_cons_succ]
      refine wpAnyH_ready (rs := [10]) (by kernel_rfl) (by simp) ?_
      refine AllReadyH.cons (o := ?o10x11) ?i10x11 (fun K' hK => ?_) AllReadyH.nil
      case' i10x11 => simp only [List.getElem?_toArray, List.getElem?_cons_succ, List.getElem?_cons_zero]
      case i10x11 => rfl
      go_simp
      go_at_call 78
      refine (HCP.out _ (by assumption)).mono ?_
      rintro e W13 ⟨rfl, hb13⟩
      have hS13 : HeldX W B L.length K S N ja jb C xa dh kem W13 := HeldX.below hb13 (by assumption)
      clear hb13
      go_wp2_with fail
      refine hK.out _ _ hS13 (fun hHeld => ?_)
      clear hK K'
      try simp only [Act.put, List.setIfInBounds_toArray, List.set_cons_zero, List.set_cons_succ]
      refine wpAnyH_take (i := 11) (oi := ?o12) (v := ?v12) ?i12 (by kernel_rfl) (by kernel_rfl) (by kernel_rfl) ?q12 (Or.inl ⟨?w12, ?y12⟩) (by assumption) ?r12
      case' i12 => simp only [List.getElem?_toArray, List.getElem?_cons_succ, List.getElem?_cons_zero]
      case i12 => rfl
      case q12 => exact fun _ _ _ h => h
      case w12 => rfl
      case y12 => (intro w hSw; (try dsimp only at hSw); go_simp) <;> with_reducible rfl
      try simp only [Act.put, List.setIfInBounds_toArray, List.set_cons_zero, List.set_cons_succ]
      refine wpAnyH_take (i := 12) (oi := ?o13) (v := undef) ?i13 (by kernel_rfl) (by kernel_rfl) (by kernel_rfl) ?q13 (Or.inr ⟨?w13, rfl⟩) (by assumption) ?r13
      case' i13 => simp only [List.getElem?_toArray, List.getElem?_cons_succ, List.getElem?_cons_zero]
      case i13 => rfl
      case q13 => exact fun _ _ _ h => h
      case w13 => rfl
      try simp only [Act.put, List.setIfInBounds_toArray, List.set_cons_zero, List.set_cons_succ]
      refine wpAnyH_take (i := 13) (oi := ?o14) (v := undef) ?i14 (by kernel_rfl) (by kernel_rfl) (by kernel_rfl) ?q14 (Or.inr ⟨?w14, rfl⟩) (by assumption) ?r14
      case' i14 => simp only [List.getElem?_toArray, List.getElem?_cons_succ, List.getElem?_cons_zero]
      case i14 => rfl
      case q14 => exact fun _ _ _ h => h
      case w14 => rfl
      try simp only [Act.put, List.setIfInBounds_toArray, List.set_cons_zero, List.set_cons_succ]
      refine wpAnyH_take (i := 14) (oi := ?o15) (v := undef) ?i15 (by kernel_rfl) (by kernel_rfl) (by kernel_rfl) ?q15 (Or.inr ⟨?w15, rfl⟩) (by assumption) ?r15
      case' i15 => simp only [List.getElem?_toArray, List.getElem?_cons_succ, List.getElem?_cons_zero]
      case i15 => rfl
      case q15 => exact fun _ _ _ h => h
      case w15 => rfl
      try simp only [Act.put, List.setIfInBounds_toArray, List.set_cons_zero, List.set_cons_succ]
      refine wpAnyH_take (i := 15) (oi := ?o16) (v := undef) ?i16 (by kernel_rfl) (by kernel_rfl) (by kernel_rfl) ?q16 (Or.inr ⟨?w16, rfl⟩) (by assumption) ?r16
      case' i16 => simp only [List.getElem?_toArray, List.getElem?_cons_succ, List.getElem?_cons_zero]
      case i16 => rfl
      case q16 => exact fun _ _ _ h => h
      case w16 => rfl
      try simp only [Act.put, List.setIfInBounds_toArray, List.set_cons_zero, List.set_cons_succ]
      refine wpAnyH_take (i := 16) (oi := ?o17) (v := undef) ?i17 (by kernel_rfl) (by kernel_rfl) (by kernel_rfl) ?q17 (Or.inr ⟨?w17, rfl⟩) (by assumption) ?r17
      case' i17 => simp only [List.getElem?_toArray, List.getElem?_cons_succ, List.getElem?_cons_zero]
      case i17 => rfl
      case q17 => exact fun _ _ _ h => h
      case w17 => rfl
      try simp only [Act.put, List.setIfInBounds_toArray, List.set_cons_zero, List.set_cons_succ]
      refine wpAnyH_take (i := 17) (oi := ?o18) (v := undef) ?i18 (by kernel_rfl) (by kernel_rfl) (by kernel_rfl) ?q18 (Or.inr ⟨?w18, rfl⟩) (by assumption) ?r18
      case' i18 => simp only [List.getElem?_toArray, List.getElem?_cons_succ, List.getElem?_cons_zero]
      case i18 => rfl
      case q18 => exact fun _ _ _ h => h
      case w18 => rfl
      try simp only [Act.put, List.setIfInBounds_toArray, List.set_cons_zero, List.set_cons_succ]
      refine wpAnyH_take (i := 18) (oi := ?o19) (v := undef) ?i19 (by kernel_rfl) (by kernel_rfl) (by kernel_rfl) ?q19 (Or.inr ⟨?w19, rfl⟩) (by assumption) ?r19
      case' i19 => simp only [List.getElem?_toArray, List.getElem?_cons_succ, List.getElem?_cons_zero]
      case i19 => rfl
      case q19 => exact fun _ _ _ h => h
      case w19 => rfl
      try simp only [Act.put, List.setIfInBounds_toArray, List.set_cons_zero, List.set_cons_succ]
      refine wpAnyH_take (i := 19) (oi := ?o20) (v := undef) ?i20 (by kernel_rfl) (by kernel_rfl) (by kernel_rfl) ?q20 (Or.inr ⟨?w20, rfl⟩) (by assumption) ?r20
      case' i20 => simp only [List.getElem?_toArray, List.getElem?_cons_succ, List.getElem?_cons_zero]
      case i20 => rfl
      case q20 => exact fun _ _ _ h => h
      case w20 => rfl
      try simp only [Act.put, List.setIfInBounds_toArray, List.set_cons_zero, List.set_cons_succ]
      refine wpAnyH_take (i := 20) (oi := ?o21) (v := undef) ?i21 (by kernel_rfl) (by kernel_rfl) (by kernel_rfl) ?q21 (Or.inr ⟨?w21, rfl⟩) (by assumption) ?r21
      case' i21 => simp only [List.getElem?_toArray, List.getElem?_cons_succ, List.getElem?_cons_zero]
      case i21 => rfl
      case q21 => exact fun _ _ _ h => h
      case w21 => rfl
      try simp only [Act.put, List.setIfInBounds_toArray, List.set_cons_zero, List.set_cons_succ]
      refine wpAnyH_take (i := 21) (oi := ?o22) (v := undef) ?i22 (by kernel_rfl) (by kernel_rfl) (by kernel_rfl) ?q22 (Or.inr ⟨?w22, rfl⟩) (by assumption) ?r22
      case' i22 => simp only [List.getElem?_toArray, List.getElem?_cons_succ, List.getElem?_cons_zero]
      case i22 => rfl
      case q22 => exact fun _ _ _ h => h
      case w22 => rfl
      try simp only [Act.put, List.setIfInBounds_toArray, List.set_cons_zero, List.set_cons_succ]
      refine wpAnyH_take (i := 22) (oi := ?o23) (v := undef) ?i23 (by kernel_rfl) (by kernel_rfl) (by kernel_rfl) ?q23 (Or.inr ⟨?w23, rfl⟩) (by assumption) ?r23
      case' i23 => simp only [List.getElem?_toArray, List.getElem?_cons_succ, List.getElem?_cons_zero]
      case i23 => rfl
      case q23 => exact fun _ _ _ h => h
      case w23 => rfl
      try simp only [Act.put, List.setIfInBounds_toArray, List.set_cons_zero, List.set_cons_succ]
      refine wpAnyH_take (i := 23) (oi := ?o24) (v := undef) ?i24 (by kernel_rfl) (by kernel_rfl) (by kernel_rfl) ?q24 (Or.inr ⟨?w24, rfl⟩) (by assumption) ?r24
      case' i24 => simp only [List.getElem?_toArray, List.getElem?_cons_succ, List.getElem?_cons_zero]
      case i24 => rfl
      case q24 => exact fun _ _ _ h => h
      case w24 => rfl
      try simp only [Act.put, List.setIfInBounds_toArray, List.set_cons_zero, List.set_cons_succ]
      refine wpAnyH_take (i := 24) (oi := ?o25) (v := undef) ?i25 (by kernel_rfl) (by kernel_rfl) (by kernel_rfl) ?q25 (Or.inr ⟨?w25, rfl⟩) (by assumption) ?r25
      case' i25 => simp only [List.getElem?_toArray, List.getElem?_cons_succ, List.getElem?_cons_zero]
      case i25 => rfl
      case q25 => exact fun _ _ _ h => h
      case w25 => rfl
      try simp only [Act.put, List.setIfInBounds_toArray, List.set_cons_zero, List.set_cons_succ]
      refine wpAnyH_take (i := 25) (oi := ?o26) (v := undef) ?i26 (by kernel_rfl) (by kernel_rfl) (by kernel_rfl) ?q26 (Or.inr ⟨?w26, rfl⟩) (by assumption) ?r26
      case' i26 => simp only [List.getElem?_toArray, List.getElem?_cons_succ, List.getElem?_cons_zero]
      case i26 => rfl
      case q26 => exact fun _ _ _ h => h
      case w26 => rfl
      try simp only [Act.put, List.setIfInBounds_toArray, List.set_cons_zero, List.set_cons_succ]
      refine wpAnyH_take (i := 26) (oi := ?o27) (v := undef) ?i27 (by kernel_rfl) (by kernel_rfl) (by kernel_rfl) ?q27 (Or.inr ⟨?w27, rfl⟩) (by assumption) ?r27
      case' i27 => simp only [List.getElem?_toArray, List.getElem?_cons_succ, List.getElem?_cons_zero]
      case i27 => rfl
      case q27 => exact fun _ _ _ h => h
      case w27 => rfl
      try simp only [Act.put, List.setIfInBounds_toArray, List.set_cons_zero, List.set_cons_succ]
      refine wpAnyH_take (i := 27) (oi := ?o28) (v := ?v28) ?i28 (by kernel_rfl) (by kernel_rfl) (by kernel_rfl) ?q28 (Or.inl ⟨?w28, ?y28⟩) (by assumption) ?r28
      case' i28 => simp only [List.getElem?_toArray, List.getElem?_cons_succ, List.getElem?_cons_zero]
      case i28 => rfl
      case q28 => exact fun _ _ _ h => h
      case w28 => rfl
      case y28 => (intro w hSw; (try dsimp only at hSw); go_simp) <;> with_reducible rfl
      try simp only [Act.put, List.setIfInBounds_toArray, List.set_cons_zero, List.set_cons_succ]
      refine wpAnyH_take (i := 28) (oi := ?o29) (v := ?v29) ?i29 (by kernel_rfl) (by kernel_rfl) (by kernel_rfl) ?q29 (Or.inl ⟨?w29, ?y29⟩) (by assumption) ?r29
      case' i29 => simp only [List.getElem?_toArray, List.getElem?_cons_succ, List.getElem?_cons_zero]
      case i29 => rfl
      case q29 => exact fun _ _ _ h => h
      case w29 => rfl
      case y29 => (intro w hSw; (try dsimp only at hSw); go_simp) <;> with_reducible rfl
      try simp only [Act.put, List.setIfInBounds_toArray, List.set_cons_zero, List.set_cons_succ]
      refine wpAnyH_take (i := 29) (oi := ?o30) (v := ?v30) ?i30 (by kernel_rfl) (by kernel_rfl) (by kernel_rfl) ?q30 (Or.inl ⟨?w30, ?y30⟩) (by assumption) ?r30
      case' i30 => simp only [List.getElem?_toArray, List.getElem?_cons_succ, List.getElem?_cons_zero]
      case i30 => rfl
      case q30 => exact fun _ _ _ h => h
      case w30 => rfl
      case y30 => (intro w hSw; (try dsimp only at hSw); go_simp) <;> with_reducible rfl
      try simp only [Act.put, List.setIfInBounds_toArray, List.set_cons_zero, List.set_cons_succ]
      refine wpAnyH_done (by kernel_rfl) ?_ _
      obtain ⟨_, _, _, _, _, _, _, _, _, _, HB3⟩ := hHeld
      go_wp2
      go_ret
      exact ⟨rfl, HB3.out⟩
    · cases xa
      · go_enter Try.func64, Try.ntmps64
        go_wp2
        rw [← hW1]
        clear hW1
        refine wp_region_held_drew (S := (fun w' => w'.cell? ⟨W.heap.size, 0, none⟩ = some (.int .i64 K) ∧ w'.cell? ⟨W.heap.size, 1, none⟩ = some (.string S) ∧ w'.cell? ⟨W.heap.size, 2, none⟩ = some (.int .u64 N) ∧ w'.cell? ⟨W.heap.size, 3, none⟩ = some (.int .i64 (ja : Int)) ∧ w'.cell? ⟨W.heap.size, 4, none⟩ = some (.int .i64 (jb : Int)) ∧ w'.cell? ⟨W.heap.size, 5, none⟩ = some (.int .i64 C) ∧ w'.cell? ⟨B.m, 15, none⟩ = some (.slice (some ⟨B.c, 0, none⟩) (L.length + 1) (L.length + 1)) ∧ w'.cell? ⟨B.c, ja, none⟩ = some (.bool false) ∧ w'.cell? ⟨B.m, 1, none⟩ = some (.bool dh) ∧ w'.cell? ⟨B.m, 2, none⟩ = some (.bool kem) ∧ Hid (Below W.heap.size W w'))) (by kernel_rfl) hS2 (fun hHeld => ?_)
        refine wpAnyH_take (i := 0) (oi := ?o31) (v := ?v31) ?i31 (by kernel_rfl) (by kernel_rfl) (by kernel_rfl) ?q31 (Or.inl ⟨?w31, ?y31⟩) (by assumption) ?r31
        case' i31 => simp only [List.getElem?_toArray, List.getElem?_cons_succ, List.getElem?_cons_zero]
        case i31 => rfl
        case q31 => exact fun _ _ _ h => h
        case w31 => rfl
        case y31 => (intro w hSw; (try dsimp only at hSw); go_simp) <;> with_reducible rfl
        try simp only [Act.put, List.setIfInBounds_toArray, List.set_cons_zero, List.set_cons_succ]
        refine wpAnyH_take (i := 1) (oi := ?o32) (v := ?v32) ?i32 (by kernel_rfl) (by kernel_rfl) (by kernel_rfl) ?q32 (Or.inl ⟨?w32, ?y32⟩) (by assumption) ?r32
        case' i32 => simp only [List.getElem?_toArray, List.getElem?_cons_succ, List.getElem?_cons_zero]
        case i32 => rfl
        case q32 => exact fun _ _ _ h => h
        case w32 => rfl
        case y32 => (intro w hSw; (try dsimp only at hSw); go_simp) <;> with_reducible rfl
        try simp only [Act.put, List.setIfInBounds_toArray, List.set_cons_zero, List.set_cons_succ]
        refine wpAnyH_ready (rs := [2]) (by kernel_rfl) (by simp) ?_
        refine AllReadyH.cons (o := ?o2x33) ?i2x33 (fun K' hK => ?_) AllReadyH.nil
        case' i2x33 => simp only [List.getElem?_toArray, List.getElem?_cons_succ, List.getElem?_cons_zero]
        case i2x33 => rfl
        go_simp
        go_at_call 63
        refine (HWR.out _ (by assumption)).mono ?_
        rintro e W13 ⟨rfl, hb13⟩
        have hS13 : HeldX W B L.length K S N ja jb C false dh kem W13 := HeldX.below hb13 (by assumption)
        clear hb13
        go_wp2_with fail
        refine hK.out _ _ hS13 (fun hHeld => ?_)
        clear hK K'
        try simp only [Act.put, List.setIfInBounds_toArray, List.set_cons_zero, List.set_cons_succ]
        refine wpAnyH_take (i := 3) (oi := ?o34) (v := ?v34) ?i34 (by kernel_rfl) (by kernel_rfl) (by kernel_rfl) ?q34 (Or.inl ⟨?w34, ?y34⟩) (by assumption) ?r34
        case' i34 => simp only [List.getElem?_toArray, List.getElem?_cons_succ, List.getElem?_cons_zero]
        case i34 => rfl
        case q34 => exact fun _ _ _ h => h
        case w34 => rfl
        case y34 => (intro w hSw; (try dsimp only at hSw); go_simp) <;> with_reducible rfl
        try simp only [Act.put, List.setIfInBounds_toArray, List.set_cons_zero, List.set_cons_succ]
        refine wpAnyH_take (i := 4) (oi := ?o35) (v := ?v35) ?i35 (by kernel_rfl) (by kernel_rfl) (by kernel_rfl) ?q35 (Or.inl ⟨?w35, ?y35⟩) (by assumption) ?r35
        case' i35 => simp only [List.getElem?_toArray, List.getElem?_cons_succ, List.getElem?_cons_zero]
        case i35 => rfl
        case q35 => exact fun _ _ _ h => h
        case w35 => rfl
        case y35 => (intro w hSw; (try dsimp only at hSw); go_simp) <;> with_reducible rfl
        try simp only [Act.put, List.setIfInBounds_toArray, List.set_cons_zero, List.set_cons_succ]
        refine wpAnyH_take (i := 5) (oi := ?o36) (v := ?v36) ?i36 (by kernel_rfl) (by kernel_rfl) (by kernel_rfl) ?q36 (Or.inl ⟨?w36, ?y36⟩) (by assumption) ?r36
        case' i36 => simp only [List.getElem?_toArray, List.getElem?_cons_succ, List.getElem?_cons_zero]
        case i36 => rfl
        case q36 => exact fun _ _ _ h => h
        case w36 => rfl
        case y36 => (intro w hSw; (try dsimp only at hSw); go_simp) <;> with_reducible rfl
        try simp only [Act.put, List.setIfInBounds_toArray, List.set_cons_zero, List.set_cons_succ]
        refine wpAnyH_take (i := 6) (oi := ?o37) (v := ?v37) ?i37 (by kernel_rfl) (by kernel_rfl) (by kernel_rfl) ?q37 (Or.inl ⟨?w37, ?y37⟩) (by assumption) ?r37
        case' i37 => simp only [List.getElem?_toArray, List.getElem?_cons_succ, List.getElem?_cons_zero]
        case i37 => rfl
        case q37 => exact fun _ _ _ h => h
        case w37 => rfl
        case y37 => (intro w hSw; (try dsimp only at hSw); go_simp) <;> with_reducible rfl
        try simp only [Act.put, List.setIfInBounds_toArray, List.set_cons_zero, List.set_cons_succ]
        refine wpAnyH_take (i := 7) (oi := ?o38) (v := ?v38) ?i38 (by kernel_rfl) (by kernel_rfl) (by kernel_rfl) ?q38 (Or.inl ⟨?w38, ?y38⟩) (by assumption) ?r38
        case' i38 => simp only [List.getElem?_toArray, List.getElem?_cons_succ, List.getElem?_cons_zero]
        case i38 => rfl
        case q38 => exact fun _ _ _ h => h
        case w38 => rfl
        case y38 => (intro w hSw; (try dsimp only at hSw); go_simp) <;> with_reducible rfl
        try simp only [Act.put, List.setIfInBounds_toArray, List.set_cons_zero, List.set_cons_succ]
        refine wpAnyH_take (i := 8) (oi := ?o39) (v := ?v39) ?i39 (by kernel_rfl) (by kernel_rfl) (by kernel_rfl) ?q39 (Or.inl ⟨?w39, ?y39⟩) (by assumption) ?r39
        case' i39 => simp only [List.getElem?_toArray, List.getElem?_cons_succ, List.getElem?_cons_zero]
        case i39 => rfl
        case q39 => exact fun _ _ _ h => h
        case w39 => rfl
        case y39 => (intro w hSw; (try dsimp only at hSw); go_simp) <;> with_reducible rfl
        try simp only [Act.put, List.setIfInBounds_toArray, List.set_cons_zero, List.set_cons_succ]
        refine wpAnyH_ready (rs := [9]) (by kernel_rfl) (by simp) ?_
        refine AllReadyH.cons (o := ?o9x40) ?i9x40 (fun K' hK => ?_) AllReadyH.nil
        case' i9x40 => simp only [List.getElem?_toArray, List.getElem?_cons_succ, List.getElem?_cons_zero]
        case i9x40 => rfl
        go_simp
        go_at_call 81
        refine (kbox_k _ _ _).mono ?_
        rintro e W13 ⟨rfl, hb13⟩
        have hS13 : HeldX W B L.length K S N ja jb C false dh kem W13 := HeldX.below hb13 (by assumption)
        clear hb13
        go_wp2_with fail
        refine hK.out _ _ hS13 (fun hHeld => ?_)
        clear hK K'
        try simp only [Act.put, List.setIfInBounds_toArray, List.set_cons_zero, List.set_cons_succ]
        refine wpAnyH_ready (rs := [10]) (by kernel_rfl) (by simp) ?_
        refine AllReadyH.cons (o := ?o10x41) ?i10x41 (fun K' hK => ?_) AllReadyH.nil
        case' i10x41 => simp only [List.getElem?_toArray, List.getElem?_cons_succ, List.getElem?_cons_zero]
        case i10x41 => rfl
        go_simp
        go_at_call 78
        refine (HCP.out _ (by assumption)).mono ?_
        rintro e W13 ⟨rfl, hb13⟩
        have hS13 : HeldX W B L.length K S N ja jb C false dh kem W13 := HeldX.below hb13 (by assumption)
        clear hb13
        go_wp2_with fail
        refine hK.out _ _ hS13 (fun hHeld => ?_)
        clear hK K'
        try simp only [Act.put, List.setIfInBounds_toArray, List.set_cons_zero, List.set_cons_succ]
        refine wpAnyH_take (i := 11) (oi := ?o42) (v := ?v42) ?i42 (by kernel_rfl) (by kernel_rfl) (by kernel_rfl) ?q42 (Or.inl ⟨?w42, ?y42⟩) (by assumption) ?r42
        case' i42 => simp only [List.getElem?_toArray, List.getElem?_cons_succ, List.getElem?_cons_zero]
        case i42 => rfl
        case q42 => exact fun _ _ _ h => h
        case w42 => rfl
        case y42 => (intro w hSw; (try dsimp only at hSw); go_simp) <;> with_reducible rfl
        try simp only [Act.put, List.setIfInBounds_toArray, List.set_cons_zero, List.set_cons_succ]
        refine wpAnyH_take (i := 12) (oi := ?o43) (v := ?v43) ?i43 (by kernel_rfl) (by kernel_rfl) (by kernel_rfl) ?q43 (Or.inl ⟨?w43, ?y43⟩) (by assumption) ?r43
        case' i43 => simp only [List.getElem?_toArray, List.getElem?_cons_succ, List.getElem?_cons_zero]
        case i43 => rfl
        case q43 => exact fun _ _ _ h => h
        case w43 => rfl
        case y43 => (intro w hSw; (try dsimp only at hSw); go_simp) <;> with_reducible rfl
        try simp only [Act.put, List.setIfInBounds_toArray, List.set_cons_zero, List.set_cons_succ]
        refine wpAnyH_take (i := 13) (oi := ?o44) (v := ?v44) ?i44 (by kernel_rfl) (by kernel_rfl) (by kernel_rfl) ?q44 (Or.inl ⟨?w44, ?y44⟩) (by assumption) ?r44
        case' i44 => simp only [List.getElem?_toArray, List.getElem?_cons_succ, List.getElem?_cons_zero]
        case i44 => rfl
        case q44 => exact fun _ _ _ h => h
        case w44 => rfl
        case y44 => (intro w hSw; (try dsimp only at hSw); go_simp) <;> with_reducible rfl
        try simp only [Act.put, List.setIfInBounds_toArray, List.set_cons_zero, List.set_cons_succ]
        refine wpAnyH_take (i := 14) (oi := ?o45) (v := ?v45) ?i45 (by kernel_rfl) (by kernel_rfl) (by kernel_rfl) ?q45 (Or.inl ⟨?w45, ?y45⟩) (by assumption) ?r45
        case' i45 => simp only [List.getElem?_toArray, List.getElem?_cons_succ, List.getElem?_cons_zero]
        case i45 => rfl
        case q45 => exact fun _ _ _ h => h
        case w45 => rfl
        case y45 => (intro w hSw; (try dsimp only at hSw); go_simp) <;> with_reducible rfl
        try simp only [Act.put, List.setIfInBounds_toArray, List.set_cons_zero, List.set_cons_succ]
        refine wpAnyH_take (i := 15) (oi := ?o46) (v := ?v46) ?i46 (by kernel_rfl) (by kernel_rfl) (by kernel_rfl) ?q46 (Or.inl ⟨?w46, ?y46⟩) (by assumption) ?r46
        case' i46 => simp only [List.getElem?_toArray, List.getElem?_cons_succ, List.getElem?_cons_zero]
        case i46 => rfl
        case q46 => exact fun _ _ _ h => h
        case w46 => rfl
        case y46 => (intro w hSw; (try dsimp only at hSw); go_simp) <;> with_reducible rfl
        try simp only [Act.put, List.setIfInBounds_toArray, List.set_cons_zero, List.set_cons_succ]
        refine wpAnyH_take (i := 16) (oi := ?o47) (v := ?v47) ?i47 (by kernel_rfl) (by kernel_rfl) (by kernel_rfl) ?q47 (Or.inl ⟨?w47, ?y47⟩) (by assumption) ?r47
        case' i47 => simp only [List.getElem?_toArray, List.getElem?_cons_succ, List.getElem?_cons_zero]
        case i47 => rfl
        case q47 => exact fun _ _ _ h => h
        case w47 => rfl
        case y47 => (intro w hSw; (try dsimp only at hSw); go_simp) <;> with_reducible rfl
        try simp only [Act.put, List.setIfInBounds_toArray, List.set_cons_zero, List.set_cons_succ]
        refine wpAnyH_take (i := 17) (oi := ?o48) (v := ?v48) ?i48 (by kernel_rfl) (by kernel_rfl) (by kernel_rfl) ?q48 (Or.inl ⟨?w48, ?y48⟩) (by assumption) ?r48
        case' i48 => simp only [List.getElem?_toArray, List.getElem?_cons_succ, List.getElem?_cons_zero]
        case i48 => rfl
        case q48 => exact fun _ _ _ h => h
        case w48 => rfl
        case y48 => (intro w hSw; (try dsimp only at hSw); go_simp) <;> with_reducible rfl
        try simp only [Act.put, List.setIfInBounds_toArray, List.set_cons_zero, List.set_cons_succ]
        refine wpAnyH_take (i := 18) (oi := ?o49) (v := ?v49) ?i49 (by kernel_rfl) (by kernel_rfl) (by kernel_rfl) ?q49 (Or.inl ⟨?w49, ?y49⟩) (by assumption) ?r49
        case' i49 => simp only [List.getElem?_toArray, List.getElem?_cons_succ, List.getElem?_cons_zero]
        case i49 => rfl
        case q49 => exact fun _ _ _ h => h
        case w49 => rfl
        case y49 => (intro w hSw; (try dsimp only at hSw); go_simp) <;> with_reducible rfl
        try simp only [Act.put, List.setIfInBounds_toArray, List.set_cons_zero, List.set_cons_succ]
        refine wpAnyH_take (i := 19) (oi := ?o50) (v := ?v50) ?i50 (by kernel_rfl) (by kernel_rfl) (by kernel_rfl) ?q50 (Or.inl ⟨?w50, ?y50⟩) (by assumption) ?r50
        case' i50 => simp only [List.getElem?_toArray, List.getElem?_cons_succ, List.getElem?_cons_zero]
        case i50 => rfl
        case q50 => exact fun _ _ _ h => h
        case w50 => rfl
        case y50 => (intro w hSw; (try dsimp only at hSw); go_simp) <;> with_reducible rfl
        try simp only [Act.put, List.setIfInBounds_toArray, List.set_cons_zero, List.set_cons_succ]
        refine wpAnyH_take (i := 20) (oi := ?o51) (v := ?v51) ?i51 (by kernel_rfl) (by kernel_rfl) (by kernel_rfl) ?q51 (Or.inl ⟨?w51, ?y51⟩) (by assumption) ?r51
        case' i51 => simp only [List.getElem?_toArray, List.getElem?_cons_succ, List.getElem?_cons_zero]
        case i51 => rfl
        case q51 => exact fun _ _ _ h => h
        case w51 => rfl
        case y51 => (intro w hSw; (try dsimp only at hSw); go_simp) <;> with_reducible rfl
        try simp only [Act.put, List.setIfInBounds_toArray, List.set_cons_zero, List.set_cons_succ]
        refine wpAnyH_take (i := 21) (oi := ?o52) (v := ?v52) ?i52 (by kernel_rfl) (by kernel_rfl) (by kernel_rfl) ?q52 (Or.inl ⟨?w52, ?y52⟩) (by assumption) ?r52
        case' i52 => simp only [List.getElem?_toArray, List.getElem?_cons_succ, List.getElem?_cons_zero]
        case i52 => rfl
        case q52 => exact fun _ _ _ h => h
        case w52 => rfl
        case y52 => (intro w hSw; (try dsimp only at hSw); go_simp) <;> with_reducible rfl
        try simp only [Act.put, List.setIfInBounds_toArray, List.set_cons_zero, List.set_cons_succ]
        refine wpAnyH_take (i := 22) (oi := ?o53) (v := ?v53) ?i53 (by kernel_rfl) (by kernel_rfl) (by kernel_rfl) ?q53 (Or.inl ⟨?w53, ?y53⟩) (by assumption) ?r53
        case' i53 => simp only [List.getElem?_toArray, List.getElem?_cons_succ, List.getElem?_cons_zero]
        case i53 => rfl
        case q53 => exact fun _ _ _ h => h
        case w53 => rfl
        case y53 => (intro w hSw; (try dsimp only at hSw); go_simp) <;> with_reducible rfl
        try simp only [Act.put, List.setIfInBounds_toArray, List.set_cons_zero, List.set_cons_succ]
        refine wpAnyH_take (i := 23) (oi := ?o54) (v := ?v54) ?i54 (by kernel_rfl) (by kernel_rfl) (by kernel_rfl) ?q54 (Or.inl ⟨?w54, ?y54⟩) (by assumption) ?r54
        case' i54 => simp only [List.getElem?_toArray, List.getElem?_cons_succ, List.getElem?_cons_zero]
        case i54 => rfl
        case q54 => exact fun _ _ _ h => h
        case w54 => rfl
        case y54 => (intro w hSw; (try dsimp only at hSw); go_simp) <;> with_reducible rfl
        try simp only [Act.put, List.setIfInBounds_toArray, List.set_cons_zero, List.set_cons_succ]
        refine wpAnyH_take (i := 24) (oi := ?o55) (v := ?v55) ?i55 (by kernel_rfl) (by kernel_rfl) (by kernel_rfl) ?q55 (Or.inl ⟨?w55, ?y55⟩) (by assumption) ?r55
        case' i55 => simp only [List.getElem?_toArray, List.getElem?_cons_succ, List.getElem?_cons_zero]
        case i55 => rfl
        case q55 => exact fun _ _ _ h => h
        case w55 => rfl
        case y55 => (intro w hSw; (try dsimp only at hSw); go_simp) <;> with_reducible rfl
        try simp only [Act.put, List.setIfInBounds_toArray, List.set_cons_zero, List.set_cons_succ]
        refine wpAnyH_take (i := 25) (oi := ?o56) (v := ?v56) ?i56 (by kernel_rfl) (by kernel_rfl) (by kernel_rfl) ?q56 (Or.inl ⟨?w56, ?y56⟩) (by assumption) ?r56
        case' i56 => simp only [List.getElem?_toArray, List.getElem?_cons_succ, List.getElem?_cons_zero]
        case i56 => rfl
        case q56 => exact fun _ _ _ h => h
        case w56 => rfl
        case y56 => (intro w hSw; (try dsimp only at hSw); go_simp) <;> with_reducible rfl
        try simp only [Act.put, List.setIfInBounds_toArray, List.set_cons_zero, List.set_cons_succ]
        refine wpAnyH_take (i := 26) (oi := ?o57) (v := ?v57) ?i57 (by kernel_rfl) (by kernel_rfl) (by kernel_rfl) ?q57 (Or.inl ⟨?w57, ?y57⟩) (by assumption) ?r57
        case' i57 => simp only [List.getElem?_toArray, List.getElem?_cons_succ, List.getElem?_cons_zero]
        case i57 => rfl
        case q57 => exact fun _ _ _ h => h
        case w57 => rfl
        case y57 => (intro w hSw; (try dsimp only at hSw); go_simp) <;> with_reducible rfl
        try simp only [Act.put, List.setIfInBounds_toArray, List.set_cons_zero, List.set_cons_succ]
        refine wpAnyH_take (i := 27) (oi := ?o58) (v := ?v58) ?i58 (by kernel_rfl) (by kernel_rfl) (by kernel_rfl) ?q58 (Or.inl ⟨?w58, ?y58⟩) (by assumption) ?r58
        case' i58 => simp only [List.getElem?_toArray, List.getElem?_cons_succ, List.getElem?_cons_zero]
        case i58 => rfl
        case q58 => exact fun _ _ _ h => h
        case w58 => rfl
        case y58 => (intro w hSw; (try dsimp only at hSw); go_simp) <;> with_reducible rfl
        try simp only [Act.put, List.setIfInBounds_toArray, List.set_cons_zero, List.set_cons_succ]
        refine wpAnyH_take (i := 28) (oi := ?o59) (v := ?v59) ?i59 (by kernel_rfl) (by kernel_rfl) (by kernel_rfl) ?q59 (Or.inl ⟨?w59, ?y59⟩) (by assumption) ?r59
        case' i59 => simp only [List.getElem?_toArray, List.getElem?_cons_succ, List.getElem?_cons_zero]
        case i59 => rfl
        case q59 => exact fun _ _ _ h => h
        case w59 => rfl
        case y59 => (intro w hSw; (try dsimp only at hSw); go_simp) <;> with_reducible rfl
        try simp only [Act.put, List.setIfInBounds_toArray, List.set_cons_zero, List.set_cons_succ]
        refine wpAnyH_take (i := 29) (oi := ?o60) (v := ?v60) ?i60 (by kernel_rfl) (by kernel_rfl) (by kernel_rfl) ?q60 (Or.inl ⟨?w60, ?y60⟩) (by assumption) ?r60
        case' i60 => simp only [List.getElem?_toArray, List.getElem?_cons_succ, List.getElem?_cons_zero]
        case i60 => rfl
        case q60 => exact fun _ _ _ h => h
        case w60 => rfl
        case y60 => (intro w hSw; (try dsimp only at hSw); go_simp) <;> with_reducible rfl
        try simp only [Act.put, List.setIfInBounds_toArray, List.set_cons_zero, List.set_cons_succ]
        refine wpAnyH_done (by kernel_rfl) ?_ _
        obtain ⟨_, _, _, _, _, _, _, _, _, _, HB3⟩ := hHeld
        go_wp2
        go_ret
        exact ⟨rfl, HB3.out⟩
      · go_enter Try.func64, Try.ntmps64
        go_wp2
        rw [← hW1]
        clear hW1
        refine wp_region_held_drew (S := (fun w' => w'.cell? ⟨W.heap.size, 0, none⟩ = some (.int .i64 K) ∧ w'.cell? ⟨W.heap.size, 1, none⟩ = some (.string S) ∧ w'.cell? ⟨W.heap.size, 2, none⟩ = some (.int .u64 N) ∧ w'.cell? ⟨W.heap.size, 3, none⟩ = some (.int .i64 (ja : Int)) ∧ w'.cell? ⟨W.heap.size, 4, none⟩ = some (.int .i64 (jb : Int)) ∧ w'.cell? ⟨W.heap.size, 5, none⟩ = some (.int .i64 C) ∧ w'.cell? ⟨B.m, 15, none⟩ = some (.slice (some ⟨B.c, 0, none⟩) (L.length + 1) (L.length + 1)) ∧ w'.cell? ⟨B.c, ja, none⟩ = some (.bool true) ∧ w'.cell? ⟨B.m, 1, none⟩ = some (.bool dh) ∧ w'.cell? ⟨B.m, 2, none⟩ = some (.bool kem) ∧ Hid (Below W.heap.size W w'))) (by kernel_rfl) hS2 (fun hHeld => ?_)
        refine wpAnyH_take (i := 0) (oi := ?o61) (v := ?v61) ?i61 (by kernel_rfl) (by kernel_rfl) (by kernel_rfl) ?q61 (Or.inl ⟨?w61, ?y61⟩) (by assumption) ?r61
        case' i61 => simp only [List.getElem?_toArray, List.getElem?_cons_succ, List.getElem?_cons_zero]
        case i61 => rfl
        case q61 => exact fun _ _ _ h => h
        case w61 => rfl
        case y61 => (intro w hSw; (try dsimp only at hSw); go_simp) <;> with_reducible rfl
        try simp only [Act.put, List.setIfInBounds_toArray, List.set_cons_zero, List.set_cons_succ]
        refine wpAnyH_take (i := 1) (oi := ?o62) (v := ?v62) ?i62 (by kernel_rfl) (by kernel_rfl) (by kernel_rfl) ?q62 (Or.inl ⟨?w62, ?y62⟩) (by assumption) ?r62
        case' i62 => simp only [List.getElem?_toArray, List.getElem?_cons_succ, List.getElem?_cons_zero]
        case i62 => rfl
        case q62 => exact fun _ _ _ h => h
        case w62 => rfl
        case y62 => (intro w hSw; (try dsimp only at hSw); go_simp) <;> with_reducible rfl
        try simp only [Act.put, List.setIfInBounds_toArray, List.set_cons_zero, List.set_cons_succ]
        refine wpAnyH_ready (rs := [2]) (by kernel_rfl) (by simp) ?_
        refine AllReadyH.cons (o := ?o2x63) ?i2x63 (fun K' hK => ?_) AllReadyH.nil
        case' i2x63 => simp only [List.getElem?_toArray, List.getElem?_cons_succ, List.getElem?_cons_zero]
        case i2x63 => rfl
        go_simp
        go_at_call 63
        refine (HWR.out _ (by assumption)).mono ?_
        rintro e W13 ⟨rfl, hb13⟩
        have hS13 : HeldX W B L.length K S N ja jb C true dh kem W13 := HeldX.below hb13 (by assumption)
        clear hb13
        go_wp2_with fail
        refine hK.out _ _ hS13 (fun hHeld => ?_)
        clear hK K'
        try simp only [Act.put, List.setIfInBounds_toArray, List.set_cons_zero, List.set_cons_succ]
        refine wpAnyH_take (i := 3) (oi := ?o64) (v := ?v64) ?i64 (by kernel_rfl) (by kernel_rfl) (by kernel_rfl) ?q64 (Or.inl ⟨?w64, ?y64⟩) (by assumption) ?r64
        case' i64 => simp only [List.getElem?_toArray, List.getElem?_cons_succ, List.getElem?_cons_zero]
        case i64 => rfl
        case q64 => exact fun _ _ _ h => h
        case w64 => rfl
        case y64 => (intro w hSw; (try dsimp only at hSw); go_simp) <;> with_reducible rfl
        try simp only [Act.put, List.setIfInBounds_toArray, List.set_cons_zero, List.set_cons_succ]
        refine wpAnyH_take (i := 4) (oi := ?o65) (v := ?v65) ?i65 (by kernel_rfl) (by kernel_rfl) (by kernel_rfl) ?q65 (Or.inl ⟨?w65, ?y65⟩) (by assumption) ?r65
        case' i65 => simp only [List.getElem?_toArray, List.getElem?_cons_succ, List.getElem?_cons_zero]
        case i65 => rfl
        case q65 => exact fun _ _ _ h => h
        case w65 => rfl
        case y65 => (intro w hSw; (try dsimp only at hSw); go_simp) <;> with_reducible rfl
        try simp only [Act.put, List.setIfInBounds_toArray, List.set_cons_zero, List.set_cons_succ]
        refine wpAnyH_take (i := 5) (oi := ?o66) (v := ?v66) ?i66 (by kernel_rfl) (by kernel_rfl) (by kernel_rfl) ?q66 (Or.inl ⟨?w66, ?y66⟩) (by assumption) ?r66
        case' i66 => simp only [List.getElem?_toArray, List.getElem?_cons_succ, List.getElem?_cons_zero]
        case i66 => rfl
        case q66 => exact fun _ _ _ h => h
        case w66 => rfl
        case y66 => (intro w hSw; (try dsimp only at hSw); go_simp) <;> with_reducible rfl
        try simp only [Act.put, List.setIfInBounds_toArray, List.set_cons_zero, List.set_cons_succ]
        refine wpAnyH_take (i := 6) (oi := ?o67) (v := ?v67) ?i67 (by kernel_rfl) (by kernel_rfl) (by kernel_rfl) ?q67 (Or.inl ⟨?w67, ?y67⟩) (by assumption) ?r67
        case' i67 => simp only [List.getElem?_toArray, List.getElem?_cons_succ, List.getElem?_cons_zero]
        case i67 => rfl
        case q67 => exact fun _ _ _ h => h
        case w67 => rfl
        case y67 => (intro w hSw; (try dsimp only at hSw); go_simp) <;> with_reducible rfl
        try simp only [Act.put, List.setIfInBounds_toArray, List.set_cons_zero, List.set_cons_succ]
        refine wpAnyH_take (i := 7) (oi := ?o68) (v := ?v68) ?i68 (by kernel_rfl) (by kernel_rfl) (by kernel_rfl) ?q68 (Or.inl ⟨?w68, ?y68⟩) (by assumption) ?r68
        case' i68 => simp only [List.getElem?_toArray, List.getElem?_cons_succ, List.getElem?_cons_zero]
        case i68 => rfl
        case q68 => exact fun _ _ _ h => h
        case w68 => rfl
        case y68 => (intro w hSw; (try dsimp only at hSw); go_simp) <;> with_reducible rfl
        try simp only [Act.put, List.setIfInBounds_toArray, List.set_cons_zero, List.set_cons_succ]
        refine wpAnyH_take (i := 8) (oi := ?o69) (v := ?v69) ?i69 (by kernel_rfl) (by kernel_rfl) (by kernel_rfl) ?q69 (Or.inl ⟨?w69, ?y69⟩) (by assumption) ?r69
        case' i69 => simp only [List.getElem?_toArray, List.getElem?_cons_succ, List.getElem?_cons_zero]
        case i69 => rfl
        case q69 => exact fun _ _ _ h => h
        case w69 => rfl
        case y69 => (intro w hSw; (try dsimp only at hSw); go_simp) <;> with_reducible rfl
        try simp only [Act.put, List.setIfInBounds_toArray, List.set_cons_zero, List.set_cons_succ]
        refine wpAnyH_ready (rs := [9]) (by kernel_rfl) (by simp) ?_
        refine AllReadyH.cons (o := ?o9x70) ?i9x70 (fun K' hK => ?_) AllReadyH.nil
        case' i9x70 => simp only [List.getElem?_toArray, List.getElem?_cons_succ, List.getElem?_cons_zero]
        case i9x70 => rfl
        go_simp
        go_at_call 81
        refine (kbox_k _ _ _).mono ?_
        rintro e W13 ⟨rfl, hb13⟩
        have hS13 : HeldX W B L.length K S N ja jb C true dh kem W13 := HeldX.below hb13 (by assumption)
        clear hb13
        go_wp2_with fail
        refine hK.out _ _ hS13 (fun hHeld => ?_)
        clear hK K'
        try simp only [Act.put, List.setIfInBounds_toArray, List.set_cons_zero, List.set_cons_succ]
        refine wpAnyH_ready (rs := [10]) (by kernel_rfl) (by simp) ?_
        refine AllReadyH.cons (o := ?o10x71) ?i10x71 (fun K' hK => ?_) AllReadyH.nil
        case' i10x71 => simp only [List.getElem?_toArray, List.getElem?_cons_succ, List.getElem?_cons_zero]
        case i10x71 => rfl
        go_simp
        go_at_call 78
        refine (HCP.out _ (by assumption)).mono ?_
        rintro e W13 ⟨rfl, hb13⟩
        have hS13 : HeldX W B L.length K S N ja jb C true dh kem W13 := HeldX.below hb13 (by assumption)
        clear hb13
        go_wp2_with fail
        refine hK.out _ _ hS13 (fun hHeld => ?_)
        clear hK K'
        try simp only [Act.put, List.setIfInBounds_toArray, List.set_cons_zero, List.set_cons_succ]
        refine wpAnyH_take (i := 11) (oi := ?o72) (v := ?v72) ?i72 (by kernel_rfl) (by kernel_rfl) (by kernel_rfl) ?q72 (Or.inl ⟨?w72, ?y72⟩) (by assumption) ?r72
        case' i72 => simp only [List.getElem?_toArray, List.getElem?_cons_succ, List.getElem?_cons_zero]
        case i72 => rfl
        case q72 => exact fun _ _ _ h => h
        case w72 => rfl
        case y72 => (intro w hSw; (try dsimp only at hSw); go_simp) <;> with_reducible rfl
        try simp only [Act.put, List.setIfInBounds_toArray, List.set_cons_zero, List.set_cons_succ]
        refine wpAnyH_take (i := 12) (oi := ?o73) (v := ?v73) ?i73 (by kernel_rfl) (by kernel_rfl) (by kernel_rfl) ?q73 (Or.inl ⟨?w73, ?y73⟩) (by assumption) ?r73
        case' i73 => simp only [List.getElem?_toArray, List.getElem?_cons_succ, List.getElem?_cons_zero]
        case i73 => rfl
        case q73 => exact fun _ _ _ h => h
        case w73 => rfl
        case y73 => (intro w hSw; (try dsimp only at hSw); go_simp) <;> with_reducible rfl
        try simp only [Act.put, List.setIfInBounds_toArray, List.set_cons_zero, List.set_cons_succ]
        refine wpAnyH_take (i := 13) (oi := ?o74) (v := ?v74) ?i74 (by kernel_rfl) (by kernel_rfl) (by kernel_rfl) ?q74 (Or.inl ⟨?w74, ?y74⟩) (by assumption) ?r74
        case' i74 => simp only [List.getElem?_toArray, List.getElem?_cons_succ, List.getElem?_cons_zero]
        case i74 => rfl
        case q74 => exact fun _ _ _ h => h
        case w74 => rfl
        case y74 => (intro w hSw; (try dsimp only at hSw); go_simp) <;> with_reducible rfl
        try simp only [Act.put, List.setIfInBounds_toArray, List.set_cons_zero, List.set_cons_succ]
        refine wpAnyH_take (i := 14) (oi := ?o75) (v := ?v75) ?i75 (by kernel_rfl) (by kernel_rfl) (by kernel_rfl) ?q75 (Or.inl ⟨?w75, ?y75⟩) (by assumption) ?r75
        case' i75 => simp only [List.getElem?_toArray, List.getElem?_cons_succ, List.getElem?_cons_zero]
        case i75 => rfl
        case q75 => exact fun _ _ _ h => h
        case w75 => rfl
        case y75 => (intro w hSw; (try dsimp only at hSw); go_simp) <;> with_reducible rfl
        try simp only [Act.put, List.setIfInBounds_toArray, List.set_cons_zero, List.set_cons_succ]
        refine wpAnyH_take (i := 15) (oi := ?o76) (v := ?v76) ?i76 (by kernel_rfl) (by kernel_rfl) (by kernel_rfl) ?q76 (Or.inl ⟨?w76, ?y76⟩) (by assumption) ?r76
        case' i76 => simp only [List.getElem?_toArray, List.getElem?_cons_succ, List.getElem?_cons_zero]
        case i76 => rfl
        case q76 => exact fun _ _ _ h => h
        case w76 => rfl
        case y76 => (intro w hSw; (try dsimp only at hSw); go_simp) <;> with_reducible rfl
        try simp only [Act.put, List.setIfInBounds_toArray, List.set_cons_zero, List.set_cons_succ]
        refine wpAnyH_take (i := 16) (oi := ?o77) (v := ?v77) ?i77 (by kernel_rfl) (by kernel_rfl) (by kernel_rfl) ?q77 (Or.inl ⟨?w77, ?y77⟩) (by assumption) ?r77
        case' i77 => simp only [List.getElem?_toArray, List.getElem?_cons_succ, List.getElem?_cons_zero]
        case i77 => rfl
        case q77 => exact fun _ _ _ h => h
        case w77 => rfl
        case y77 => (intro w hSw; (try dsimp only at hSw); go_simp) <;> with_reducible rfl
        try simp only [Act.put, List.setIfInBounds_toArray, List.set_cons_zero, List.set_cons_succ]
        refine wpAnyH_take (i := 17) (oi := ?o78) (v := ?v78) ?i78 (by kernel_rfl) (by kernel_rfl) (by kernel_rfl) ?q78 (Or.inl ⟨?w78, ?y78⟩) (by assumption) ?r78
        case' i78 => simp only [List.getElem?_toArray, List.getElem?_cons_succ, List.getElem?_cons_zero]
        case i78 => rfl
        case q78 => exact fun _ _ _ h => h
        case w78 => rfl
        case y78 => (intro w hSw; (try dsimp only at hSw); go_simp) <;> with_reducible rfl
        try simp only [Act.put, List.setIfInBounds_toArray, List.set_cons_zero, List.set_cons_succ]
        refine wpAnyH_take (i := 18) (oi := ?o79) (v := ?v79) ?i79 (by kernel_rfl) (by kernel_rfl) (by kernel_rfl) ?q79 (Or.inl ⟨?w79, ?y79⟩) (by assumption) ?r79
        case' i79 => simp only [List.getElem?_toArray, List.getElem?_cons_succ, List.getElem?_cons_zero]
        case i79 => rfl
        case q79 => exact fun _ _ _ h => h
        case w79 => rfl
        case y79 => (intro w hSw; (try dsimp only at hSw); go_simp) <;> with_reducible rfl
        try simp only [Act.put, List.setIfInBounds_toArray, List.set_cons_zero, List.set_cons_succ]
        refine wpAnyH_take (i := 19) (oi := ?o80) (v := ?v80) ?i80 (by kernel_rfl) (by kernel_rfl) (by kernel_rfl) ?q80 (Or.inl ⟨?w80, ?y80⟩) (by assumption) ?r80
        case' i80 => simp only [List.getElem?_toArray, List.getElem?_cons_succ, List.getElem?_cons_zero]
        case i80 => rfl
        case q80 => exact fun _ _ _ h => h
        case w80 => rfl
        case y80 => (intro w hSw; (try dsimp only at hSw); go_simp) <;> with_reducible rfl
        try simp only [Act.put, List.setIfInBounds_toArray, List.set_cons_zero, List.set_cons_succ]
        refine wpAnyH_take (i := 20) (oi := ?o81) (v := ?v81) ?i81 (by kernel_rfl) (by kernel_rfl) (by kernel_rfl) ?q81 (Or.inl ⟨?w81, ?y81⟩) (by assumption) ?r81
        case' i81 => simp only [List.getElem?_toArray, List.getElem?_cons_succ, List.getElem?_cons_zero]
        case i81 => rfl
        case q81 => exact fun _ _ _ h => h
        case w81 => rfl
        case y81 => (intro w hSw; (try dsimp only at hSw); go_simp) <;> with_reducible rfl
        try simp only [Act.put, List.setIfInBounds_toArray, List.set_cons_zero, List.set_cons_succ]
        refine wpAnyH_take (i := 21) (oi := ?o82) (v := undef) ?i82 (by kernel_rfl) (by kernel_rfl) (by kernel_rfl) ?q82 (Or.inr ⟨?w82, rfl⟩) (by assumption) ?r82
        case' i82 => simp only [List.getElem?_toArray, List.getElem?_cons_succ, List.getElem?_cons_zero]
        case i82 => rfl
        case q82 => exact fun _ _ _ h => h
        case w82 => rfl
        try simp only [Act.put, List.setIfInBounds_toArray, List.set_cons_zero, List.set_cons_succ]
        refine wpAnyH_take (i := 22) (oi := ?o83) (v := undef) ?i83 (by kernel_rfl) (by kernel_rfl) (by kernel_rfl) ?q83 (Or.inr ⟨?w83, rfl⟩) (by assumption) ?r83
        case' i83 => simp only [List.getElem?_toArray, List.getElem?_cons_succ, List.getElem?_cons_zero]
        case i83 => rfl
        case q83 => exact fun _ _ _ h => h
        case w83 => rfl
        try simp only [Act.put, List.setIfInBounds_toArray, List.set_cons_zero, List.set_cons_succ]
        refine wpAnyH_take (i := 23) (oi := ?o84) (v := undef) ?i84 (by kernel_rfl) (by kernel_rfl) (by kernel_rfl) ?q84 (Or.inr ⟨?w84, rfl⟩) (by assumption) ?r84
        case' i84 => simp only [List.getElem?_toArray, List.getElem?_cons_succ, List.getElem?_cons_zero]
        case i84 => rfl
        case q84 => exact fun _ _ _ h => h
        case w84 => rfl
        try simp only [Act.put, List.setIfInBounds_toArray, List.set_cons_zero, List.set_cons_succ]
        refine wpAnyH_take (i := 24) (oi := ?o85) (v := undef) ?i85 (by kernel_rfl) (by kernel_rfl) (by kernel_rfl) ?q85 (Or.inr ⟨?w85, rfl⟩) (by assumption) ?r85
        case' i85 => simp only [List.getElem?_toArray, List.getElem?_cons_succ, List.getElem?_cons_zero]
        case i85 => rfl
        case q85 => exact fun _ _ _ h => h
        case w85 => rfl
        try simp only [Act.put, List.setIfInBounds_toArray, List.set_cons_zero, List.set_cons_succ]
        refine wpAnyH_take (i := 25) (oi := ?o86) (v := undef) ?i86 (by kernel_rfl) (by kernel_rfl) (by kernel_rfl) ?q86 (Or.inr ⟨?w86, rfl⟩) (by assumption) ?r86
        case' i86 => simp only [List.getElem?_toArray, List.getElem?_cons_succ, List.getElem?_cons_zero]
        case i86 => rfl
        case q86 => exact fun _ _ _ h => h
        case w86 => rfl
        try simp only [Act.put, List.setIfInBounds_toArray, List.set_cons_zero, List.set_cons_succ]
        refine wpAnyH_take (i := 26) (oi := ?o87) (v := ?v87) ?i87 (by kernel_rfl) (by kernel_rfl) (by kernel_rfl) ?q87 (Or.inl ⟨?w87, ?y87⟩) (by assumption) ?r87
        case' i87 => simp only [List.getElem?_toArray, List.getElem?_cons_succ, List.getElem?_cons_zero]
        case i87 => rfl
        case q87 => exact fun _ _ _ h => h
        case w87 => rfl
        case y87 => (intro w hSw; (try dsimp only at hSw); go_simp) <;> with_reducible rfl
        try simp only [Act.put, List.setIfInBounds_toArray, List.set_cons_zero, List.set_cons_succ]
        refine wpAnyH_take (i := 27) (oi := ?o88) (v := ?v88) ?i88 (by kernel_rfl) (by kernel_rfl) (by kernel_rfl) ?q88 (Or.inl ⟨?w88, ?y88⟩) (by assumption) ?r88
        case' i88 => simp only [List.getElem?_toArray, List.getElem?_cons_succ, List.getElem?_cons_zero]
        case i88 => rfl
        case q88 => exact fun _ _ _ h => h
        case w88 => rfl
        case y88 => (intro w hSw; (try dsimp only at hSw); go_simp) <;> with_reducible rfl
        try simp only [Act.put, List.setIfInBounds_toArray, List.set_cons_zero, List.set_cons_succ]
        refine wpAnyH_take (i := 28) (oi := ?o89) (v := ?v89) ?i89 (by kernel_rfl) (by kernel_rfl) (by kernel_rfl) ?q89 (Or.inl ⟨?w89, ?y89⟩) (by assumption) ?r89
        case' i89 => simp only [List.getElem?_toArray, List.getElem?_cons_succ, List.getElem?_cons_zero]
        case i89 => rfl
        case q89 => exact fun _ _ _ h => h
        case w89 => rfl
        case y89 => (intro w hSw; (try dsimp only at hSw); go_simp) <;> with_reducible rfl
        try simp only [Act.put, List.setIfInBounds_toArray, List.set_cons_zero, List.set_cons_succ]
        refine wpAnyH_take (i := 29) (oi := ?o90) (v := ?v90) ?i90 (by kernel_rfl) (by kernel_rfl) (by kernel_rfl) ?q90 (Or.inl ⟨?w90, ?y90⟩) (by assumption) ?r90
        case' i90 => simp only [List.getElem?_toArray, List.getElem?_cons_succ, List.getElem?_cons_zero]
        case i90 => rfl
        case q90 => exact fun _ _ _ h => h
        case w90 => rfl
        case y90 => (intro w hSw; (try dsimp only at hSw); go_simp) <;> with_reducible rfl
        try simp only [Act.put, List.setIfInBounds_toArray, List.set_cons_zero, List.set_cons_succ]
        refine wpAnyH_done (by kernel_rfl) ?_ _
        obtain ⟨_, _, _, _, _, _, _, _, _, _, HB3⟩ := hHeld
        go_wp2
        go_ret
        exact ⟨rfl, HB3.out⟩
  · go_enter Try.func64, Try.ntmps64
    go_wp2
    rw [← hW1]
    clear hW1
    refine wp_region_held_drew (S := (fun w' => w'.cell? ⟨W.heap.size, 0, none⟩ = some (.int .i64 K) ∧ w'.cell? ⟨W.heap.size, 1, none⟩ = some (.string S) ∧ w'.cell? ⟨W.heap.size, 2, none⟩ = some (.int .u64 N) ∧ w'.cell? ⟨W.heap.size, 3, none⟩ = some (.int .i64 (ja : Int)) ∧ w'.cell? ⟨W.heap.size, 4, none⟩ = some (.int .i64 (jb : Int)) ∧ w'.cell? ⟨W.heap.size, 5, none⟩ = some (.int .i64 C) ∧ w'.cell? ⟨B.m, 15, none⟩ = some (.slice (some ⟨B.c, 0, none⟩) (L.length + 1) (L.length + 1)) ∧ w'.cell? ⟨B.c, ja, none⟩ = some (.bool xa) ∧ w'.cell? ⟨B.m, 1, none⟩ = some (.bool dh) ∧ w'.cell? ⟨B.m, 2, none⟩ = some (.bool kem) ∧ Hid (Below W.heap.size W w'))) (by kernel_rfl) hS2 (fun hHeld => ?_)
    refine wpAnyH_take (i := 0) (oi := ?o91) (v := ?v91) ?i91 (by kernel_rfl) (by kernel_rfl) (by kernel_rfl) ?q91 (Or.inl ⟨?w91, ?y91⟩) (by assumption) ?r91
    case' i91 => simp only [List.getElem?_toArray, List.getElem?_cons_succ, List.getElem?_cons_zero]
    case i91 => rfl
    case q91 => exact fun _ _ _ h => h
    case w91 => rfl
    case y91 => (intro w hSw; (try dsimp only at hSw); go_simp) <;> with_reducible rfl
    try simp only [Act.put, List.setIfInBounds_toArray, List.set_cons_zero, List.set_cons_succ]
    refine wpAnyH_take (i := 1) (oi := ?o92) (v := ?v92) ?i92 (by kernel_rfl) (by kernel_rfl) (by kernel_rfl) ?q92 (Or.inl ⟨?w92, ?y92⟩) (by assumption) ?r92
    case' i92 => simp only [List.getElem?_toArray, List.getElem?_cons_succ, List.getElem?_cons_zero]
    case i92 => rfl
    case q92 => exact fun _ _ _ h => h
    case w92 => rfl
    case y92 => (intro w hSw; (try dsimp only at hSw); go_simp) <;> with_reducible rfl
    try simp only [Act.put, List.setIfInBounds_toArray, List.set_cons_zero, List.set_cons_succ]
    refine wpAnyH_ready (rs := [2]) (by kernel_rfl) (by simp) ?_
    refine AllReadyH.cons (o := ?o2x93) ?i2x93 (fun K' hK => ?_) AllReadyH.nil
    case' i2x93 => simp only [List.getElem?_toArray, List.getElem?_cons_succ, List.getElem?_cons_zero]
    case i2x93 => rfl
    go_simp
    go_at_call 63
    refine (HWR.out _ (by assumption)).mono ?_
    rintro e W13 ⟨rfl, hb13⟩
    have hS13 : HeldX W B L.length K S N ja jb C xa dh kem W13 := HeldX.below hb13 (by assumption)
    clear hb13
    go_wp2_with fail
    refine hK.out _ _ hS13 (fun hHeld => ?_)
    clear hK K'
    try simp only [Act.put, List.setIfInBounds_toArray, List.set_cons_zero, List.set_cons_succ]
    refine wpAnyH_take (i := 3) (oi := ?o94) (v := ?v94) ?i94 (by kernel_rfl) (by kernel_rfl) (by kernel_rfl) ?q94 (Or.inl ⟨?w94, ?y94⟩) (by assumption) ?r94
    case' i94 => simp only [List.getElem?_toArray, List.getElem?_cons_succ, List.getElem?_cons_zero]
    case i94 => rfl
    case q94 => exact fun _ _ _ h => h
    case w94 => rfl
    case y94 => (intro w hSw; (try dsimp only at hSw); go_simp) <;> with_reducible rfl
    try simp only [Act.put, List.setIfInBounds_toArray, List.set_cons_zero, List.set_cons_succ]
    refine wpAnyH_take (i := 4) (oi := ?o95) (v := undef) ?i95 (by kernel_rfl) (by kernel_rfl) (by kernel_rfl) ?q95 (Or.inr ⟨?w95, rfl⟩) (by assumption) ?r95
    case' i95 => simp only [List.getElem?_toArray, List.getElem?_cons_succ, List.getElem?_cons_zero]
    case i95 => rfl
    case q95 => exact fun _ _ _ h => h
    case w95 => rfl
    try simp only [Act.put, List.setIfInBounds_toArray, List.set_cons_zero, List.set_cons_succ]
    refine wpAnyH_take (i := 5) (oi := ?o96) (v := undef) ?i96 (by kernel_rfl) (by kernel_rfl) (by kernel_rfl) ?q96 (Or.inr ⟨?w96, rfl⟩) (by assumption) ?r96
    case' i96 => simp only [List.getElem?_toArray, List.getElem?_cons_succ, List.getElem?_cons_zero]
    case i96 => rfl
    case q96 => exact fun _ _ _ h => h
    case w96 => rfl
    try simp only [Act.put, List.setIfInBounds_toArray, List.set_cons_zero, List.set_cons_succ]
    refine wpAnyH_take (i := 6) (oi := ?o97) (v := undef) ?i97 (by kernel_rfl) (by kernel_rfl) (by kernel_rfl) ?q97 (Or.inr ⟨?w97, rfl⟩) (by assumption) ?r97
    case' i97 => simp only [List.getElem?_toArray, List.getElem?_cons_succ, List.getElem?_cons_zero]
    case i97 => rfl
    case q97 => exact fun _ _ _ h => h
    case w97 => rfl
    try simp only [Act.put, List.setIfInBounds_toArray, List.set_cons_zero, List.set_cons_succ]
    refine wpAnyH_take (i := 7) (oi := ?o98) (v := undef) ?i98 (by kernel_rfl) (by kernel_rfl) (by kernel_rfl) ?q98 (Or.inr ⟨?w98, rfl⟩) (by assumption) ?r98
    case' i98 => simp only [List.getElem?_toArray, List.getElem?_cons_succ, List.getElem?_cons_zero]
    case i98 => rfl
    case q98 => exact fun _ _ _ h => h
    case w98 => rfl
    try simp only [Act.put, List.setIfInBounds_toArray, List.set_cons_zero, List.set_cons_succ]
    refine wpAnyH_take (i := 8) (oi := ?o99) (v := undef) ?i99 (by kernel_rfl) (by kernel_rfl) (by kernel_rfl) ?q99 (Or.inr ⟨?w99, rfl⟩) (by assumption) ?r99
    case' i99 => simp only [List.getElem?_toArray, List.getElem?_cons_succ, List.getElem?_cons_zero]
    case i99 => rfl
    case q99 => exact fun _ _ _ h => h
    case w99 => rfl
    try simp only [Act.put, List.setIfInBounds_toArray, List.set_cons_zero, List.set_cons_succ]
    refine wpAnyH_take (i := 9) (oi := ?o100) (v := undef) ?i100 (by kernel_rfl) (by kernel_rfl) (by kernel_rfl) ?q100 (Or.inr ⟨?w100, rfl⟩) (by assumption) ?r100
    case' i100 => simp only [List.getElem?_toArray, List.getElem?_cons_succ, List.getElem?_cons_zero]
    case i100 => rfl
    case q100 => exact fun _ _ _ h => h
    case w100 => rfl
    try simp only [Act.put, List.setIfInBounds_toArray, List.set_cons_zero, List.set_cons_succ]
    refine wpAnyH_take (i := 10) (oi := ?o101) (v := undef) ?i101 (by kernel_rfl) (by kernel_rfl) (by kernel_rfl) ?q101 (Or.inr ⟨?w101, rfl⟩) (by assumption) ?r101
    case' i101 => simp only [List.getElem?_toArray, List.getElem?_cons_succ, List.getElem?_cons_zero]
    case i101 => rfl
    case q101 => exact fun _ _ _ h => h
    case w101 => rfl
    try simp only [Act.put, List.setIfInBounds_toArray, List.set_cons_zero, List.set_cons_succ]
    refine wpAnyH_take (i := 11) (oi := ?o102) (v := undef) ?i102 (by kernel_rfl) (by kernel_rfl) (by kernel_rfl) ?q102 (Or.inr ⟨?w102, rfl⟩) (by assumption) ?r102
    case' i102 => simp only [List.getElem?_toArray, List.getElem?_cons_succ, List.getElem?_cons_zero]
    case i102 => rfl
    case q102 => exact fun _ _ _ h => h
    case w102 => rfl
    try simp only [Act.put, List.setIfInBounds_toArray, List.set_cons_zero, List.set_cons_succ]
    refine wpAnyH_take (i := 12) (oi := ?o103) (v := undef) ?i103 (by kernel_rfl) (by kernel_rfl) (by kernel_rfl) ?q103 (Or.inr ⟨?w103, rfl⟩) (by assumption) ?r103
    case' i103 => simp only [List.getElem?_toArray, List.getElem?_cons_succ, List.getElem?_cons_zero]
    case i103 => rfl
    case q103 => exact fun _ _ _ h => h
    case w103 => rfl
    try simp only [Act.put, List.setIfInBounds_toArray, List.set_cons_zero, List.set_cons_succ]
    refine wpAnyH_take (i := 13) (oi := ?o104) (v := undef) ?i104 (by kernel_rfl) (by kernel_rfl) (by kernel_rfl) ?q104 (Or.inr ⟨?w104, rfl⟩) (by assumption) ?r104
    case' i104 => simp only [List.getElem?_toArray, List.getElem?_cons_succ, List.getElem?_cons_zero]
    case i104 => rfl
    case q104 => exact fun _ _ _ h => h
    case w104 => rfl
    try simp only [Act.put, List.setIfInBounds_toArray, List.set_cons_zero, List.set_cons_succ]
    refine wpAnyH_take (i := 14) (oi := ?o105) (v := undef) ?i105 (by kernel_rfl) (by kernel_rfl) (by kernel_rfl) ?q105 (Or.inr ⟨?w105, rfl⟩) (by assumption) ?r105
    case' i105 => simp only [List.getElem?_toArray, List.getElem?_cons_succ, List.getElem?_cons_zero]
    case i105 => rfl
    case q105 => exact fun _ _ _ h => h
    case w105 => rfl
    try simp only [Act.put, List.setIfInBounds_toArray, List.set_cons_zero, List.set_cons_succ]
    refine wpAnyH_take (i := 15) (oi := ?o106) (v := undef) ?i106 (by kernel_rfl) (by kernel_rfl) (by kernel_rfl) ?q106 (Or.inr ⟨?w106, rfl⟩) (by assumption) ?r106
    case' i106 => simp only [List.getElem?_toArray, List.getElem?_cons_succ, List.getElem?_cons_zero]
    case i106 => rfl
    case q106 => exact fun _ _ _ h => h
    case w106 => rfl
    try simp only [Act.put, List.setIfInBounds_toArray, List.set_cons_zero, List.set_cons_succ]
    refine wpAnyH_take (i := 16) (oi := ?o107) (v := undef) ?i107 (by kernel_rfl) (by kernel_rfl) (by kernel_rfl) ?q107 (Or.inr ⟨?w107, rfl⟩) (by assumption) ?r107
    case' i107 => simp only [List.getElem?_toArray, List.getElem?_cons_succ, List.getElem?_cons_zero]
    case i107 => rfl
    case q107 => exact fun _ _ _ h => h
    case w107 => rfl
    try simp only [Act.put, List.setIfInBounds_toArray, List.set_cons_zero, List.set_cons_succ]
    refine wpAnyH_take (i := 17) (oi := ?o108) (v := undef) ?i108 (by kernel_rfl) (by kernel_rfl) (by kernel_rfl) ?q108 (Or.inr ⟨?w108, rfl⟩) (by assumption) ?r108
    case' i108 => simp only [List.getElem?_toArray, List.getElem?_cons_succ, List.getElem?_cons_zero]
    case i108 => rfl
    case q108 => exact fun _ _ _ h => h
    case w108 => rfl
    try simp only [Act.put, List.setIfInBounds_toArray, List.set_cons_zero, List.set_cons_succ]
    refine wpAnyH_take (i := 18) (oi := ?o109) (v := undef) ?i109 (by kernel_rfl) (by kernel_rfl) (by kernel_rfl) ?q109 (Or.inr ⟨?w109, rfl⟩) (by assumption) ?r109
    case' i109 => simp only [List.getElem?_toArray, List.getElem?_cons_succ, List.getElem?_cons_zero]
    case i109 => rfl
    case q109 => exact fun _ _ _ h => h
    case w109 => rfl
    try simp only [Act.put, List.setIfInBounds_toArray, List.set_cons_zero, List.set_cons_succ]
    refine wpAnyH_take (i := 19) (oi := ?o110) (v := undef) ?i110 (by kernel_rfl) (by kernel_rfl) (by kernel_rfl) ?q110 (Or.inr ⟨?w110, rfl⟩) (by assumption) ?r110
    case' i110 => simp only [List.getElem?_toArray, List.getElem?_cons_succ, List.getElem?_cons_zero]
    case i110 => rfl
    case q110 => exact fun _ _ _ h => h
    case w110 => rfl
    try simp only [Act.put, List.setIfInBounds_toArray, List.set_cons_zero, List.set_cons_succ]
    refine wpAnyH_take (i := 20) (oi := ?o111) (v := undef) ?i111 (by kernel_rfl) (by kernel_rfl) (by kernel_rfl) ?q111 (Or.inr ⟨?w111, rfl⟩) (by assumption) ?r111
    case' i111 => simp only [List.getElem?_toArray, List.getElem?_cons_succ, List.getElem?_cons_zero]
    case i111 => rfl
    case q111 => exact fun _ _ _ h => h
    case w111 => rfl
    try simp only [Act.put, List.setIfInBounds_toArray, List.set_cons_zero, List.set_cons_succ]
    refine wpAnyH_take (i := 21) (oi := ?o112) (v := undef) ?i112 (by kernel_rfl) (by kernel_rfl) (by kernel_rfl) ?q112 (Or.inr ⟨?w112, rfl⟩) (by assumption) ?r112
    case' i112 => simp only [List.getElem?_toArray, List.getElem?_cons_succ, List.getElem?_cons_zero]
    case i112 => rfl
    case q112 => exact fun _ _ _ h => h
    case w112 => rfl
    try simp only [Act.put, List.setIfInBounds_toArray, List.set_cons_zero, List.set_cons_succ]
    refine wpAnyH_take (i := 22) (oi := ?o113) (v := undef) ?i113 (by kernel_rfl) (by kernel_rfl) (by kernel_rfl) ?q113 (Or.inr ⟨?w113, rfl⟩) (by assumption) ?r113
    case' i113 => simp only [List.getElem?_toArray, List.getElem?_cons_succ, List.getElem?_cons_zero]
    case i113 => rfl
    case q113 => exact fun _ _ _ h => h
    case w113 => rfl
    try simp only [Act.put, List.setIfInBounds_toArray, List.set_cons_zero, List.set_cons_succ]
    refine wpAnyH_take (i := 23) (oi := ?o114) (v := undef) ?i114 (by kernel_rfl) (by kernel_rfl) (by kernel_rfl) ?q114 (Or.inr ⟨?w114, rfl⟩) (by assumption) ?r114
    case' i114 => simp only [List.getElem?_toArray, List.getElem?_cons_succ, List.getElem?_cons_zero]
    case i114 => rfl
    case q114 => exact fun _ _ _ h => h
    case w114 => rfl
    try simp only [Act.put, List.setIfInBounds_toArray, List.set_cons_zero, List.set_cons_succ]
    refine wpAnyH_take (i := 24) (oi := ?o115) (v := undef) ?i115 (by kernel_rfl) (by kernel_rfl) (by kernel_rfl) ?q115 (Or.inr ⟨?w115, rfl⟩) (by assumption) ?r115
    case' i115 => simp only [List.getElem?_toArray, List.getElem?_cons_succ, List.getElem?_cons_zero]
    case i115 => rfl
    case q115 => exact fun _ _ _ h => h
    case w115 => rfl
    try simp only [Act.put, List.setIfInBounds_toArray, List.set_cons_zero, List.set_cons_succ]
    refine wpAnyH_take (i := 25) (oi := ?o116) (v := undef) ?i116 (by kernel_rfl) (by kernel_rfl) (by kernel_rfl) ?q116 (Or.inr ⟨?w116, rfl⟩) (by assumption) ?r116
    case' i116 => simp only [List.getElem?_toArray, List.getElem?_cons_succ, List.getElem?_cons_zero]
    case i116 => rfl
    case q116 => exact fun _ _ _ h => h
    case w116 => rfl
    try simp only [Act.put, List.setIfInBounds_toArray, List.set_cons_zero, List.set_cons_succ]
    refine wpAnyH_take (i := 26) (oi := ?o117) (v := undef) ?i117 (by kernel_rfl) (by kernel_rfl) (by kernel_rfl) ?q117 (Or.inr ⟨?w117, rfl⟩) (by assumption) ?r117
    case' i117 => simp only [List.getElem?_toArray, List.getElem?_cons_succ, List.getElem?_cons_zero]
    case i117 => rfl
    case q117 => exact fun _ _ _ h => h
    case w117 => rfl
    try simp only [Act.put, List.setIfInBounds_toArray, List.set_cons_zero, List.set_cons_succ]
    refine wpAnyH_take (i := 27) (oi := ?o118) (v := undef) ?i118 (by kernel_rfl) (by kernel_rfl) (by kernel_rfl) ?q118 (Or.inr ⟨?w118, rfl⟩) (by assumption) ?r118
    case' i118 => simp only [List.getElem?_toArray, List.getElem?_cons_succ, List.getElem?_cons_zero]
    case i118 => rfl
    case q118 => exact fun _ _ _ h => h
    case w118 => rfl
    try simp only [Act.put, List.setIfInBounds_toArray, List.set_cons_zero, List.set_cons_succ]
    refine wpAnyH_take (i := 28) (oi := ?o119) (v := ?v119) ?i119 (by kernel_rfl) (by kernel_rfl) (by kernel_rfl) ?q119 (Or.inl ⟨?w119, ?y119⟩) (by assumption) ?r119
    case' i119 => simp only [List.getElem?_toArray, List.getElem?_cons_succ, List.getElem?_cons_zero]
    case i119 => rfl
    case q119 => exact fun _ _ _ h => h
    case w119 => rfl
    case y119 => (intro w hSw; (try dsimp only at hSw); go_simp) <;> with_reducible rfl
    try simp only [Act.put, List.setIfInBounds_toArray, List.set_cons_zero, List.set_cons_succ]
    refine wpAnyH_take (i := 29) (oi := ?o120) (v := ?v120) ?i120 (by kernel_rfl) (by kernel_rfl) (by kernel_rfl) ?q120 (Or.inl ⟨?w120, ?y120⟩) (by assumption) ?r120
    case' i120 => simp only [List.getElem?_toArray, List.getElem?_cons_succ, List.getElem?_cons_zero]
    case i120 => rfl
    case q120 => exact fun _ _ _ h => h
    case w120 => rfl
    case y120 => (intro w hSw; (try dsimp only at hSw); go_simp) <;> with_reducible rfl
    try simp only [Act.put, List.setIfInBounds_toArray, List.set_cons_zero, List.set_cons_succ]
    refine wpAnyH_done (by kernel_rfl) ?_ _
    obtain ⟨_, _, _, _, _, _, _, _, _, _, HB3⟩ := hHeld
    go_wp2
    go_ret
    exact ⟨rfl, HB3.out⟩
end
end Go.Proofs.Ytlnpfeecaiecaaa
