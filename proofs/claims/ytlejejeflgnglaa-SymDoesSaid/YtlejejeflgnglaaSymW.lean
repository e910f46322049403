/- States whose names are there, gone on with: what is said, mixed in and sealed, and that it changes what it must; and the caller's own box of a state, set anew in a round of a loop. -/
import Derived.Test.YtlejejeflgnglaaSymN
namespace Go.Proofs.Ytlejejeflgnglaa
open Go.RowKit
set_option linter.unusedVariables false
set_option linter.unusedSimpArgs false

structure Ok (L : List Tm) (k : Nat) (y : Sy) : Prop where
  fit : Fit L
  len : L.length ≤ 21 + 3 * k
  ck : 1 ≤ y.CK ∧ y.CK ≤ (L.length : Int)
  h : 1 ≤ y.H ∧ y.H ≤ (L.length : Int)
  key : y.K = 0 ∨ ∃ h, Named L y.CK (keyT h 1) ∧ Named L y.K (keyT h 2)
  n : 0 ≤ y.N ∧ y.N ≤ (k : Int)
theorem Ok.kin {L : List Tm} {k : Nat} {y : Sy} (h : Ok L k y) : 0 ≤ y.K ∧ y.K ≤ (L.length : Int) := by
  rcases h.key with q | ⟨_, _, q⟩
  · rw [q]; omega
  · have := q.in; omega
theorem Ok.kin1 {L : List Tm} {k : Nat} {y : Sy} (h : Ok L k y) (h0 : y.K ≠ 0) : 1 ≤ y.K ∧ y.K ≤ (L.length : Int) := by
  have := h.kin; omega
theorem Ok.wf {L : List Tm} {k : Nat} {y : Sy} (h : Ok L k y) (hk : k ≤ 20) : y.Wf := by
  have h1 := h.kin
  have h2 := h.len
  have h3 := h.ck
  have h4 := h.h
  have h5 := h.n
  exact ⟨i64_small (by omega) (by omega), i64_small (by omega) (by omega), i64_small (by omega) (by omega), u64_small h5.1 (by omega)⟩
theorem Ok.next {L : List Tm} {k : Nat} {y : Sy} (h : Ok L k y) : Ok L (k + 1) y := ⟨h.fit, by have := h.len; omega, h.ck, h.h, h.key, by have := h.n; omega⟩
theorem Ok.wrap {L : List Tm} {k : Nat} {y : Sy} (h : Ok L k y) (hk : k ≤ 20) : IntKind.u64.wrap (y.N + 1) = y.N + 1 := by
  have := h.n
  simp [IntKind.wrap, IntKind.signed, IntKind.bits]
  omega
theorem Ok.begin {L : List Tm} (hf : Fit L) (hl : L.length ≤ 20) : ∃ a L', beginF L 1000 nmS = (⟨a, 0, a, 0⟩, 0, L') ∧ Ok L' 0 ⟨a, 0, a, 0⟩ ∧ Ext L L' ∧ 1 ≤ a ∧ Named L' a (textT nmS) := by
  obtain ⟨a, L', e1, n1, x1, l1, f1⟩ := begin_step (most := 1000) nmS hf nm_le (by omega)
  exact ⟨a, L', e1, ⟨f1, by omega, n1.in, n1.in, .inl rfl, by simp⟩, x1, n1.in.1, n1⟩
theorem Ok.say {L : List Tm} {k : Nat} {y : Sy} {x : Int} (h : Ok L k y) (hk : k < 20) (hx : 1 ≤ x ∧ x ≤ (L.length : Int)) :
    ∃ a L', sayF L 1000 y x = (⟨y.CK, y.K, a, y.N⟩, 0, L') ∧ Ok L' (k + 1) ⟨y.CK, y.K, a, y.N⟩ ∧ Ext L L' ∧ a ≠ y.H ∧ sayF L' 1000 y x = (⟨y.CK, y.K, a, y.N⟩, 0, L') := by
  have hl := h.len
  have hn := h.n
  obtain ⟨a, L', e1, n1, x1, l1, f1⟩ := say_step (most := 1000) h.fit h.h hx (by omega)
  have q := n1.hash_lt f1
  refine ⟨a, L', e1, ⟨f1, by omega, x1.in h.ck, n1.in, ?_, ⟨hn.1, by simp only; omega⟩⟩, x1, by omega, say_old (x1.in h.h) (x1.in hx) n1⟩
  rcases h.key with q | ⟨h0, q1, q2⟩
  · exact .inl q
  · exact .inr ⟨h0, q1.ext x1, q2.ext x1⟩
theorem Ok.turn {L : List Tm} {k : Nat} {y : Sy} {x : Int} (h : Ok L k y) (hk : k < 20) (hx : 1 ≤ x ∧ x ≤ (L.length : Int)) :
    ∃ a b L', turnF L 1000 y x = (⟨a, b, y.H, 0⟩, 0, L') ∧ Ok L' (k + 1) ⟨a, b, y.H, 0⟩ ∧ Ext L L' ∧ a ≠ y.CK ∧ b ≠ y.K ∧ b ≠ a ∧ turnF L' 1000 y x = (⟨a, b, y.H, 0⟩, 0, L') := by
  have hl := h.len
  obtain ⟨a, b, L', e1, m1, x1, l1, f1⟩ := turn_step (most := 1000) h.fit h.ck hx (by omega)
  have q := m1.lt f1
  have old := turn_old (most := 1000) (x1.in h.ck) (x1.in hx) m1
  have mi := m1.in
  obtain ⟨h0, m2, m3, m4⟩ := m1
  have q0 := m2.hash_lt f1
  refine ⟨a, b, L', e1, ⟨f1, by omega, mi.1, x1.in h.h, .inr ⟨h0, m3, m4⟩, by simp only; omega⟩, x1, by omega, ?_, by omega, old⟩
  rcases h.key with g | ⟨g0, g1, g2⟩
  · rw [g]; omega
  · intro e
    have h3 := (g1.ext x1).key_lt f1
    have h4 := ((g2.ext x1).inj m4).1 e.symm
    rw [key_eq] at h4
    omega
theorem Ok.sealing {L : List Tm} {k : Nat} {y : Sy} {x : Int} (h : Ok L k y) (hk : k < 20) (h0 : y.K ≠ 0) (hx : 1 ≤ x ∧ x ≤ (L.length : Int)) :
    ∃ c a L', sealF L 1000 y x = (⟨y.CK, y.K, a, y.N + 1⟩, c, 0, L') ∧ Ok L' (k + 1) ⟨y.CK, y.K, a, y.N + 1⟩ ∧ Ext L L' ∧ a ≠ y.H ∧ 1 ≤ c ∧ I64 c ∧ unsealF L' 1000 y c = (⟨y.CK, y.K, a, y.N + 1⟩, x, 0, L') := by
  have hl := h.len
  have hn := h.n
  have hN : y.N ≠ lastN := by unfold lastN; omega
  obtain ⟨c, a, L', e1, n1, n2, x1, l1, f1⟩ := seal_step (most := 1000) h.fit (h.kin1 h0) h.h hx hN (by omega)
  have q := n2.hash_lt f1
  have ci := n1.in
  refine ⟨c, a, L', e1, ⟨f1, by omega, x1.in h.ck, n2.in, ?_, by simp only; omega⟩, x1, by omega, ci.1, i64_small (by omega) (by omega), unseal_at (x1.in (h.kin1 h0)) (x1.in h.h) hN n1 n2⟩
  rcases h.key with q | ⟨h0, q1, q2⟩
  · exact .inl q
  · exact .inr ⟨h0, q1.ext x1, q2.ext x1⟩

/-- Two stores beside blocks K; a block of the caller's own. -/
def J (K : Nat → Prop) (w : World) (g1 g2 : Nat) (L L' : List Tm) (W : World) : Prop := Pair w.heap.size (PSq w.heap.size g1 1000) (RSq w.heap.size g2 1000) L L' K w W
theorem J.below {K : Nat → Prop} {w : World} {g1 g2 : Nat} {L L' : List Tm} {W W' : World} (hb : Below W.heap.size W W') (h : Hid (J K w g1 g2 L L' W)) : Hid (J K w g1 g2 L L' W') :=
  Lib.hid (Pair.below (PSq.good w.heap.size g1 1000) (RSq.good w.heap.size g2 1000) h.out hb)
def At (b : Nat) : Nat → Prop := fun k => (fun _ : Nat => False) k ∨ k = b
/-- A caller's box set anew, and another block made behind it. -/
theorem J.put {K : Nat → Prop} {w : World} {g1 g2 B : Nat} {L L' : List Tm} {W : World} (h : Hid (J K w g1 g2 L L' W)) (hk : K B) (hb : w.heap.size ≤ B) (v0 v1 v2 v3 : Value) : Hid (J K w g1 g2 L L' (set4 W B 0 v0 v1 v2 v3)) :=
  Lib.hid (Pair.set4 (PSq.good w.heap.size g1 1000) (RSq.good w.heap.size g2 1000) h.out hk hb 0 v0 v1 v2 v3)
theorem J.alloc {K : Nat → Prop} {w : World} {g1 g2 : Nat} {L L' : List Tm} {W : World} (h : Hid (J K w g1 g2 L L' W)) (o : Obj) : Hid (J K w g1 g2 L L' (W.alloc o)) := J.below ((Below.refl _ _).alloc (Nat.le_refl _) o) h
theorem set4_size (w : World) (b o : Nat) (v0 v1 v2 v3 : Value) : (set4 w b o v0 v1 v2 v3).heap.size = w.heap.size := by simp [set4]
/-- A box set anew, another block made behind it: what it holds. -/
theorem row_put {W : World} {B : Nat} {t : TypeId} {a0 a1 a2 a3 : Value} (v0 v1 v2 v3 : Value) (o : Obj) (h : W.heap[B]? = some (.cells #[a0, a1, a2, a3] t (0, 0))) : ((set4 W B 0 v0 v1 v2 v3).alloc o).heap[B]? = some (.cells #[v0, v1, v2, v3] t (0, 0)) :=
  (heap_alloc_old _ _ (by rw [set4_size]; exact lt_of_block h)).trans (row_set4 v0 v1 v2 v3 h)
/-- A number of a term there, out of a byte and how many there are. -/
theorem pickB {u m : Int} (h : (Lit.int .u8 u).wf = true) (h1 : 1 ≤ m) (h2 : m ≤ 1000) : 1 ≤ wrap64 (1 + u % m) ∧ wrap64 (1 + u % m) ≤ m := by
  have hu := byte_in h
  have b1 := Int.emod_nonneg u (by omega : m ≠ 0)
  have b2 := Int.emod_lt_of_pos u (by omega : 0 < m)
  unfold wrap64
  omega
end Go.Proofs.Ytlejejeflgnglaa
