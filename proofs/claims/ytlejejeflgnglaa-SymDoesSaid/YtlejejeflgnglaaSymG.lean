/- Whatever is done with a state, from any on: both stores beside four boxes, and what is well formed. -/
import Derived.Test.YtlejejeflgnglaaSymU
import Derived.Test.YtlejejeflgnglaaSymW
namespace Go.Proofs.Ytlejejeflgnglaa
open Go.RowKit
set_option linter.unusedVariables false
set_option linter.unusedSimpArgs false
set_option maxRecDepth 20000
/-- Both stores beside the document's state, reckoned from a world v. -/
def JD (bs : Nat) (K : Nat → Prop) (g1 g2 : Nat) (v : World) (L L' : List Tm) (W : World) : Prop := Pair bs (PSq bs g1 1000) (RSq bs g2 1000) L L' K v W
theorem JD.below {bs : Nat} {K : Nat → Prop} {g1 g2 : Nat} {v : World} {L L' : List Tm} {W W' : World} (hb : Below W.heap.size W W') (h : Hid (JD bs K g1 g2 v L L' W)) : Hid (JD bs K g1 g2 v L L' W') :=
  Lib.hid (Pair.below (PSq.good bs g1 1000) (RSq.good bs g2 1000) h.out hb)

/-- The caller's four boxes: its state, the document's, and the round's own two. -/
structure Four (Y Z A C : Nat) (y a c : Sy) (W : World) : Prop where
  ry : W.heap[Y]? = some (.cells #[.int .i64 y.CK, .int .i64 y.K, .int .i64 y.H, .int .u64 y.N] 25 (0, 0))
  rz : W.heap[Z]? = some (.cells #[.int .i64 y.CK, .int .i64 y.K, .int .i64 y.H, .int .u64 y.N] 31 (0, 0))
  ra : W.heap[A]? = some (.cells #[.int .i64 a.CK, .int .i64 a.K, .int .i64 a.H, .int .u64 a.N] 25 (0, 0))
  rc : W.heap[C]? = some (.cells #[.int .i64 c.CK, .int .i64 c.K, .int .i64 c.H, .int .u64 c.N] 31 (0, 0))
  yz : Y < Z
  za : Z < A
  zc : Z < C
  ac : A ≠ C
def K4 (Z A C : Nat) : Nat → Prop := fun k => At Z k ∨ k = A ∨ k = C
theorem Four.below {Y Z A C : Nat} {y a c : Sy} {W W' : World} (h : Four Y Z A C y a c W) (hb : Below W.heap.size W W') : Four Y Z A C y a c W' :=
  ⟨(hb.block _ (lt_of_block h.ry)).trans h.ry, (hb.block _ (lt_of_block h.rz)).trans h.rz, (hb.block _ (lt_of_block h.ra)).trans h.ra, (hb.block _ (lt_of_block h.rc)).trans h.rc, h.yz, h.za, h.zc, h.ac⟩
theorem Four.keep {Y Z A C : Nat} {y a c : Sy} {W W' : World} (h : Four Y Z A C y a c W) (hk : ∀ k, K4 Z A C k → W'.heap[k]? = W.heap[k]?) (hy : W'.heap[Y]? = W.heap[Y]?) : Four Y Z A C y a c W' :=
  ⟨hy.trans h.ry, (hk Z (.inl (.inr rfl))).trans h.rz, (hk A (.inr (.inl rfl))).trans h.ra, (hk C (.inr (.inr rfl))).trans h.rc, h.yz, h.za, h.zc, h.ac⟩
theorem Four.setA {Y Z A C : Nat} {y a c : Sy} {W : World} (h : Four Y Z A C y a c W) (n : Sy) : Four Y Z A C y n c (set4 W A 0 (.int .i64 n.CK) (.int .i64 n.K) (.int .i64 n.H) (.int .u64 n.N)) :=
  ⟨(set4_other _ _ _ _ _ _ _ _ (by have := h.yz; have := h.za; omega)).trans h.ry, (set4_other _ _ _ _ _ _ _ _ (by have := h.za; omega)).trans h.rz, row_set4 _ _ _ _ h.ra, (set4_other _ _ _ _ _ _ _ _ (fun e => h.ac e.symm)).trans h.rc, h.yz, h.za, h.zc, h.ac⟩
theorem Four.setC {Y Z A C : Nat} {y a c : Sy} {W : World} (h : Four Y Z A C y a c W) (n : Sy) : Four Y Z A C y a n (set4 W C 0 (.int .i64 n.CK) (.int .i64 n.K) (.int .i64 n.H) (.int .u64 n.N)) :=
  ⟨(set4_other _ _ _ _ _ _ _ _ (by have := h.yz; have := h.zc; omega)).trans h.ry, (set4_other _ _ _ _ _ _ _ _ (by have := h.zc; omega)).trans h.rz, (set4_other _ _ _ _ _ _ _ _ h.ac).trans h.ra, row_set4 _ _ _ _ h.rc, h.yz, h.za, h.zc, h.ac⟩
theorem JD.put {bs : Nat} {K : Nat → Prop} {g1 g2 B : Nat} {v : World} {L L' : List Tm} {W : World} (h : Hid (JD bs K g1 g2 v L L' W)) (hk : K B) (hb : bs ≤ B) (v0 v1 v2 v3 : Value) : Hid (JD bs K g1 g2 v L L' (set4 W B 0 v0 v1 v2 v3)) :=
  Lib.hid (Pair.set4 (PSq.good bs g1 1000) (RSq.good bs g2 1000) h.out hk hb 0 v0 v1 v2 v3)
theorem JD.low {bs : Nat} {K : Nat → Prop} {g1 g2 Y : Nat} {v : World} {L L' : List Tm} {W : World} (h : Hid (JD bs K g1 g2 v L L' W)) (hY : Y < bs) : W.heap[Y]? = v.heap[Y]? := by
  obtain ⟨F1, F2, _, _, _, _, _, hb⟩ := h.out
  exact hb.block Y hY
theorem JD.len {bs : Nat} {K : Nat → Prop} {g1 g2 : Nat} {v : World} {L L' : List Tm} {W : World} (h : Hid (JD bs K g1 g2 v L L' W)) : (L.length : Int) ≤ 1000 := by
  have := Pair.facts h.out
  omega
/-- The round's end: the state goes on. -/
theorem JD.go {bs g1 g2 Y Z A C : Nat} {v : World} {L : List Tm} {W : World} (h : Hid (JD bs (K4 Z A C) g1 g2 v L L W)) (hY : Y < bs) (hZ : bs ≤ Z) (n : Sy) : Hid (JD bs (At Z) g1 g2 (set4 v Y 0 (.int .i64 n.CK) (.int .i64 n.K) (.int .i64 n.H) (.int .u64 n.N)) L L (set4 (set4 W Y 0 (.int .i64 n.CK) (.int .i64 n.K) (.int .i64 n.H) (.int .u64 n.N)) Z 0 (.int .i64 n.CK) (.int .i64 n.K) (.int .i64 n.H) (.int .u64 n.N))) :=
  Lib.hid (Pair.less (Pair.set4 (PSq.good bs g1 1000) (RSq.good bs g2 1000) (Pair.setLow4 (PSq.good bs g1 1000) (RSq.good bs g2 1000) h.out hY _ _ _ _) (.inl (.inr rfl)) hZ 0 _ _ _ _) (fun k q => .inl q))
theorem JD.stay {bs g1 g2 Z A C : Nat} {v : World} {L : List Tm} {W : World} (h : Hid (JD bs (K4 Z A C) g1 g2 v L L W)) : Hid (JD bs (At Z) g1 g2 v L L W) := Lib.hid (Pair.less h.out (fun k q => .inl q))
theorem below_set4 {B : Nat} {w v : World} (h : Below B w v) {b : Nat} (hb : B ≤ b) (v0 v1 v2 v3 : Value) : Below B w (set4 v b 0 v0 v1 v2 v3) := (((h.setCell hb v0).setCell hb v1).setCell hb v2).setCell hb v3
theorem boxes1 {bs g1 g2 Y Z : Nat} {y : Sy} {v W : World} {L : List Tm} (h : Hid (JD bs (At Z) g1 g2 v L L W)) (ry : W.heap[Y]? = some (.cells #[.int .i64 y.CK, .int .i64 y.K, .int .i64 y.H, .int .u64 y.N] 25 (0, 0))) (rz : W.heap[Z]? = some (.cells #[.int .i64 y.CK, .int .i64 y.K, .int .i64 y.H, .int .u64 y.N] 31 (0, 0))) (hyz : Y < Z) :
    Hid (JD bs (K4 Z W.heap.size (W.heap.size + 1)) g1 g2 v L L ((W.alloc (.cells #[.int .i64 y.CK, .int .i64 y.K, .int .i64 y.H, .int .u64 y.N] 25)).alloc (.cells #[.int .i64 y.CK, .int .i64 y.K, .int .i64 y.H, .int .u64 y.N] 31)).drew) ∧ Hid (Four Y Z W.heap.size (W.heap.size + 1) y y y ((W.alloc (.cells #[.int .i64 y.CK, .int .i64 y.K, .int .i64 y.H, .int .u64 y.N] 25)).alloc (.cells #[.int .i64 y.CK, .int .i64 y.K, .int .i64 y.H, .int .u64 y.N] 31)).drew) := by
  obtain ⟨h1, h2, h3, h4⟩ := Pair.box2 (PSq.good bs g1 1000) (RSq.good bs g2 1000) h.out #[.int .i64 y.CK, .int .i64 y.K, .int .i64 y.H, .int .u64 y.N] #[.int .i64 y.CK, .int .i64 y.K, .int .i64 y.H, .int .u64 y.N] 25 31
  have hl := lt_of_block rz
  refine ⟨JD.below ((Below.refl _ _).drew) (Lib.hid (Pair.less h1 ?_)), Lib.hid (Four.below ⟨?_, (h4 Z (.inr rfl)).trans rz, h2, h3, hyz, hl, by omega, by omega⟩ ((Below.refl _ _).drew))⟩
  · rintro k (q | q | q)
    · exact .inl q
    · exact .inr (.inl q)
    · exact .inr (.inr q)
  · rw [heap_alloc_old _ _ (by simp; omega), heap_alloc_old _ _ (by omega)]; exact ry
theorem boxes2 {bs g1 g2 Y Z : Nat} {y : Sy} {v W : World} {L : List Tm} (h : Hid (JD bs (At Z) g1 g2 v L L W)) (ry : W.heap[Y]? = some (.cells #[.int .i64 y.CK, .int .i64 y.K, .int .i64 y.H, .int .u64 y.N] 25 (0, 0))) (rz : W.heap[Z]? = some (.cells #[.int .i64 y.CK, .int .i64 y.K, .int .i64 y.H, .int .u64 y.N] 31 (0, 0))) (hyz : Y < Z) :
    Hid (JD bs (K4 Z (W.heap.size + 1) W.heap.size) g1 g2 v L L ((W.alloc (.cells #[.int .i64 y.CK, .int .i64 y.K, .int .i64 y.H, .int .u64 y.N] 31)).alloc (.cells #[.int .i64 y.CK, .int .i64 y.K, .int .i64 y.H, .int .u64 y.N] 25)).drew) ∧ Hid (Four Y Z (W.heap.size + 1) W.heap.size y y y ((W.alloc (.cells #[.int .i64 y.CK, .int .i64 y.K, .int .i64 y.H, .int .u64 y.N] 31)).alloc (.cells #[.int .i64 y.CK, .int .i64 y.K, .int .i64 y.H, .int .u64 y.N] 25)).drew) := by
  obtain ⟨h1, h2, h3, h4⟩ := Pair.box2 (PSq.good bs g1 1000) (RSq.good bs g2 1000) h.out #[.int .i64 y.CK, .int .i64 y.K, .int .i64 y.H, .int .u64 y.N] #[.int .i64 y.CK, .int .i64 y.K, .int .i64 y.H, .int .u64 y.N] 31 25
  have hl := lt_of_block rz
  refine ⟨JD.below ((Below.refl _ _).drew) (Lib.hid (Pair.less h1 ?_)), Lib.hid (Four.below ⟨?_, (h4 Z (.inr rfl)).trans rz, h3, h2, hyz, by omega, hl, by omega⟩ ((Below.refl _ _).drew))⟩
  · rintro k (q | q | q)
    · exact .inl q
    · exact .inr (.inr q)
    · exact .inr (.inl q)
  · rw [heap_alloc_old _ _ (by simp; omega), heap_alloc_old _ _ (by omega)]; exact ry
theorem zero_wf : zeroY.Wf := ⟨k0, k0, k0, u0⟩
theorem begin_wf {L L' : List Tm} {S : ByteArray} {y : Sy} {e : Int} (hl : (L.length : Int) ≤ 1000) (h : beginF L 1000 S = (y, e, L')) : y.Wf := by
  obtain ⟨a, f, M, q⟩ : ∃ a f M, putF L 1000 (textT S) = (a, f, M) := ⟨_, _, _, rfl⟩
  have ha := name_i64 hl (by omega) q
  by_cases h0 : f = 0
  · subst h0
    rw [begin_yes q] at h
    injection h with h1 _
    rw [← h1]; exact ⟨ha, k0, ha, u0⟩
  · rw [begin_no q h0] at h
    injection h with h1 _
    rw [← h1]; exact zero_wf
theorem say_wf {L L' : List Tm} {y y' : Sy} {x e : Int} (hl : (L.length : Int) ≤ 1000) (hy : y.Wf) (h : sayF L 1000 y x = (y', e, L')) : y'.Wf := by
  obtain ⟨a, f, M, q⟩ : ∃ a f M, putF L 1000 (hashT y.H x) = (a, f, M) := ⟨_, _, _, rfl⟩
  have ha := name_i64 hl (by omega) q
  by_cases h0 : f = 0
  · subst h0
    rw [say_yes q] at h
    injection h with h1 _
    rw [← h1]; exact ⟨hy.ck, hy.k, ha, hy.n⟩
  · rw [say_no q h0] at h
    injection h with h1 _
    rw [← h1]; exact zero_wf
theorem put_len {L L' : List Tm} {a e : Int} {t : Tm} (hl : (L.length : Int) ≤ 1000) (h : putF L 1000 t = (a, e, L')) : (L'.length : Int) ≤ 1000 := by
  rcases putF_cases L 1000 t with ⟨hp, _⟩ | ⟨j, hj, hp, _⟩ | ⟨hr, hp, _⟩ | ⟨hr, hp, _⟩
  all_goals
    have hh := hp.symm.trans h
    injection hh with a1 a2
    injection a2 with a2 a3
    rw [← a3]
  · exact hl
  · exact hl
  · exact hl
  · simp; omega
theorem turn_wf {L L' : List Tm} {y y' : Sy} {x e : Int} (hl : (L.length : Int) ≤ 1000) (hy : y.Wf) (h : turnF L 1000 y x = (y', e, L')) : y'.Wf := by
  obtain ⟨n1, f1, M1, q1⟩ : ∃ a f M, putF L 1000 (hashT y.CK x) = (a, f, M) := ⟨_, _, _, rfl⟩
  by_cases h1 : f1 = 0
  · subst h1
    have l1 := put_len hl q1
    obtain ⟨n2, f2, M2, q2⟩ : ∃ a f M, putF M1 1000 (keyT n1 1) = (a, f, M) := ⟨_, _, _, rfl⟩
    have i2 := name_i64 l1 (by omega) q2
    by_cases h2 : f2 = 0
    · subst h2
      have l2 := put_len l1 q2
      obtain ⟨n3, f3, M3, q3⟩ : ∃ a f M, putF M2 1000 (keyT n1 2) = (a, f, M) := ⟨_, _, _, rfl⟩
      have i3 := name_i64 l2 (by omega) q3
      by_cases h3 : f3 = 0
      · subst h3
        rw [turn_yes (mix_yes q1 q2 q3)] at h
        injection h with h4 _
        rw [← h4]; exact ⟨i2, i3, hy.h, u0⟩
      · rw [turn_no (mix_no3 q1 q2 q3 h3) h3] at h
        injection h with h4 _
        rw [← h4]; exact zero_wf
    · rw [turn_no (mix_no2 q1 q2 h2) h2] at h
      injection h with h4 _
      rw [← h4]; exact zero_wf
  · rw [turn_no (mix_no1 q1 h1) h1] at h
    injection h with h4 _
    rw [← h4]; exact zero_wf
theorem sealing_wf {L L' : List Tm} {y y' : Sy} {x c e : Int} (hl : (L.length : Int) ≤ 1000) (hy : y.Wf) (h : sealF L 1000 y x = (y', c, e, L')) : y'.Wf := by
  by_cases hok : y.K = 0 ∨ y.N = lastN
  · rw [seal_not hok] at h
    injection h with h4 _
    rw [← h4]; exact zero_wf
  · obtain ⟨n1, f1, M1, q1⟩ : ∃ a f M, putF L 1000 (sealT y.K y.N y.H x) = (a, f, M) := ⟨_, _, _, rfl⟩
    by_cases h1 : f1 = 0
    · subst h1
      have l1 := put_len hl q1
      obtain ⟨n2, f2, M2, q2⟩ : ∃ a f M, putF M1 1000 (hashT y.H n1) = (a, f, M) := ⟨_, _, _, rfl⟩
      have i2 := name_i64 l1 (by omega) q2
      by_cases h2 : f2 = 0
      · subst h2
        rw [seal_yes hok q1 q2] at h
        injection h with h4 _
        rw [← h4]; exact ⟨hy.ck, hy.k, i2, next_u64 hy.n (by omega)⟩
      · rw [seal_no2 hok q1 q2 h2] at h
        injection h with h4 _
        rw [← h4]; exact zero_wf
    · rw [seal_no1 hok q1 h1] at h
      injection h with h4 _
      rw [← h4]; exact zero_wf
theorem opening_wf {L L' : List Tm} {y y' : Sy} {x c e : Int} (hl : (L.length : Int) ≤ 1000) (hy : y.Wf) (h : unsealF L 1000 y x = (y', c, e, L')) : y'.Wf := by
  by_cases hok : y.K = 0 ∨ y.N = lastN
  · rw [unseal_not hok] at h
    injection h with h4 _
    rw [← h4]; exact zero_wf
  · obtain ⟨n1, f1, q1⟩ : ∃ a f, openF L y.K y.N y.H x = (a, f) := ⟨_, _, rfl⟩
    by_cases h1 : f1 = 0
    · subst h1
      obtain ⟨n2, f2, M2, q2⟩ : ∃ a f M, putF L 1000 (hashT y.H x) = (a, f, M) := ⟨_, _, _, rfl⟩
      have i2 := name_i64 hl (by omega) q2
      by_cases h2 : f2 = 0
      · subst h2
        rw [unseal_yes hok q1 q2] at h
        injection h with h4 _
        rw [← h4]; exact ⟨hy.ck, hy.k, i2, next_u64 hy.n (by omega)⟩
      · rw [unseal_no2 hok q1 q2 h2] at h
        injection h with h4 _
        rw [← h4]; exact zero_wf
    · rw [unseal_no1 hok q1 h1] at h
      injection h with h4 _
      rw [← h4]; exact zero_wf
end Go.Proofs.Ytlejejeflgnglaa
