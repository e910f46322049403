/- Plain facts: what is read at a place hangs on the bytes from there on alone. No program is named here. No conditions. -/
import Derived.Test.YtpgfgfbhbncabaaMathB
namespace Go.Proofs.Ytpgfgfbhbncabaa

theorem look_shift (l : List UInt8) : ∀ (f : Bool) (n p d : Nat), look l f n (p + d) = ((look l f n p).1, (if (look l f n p).2.2 = 0 then (look l f n p).2.1 + d else 0), (look l f n p).2.2) := by
  induction l with
  | nil => intro f n p d; simp [look]
  | cons c r ih =>
    intro f n p d
    rw [look, look]
    by_cases c1 : f = true ∧ c.toNat = 128
    · simp [c1]
    · rw [if_neg c1, if_neg c1]
      by_cases c2 : 144115188075855871 < n
      · simp [c2]
      · rw [if_neg c2, if_neg c2]
        by_cases c3 : c.toNat < 128
        · simp [c3]; omega
        · rw [if_neg c3, if_neg c3]
          have := ih false (n * 128 + c.toNat % 128) (p + 1) d
          rw [← this, show p + d + 1 = p + 1 + d from by omega]

theorem look_more (l t : List UInt8) : ∀ (f : Bool) (n p : Nat), (look l f n p).2.2 ≠ 2 → look (l ++ t) f n p = look l f n p := by
  induction l with
  | nil => intro f n p h; simp [look] at h
  | cons c r ih =>
    intro f n p h
    rw [look] at h
    rw [List.cons_append, look, look]
    by_cases c1 : f = true ∧ c.toNat = 128
    · simp [c1]
    · rw [if_neg c1] at h
      rw [if_neg c1, if_neg c1]
      by_cases c2 : 144115188075855871 < n
      · simp [c2]
      · rw [if_neg c2] at h
        rw [if_neg c2, if_neg c2]
        by_cases c3 : c.toNat < 128
        · simp [c3]
        · rw [if_neg c3] at h
          rw [if_neg c3, if_neg c3]
          exact ih _ _ _ h

theorem getA_here (s : List UInt8) (k : Nat) (hk : k ≤ s.length) : getA s (k : Int) = look (s.drop k) true 0 k := by
  unfold getA; rw [if_neg (by omega)]; simp
theorem getA_shift (p s : List UInt8) (k : Nat) (hk : k ≤ s.length) {N P E : Nat} (h : getA s (k : Int) = (N, P, E)) :
    getA (p ++ s) ((p.length : Int) + (k : Int)) = (N, (if E = 0 then P + p.length else 0), E) := by
  have e : ((p.length : Int) + (k : Int)) = ((p.length + k : Nat) : Int) := by omega
  rw [e, getA_here (p ++ s) (p.length + k) (by simp; omega)]
  rw [getA_here s k hk] at h
  have e2 : (p ++ s).drop (p.length + k) = s.drop k := by simp
  rw [e2, Nat.add_comm p.length k, look_shift, h]
theorem getA_more (s t : List UInt8) (k : Nat) (hk : k ≤ s.length) {N P E : Nat} (h : getA s (k : Int) = (N, P, E)) (hE : E ≠ 2) :
    getA (s ++ t) (k : Int) = (N, P, E) := by
  rw [getA_here (s ++ t) k (by simp; omega)]
  rw [getA_here s k hk] at h
  have e2 : (s ++ t).drop k = s.drop k ++ t := List.drop_append_of_le_length hk
  rw [e2, look_more _ _ _ _ _ (by rw [h]; exact hE), h]
theorem textA_shift (p s : List UInt8) (k : Nat) (m : Int) (hk : k ≤ s.length) {x : List UInt8} {i h : Nat} (ht : textA s (k : Int) m = (x, i, h)) :
    textA (p ++ s) ((p.length : Int) + (k : Int)) m = (x, (if h = 0 then i + p.length else 0), h) := by
  obtain ⟨N, P, E, hg⟩ : ∃ N P E, getA s (k : Int) = (N, P, E) := ⟨_, _, _, rfl⟩
  have hg2 := getA_shift p s k hk hg
  unfold textA at ht ⊢
  simp only [hg] at ht
  simp only [hg2]
  by_cases c1 : E = 0
  · subst c1
    rw [if_neg (by simp)] at ht ⊢
    by_cases c2 : 0 < N ∧ m < (N : Int)
    · rw [if_pos c2] at ht ⊢
      simp only [Prod.mk.injEq] at ht
      obtain ⟨rfl, rfl, rfl⟩ := ht
      simp
    · rw [if_neg c2] at ht ⊢
      have e3 : (p ++ s).length - (P + p.length) = s.length - P := by simp; omega
      simp only [if_true, e3]
      by_cases c3 : s.length - P < N
      · rw [if_pos c3] at ht ⊢
        simp only [Prod.mk.injEq] at ht
        obtain ⟨rfl, rfl, rfl⟩ := ht
        simp
      · rw [if_neg c3] at ht ⊢
        simp only [Prod.mk.injEq] at ht
        obtain ⟨rfl, rfl, rfl⟩ := ht
        have e4 : (p ++ s).drop (P + p.length) = s.drop P := by rw [Nat.add_comm]; simp
        rw [e4]
        simp; omega
  · rw [if_pos (by simpa using c1)] at ht ⊢
    simp only [Prod.mk.injEq] at ht
    obtain ⟨rfl, rfl, rfl⟩ := ht
    simp [c1]
theorem textA_of_err (s : List UInt8) (a m : Int) {N P E : Nat} (hg : getA s a = (N, P, E)) (hE : E ≠ 0) : textA s a m = ([], 0, E) := by
  unfold textA; simp [hg, hE]
theorem look_err' (l : List UInt8) : ∀ (f : Bool) (n p : Nat), (look l f n p).2.2 ≠ 0 → (look l f n p).1 = 0 ∧ (look l f n p).2.1 = 0 := by
  induction l with
  | nil => intro f n p h; simp [look]
  | cons c r ih =>
    intro f n p
    rw [look]
    split
    · simp
    · split
      · simp
      · split
        · simp
        · exact ih _ _ _
theorem getA_err (l : List UInt8) (a : Int) {N P E : Nat} (h : getA l a = (N, P, E)) (hE : E ≠ 0) : N = 0 ∧ P = 0 := by
  unfold getA at h
  split at h
  · simp at h; omega
  · have := look_err' (l.drop a.toNat) true 0 a.toNat (by rw [h]; exact hE)
    rw [h] at this; exact this
theorem textA_place (s : List UInt8) (a m : Int) {x : List UInt8} {i h : Nat} (ht : textA s a m = (x, i, h)) (hb : (getA s a).2.1 ≤ s.length) : i ≤ s.length := by
  obtain ⟨N, P, E, hg⟩ : ∃ N P E, getA s a = (N, P, E) := ⟨_, _, _, rfl⟩
  rw [hg] at hb
  simp only at hb
  unfold textA at ht
  simp only [hg] at ht
  split at ht
  · simp only [Prod.mk.injEq] at ht; omega
  · split at ht
    · simp only [Prod.mk.injEq] at ht; omega
    · split at ht
      · simp only [Prod.mk.injEq] at ht; omega
      · simp only [Prod.mk.injEq] at ht; omega
end Go.Proofs.Ytpgfgfbhbncabaa
