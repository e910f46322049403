/- Plain facts: what is put is read back, what is cut off is too short, what is read is what is put of it. No program is named here. No conditions but that numbers are of 64 bits. -/
import Derived.Test.YtjcgckhheegonaaVintM
namespace Go.Proofs.Ytjcgckhheegonaa

theorem byte_hi (m : Nat) : (UInt8.ofNat (128 + m % 128)).toNat = 128 + m % 128 := by
  rw [UInt8.toNat_ofNat']; omega
theorem byte_lo (m : Nat) : (UInt8.ofNat (m % 128)).toNat = m % 128 := by
  rw [UInt8.toNat_ofNat']; omega

theorem look_hi : ∀ (k m : Nat), m ≤ k → m ≤ 144115188075855871 → ∀ (r : List UInt8) (p : Nat), look (hi m ++ r) true 0 p = look r (decide (m = 0)) m (p + (hi m).length) := by
  intro k
  induction k with
  | zero =>
    intro m hk hm r p
    obtain rfl : m = 0 := by omega
    simp [hi_zero]
  | succ k ih =>
    intro m hk hm r p
    by_cases h0 : m = 0
    · subst h0; simp [hi_zero]
    · rw [hi_step m h0, List.append_assoc, ih (m / 128) (by omega) (by omega)]
      rw [List.singleton_append, look, byte_hi]
      rw [if_neg (by simp; omega), if_neg (by omega), if_neg (by omega)]
      have e1 : m / 128 * 128 + (128 + m % 128) % 128 = m := by omega
      have e2 : decide (m = 0) = false := by simpa using h0
      rw [e1, e2]
      simp [Nat.add_assoc]

theorem look_put (n : Nat) (hn : n ≤ 18446744073709551615) (r : List UInt8) (p : Nat) : look (put n ++ r) true 0 p = (n, p + (put n).length, 0) := by
  rw [put, List.append_assoc, look_hi (n / 128) (n / 128) (Nat.le_refl _) (by omega), List.singleton_append, look, byte_lo]
  rw [if_neg (by simp; omega), if_neg (by omega), if_pos (by omega)]
  have e1 : n / 128 * 128 + n % 128 = n := by omega
  rw [e1]; simp [Nat.add_assoc]

theorem getA_at (l r : List UInt8) (n : Nat) (hn : n ≤ 18446744073709551615) : getA (l ++ (put n ++ r)) (l.length : Int) = (n, l.length + (put n).length, 0) := by
  unfold getA
  rw [if_neg (by simp; omega)]
  simp only [Int.toNat_natCast, List.drop_left]
  exact look_put n hn r _

theorem textA_at (l t r : List UInt8) (m : Int) (hn : t.length ≤ 18446744073709551615) (hm : 0 < t.length → (t.length : Int) ≤ m) :
    textA (l ++ (put t.length ++ (t ++ r))) (l.length : Int) m = (t, l.length + (put t.length).length + t.length, 0) := by
  unfold textA
  simp only [getA_at l (t ++ r) t.length hn]
  rw [if_neg (by simp), if_neg (by omega), if_neg (by simp; omega)]
  have e : (l ++ (put t.length ++ (t ++ r))).drop (l.length + (put t.length).length) = t ++ r := by
    rw [← List.append_assoc, List.drop_append_of_le_length (by simp)]
    rw [← List.length_append, List.drop_length]
    simp
  rw [e]; simp
theorem textA_over (l t r : List UInt8) (m : Int) (hn : t.length ≤ 18446744073709551615) (hm : 0 < t.length ∧ m < (t.length : Int)) :
    textA (l ++ (put t.length ++ (t ++ r))) (l.length : Int) m = ([], 0, 4) := by
  unfold textA
  simp only [getA_at l (t ++ r) t.length hn]
  rw [if_neg (by simp), if_pos hm]

theorem look_cut (l : List UInt8) : ∀ (k : Nat) (f : Bool) (n p v : Nat), look l f n p = (v, p + l.length, 0) → k < l.length → look (l.take k) f n p = (0, 0, 2) := by
  induction l with
  | nil => intro k f n p v h hk; simp at hk
  | cons c r ih =>
    intro k f n p v h hk
    cases k with
    | zero => simp [look]
    | succ k =>
      rw [look] at h
      rw [List.take_succ_cons, look]
      by_cases c1 : f = true ∧ c.toNat = 128
      · rw [if_pos c1] at h; simp at h
      · rw [if_neg c1] at h ⊢
        by_cases c2 : 144115188075855871 < n
        · rw [if_pos c2] at h; simp at h
        · rw [if_neg c2] at h ⊢
          by_cases c3 : c.toNat < 128
          · rw [if_pos c3] at h
            have h2 : p + 1 = p + (c :: r).length := congrArg (fun x => x.2.1) h
            simp only [List.length_cons] at h2 hk
            omega
          · rw [if_neg c3] at h ⊢
            refine ih k false _ (p + 1) v ?_ (by simpa using hk)
            rw [h]; simp; omega

theorem look_err (l : List UInt8) : ∀ (f : Bool) (n p : Nat), (look l f n p).2.2 ≠ 0 → (look l f n p).1 = 0 ∧ (look l f n p).2.1 = 0 := by
  induction l with
  | nil => intro f n p h; simp [look]
  | cons c r ih =>
    intro f n p
    rw [look]
    split
    · simp
    · split
      · simp
      · split
        · simp
        · exact ih _ _ _

theorem look_ok (l : List UInt8) : ∀ (f : Bool) (n p N P : Nat), look l f n p = (N, P, 0) → (f = true → n = 0) → (f = false → n ≠ 0) → p < P ∧ P ≤ p + l.length ∧ put N = hi n ++ l.take (P - p) := by
  induction l with
  | nil => intro f n p N P h; simp [look] at h
  | cons c r ih =>
    intro f n p N P h hf1 hf2
    have hc := c.toNat_lt
    rw [look] at h
    by_cases c1 : f = true ∧ c.toNat = 128
    · rw [if_pos c1] at h; simp at h
    · rw [if_neg c1] at h
      by_cases c2 : 144115188075855871 < n
      · rw [if_pos c2] at h; simp at h
      · rw [if_neg c2] at h
        by_cases c3 : c.toNat < 128
        · rw [if_pos c3] at h
          simp at h
          obtain ⟨rfl, rfl⟩ := h
          refine ⟨by omega, by simp, ?_⟩
          have e1 : (n * 128 + c.toNat) / 128 = n := by omega
          have e2 : (n * 128 + c.toNat) % 128 = c.toNat := by omega
          rw [put, e1, e2]
          simp
        · rw [if_neg c3] at h
          have hn0 : n * 128 + c.toNat % 128 ≠ 0 := by
            cases f with
            | true =>
              have := hf1 rfl
              have c4 : c.toNat ≠ 128 := fun e => c1 ⟨rfl, e⟩
              omega
            | false => have := hf2 rfl; omega
          obtain ⟨h1, h2, h3⟩ := ih false _ (p + 1) N P h (by simp) (fun _ => hn0)
          refine ⟨by omega, by simp; omega, ?_⟩
          have e1 : (n * 128 + c.toNat % 128) / 128 = n := by omega
          have e2 : 128 + (n * 128 + c.toNat % 128) % 128 = c.toNat := by omega
          rw [h3, hi_step _ hn0, e1, e2]
          have e3 : P - p = P - (p + 1) + 1 := by omega
          rw [e3, List.take_succ_cons]
          simp

theorem getA_zero (l : List UInt8) : getA l 0 = look l true 0 0 := by
  unfold getA; rw [if_neg (by omega)]; simp
theorem getA_zero_ok (l : List UInt8) (N P : Nat) (h : getA l 0 = (N, P, 0)) : 1 ≤ P ∧ P ≤ l.length ∧ put N = l.take P := by
  rw [getA_zero] at h
  obtain ⟨h1, h2, h3⟩ := look_ok l true 0 0 N P h (by simp) (by simp)
  exact ⟨by omega, by omega, by simpa [hi_zero] using h3⟩
theorem getA_zero_err (l : List UInt8) (N P E : Nat) (h : getA l 0 = (N, P, E)) (hE : E ≠ 0) : N = 0 ∧ P = 0 := by
  rw [getA_zero] at h
  have := look_err l true 0 0 (by rw [h]; exact hE)
  rw [h] at this; exact this
theorem getA_cut (n k : Nat) (hn : n ≤ 18446744073709551615) (hk : k < (put n).length) : getA ((put n).take k) 0 = (0, 0, 2) := by
  rw [getA_zero]
  have := look_put n hn [] 0
  rw [List.append_nil] at this
  exact look_cut (put n) k true 0 0 n this hk
end Go.Proofs.Ytjcgckhheegonaa
