/- Plain facts: what is put is read back, wherever it stands. No program is named here. No conditions but that numbers are of 64 bits. -/
import Derived.Test.YtpgfgfbhbncabaaMath
namespace Go.Proofs.Ytpgfgfbhbncabaa

theorem byte_hi (m : Nat) : (UInt8.ofNat (128 + m % 128)).toNat = 128 + m % 128 := by
  rw [UInt8.toNat_ofNat']; omega
theorem byte_lo (m : Nat) : (UInt8.ofNat (m % 128)).toNat = m % 128 := by
  rw [UInt8.toNat_ofNat']; omega

theorem look_hi : ∀ (k m : Nat), m ≤ k → m ≤ 144115188075855871 → ∀ (r : List UInt8) (p : Nat), look (hi m ++ r) true 0 p = look r (decide (m = 0)) m (p + (hi m).length) := by
  intro k
  induction k with
  | zero =>
    intro m hk hm r p
    obtain rfl : m = 0 := by omega
    simp [hi_zero]
  | succ k ih =>
    intro m hk hm r p
    by_cases h0 : m = 0
    · subst h0; simp [hi_zero]
    · rw [hi_step m h0, List.append_assoc, ih (m / 128) (by omega) (by omega)]
      rw [List.singleton_append, look, byte_hi]
      rw [if_neg (by simp; omega), if_neg (by omega), if_neg (by omega)]
      have e1 : m / 128 * 128 + (128 + m % 128) % 128 = m := by omega
      have e2 : decide (m = 0) = false := by simpa using h0
      rw [e1, e2]
      simp [Nat.add_assoc]

theorem look_put (n : Nat) (hn : n ≤ 18446744073709551615) (r : List UInt8) (p : Nat) : look (put n ++ r) true 0 p = (n, p + (put n).length, 0) := by
  rw [put, List.append_assoc, look_hi (n / 128) (n / 128) (Nat.le_refl _) (by omega), List.singleton_append, look, byte_lo]
  rw [if_neg (by simp; omega), if_neg (by omega), if_pos (by omega)]
  have e1 : n / 128 * 128 + n % 128 = n := by omega
  rw [e1]; simp [Nat.add_assoc]

theorem getA_at (l r : List UInt8) (n : Nat) (hn : n ≤ 18446744073709551615) : getA (l ++ (put n ++ r)) (l.length : Int) = (n, l.length + (put n).length, 0) := by
  unfold getA
  rw [if_neg (by simp; omega)]
  simp only [Int.toNat_natCast, List.drop_left]
  exact look_put n hn r _

theorem textA_at (l t r : List UInt8) (m : Int) (hn : t.length ≤ 18446744073709551615) (hm : 0 < t.length → (t.length : Int) ≤ m) :
    textA (l ++ (put t.length ++ (t ++ r))) (l.length : Int) m = (t, l.length + (put t.length).length + t.length, 0) := by
  unfold textA
  simp only [getA_at l (t ++ r) t.length hn]
  rw [if_neg (by simp), if_neg (by omega), if_neg (by simp; omega)]
  have e : (l ++ (put t.length ++ (t ++ r))).drop (l.length + (put t.length).length) = t ++ r := by
    rw [← List.append_assoc, List.drop_append_of_le_length (by simp)]
    rw [← List.length_append, List.drop_length]
    simp
  rw [e]; simp
theorem textA_over (l t r : List UInt8) (m : Int) (hn : t.length ≤ 18446744073709551615) (hm : 0 < t.length ∧ m < (t.length : Int)) :
    textA (l ++ (put t.length ++ (t ++ r))) (l.length : Int) m = ([], 0, 4) := by
  unfold textA
  simp only [getA_at l (t ++ r) t.length hn]
  rw [if_neg (by simp), if_pos hm]
end Go.Proofs.Ytpgfgfbhbncabaa
