/- Plain facts: the order of numbers is that of their bytes, and no number's bytes begin another one's. No program is named here. Conditions: numbers are of 64 bits where a beginning is spoken of. -/
import Derived.Test.YtpgfgfbhbncabaaMathB
import GoSem.Op.String
namespace Go.Proofs.Ytpgfgfbhbncabaa

theorem hi_mono : ∀ (k n m : Nat), n ≤ k → m ≤ n → (hi m).length ≤ (hi n).length := by
  intro k
  induction k with
  | zero => intro n m h1 h2; obtain rfl : n = 0 := by omega
            obtain rfl : m = 0 := by omega
            exact Nat.le_refl _
  | succ k ih =>
    intro n m h1 h2
    by_cases hm : m = 0
    · subst hm; simp [hi_zero]
    · rw [hi_step m hm, hi_step n (by omega)]
      have := ih (n / 128) (m / 128) (by omega) (by omega)
      simp; omega
theorem put_mono (m n : Nat) (h : m ≤ n) : (put m).length ≤ (put n).length := by
  have := hi_mono (n / 128) (n / 128) (m / 128) (Nat.le_refl _) (by omega)
  simp [put]; omega

theorem less_same (p : List UInt8) (a b : UInt8) (x y : List UInt8) (h : a < b) : Op.bytesLess (p ++ a :: x) (p ++ b :: y) = true := by
  induction p with
  | nil => simp [Op.bytesLess, h]
  | cons c p ih => simp [Op.bytesLess, ih]
theorem byte_lt {a b : UInt8} (h : a.toNat < b.toNat) : a < b := UInt8.lt_iff_toNat_lt.2 h
theorem hi_less : ∀ (k n m : Nat), n ≤ k → m < n → (hi m).length = (hi n).length → ∀ x y : List UInt8, Op.bytesLess (hi m ++ x) (hi n ++ y) = true := by
  intro k
  induction k with
  | zero => intro n m h1 h2; omega
  | succ k ih =>
    intro n m h1 h2 h3 x y
    have hn : n ≠ 0 := by omega
    have hm : m ≠ 0 := by
      intro e; subst e; rw [hi_zero, hi_step n hn] at h3; simp at h3
    rw [hi_step n hn, hi_step m hm] at h3 ⊢
    by_cases hq : m / 128 < n / 128
    · have := ih (n / 128) (m / 128) (by omega) hq (by simpa using h3) ([UInt8.ofNat (128 + m % 128)] ++ x) ([UInt8.ofNat (128 + n % 128)] ++ y)
      simpa only [List.append_assoc] using this
    · have e : m / 128 = n / 128 := by omega
      rw [e, List.append_assoc, List.append_assoc, List.singleton_append, List.singleton_append]
      exact less_same _ _ _ _ _ (byte_lt (by rw [byte_hi, byte_hi]; omega))
theorem put_less (m n : Nat) (h : m < n) (hl : (put m).length = (put n).length) : Op.bytesLess (put m) (put n) = true := by
  unfold put at hl ⊢
  by_cases hq : m / 128 < n / 128
  · exact hi_less (n / 128) (n / 128) (m / 128) (Nat.le_refl _) hq (by simpa using hl) _ _
  · have e : m / 128 = n / 128 := by omega
    rw [e]
    exact less_same _ _ _ _ _ (byte_lt (by rw [byte_lo, byte_lo]; omega))

theorem put_prefix (m n : Nat) (hm : m ≤ 18446744073709551615) (hn : n ≤ 18446744073709551615) (r : List UInt8) (h : put n = put m ++ r) : m = n := by
  have h1 := look_put n hn [] 0
  have h2 := look_put m hm r 0
  rw [List.append_nil, h, h2] at h1
  simpa using congrArg Prod.fst h1
theorem put_inj (m n : Nat) (hm : m ≤ 18446744073709551615) (hn : n ≤ 18446744073709551615) (h : put n = put m) : m = n :=
  put_prefix m n hm hn [] (by simpa using h)
theorem put_take (m n : Nat) (hm : m ≤ 18446744073709551615) (hn : n ≤ 18446744073709551615) (h : (put n).take (put m).length = put m) : m = n :=
  put_prefix m n hm hn ((put n).drop (put m).length) (by have := List.take_append_drop (put m).length (put n); rw [h] at this; exact this.symm)
end Go.Proofs.Ytpgfgfbhbncabaa
