/- The walks of Put, and the document's Put, for every number of 64 bits. -/
import Derived.Test.YtjcgckhheegonaaVintA
import Derived.Test.YtjcgckhheegonaaRowB
namespace Go.Proofs.Ytjcgckhheegonaa
open Go.RowKit
set_option linter.unusedVariables false

theorem hi_le (k : Nat) : ∀ n, n < 128 ^ k → (hi n).length ≤ k := by
  induction k with
  | zero => intro n h; obtain rfl : n = 0 := by simpa using h
            simp [hi_zero]
  | succ k ih =>
    intro n h
    by_cases h0 : n = 0
    · subst h0; simp [hi_zero]
    · rw [hi_step n h0]
      have := ih (n / 128) (by rw [Nat.pow_succ] at h; omega)
      simp; omega
theorem put_le (n : Nat) (h : (n : Int) ≤ 18446744073709551615) : (put n).length ≤ 10 := by
  have := hi_le 9 (n / 128) (by omega)
  simp [put]; omega

theorem one_append (c : UInt8) (l : List UInt8) : (⟨#[c]⟩ : ByteArray) ++ ⟨l.toArray⟩ = ⟨(c :: l).toArray⟩ := by
  have := ByteArray.mk_append_mk [c] l
  simpa using this
theorem retS {a b : ByteArray} (h : a = b) : Ending.returned (.string a) = .returned (.string b) := by rw [h]
theorem valS {a b : ByteArray} (h : a = b) : Value.string a = .string b := by rw [h]

end Go.Proofs.Ytjcgckhheegonaa
