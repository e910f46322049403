/- Numbers got, by what getA tells. -/
import Derived.Test.YtjcgckhheegonaaVintC
namespace Go.Proofs.Ytjcgckhheegonaa
open Go.RowKit
set_option linter.unusedVariables false
set_option linter.unusedSimpArgs false

theorem putS_size (n : Nat) (h : (n : Int) ≤ 18446744073709551615) : (putS n).size ≤ 10 := by
  have := put_le n h
  simpa [putS, ByteArray.size] using this

theorem getA_bounds (s : ByteArray) (a : Int) {N P E : Nat} (h : getA s.data.toList a = (N, P, E)) : (N : Int) ≤ 18446744073709551615 ∧ P ≤ s.size := by
  unfold getA at h
  split at h
  · simp at h; omega
  · rename_i hc
    have h1 := look_lt (s.data.toList.drop a.toNat) true 0 a.toNat
    rw [h] at h1
    have h2 : s.data.toList.length = s.size := by simp
    rw [h2] at hc
    simp at h1
    omega
end Go.Proofs.Ytjcgckhheegonaa
