/- The walks of Put, and the document's Put, for every number of 64 bits. -/
import Derived.Test.YtjimkkakcgdgfaaVintA
import Derived.Test.YtjimkkakcgdgfaaRowB
namespace Go.Proofs.Ytjimkkakcgdgfaa
open Go.RowKit
set_option linter.unusedVariables false

theorem hi_le (k : Nat) : ∀ n, n < 128 ^ k → (hi n).length ≤ k := by
  induction k with
  | zero => intro n h; obtain rfl : n = 0 := by simpa using h
            simp [hi_zero]
  | succ k ih =>
    intro n h
    by_cases h0 : n = 0
    · subst h0; simp [hi_zero]
    · rw [hi_step n h0]
      have := ih (n / 128) (by rw [Nat.pow_succ] at h; omega)
      simp; omega
theorem put_le (n : Nat) (h : (n : Int) ≤ 18446744073709551615) : (put n).length ≤ 10 := by
  have := hi_le 9 (n / 128) (by omega)
  simp [put]; omega

theorem one_append (c : UInt8) (l : List UInt8) : (⟨#[c]⟩ : ByteArray) ++ ⟨l.toArray⟩ = ⟨(c :: l).toArray⟩ := by
  have := ByteArray.mk_append_mk [c] l
  simpa using this
theorem retS {a b : ByteArray} (h : a = b) : Ending.returned (.string a) = .returned (.string b) := by rw [h]
theorem valS {a b : ByteArray} (h : a = b) : Value.string a = .string b := by rw [h]

set_option maxHeartbeats 1000000 in
theorem rput_any (n : Nat) (w : World) (h : (n : Int) ≤ 18446744073709551615) :
    Calls Try.prog 35 #[.int .u64 n] w fun e w' => e = .returned (.string (putS n)) ∧ Below w.heap.size w w' := by
  have hc := fun (w : World) => conv_one w ((n : Int) % 128) (by omega) (by omega)
  have H0 := Lib.hid (put_le n h)
  go_enter Try.func35, Try.ntmps35
  go_wp2
  clear hc
  go_loopw [0, 3] (fun x t wr => ∃ (m : Nat) (l : List UInt8), x = .int .u64 m ∧ t = .string ⟨l.toArray⟩ ∧ (m : Int) ≤ 144115188075855871 ∧ l.length ≤ 10 ∧ Hid (put n = hi m ++ l) ∧ Below w.heap.size w wr) (fun x _ _ => (intOf x).toNat)
  case atStart =>
    exact ⟨n / 128, [UInt8.ofNat (n % 128)], by go_num, by simp, by omega, by simp, rfl, (Below.refl _ _).alloc (Nat.le_refl _) _⟩
  case round =>
    obtain ⟨m, l, rfl, rfl, hmb, hlb, HR, hb⟩ := hrel
    by_cases hm : m = 0
    · subst hm
      go_wp2
      go_ret
      exact ⟨retS (by have := HR.out; rw [hi_zero] at this; rw [putS, this]; rfl), hb⟩
    · have hc := fun (w : World) => conv_one w (128 + (m : Int) % 128) (by omega) (by omega)
      have hm' : (0 : Int) < m := by omega
      have hl1 : l.length + 1 ≤ 10 := by
        have h1 := HR.out
        have h2 := H0.out
        rw [h1, hi_step m hm] at h2; simp at h2; omega
      have HN := Lib.hid hm
      clear hm
      go_wp2
      go_roundw
      case rel =>
        exact ⟨m / 128, UInt8.ofNat (128 + m % 128) :: l, by go_num, valS (by rw [one_append]; simp), by omega, by simpa using hl1, by
          have h1 := HR.out
          rw [hi_step m HN.out] at h1
          exact Lib.hid (by simpa using h1), hb.alloc hb.size _⟩
      case measure => simp [intOf]; omega
end Go.Proofs.Ytjimkkakcgdgfaa
