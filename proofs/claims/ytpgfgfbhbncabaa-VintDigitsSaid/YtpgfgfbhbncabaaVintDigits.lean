/- The law VintDigits returns true for every number, and its argument reads as it did. No conditions. -/
import Derived.Test.YtpgfgfbhbncabaaRows
import Derived.WalkKit
import Derived.ProofKit
import Derived.OpenShut
import Derived.ShutString
import Derived.StillTailTactics
import Derived.Test.YtpgfgfbhbncabaaMathB
import Derived.Test.YtpgfgfbhbncabaaFixed
import Derived.ChangeOld
import Derived.Below
namespace Go.Proofs.Ytpgfgfbhbncabaa.vintDigits
open Go.ChangeShapes Go.WideShapes Go.ChangeAt Go.RowKit
open Go.ChangeMaps (open_string shut_string)
set_option linter.unusedVariables false

theorem own : ownKnob Try.prog.godebug = none := by kernel_rfl

theorem digits_facts (n : Nat) : ∃ (l : List UInt8), (put n = l ++ [UInt8.ofNat (n % 128)]) ∧ (n < 128 → l = []) ∧
    (¬ n < 128 → ∃ r : List UInt8, l = r ++ [UInt8.ofNat (128 + n / 128 % 128)] ∧ put (n / 128) = r ++ [UInt8.ofNat (n / 128 % 128)]) := by
  refine ⟨hi (n / 128), rfl, ?_, ?_⟩
  · intro h; rw [show n / 128 = 0 by omega, hi_zero]
  · intro h; exact ⟨hi (n / 128 / 128), hi_step _ (by omega), rfl⟩

theorem one_facts (n : Nat) (h : n < 128) : ∃ A : ByteArray, putS n = A ∧ ∃ hs : A.size = 1, ((A[0]'(by omega)).toNat : Int) = (n : Int) % 128 := by
  obtain ⟨l, h1, h2, h3⟩ := digits_facts n
  rw [h2 h] at h1
  refine ⟨⟨#[UInt8.ofNat (n % 128)]⟩, by rw [putS, h1]; rfl, rfl, ?_⟩
  have := byte_lo n
  show ((UInt8.ofNat (n % 128)).toNat : Int) = _
  omega

theorem two_facts (n : Nat) (h : ¬ n < 128) (hn : (n : Int) ≤ 18446744073709551615) : ∃ (A B : ByteArray) (k : Nat), putS n = A ∧ putS (n / 128) = B ∧ ∃ (hA : A.size = k + 2) (hB : B.size = k + 1), ((A[k + 1]'(by omega)).toNat : Int) = (n : Int) % 128 ∧
    A.extract 0 k = B.extract 0 k ∧ ((A[k]'(by omega)).toNat : Int) = ((B[k]'(by omega)).toNat : Int) + 128 ∧ ((B[k]'(by omega)).toNat : Int) ≤ 127 ∧ k ≤ 20 := by
  obtain ⟨l, h1, h2, h3⟩ := digits_facts n
  obtain ⟨r, h4, h5⟩ := h3 h
  obtain ⟨x, hx⟩ : ∃ x, x = UInt8.ofNat (128 + n / 128 % 128) := ⟨_, rfl⟩
  obtain ⟨y, hy⟩ : ∃ y, y = UInt8.ofNat (n % 128) := ⟨_, rfl⟩
  obtain ⟨z, hz⟩ : ∃ z, z = UInt8.ofNat (n / 128 % 128) := ⟨_, rfl⟩
  have e1 := byte_hi (n / 128)
  have e2 := byte_lo n
  have e3 := byte_lo (n / 128)
  rw [← hx] at h4 e1
  rw [← hy] at h1 e2
  rw [← hz] at h5 e3
  have sA : (⟨(r ++ [x, y]).toArray⟩ : ByteArray).size = r.length + 2 := by show (r ++ [x, y]).toArray.size = _; simp
  have sB : (⟨(r ++ [z]).toArray⟩ : ByteArray).size = r.length + 1 := by show (r ++ [z]).toArray.size = _; simp
  refine ⟨⟨(r ++ [x, y]).toArray⟩, ⟨(r ++ [z]).toArray⟩, r.length, by rw [putS, h1, h4]; simp, by rw [putS, h5], sA, sB, ?_, ?_, ?_, ?_, by have := put_le n hn; rw [h1, h4] at this; simp at this; omega⟩
  · have : (⟨(r ++ [x, y]).toArray⟩ : ByteArray)[r.length + 1]'(by omega) = y := by show (r ++ [x, y]).toArray[r.length + 1]'_ = y; simp
    rw [this, e2]; omega
  · apply ByteArray.ext
    apply Array.ext'
    simp
  · have a1 : (⟨(r ++ [x, y]).toArray⟩ : ByteArray)[r.length]'(by omega) = x := by show (r ++ [x, y]).toArray[r.length]'_ = x; simp
    have a2 : (⟨(r ++ [z]).toArray⟩ : ByteArray)[r.length]'(by omega) = z := by show (r ++ [z]).toArray[r.length]'_ = z; simp
    rw [a1, a2, e1, e3]; omega
  · have a2 : (⟨(r ++ [z]).toArray⟩ : ByteArray)[r.length]'(by omega) = z := by show (r ++ [z]).toArray[r.length]'_ = z; simp
    rw [a2, e3]; omega

set_option maxHeartbeats 2000000 in
set_option maxRecDepth 100000 in
theorem walkS (n : Nat) (hn : (n : Int) ≤ 18446744073709551615) (h : n < 128) (w : World) :
    Calls Try.prog 9 #[.int .u64 n] w fun e w' => e = .returned (.bool true) ∧ Below w.heap.size w w' := by
  obtain ⟨B, hB0, hB1⟩ : ∃ B : ByteArray, putS (n / 128) = B ∧ (1 : Int) ≤ B.size := ⟨_, rfl, by have := put_length_pos (n / 128); simp only [putS]; show (1 : Int) ≤ ((put (n / 128)).toArray.size : Nat); simp; omega⟩
  obtain ⟨A, hA0, hs, hx⟩ := one_facts n h
  have HA := Lib.hid hA0
  have HB := Lib.hid hB0
  have hb0 : decide ((B.size : Int) < 1) = false := by simp; omega
  have h' : (n : Int) < 128 := by omega
  clear hB0 hA0
  go_enter Try.func9, Try.ntmps9
  go_wp2_with fail
  refine (put_is _ rfl hn HA.out).mono ?_
  rintro e w1 ⟨rfl, hb1⟩
  go_wp2_with fail
  refine (put_is (n := n / 128) _ (by omega) (by omega) HB.out).mono ?_
  rintro e w2 ⟨rfl, hb2⟩
  have hb := hb1.trans (hb2.mono hb1.size)
  clear hb1 hb2
  go_wp2_with fail
  refine (fixed_any _).mono ?_
  rintro e w3 ⟨rfl, hb3⟩
  have hb4 := hb.trans (hb3.mono hb.size)
  clear hb hb3
  go_wp2
  go_ret
  exact ⟨rfl, hb4⟩

set_option maxHeartbeats 2000000 in
set_option maxRecDepth 100000 in
theorem walkT (n : Nat) (hn : (n : Int) ≤ 18446744073709551615) (h : ¬ n < 128) (w : World) :
    Calls Try.prog 9 #[.int .u64 n] w fun e w' => e = .returned (.bool true) ∧ Below w.heap.size w w' := by
  obtain ⟨A, B, k, hA0, hB0, hs, hs2, hx1, hx2, hx3, hx4, hk⟩ := two_facts n h hn
  have HA := Lib.hid hA0
  have HB := Lib.hid hB0
  have h' : decide ((n : Int) < 128) = false := by simp; omega
  clear hB0 hA0 h
  go_enter Try.func9, Try.ntmps9
  go_wp2_with fail
  refine (put_is _ rfl hn HA.out).mono ?_
  rintro e w1 ⟨rfl, hb1⟩
  go_wp2_with fail
  refine (put_is (n := n / 128) _ (by omega) (by omega) HB.out).mono ?_
  rintro e w2 ⟨rfl, hb2⟩
  have hb := hb1.trans (hb2.mono hb1.size)
  clear hb1 hb2
  go_wp2_with fail
  have q1 : ((k : Int) + 2 == (k : Int) + 1 + 1) = true := by simp; omega
  have z1 : IntKind.i64.wrap ((k : Int) + 1 + 1) = (k : Int) + 1 + 1 := IntWalk.i64_in _ (by omega)
  have z2 : IntKind.i64.wrap ((B[k].toNat : Int) + 128) = (B[k].toNat : Int) + 128 := IntWalk.i64_in _ (by omega)
  have z3 : IntKind.i64.wrap (B[k].toNat : Int) = (B[k].toNat : Int) := IntWalk.i64_in _ (by omega)
  have hk3 : (k : Int) ≤ (k : Int) + 2 := by omega
  have hk4 : (k : Int) ≤ (k : Int) + 1 := by omega
  have hk1 : (k : Int) < (k : Int) + 2 := by omega
  have hk2 : (k : Int) < (k : Int) + 1 := by omega
  go_still_tail 28, (by kernel_rfl)
  clear z1 z2 z3
  change wpList _ _ _ _ _ w2.drew
  go_wp2_with fail
  refine (fixed_any _).mono ?_
  rintro e w3 ⟨rfl, hb3⟩
  have hb4 := hb.drew.trans (hb3.mono hb.size)
  clear hb hb3
  go_wp2
  go_ret
  exact ⟨rfl, hb4⟩

set_option maxHeartbeats 2000000 in
theorem walk (a0 : Int) (w0 : (Lit.int .u64 a0).wf = true) (w : World) :
    Calls Try.prog 9 #[.int .u64 a0] w fun e w' => e = .returned (.bool true) ∧ Below w.heap.size w w' := by
  obtain ⟨b1, b2⟩ := bounds_u64 w0
  obtain ⟨n, rfl⟩ := Int.eq_ofNat_of_zero_le b1
  by_cases h : n < 128
  · exact walkS n b2 h w
  · exact walkT n b2 h w

set_option maxRecDepth 100000 in
theorem lifted (os : Os) (started : os.Started) (H : Type) (enc : TypeId × Value → H) :
    ReturnsInHanded {} Try.checked os 9 .any (Rows.vintDigitsSpec.pre6 enc Try.prog Try.f9 Rows.vintDigitsRow.domain false) (Rows.vintDigitsSpec.post enc Try.prog Try.f9 false true false false) := by
  refine returnsInHanded_of_change (C := Try.checked) own started (by kernel_rfl) Try.func9
    (ChangeSpec.witness6 (enc := enc) (C := Try.checked) false ⟨#[], #[.int .u64 0], []⟩ 8 (by kernel_rfl) (by kernel_rfl) (by kernel_rfl) (by kernel_rfl)) ?_
  intro W base args ds gs before hval0 hW hcnd _
  have hval : ∀ (j : Nat) t v, Try.f9.params[j]? = some t → args[j]? = some v → Value.okWide Try.prog W .any base t v := hval0
  have hW' := hW
  obtain ⟨p, q, hA0, hV, rfl, hfz, hnd⟩ := hW
  have hA : DataW.TrodAll enc Try.prog W 0 (fun _ => true) true Try.f9.params.toList args.toList ds p := hA0
  rw [Try.params9] at hA hval
  obtain ⟨v0, vs0, d0, ds0, p0, q0, hargs, rfl, rfl, h0, r0⟩ := trodAll_cons hA
  obtain ⟨rfl, rfl, rfl⟩ := trodAll_nil r0
  obtain rfl : args = #[v0] := by cases args; simp_all
  obtain ⟨rfl, rfl⟩ := trodVars_none hV
  obtain ⟨a0, rfl, rfl, rfl, w0⟩ := open_int Try.underlying22 (hval 0 22 v0 rfl rfl) h0
  clear hA0 hval0
  refine (walk a0 w0 W).mono fun e W' ⟨he, hg⟩ => ?_
  subst he
  exact ⟨_, rfl, _, _, _, [], _, [], hW', trodAll_mk1 (shut_bool Try.underlying4 _), (trodAll_cons_mk (shut_int Try.underlying22 w0) trodAll_mk0), rfl, hg.frame _, fun h => by cases h⟩

theorem over : Rows.vintDigitsRow.holds Try.pinned (OpenSpec.ofChange Rows.vintDigitsSpec) :=
  OpenClaim.holds_of_wide 9 Try.f9 rfl rfl rfl rfl rfl rfl rfl ⟨rfl, rfl, rfl, rfl, rfl⟩ rfl rfl rfl rfl rfl (by kernel_rfl) Try.func9 (by kernel_rfl)
    (of_decide_eq_true (by kernel_rfl)) (by unfold Func.isWrapper; first | (rw [if_pos (by decide +kernel)]; kernel_rfl) | (rw [if_neg (by decide +kernel)]; exact ⟨rfl, rfl⟩))
    (fun os started H enc _ => lifted os started H enc)

theorem proved : Rows.VintDigitsSaid :=
  over
#print axioms proved
end Go.Proofs.Ytpgfgfbhbncabaa.vintDigits
