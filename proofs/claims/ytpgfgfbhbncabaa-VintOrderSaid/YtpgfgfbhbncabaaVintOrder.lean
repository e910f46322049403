/- The law VintOrder returns true for every two numbers, and its arguments read as they did. No conditions. -/
import Derived.Test.YtpgfgfbhbncabaaRows
import Derived.WalkKit
import Derived.ProofKit
import Derived.OpenShut
import Derived.ShutString
import Derived.Test.YtpgfgfbhbncabaaMathB
import Derived.Test.YtpgfgfbhbncabaaMathC
import Derived.Test.YtpgfgfbhbncabaaFixed
import Derived.ChangeOld
import Derived.Below
namespace Go.Proofs.Ytpgfgfbhbncabaa.vintOrder
open Go.ChangeShapes Go.WideShapes Go.ChangeAt Go.RowKit
open Go.ChangeMaps (open_string shut_string)
set_option linter.unusedVariables false

theorem own : ownKnob Try.prog.godebug = none := by kernel_rfl

set_option maxHeartbeats 2000000 in
set_option maxRecDepth 100000 in
theorem eq_case (n : Nat) (A : ByteArray) (HA : Hid (putS n = A)) (hn : (n : Int) ≤ 18446744073709551615) (ha1 : 1 ≤ A.size) (ha2 : A.size ≤ 10) (w : World) :
    Calls Try.prog 6 #[.int .u64 n, .int .u64 n] w fun e w' => e = .returned (.bool true) ∧ Below w.heap.size w w' := by
  go_enter Try.func6, Try.ntmps6
  go_wp2_with fail
  refine (put_is _ rfl hn HA.out).mono ?_
  rintro e w1 ⟨rfl, hb1⟩
  go_wp2_with fail
  refine (put_is _ rfl hn HA.out).mono ?_
  rintro e w2 ⟨rfl, hb2⟩
  have hb := hb1.trans (hb2.mono hb1.size)
  clear hb1 hb2
  go_wp2_with fail
  refine (fixed_any _).mono ?_
  rintro e w3 ⟨rfl, hb3⟩
  have hb4 := hb.trans (hb3.mono hb.size)
  clear hb hb3
  go_wp2
  go_ret
  exact ⟨rfl, hb4⟩

set_option maxHeartbeats 2000000 in
set_option maxRecDepth 100000 in
theorem less_short (m n : Nat) (A B : ByteArray) (HA : Hid (putS m = A)) (HB : Hid (putS n = B)) (hm : (m : Int) ≤ 18446744073709551615) (hn : (n : Int) ≤ 18446744073709551615) (ha1 : 1 ≤ A.size) (ha2 : A.size ≤ 10) (h : m < n) (hs : A.size < B.size) (hne : (A.toList == B.toList) = false) (hp : ((B.extract 0 A.size).toList == A.toList) = false) (w : World) :
    Calls Try.prog 6 #[.int .u64 m, .int .u64 n] w fun e w' => e = .returned (.bool true) ∧ Below w.heap.size w w' := by
  have q0 : decide ((A.size : Int) < 1) = false := by simp; omega
  have q1 : decide ((10 : Int) < A.size) = false := by simp; omega
  have h1 : (m : Int) < n := by omega
  have h2 : ((m : Int) == n) = false := by simp; omega
  have h3 : decide (B.size < A.size) = false := by simp; omega
  have h4 : ((A.size : Int) == B.size) = false := by simp; omega
  have h5 : A.size ≤ B.size := by omega
  go_enter Try.func6, Try.ntmps6
  go_wp2_with fail
  refine (put_is _ rfl hm HA.out).mono ?_
  rintro e w1 ⟨rfl, hb1⟩
  go_wp2_with fail
  refine (put_is _ rfl hn HB.out).mono ?_
  rintro e w2 ⟨rfl, hb2⟩
  have hb := hb1.trans (hb2.mono hb1.size)
  clear hb1 hb2
  go_wp2_with fail
  refine (fixed_any _).mono ?_
  rintro e w3 ⟨rfl, hb3⟩
  have hb4 := hb.trans (hb3.mono hb.size)
  clear hb hb3
  go_wp2
  go_ret
  exact ⟨rfl, hb4⟩

set_option maxHeartbeats 2000000 in
set_option maxRecDepth 100000 in
theorem less_same_size (m n : Nat) (A B : ByteArray) (HA : Hid (putS m = A)) (HB : Hid (putS n = B)) (hm : (m : Int) ≤ 18446744073709551615) (hn : (n : Int) ≤ 18446744073709551615) (ha1 : 1 ≤ A.size) (ha2 : A.size ≤ 10) (h : m < n) (hs : A.size = B.size) (hlt : Op.bytesLess A.toList B.toList = true) (hne : (A.toList == B.toList) = false) (hp : ((B.extract 0 A.size).toList == A.toList) = false) (w : World) :
    Calls Try.prog 6 #[.int .u64 m, .int .u64 n] w fun e w' => e = .returned (.bool true) ∧ Below w.heap.size w w' := by
  have q0 : decide ((A.size : Int) < 1) = false := by simp; omega
  have q1 : decide ((10 : Int) < A.size) = false := by simp; omega
  have h1 : (m : Int) < n := by omega
  have h2 : ((m : Int) == n) = false := by simp; omega
  have h3 : decide (B.size < A.size) = false := by simp; omega
  have h4 : ((A.size : Int) == B.size) = true := by simp; omega
  have h5 : A.size ≤ B.size := by omega
  clear hs
  go_enter Try.func6, Try.ntmps6
  go_wp2_with fail
  refine (put_is _ rfl hm HA.out).mono ?_
  rintro e w1 ⟨rfl, hb1⟩
  go_wp2_with fail
  refine (put_is _ rfl hn HB.out).mono ?_
  rintro e w2 ⟨rfl, hb2⟩
  have hb := hb1.trans (hb2.mono hb1.size)
  clear hb1 hb2
  go_wp2_with fail
  refine (fixed_any _).mono ?_
  rintro e w3 ⟨rfl, hb3⟩
  have hb4 := hb.trans (hb3.mono hb.size)
  clear hb hb3
  go_wp2
  go_ret
  exact ⟨rfl, hb4⟩

set_option maxHeartbeats 2000000 in
set_option maxRecDepth 100000 in
theorem more_long (m n : Nat) (A B : ByteArray) (HA : Hid (putS m = A)) (HB : Hid (putS n = B)) (hm : (m : Int) ≤ 18446744073709551615) (hn : (n : Int) ≤ 18446744073709551615) (ha1 : 1 ≤ A.size) (ha2 : A.size ≤ 10) (h : n < m) (hs : B.size < A.size) (hne : (A.toList == B.toList) = false) (w : World) :
    Calls Try.prog 6 #[.int .u64 m, .int .u64 n] w fun e w' => e = .returned (.bool true) ∧ Below w.heap.size w w' := by
  have q0 : decide ((A.size : Int) < 1) = false := by simp; omega
  have q1 : decide ((10 : Int) < A.size) = false := by simp; omega
  have h1 : ¬ (m : Int) < n := by omega
  have h1' : decide ((m : Int) < n) = false := by simp; omega
  have h2 : ((m : Int) == n) = false := by simp; omega
  have h3 : decide (B.size < A.size) = true := by simp; omega
  go_enter Try.func6, Try.ntmps6
  go_wp2_with fail
  refine (put_is _ rfl hm HA.out).mono ?_
  rintro e w1 ⟨rfl, hb1⟩
  go_wp2_with fail
  refine (put_is _ rfl hn HB.out).mono ?_
  rintro e w2 ⟨rfl, hb2⟩
  have hb := hb1.trans (hb2.mono hb1.size)
  clear hb1 hb2
  go_wp2_with fail
  refine (fixed_any _).mono ?_
  rintro e w3 ⟨rfl, hb3⟩
  have hb4 := hb.trans (hb3.mono hb.size)
  clear hb hb3
  go_wp2
  go_ret
  exact ⟨rfl, hb4⟩

set_option maxHeartbeats 2000000 in
set_option maxRecDepth 100000 in
theorem more_other (m n : Nat) (A B : ByteArray) (HA : Hid (putS m = A)) (HB : Hid (putS n = B)) (hm : (m : Int) ≤ 18446744073709551615) (hn : (n : Int) ≤ 18446744073709551615) (ha1 : 1 ≤ A.size) (ha2 : A.size ≤ 10) (h : n < m) (hs : A.size ≤ B.size) (hne : (A.toList == B.toList) = false) (hp : ((B.extract 0 A.size).toList == A.toList) = false) (w : World) :
    Calls Try.prog 6 #[.int .u64 m, .int .u64 n] w fun e w' => e = .returned (.bool true) ∧ Below w.heap.size w w' := by
  have q0 : decide ((A.size : Int) < 1) = false := by simp; omega
  have q1 : decide ((10 : Int) < A.size) = false := by simp; omega
  have h1 : ¬ (m : Int) < n := by omega
  have h1' : decide ((m : Int) < n) = false := by simp; omega
  have h2 : ((m : Int) == n) = false := by simp; omega
  have h3 : decide (B.size < A.size) = false := by simp; omega
  go_enter Try.func6, Try.ntmps6
  go_wp2_with fail
  refine (put_is _ rfl hm HA.out).mono ?_
  rintro e w1 ⟨rfl, hb1⟩
  go_wp2_with fail
  refine (put_is _ rfl hn HB.out).mono ?_
  rintro e w2 ⟨rfl, hb2⟩
  have hb := hb1.trans (hb2.mono hb1.size)
  clear hb1 hb2
  go_wp2_with fail
  refine (fixed_any _).mono ?_
  rintro e w3 ⟨rfl, hb3⟩
  have hb4 := hb.trans (hb3.mono hb.size)
  clear hb hb3
  go_wp2
  go_ret
  exact ⟨rfl, hb4⟩

theorem walkN (m n : Nat) (hm : (m : Int) ≤ 18446744073709551615) (hn : (n : Int) ≤ 18446744073709551615) (w : World) :
    Calls Try.prog 6 #[.int .u64 m, .int .u64 n] w fun e w' => e = .returned (.bool true) ∧ Below w.heap.size w w' := by
  have size_put : ∀ k, (putS k).size = (put k).length := fun k => by show (put k).toArray.size = _; simp
  have list_put : ∀ k, (putS k).toList = put k := fun k => ByteArray.toList_mk _
  have a1 := put_length_pos m
  have a2 := put_le m hm
  rw [← size_put] at a1 a2
  by_cases he : m = n
  · subst he
    exact eq_case m _ (Lib.hid rfl) hm a1 a2 w
  · have hne : ((putS m).toList == (putS n).toList) = false := by
      rw [list_put, list_put]
      simpa using fun e => he (put_inj m n (by omega) (by omega) e.symm)
    have hp : (((putS n).extract 0 (putS m).size).toList == (putS m).toList) = false := by
      have e1 : ((putS n).extract 0 (putS m).size).toList = (put n).take (put m).length := by
        rw [ByteArray.toList_eq, size_put]; simp [putS]
      rw [e1, list_put]
      simpa using fun e => he (put_take m n (by omega) (by omega) e)
    by_cases h : m < n
    · have hs := put_mono m n (by omega)
      rw [← size_put, ← size_put] at hs
      by_cases hs2 : (putS m).size = (putS n).size
      · have hl := put_less m n h (by rw [← size_put, ← size_put]; exact hs2)
        rw [← list_put, ← list_put n] at hl
        exact less_same_size m n _ _ (Lib.hid rfl) (Lib.hid rfl) hm hn a1 a2 h hs2 hl hne hp w
      · exact less_short m n _ _ (Lib.hid rfl) (Lib.hid rfl) hm hn a1 a2 h (by omega) hne hp w
    · by_cases hs : (putS n).size < (putS m).size
      · exact more_long m n _ _ (Lib.hid rfl) (Lib.hid rfl) hm hn a1 a2 (by omega) hs hne w
      · exact more_other m n _ _ (Lib.hid rfl) (Lib.hid rfl) hm hn a1 a2 (by omega) (by omega) hne hp w

set_option maxHeartbeats 2000000 in
theorem walk (a0 : Int) (a1 : Int) (w0 : (Lit.int .u64 a0).wf = true) (w1 : (Lit.int .u64 a1).wf = true) (w : World) :
    Calls Try.prog 6 #[.int .u64 a0, .int .u64 a1] w fun e w' => e = .returned (.bool true) ∧ Below w.heap.size w w' := by
  obtain ⟨b1, b2⟩ := bounds_u64 w0
  obtain ⟨b3, b4⟩ := bounds_u64 w1
  obtain ⟨m, rfl⟩ := Int.eq_ofNat_of_zero_le b1
  obtain ⟨n, rfl⟩ := Int.eq_ofNat_of_zero_le b3
  exact walkN m n b2 b4 w

set_option maxRecDepth 100000 in
theorem lifted (os : Os) (started : os.Started) (H : Type) (enc : TypeId × Value → H) :
    ReturnsInHanded {} Try.checked os 6 .any (Rows.vintOrderSpec.pre6 enc Try.prog Try.f6 Rows.vintOrderRow.domain false) (Rows.vintOrderSpec.post enc Try.prog Try.f6 false true false false) := by
  refine returnsInHanded_of_change (C := Try.checked) own started (by kernel_rfl) Try.func6
    (ChangeSpec.witness6 (enc := enc) (C := Try.checked) false ⟨#[], #[.int .u64 0, .int .u64 0], []⟩ 8 (by kernel_rfl) (by kernel_rfl) (by kernel_rfl) (by kernel_rfl)) ?_
  intro W base args ds gs before hval0 hW hcnd _
  have hval : ∀ (j : Nat) t v, Try.f6.params[j]? = some t → args[j]? = some v → Value.okWide Try.prog W .any base t v := hval0
  have hW' := hW
  obtain ⟨p, q, hA0, hV, rfl, hfz, hnd⟩ := hW
  have hA : DataW.TrodAll enc Try.prog W 0 (fun _ => true) true Try.f6.params.toList args.toList ds p := hA0
  rw [Try.params6] at hA hval
  obtain ⟨v0, vs0, d0, ds0, p0, q0, hargs, rfl, rfl, h0, r0⟩ := trodAll_cons hA
  obtain ⟨v1, vs1, d1, ds1, p1, q1, rfl, rfl, rfl, h1, r1⟩ := trodAll_cons r0
  obtain ⟨rfl, rfl, rfl⟩ := trodAll_nil r1
  obtain rfl : args = #[v0, v1] := by cases args; simp_all
  obtain ⟨rfl, rfl⟩ := trodVars_none hV
  obtain ⟨a0, rfl, rfl, rfl, w0⟩ := open_int Try.underlying22 (hval 0 22 v0 rfl rfl) h0
  obtain ⟨a1, rfl, rfl, rfl, w1⟩ := open_int Try.underlying22 (hval 1 22 v1 rfl rfl) h1
  clear hA0 hval0
  refine (walk a0 a1 w0 w1 W).mono fun e W' ⟨he, hg⟩ => ?_
  subst he
  exact ⟨_, rfl, _, _, _, [], _, [], hW', trodAll_mk1 (shut_bool Try.underlying4 _), (trodAll_cons_mk (shut_int Try.underlying22 w0) (trodAll_cons_mk (shut_int Try.underlying22 w1) trodAll_mk0)), rfl, hg.frame _, fun h => by cases h⟩

theorem over : Rows.vintOrderRow.holds Try.pinned (OpenSpec.ofChange Rows.vintOrderSpec) :=
  OpenClaim.holds_of_wide 6 Try.f6 rfl rfl rfl rfl rfl rfl rfl ⟨rfl, rfl, rfl, rfl, rfl⟩ rfl rfl rfl rfl rfl (by kernel_rfl) Try.func6 (by kernel_rfl)
    (of_decide_eq_true (by kernel_rfl)) (by unfold Func.isWrapper; first | (rw [if_pos (by decide +kernel)]; kernel_rfl) | (rw [if_neg (by decide +kernel)]; exact ⟨rfl, rfl⟩))
    (fun os started H enc _ => lifted os started H enc)

theorem proved : Rows.VintOrderSaid :=
  over
#print axioms proved
end Go.Proofs.Ytpgfgfbhbncabaa.vintOrder
