/- The law VintMost returns true for every text and bound, and its arguments read as they did. No conditions. -/
import Derived.Test.YtpgfgfbhbncabaaRows
import Derived.WalkKit
import Derived.ProofKit
import Derived.OpenShut
import Derived.ShutString
import Derived.Test.YtpgfgfbhbncabaaMathB
import Derived.Test.YtpgfgfbhbncabaaFixed
import Derived.ChangeOld
import Derived.Below
namespace Go.Proofs.Ytpgfgfbhbncabaa.vintMost
open Go.ChangeShapes Go.WideShapes Go.ChangeAt Go.RowKit
open Go.ChangeMaps (open_string shut_string)
set_option linter.unusedVariables false

theorem own : ownKnob Try.prog.godebug = none := by kernel_rfl

theorem ptS_list (s : ByteArray) : (ptS s).data.toList = [] ++ (put s.data.toList.length ++ (s.data.toList ++ [])) := by
  have : s.data.toList.length = s.size := by simp
  rw [this]; simp [ptS, putS, ByteArray.data_append]
theorem ptS_size (s : ByteArray) (h : s.size ≤ 1000) : (ptS s).size ≤ 1000000 := by
  have := putS_size s.size (by omega)
  simp only [ptS, ByteArray.size_append]; omega
theorem most_ok (s : ByteArray) (m : Int) (w : World) (h : s.size ≤ 1000) (hm : 0 < s.size → (s.size : Int) ≤ m) (hm1 : -9223372036854775808 ≤ m) (hm2 : m ≤ 9223372036854775807) :
    Calls Try.prog 16 #[.string (ptS s), .int .i64 0, .int .i64 m] w fun e w' => e = .returned (.tuple #[.string s, .int .i64 (ptS s).size, .int .i64 0]) ∧ Below w.heap.size w w' := by
  refine (text_any (ptS s) 0 m w (ptS_size s h) hm1 hm2).mono fun e w' ⟨he, hb⟩ => ⟨?_, hb⟩
  have hl : s.data.toList.length = s.size := by simp
  have H := textA_at [] s.data.toList [] m (by omega) (by rw [hl]; exact hm)
  rw [← ptS_list] at H
  rw [he]
  have e1 : (ptS s).size = (put s.size).length + s.size := by
    rw [ptS, ByteArray.size_append]; rfl
  simp only [List.length_nil, Int.ofNat_zero, Nat.zero_add] at H
  rw [hl] at H
  simp only [tS, tP, tE]
  rw [H, e1]
  simp
theorem most_big (s : ByteArray) (m : Int) (w : World) (h : s.size ≤ 1000) (hm : 0 < s.size ∧ m < (s.size : Int)) (hm1 : -9223372036854775808 ≤ m) (hm2 : m ≤ 9223372036854775807) :
    Calls Try.prog 16 #[.string (ptS s), .int .i64 0, .int .i64 m] w fun e w' => e = .returned (.tuple #[.string ⟨#[]⟩, .int .i64 0, .int .i64 4]) ∧ Below w.heap.size w w' := by
  refine (text_any (ptS s) 0 m w (ptS_size s h) hm1 hm2).mono fun e w' ⟨he, hb⟩ => ⟨?_, hb⟩
  have hl : s.data.toList.length = s.size := by simp
  have H := textA_over [] s.data.toList [] m (by omega) (by rw [hl]; exact hm)
  rw [← ptS_list] at H
  rw [he]
  simp only [List.length_nil] at H
  simp only [Int.ofNat_zero] at H
  simp only [tS, tP, tE]
  rw [H]
  simp

set_option maxHeartbeats 2000000 in
theorem walkS (s : ByteArray) (m : Int) (hs : s.size ≤ 300) (hm1 : -9223372036854775808 ≤ m) (hm2 : m ≤ 9223372036854775807) (w : World) :
    Calls Try.prog 10 #[.string s, .int .i64 m] w fun e w' => e = .returned (.bool true) ∧ Below w.heap.size w w' := by
  have hmin : min (s.size : Int) 300 = s.size := by omega
  by_cases c1 : (s.size : Int) ≤ m
  · have K := Lib.hid (show 0 < s.size → (s.size : Int) ≤ m from fun _ => c1)

    go_enter Try.func10, Try.ntmps10
    go_wp2_with fail
    refine (putText_any _ _ (by omega)).mono ?_
    rintro e w1 ⟨rfl, hb1⟩
    go_wp2_with fail
    refine (most_ok s m _ (by omega) K.out hm1 hm2).mono ?_
    rintro e w2 ⟨rfl, hb2⟩
    have hb := hb1.trans (hb2.mono hb1.size)
    clear hb1 hb2
    go_wp2_with fail
    refine (fixed_any _).mono ?_
    rintro e w3 ⟨rfl, hb3⟩
    have hb4 := hb.trans (hb3.mono hb.size)
    clear hb hb3
    go_wp2
    go_ret
    exact ⟨rfl, hb4⟩
  · by_cases c2 : s.size = 0
    · have K := Lib.hid (show 0 < s.size → (s.size : Int) ≤ m from fun h => by omega)
      have c1' : decide ((s.size : Int) ≤ m) = false := by simpa using c1
      have c2' : ((s.size : Int) == 0) = true := by simpa using c2
      have C2 := Lib.hid c2
      have c3 : s.size ≤ 300 := by omega
      clear c1 c2

      go_enter Try.func10, Try.ntmps10
      go_wp2_with fail
      refine (putText_any _ _ (by omega)).mono ?_
      rintro e w1 ⟨rfl, hb1⟩
      go_wp2_with fail
      refine (most_ok s m _ (by omega) K.out hm1 hm2).mono ?_
      rintro e w2 ⟨rfl, hb2⟩
      have hb := hb1.trans (hb2.mono hb1.size)
      clear hb1 hb2
      go_wp2_with fail
      refine (fixed_any _).mono ?_
      rintro e w3 ⟨rfl, hb3⟩
      have hb4 := hb.trans (hb3.mono hb.size)
      clear hb hb3
      go_wp2
      go_ret
      exact ⟨rfl, hb4⟩

    · have K := Lib.hid (show 0 < s.size ∧ m < (s.size : Int) from by omega)
      have c1' : decide ((s.size : Int) ≤ m) = false := by simpa using c1
      have c2' : ((s.size : Int) == 0) = false := by simpa using c2
      clear c1 c2

      go_enter Try.func10, Try.ntmps10
      go_wp2_with fail
      refine (putText_any _ _ (by omega)).mono ?_
      rintro e w1 ⟨rfl, hb1⟩
      go_wp2_with fail
      refine (most_big s m _ (by omega) K.out hm1 hm2).mono ?_
      rintro e w2 ⟨rfl, hb2⟩
      have hb := hb1.trans (hb2.mono hb1.size)
      clear hb1 hb2
      go_wp2_with fail
      refine (fixed_any _).mono ?_
      rintro e w3 ⟨rfl, hb3⟩
      have hb4 := hb.trans (hb3.mono hb.size)
      clear hb hb3
      go_wp2
      go_ret
      exact ⟨rfl, hb4⟩

set_option maxHeartbeats 2000000 in
theorem walkT (s t : ByteArray) (m : Int) (hs : s.size ≤ maxLen) (h : ¬ s.size ≤ 300) (hsl : s.extract 0 300 = t) (ht : t.size ≤ 300) (hm1 : -9223372036854775808 ≤ m) (hm2 : m ≤ 9223372036854775807) (w : World) :
    Calls Try.prog 10 #[.string s, .int .i64 m] w fun e w' => e = .returned (.bool true) ∧ Below w.heap.size w w' := by
  unfold maxLen at hs
  have hmin : min (s.size : Int) 300 = 300 := by omega
  have h' : (300 : Int) ≤ s.size := by omega
  by_cases c1 : (t.size : Int) ≤ m
  · have K := Lib.hid (show 0 < t.size → (t.size : Int) ≤ m from fun _ => c1)

    go_enter Try.func10, Try.ntmps10
    go_wp2_with fail
    refine (putText_any _ _ (by omega)).mono ?_
    rintro e w1 ⟨rfl, hb1⟩
    go_wp2_with fail
    refine (most_ok t m _ (by omega) K.out hm1 hm2).mono ?_
    rintro e w2 ⟨rfl, hb2⟩
    have hb := hb1.trans (hb2.mono hb1.size)
    clear hb1 hb2
    go_wp2_with fail
    refine (fixed_any _).mono ?_
    rintro e w3 ⟨rfl, hb3⟩
    have hb4 := hb.trans (hb3.mono hb.size)
    clear hb hb3
    go_wp2
    go_ret
    exact ⟨rfl, hb4⟩
  · by_cases c2 : t.size = 0
    · have K := Lib.hid (show 0 < t.size → (t.size : Int) ≤ m from fun h => by omega)
      have c1' : decide ((t.size : Int) ≤ m) = false := by simpa using c1
      have c2' : ((t.size : Int) == 0) = true := by simpa using c2
      have C2 := Lib.hid c2
      have c3 : t.size ≤ 300 := by omega
      clear c1 c2

      go_enter Try.func10, Try.ntmps10
      go_wp2_with fail
      refine (putText_any _ _ (by omega)).mono ?_
      rintro e w1 ⟨rfl, hb1⟩
      go_wp2_with fail
      refine (most_ok t m _ (by omega) K.out hm1 hm2).mono ?_
      rintro e w2 ⟨rfl, hb2⟩
      have hb := hb1.trans (hb2.mono hb1.size)
      clear hb1 hb2
      go_wp2_with fail
      refine (fixed_any _).mono ?_
      rintro e w3 ⟨rfl, hb3⟩
      have hb4 := hb.trans (hb3.mono hb.size)
      clear hb hb3
      go_wp2
      go_ret
      exact ⟨rfl, hb4⟩

    · have K := Lib.hid (show 0 < t.size ∧ m < (t.size : Int) from by omega)
      have c1' : decide ((t.size : Int) ≤ m) = false := by simpa using c1
      have c2' : ((t.size : Int) == 0) = false := by simpa using c2
      clear c1 c2

      go_enter Try.func10, Try.ntmps10
      go_wp2_with fail
      refine (putText_any _ _ (by omega)).mono ?_
      rintro e w1 ⟨rfl, hb1⟩
      go_wp2_with fail
      refine (most_big t m _ (by omega) K.out hm1 hm2).mono ?_
      rintro e w2 ⟨rfl, hb2⟩
      have hb := hb1.trans (hb2.mono hb1.size)
      clear hb1 hb2
      go_wp2_with fail
      refine (fixed_any _).mono ?_
      rintro e w3 ⟨rfl, hb3⟩
      have hb4 := hb.trans (hb3.mono hb.size)
      clear hb hb3
      go_wp2
      go_ret
      exact ⟨rfl, hb4⟩

set_option maxHeartbeats 2000000 in
theorem walk (a0 : ByteArray) (a1 : Int) (w0 : a0.size ≤ maxLen) (w1 : (Lit.int .i64 a1).wf = true) (w : World) :
    Calls Try.prog 10 #[.string a0, .int .i64 a1] w fun e w' => e = .returned (.bool true) ∧ Below w.heap.size w w' := by
  obtain ⟨b1, b2⟩ := bounds_i64 w1
  by_cases h : a0.size ≤ 300
  · exact walkS a0 a1 h b1 b2 w
  · exact walkT a0 _ a1 w0 h rfl (by simp only [ByteArray.size_extract]; omega) b1 b2 w

set_option maxRecDepth 100000 in
theorem lifted (os : Os) (started : os.Started) (H : Type) (enc : TypeId × Value → H) :
    ReturnsInHanded {} Try.checked os 10 .any (Rows.vintMostSpec.pre6 enc Try.prog Try.f10 Rows.vintMostRow.domain false) (Rows.vintMostSpec.post enc Try.prog Try.f10 false true false false) := by
  refine returnsInHanded_of_change (C := Try.checked) own started (by kernel_rfl) Try.func10
    (ChangeSpec.witness6 (enc := enc) (C := Try.checked) false ⟨#[], #[.string ByteArray.empty, .int .i64 0], []⟩ 8 (by kernel_rfl) (by kernel_rfl) (by kernel_rfl) (by kernel_rfl)) ?_
  intro W base args ds gs before hval0 hW hcnd _
  have hval : ∀ (j : Nat) t v, Try.f10.params[j]? = some t → args[j]? = some v → Value.okWide Try.prog W .any base t v := hval0
  have hW' := hW
  obtain ⟨p, q, hA0, hV, rfl, hfz, hnd⟩ := hW
  have hA : DataW.TrodAll enc Try.prog W 0 (fun _ => true) true Try.f10.params.toList args.toList ds p := hA0
  rw [Try.params10] at hA hval
  obtain ⟨v0, vs0, d0, ds0, p0, q0, hargs, rfl, rfl, h0, r0⟩ := trodAll_cons hA
  obtain ⟨v1, vs1, d1, ds1, p1, q1, rfl, rfl, rfl, h1, r1⟩ := trodAll_cons r0
  obtain ⟨rfl, rfl, rfl⟩ := trodAll_nil r1
  obtain rfl : args = #[v0, v1] := by cases args; simp_all
  obtain ⟨rfl, rfl⟩ := trodVars_none hV
  obtain ⟨a0, rfl, rfl, rfl, w0⟩ := open_string Try.underlying9 (hval 0 9 v0 rfl rfl) h0
  obtain ⟨a1, rfl, rfl, rfl, w1⟩ := open_int Try.underlying3 (hval 1 3 v1 rfl rfl) h1
  clear hA0 hval0
  refine (walk a0 a1 w0 w1 W).mono fun e W' ⟨he, hg⟩ => ?_
  subst he
  exact ⟨_, rfl, _, _, _, [], _, [], hW', trodAll_mk1 (shut_bool Try.underlying4 _), (trodAll_cons_mk (shut_string Try.underlying9 w0) (trodAll_cons_mk (shut_int Try.underlying3 w1) trodAll_mk0)), rfl, hg.frame _, fun h => by cases h⟩

theorem over : Rows.vintMostRow.holds Try.pinned (OpenSpec.ofChange Rows.vintMostSpec) :=
  OpenClaim.holds_of_wide 10 Try.f10 rfl rfl rfl rfl rfl rfl rfl ⟨rfl, rfl, rfl, rfl, rfl⟩ rfl rfl rfl rfl rfl (by kernel_rfl) Try.func10 (by kernel_rfl)
    (of_decide_eq_true (by kernel_rfl)) (by unfold Func.isWrapper; first | (rw [if_pos (by decide +kernel)]; kernel_rfl) | (rw [if_neg (by decide +kernel)]; exact ⟨rfl, rfl⟩))
    (fun os started H enc _ => lifted os started H enc)

theorem proved : Rows.VintMostSaid :=
  over
#print axioms proved
end Go.Proofs.Ytpgfgfbhbncabaa.vintMost
