/- ChainLimits: of an epoch that is none, or the last one, there is no next one, of one that is too far ahead no chain, nor of one that was; and nothing is put. No condition. -/
import Derived.Test.YtlnpfeecaiecaaaRows
import Derived.Test.YtlnpfeecaiecaaaChnX
import Derived.WalkKit
import Derived.ProofKit
import Derived.OpenShut
import Derived.ShutString
import Derived.ChangeOld
import Derived.Below
namespace Go.Proofs.Ytlnpfeecaiecaaa.chainLimits
open Go.ChangeShapes Go.WideShapes Go.ChangeAt Go.RowKit
open Go.ChangeMaps (open_string shut_string)
open Go.Proofs.Ytlnpfeecaiecaaa
set_option linter.unusedVariables false
set_option linter.unusedSimpArgs false
set_option maxRecDepth 20000

theorem own : ownKnob Try.prog.godebug = none := by kernel_rfl
theorem laidOut : laidOutB Try.prog = true := by kernel_rfl
theorem lz1 : putF [] 100 fz1 = (1, 0, [fz1]) := by simp [toF, toA, nextF, badE, putF, Tm.may, May, below3, BadP, many, prt, nameOf, eqB, tl0, sz0, List.findIdx?_cons, zeroT, hashT, keyT, fz1, getT]
theorem lz2 : putF [fz1] 100 (keyT 1 2) = (2, 0, [fz1, keyT 1 2]) := by simp [toF, toA, nextF, badE, putF, Tm.may, May, below3, BadP, many, prt, nameOf, eqB, tl0, sz0, List.findIdx?_cons, zeroT, hashT, keyT, fz1, getT]
set_option maxHeartbeats 2000000 in
set_option maxRecDepth 100000 in
theorem walk (x0 x1 : Int) (w : World) (w0 : (Lit.int .i64 x0).wf = true) (w1 : (Lit.int .u8 x1).wf = true) :
    Calls Try.prog 6 #[.int .i64 x0, .int .u8 x1] w fun e w' => e = .returned (.bool true) ∧ Below w.heap.size w w' := by
  obtain ⟨ep, rfl⟩ : ∃ ep, ep = x0 := ⟨_, rfl⟩
  obtain ⟨F, rfl⟩ : ∃ F, F = x1 := ⟨_, rfl⟩
  have HEP : Hid (I64 ep) := Lib.hid w0
  obtain ⟨y0, y1⟩ := Go.bounds_i64 w0
  obtain ⟨y2, y3⟩ := Go.bounds_u8 w1
  have gN := NoS.good w.heap.size
  have t3 := sameC 1 ep
  clear w0 w1
  cases hbad : badE ep with
  | true =>
    have HNX : Hid (nextF [fz1] 100 ⟨1, ep⟩ = (⟨0, 0⟩, 13, [fz1])) := Lib.hid (next_lim hbad)
    by_cases hneg : ep < 0
    · have n1 : decide (ep < 0) = true := decide_eq_true hneg
      clear hbad
      go_enter Try.func6, Try.ntmps6
      go_wp2_with fail
      refine (Pair.new1 (base := w.heap.size) (w0 := w) rfl (Below.refl _ _) (by omega) (by omega)).mono ?_
      rintro e w1 ⟨g, rfl, h1⟩
      have gP := PSq.good w.heap.size g 100
      have HC := Lib.hid (Cs.start h1)
      clear h1
      go_wp2_with fail
      refine (HC.out.pair.putP gN fz1 wz1 lz1).mono ?_
      rintro e w2 ⟨rfl, hp, hk⟩
      replace HC := Lib.hid (HC.out.step hp hk)
      clear hp hk
      replace HC := Lib.hid (HC.out.box gP gN #[.int .i64 1, .int .i64 ep] 30)
      obtain ⟨cf0, cf1, cf2, cf3⟩ := cells2 (HC.out.kept (w2.heap.size) (.cells #[.int .i64 1, .int .i64 ep] 30 (0, 0) : Obj) (by simp))
      go_wp2_with fail
      clear cf0 cf1 cf2 cf3
      refine (HC.out.pair.cnextP gN k1 HEP.out HNX.out).mono ?_
      rintro e w3 ⟨rfl, hp, hk⟩
      replace HC := Lib.hid (HC.out.step hp hk)
      clear hp hk
      replace HC := Lib.hid (HC.out.box gP gN #[.int .i64 0, .int .i64 0] 30)
      obtain ⟨df0, df1, df2, df3⟩ := cells2 (HC.out.kept (w3.heap.size) (.cells #[.int .i64 0, .int .i64 0] 30 (0, 0) : Obj) (by simp))
      go_wp2_with fail
      clear df0 df1 df2 df3
      refine (HC.out.pair.lenP).mono ?_
      rintro e w4 ⟨rfl, rfl⟩
      obtain ⟨df0, df1, df2, df3⟩ := cells2 (HC.out.kept (w3.heap.size) (.cells #[.int .i64 0, .int .i64 0] 30 (0, 0) : Obj) (by simp))
      go_wp2_with fail
      clear df0 df1 df2 df3
      refine (fixed_any _).mono ?_
      rintro e w99 ⟨rfl, hb⟩
      replace HC := Lib.hid (HC.out.below gP gN hb)
      clear hb
      go_wp2_with fail
      go_ret
      exact ⟨rfl, HC.out.low⟩
    · have hbig : 999 < ep := by simp [badE] at hbad; omega
      have n1 : decide (ep < 0) = false := decide_eq_false hneg
      have n2 : decide (1000 ≤ ep) = true := decide_eq_true (by omega)
      have n3 : 1000 ≤ ep := by omega
      clear hbad hneg hbig
      go_enter Try.func6, Try.ntmps6
      go_wp2_with fail
      refine (Pair.new1 (base := w.heap.size) (w0 := w) rfl (Below.refl _ _) (by omega) (by omega)).mono ?_
      rintro e w1 ⟨g, rfl, h1⟩
      have gP := PSq.good w.heap.size g 100
      have HC := Lib.hid (Cs.start h1)
      clear h1
      go_wp2_with fail
      refine (HC.out.pair.putP gN fz1 wz1 lz1).mono ?_
      rintro e w2 ⟨rfl, hp, hk⟩
      replace HC := Lib.hid (HC.out.step hp hk)
      clear hp hk
      replace HC := Lib.hid (HC.out.box gP gN #[.int .i64 1, .int .i64 ep] 30)
      obtain ⟨cf0, cf1, cf2, cf3⟩ := cells2 (HC.out.kept (w2.heap.size) (.cells #[.int .i64 1, .int .i64 ep] 30 (0, 0) : Obj) (by simp))
      go_wp2_with fail
      clear cf0 cf1 cf2 cf3
      refine (HC.out.pair.cnextP gN k1 HEP.out HNX.out).mono ?_
      rintro e w3 ⟨rfl, hp, hk⟩
      replace HC := Lib.hid (HC.out.step hp hk)
      clear hp hk
      replace HC := Lib.hid (HC.out.box gP gN #[.int .i64 0, .int .i64 0] 30)
      obtain ⟨df0, df1, df2, df3⟩ := cells2 (HC.out.kept (w3.heap.size) (.cells #[.int .i64 0, .int .i64 0] 30 (0, 0) : Obj) (by simp))
      go_wp2_with fail
      clear df0 df1 df2 df3
      refine (HC.out.pair.lenP).mono ?_
      rintro e w4 ⟨rfl, rfl⟩
      obtain ⟨df0, df1, df2, df3⟩ := cells2 (HC.out.kept (w3.heap.size) (.cells #[.int .i64 0, .int .i64 0] 30 (0, 0) : Obj) (by simp))
      go_wp2_with fail
      clear df0 df1 df2 df3
      refine (fixed_any _).mono ?_
      rintro e w99 ⟨rfl, hb⟩
      replace HC := Lib.hid (HC.out.below gP gN hb)
      clear hb
      go_wp2_with fail
      go_ret
      exact ⟨rfl, HC.out.low⟩
  | false =>
    obtain ⟨hp0, hp9⟩ := bad_no hbad
    have n1 : decide (ep < 0) = false := decide_eq_false (by omega)
    have n2 : decide (1000 ≤ ep) = false := decide_eq_false (by omega)
    obtain ⟨ep2, he2⟩ : ∃ e, ep + 1 = e := ⟨_, rfl⟩
    have HNX : Hid (nextF [fz1] 100 ⟨1, ep⟩ = (⟨2, ep2⟩, 0, [fz1, keyT 1 2])) := Lib.hid (by rw [← he2]; exact next_yes hbad lz2)
    obtain ⟨A1, hA1⟩ : ∃ e, ep + 5 = e := ⟨_, rfl⟩
    obtain ⟨A2, hA2⟩ : ∃ e, A1 + F = e := ⟨_, rfl⟩
    obtain ⟨B1, hB1⟩ : ∃ e, ep - 1 = e := ⟨_, rfl⟩
    obtain ⟨B2, hB2⟩ : ∃ e, B1 - F = e := ⟨_, rfl⟩
    have HA2 : Hid (I64 A2) := Lib.hid (i64_of (by omega) (by omega))
    have HB2 : Hid (I64 B2) := Lib.hid (i64_of (by omega) (by omega))
    have HT1 : Hid (toF [fz1, keyT 1 2] 100 ⟨1, ep⟩ A2 = (⟨0, 0⟩, [], 13, [fz1, keyT 1 2])) := Lib.hid (to_lim (by show 4 < A2 - ep; omega))
    have HT2 : Hid (toF [fz1, keyT 1 2] 100 ⟨1, ep⟩ B2 = (⟨0, 0⟩, [], 12, [fz1, keyT 1 2])) := Lib.hid (to_old (by show B2 < ep; omega))
    have HT3 : Hid (toF [fz1, keyT 1 2] 100 ⟨1, ep⟩ ep = (⟨1, ep⟩, [], 0, [fz1, keyT 1 2])) := Lib.hid (by rw [to_go (t := 0) (by simp) (by omega), to_zero])
    have b1 : A1 ≤ 9223372036854775807 := by omega
    have b2 : A2 ≤ 9223372036854775807 := by omega
    have b3 : -9223372036854775808 ≤ B1 := by omega
    have b4 : -9223372036854775808 ≤ B2 := by omega
    have b5 : -9223372036854775808 ≤ A2 := by omega
    have b6 : B2 ≤ 9223372036854775807 := by omega
    have b7 : ep2 ≤ 9223372036854775807 := by omega
    have b8 : -9223372036854775808 ≤ A1 := by omega
    have b9 : B1 ≤ 9223372036854775807 := by omega
    have eF : IntKind.i64.wrap F = F := by simp [IntKind.wrap, IntKind.signed, IntKind.bits]; omega
    clear hbad
    go_enter Try.func6, Try.ntmps6
    go_wp2_with fail
    refine (Pair.new1 (base := w.heap.size) (w0 := w) rfl (Below.refl _ _) (by omega) (by omega)).mono ?_
    rintro e w1 ⟨g, rfl, h1⟩
    have gP := PSq.good w.heap.size g 100
    have HC := Lib.hid (Cs.start h1)
    clear h1
    go_wp2_with fail
    refine (HC.out.pair.putP gN fz1 wz1 lz1).mono ?_
    rintro e w2 ⟨rfl, hp, hk⟩
    replace HC := Lib.hid (HC.out.step hp hk)
    clear hp hk
    replace HC := Lib.hid (HC.out.box gP gN #[.int .i64 1, .int .i64 ep] 30)
    obtain ⟨cf0, cf1, cf2, cf3⟩ := cells2 (HC.out.kept (w2.heap.size) (.cells #[.int .i64 1, .int .i64 ep] 30 (0, 0) : Obj) (by simp))
    go_wp2_with fail
    clear cf0 cf1 cf2 cf3
    refine (HC.out.pair.cnextP gN k1 HEP.out HNX.out).mono ?_
    rintro e w3 ⟨rfl, hp, hk⟩
    replace HC := Lib.hid (HC.out.step hp hk)
    clear hp hk
    replace HC := Lib.hid (HC.out.box gP gN #[.int .i64 2, .int .i64 ep2] 30)
    obtain ⟨df0, df1, df2, df3⟩ := cells2 (HC.out.kept (w3.heap.size) (.cells #[.int .i64 2, .int .i64 ep2] 30 (0, 0) : Obj) (by simp))
    go_wp2_with fail
    clear df0 df1 df2 df3
    refine (HC.out.pair.lenP).mono ?_
    rintro e w4 ⟨rfl, rfl⟩
    obtain ⟨cf0, cf1, cf2, cf3⟩ := cells2 (HC.out.kept (w2.heap.size) (.cells #[.int .i64 1, .int .i64 ep] 30 (0, 0) : Obj) (by simp))
    go_wp2_with fail
    clear cf0 cf1 cf2 cf3
    refine (HC.out.toP gN k1 HEP.out HA2.out HT1.out).mono ?_
    rintro e w5 ⟨rsx, ax, cx, rfl, hc, hi, _⟩
    replace HC := Lib.hid hc
    have HRx := Lib.hid hi
    clear hc hi
    replace HC := Lib.hid (HC.out.box gP gN #[.int .i64 0, .int .i64 0] 30)
    obtain ⟨cf0, cf1, cf2, cf3⟩ := cells2 (HC.out.kept (w2.heap.size) (.cells #[.int .i64 1, .int .i64 ep] 30 (0, 0) : Obj) (by simp))
    go_wp2_with fail
    clear cf0 cf1 cf2 cf3
    refine (HC.out.toP gN k1 HEP.out HB2.out HT2.out).mono ?_
    rintro e w6 ⟨rsy, ay, cy, rfl, hc, hi, _⟩
    replace HC := Lib.hid hc
    have HRy := Lib.hid hi
    clear hc hi
    replace HC := Lib.hid (HC.out.box gP gN #[.int .i64 0, .int .i64 0] 30)
    obtain ⟨cf0, cf1, cf2, cf3⟩ := cells2 (HC.out.kept (w2.heap.size) (.cells #[.int .i64 1, .int .i64 ep] 30 (0, 0) : Obj) (by simp))
    go_wp2_with fail
    clear cf0 cf1 cf2 cf3
    refine (HC.out.toP gN k1 HEP.out HEP.out HT3.out).mono ?_
    rintro e w7 ⟨rsz, az, cz, rfl, hc, hi, _⟩
    replace HC := Lib.hid hc
    have HRz := Lib.hid hi
    clear hc hi
    replace HC := Lib.hid (HC.out.box gP gN #[.int .i64 1, .int .i64 ep] 30)
    obtain ⟨cf0, cf1, cf2, cf3⟩ := cells2 (HC.out.kept (w2.heap.size) (.cells #[.int .i64 1, .int .i64 ep] 30 (0, 0) : Obj) (by simp))
    obtain ⟨df0, df1, df2, df3⟩ := cells2 (HC.out.kept (w3.heap.size) (.cells #[.int .i64 2, .int .i64 ep2] 30 (0, 0) : Obj) (by simp))
    obtain ⟨xf0, xf1, xf2, xf3⟩ := cells2 (HC.out.kept (w5.heap.size) (.cells #[.int .i64 0, .int .i64 0] 30 (0, 0) : Obj) (by simp))
    obtain ⟨yf0, yf1, yf2, yf3⟩ := cells2 (HC.out.kept (w6.heap.size) (.cells #[.int .i64 0, .int .i64 0] 30 (0, 0) : Obj) (by simp))
    obtain ⟨zf0, zf1, zf2, zf3⟩ := cells2 (HC.out.kept (w7.heap.size) (.cells #[.int .i64 1, .int .i64 ep] 30 (0, 0) : Obj) (by simp))
    go_wp2_with fail
    clear cf0 cf1 cf2 cf3 df0 df1 df2 df3 xf0 xf1 xf2 xf3 yf0 yf1 yf2 yf3 zf0 zf1 zf2 zf3
    refine (HC.out.pair.lenP).mono ?_
    rintro e w8 ⟨rfl, rfl⟩
    obtain ⟨cf0, cf1, cf2, cf3⟩ := cells2 (HC.out.kept (w2.heap.size) (.cells #[.int .i64 1, .int .i64 ep] 30 (0, 0) : Obj) (by simp))
    obtain ⟨df0, df1, df2, df3⟩ := cells2 (HC.out.kept (w3.heap.size) (.cells #[.int .i64 2, .int .i64 ep2] 30 (0, 0) : Obj) (by simp))
    obtain ⟨xf0, xf1, xf2, xf3⟩ := cells2 (HC.out.kept (w5.heap.size) (.cells #[.int .i64 0, .int .i64 0] 30 (0, 0) : Obj) (by simp))
    obtain ⟨yf0, yf1, yf2, yf3⟩ := cells2 (HC.out.kept (w6.heap.size) (.cells #[.int .i64 0, .int .i64 0] 30 (0, 0) : Obj) (by simp))
    obtain ⟨zf0, zf1, zf2, zf3⟩ := cells2 (HC.out.kept (w7.heap.size) (.cells #[.int .i64 1, .int .i64 ep] 30 (0, 0) : Obj) (by simp))
    go_wp2_with fail
    clear cf0 cf1 cf2 cf3 df0 df1 df2 df3 xf0 xf1 xf2 xf3 yf0 yf1 yf2 yf3 zf0 zf1 zf2 zf3
    refine (fixed_any _).mono ?_
    rintro e w99 ⟨rfl, hb⟩
    replace HC := Lib.hid (HC.out.below gP gN hb)
    clear hb
    go_wp2_with fail
    go_ret
    exact ⟨rfl, HC.out.low⟩
set_option maxRecDepth 100000 in
theorem lifted (os : Os) (started : os.Started) (H : Type) (enc : TypeId × Value → H) :
    ReturnsInHanded {} Try.checked os 6 .any (Rows.chainLimitsSpec.pre6 enc Try.prog Try.f6 Rows.chainLimitsRow.domain false) (Rows.chainLimitsSpec.post enc Try.prog Try.f6 false true false false) := by
  refine returnsInHanded_of_change (C := Try.checked) own started (by kernel_rfl) Try.func6
    (ChangeSpec.witness6 (enc := enc) (C := Try.checked) false ⟨#[], #[.int .i64 0, .int .u8 0], []⟩ 8 (by kernel_rfl) (by kernel_rfl) (by kernel_rfl) (by kernel_rfl)) ?_
  intro W base args ds gs before hval0 hW hcnd _
  have hval : ∀ (j : Nat) t v, Try.f6.params[j]? = some t → args[j]? = some v → Value.okWide Try.prog W .any base t v := hval0
  have hW' := hW
  obtain ⟨p, q, hA0, hV, rfl, hfz, hnd⟩ := hW
  have hA : DataW.TrodAll enc Try.prog W 0 (fun _ => true) true Try.f6.params.toList args.toList ds p := hA0
  rw [Try.params6] at hA hval
  obtain ⟨v0, vs0, d0, ds0, p0, q0, hargs, rfl, rfl, h0, r0⟩ := trodAll_cons hA
  obtain ⟨v1, vs1, d1, ds1, p1, q1, rfl, rfl, rfl, h1, r1⟩ := trodAll_cons r0
  obtain ⟨rfl, rfl, rfl⟩ := trodAll_nil r1
  obtain rfl : args = #[v0, v1] := by cases args; simp_all
  obtain ⟨rfl, rfl⟩ := trodVars_none hV
  obtain ⟨a0, rfl, rfl, rfl, w0⟩ := open_int Try.underlying3 (hval 0 3 v0 rfl rfl) h0
  obtain ⟨a1, rfl, rfl, rfl, w1⟩ := open_int Try.underlying5 (hval 1 5 v1 rfl rfl) h1
  clear hA0 hval0
  refine (walk a0 a1 W w0 w1).mono fun e W' ⟨he, bel⟩ => ?_
  subst he
  exact ⟨_, rfl, _, _, _, [], _, [], hW', trodAll_mk1 (shut_bool Try.underlying4 _), (trodAll_cons_mk (shut_int Try.underlying3 w0) (trodAll_cons_mk (shut_int Try.underlying5 w1) trodAll_mk0)), rfl, bel.frame _, fun h => by cases h⟩

theorem over : Rows.chainLimitsRow.holds Try.pinned (OpenSpec.ofChange Rows.chainLimitsSpec) :=
  OpenClaim.holds_of_wide 6 Try.f6 rfl rfl rfl rfl rfl rfl rfl ⟨rfl, rfl, rfl, rfl, rfl⟩ rfl rfl rfl rfl rfl (by kernel_rfl) Try.func6 (by kernel_rfl)
    (of_decide_eq_true (by kernel_rfl)) (by unfold Func.isWrapper; first | (rw [if_pos (by decide +kernel)]; kernel_rfl) | (rw [if_neg (by decide +kernel)]; exact ⟨rfl, rfl⟩))
    (fun os started H enc _ => lifted os started H enc)

theorem proved : Rows.ChainLimitsSaid := over
#print axioms proved
end Go.Proofs.Ytlnpfeecaiecaaa.chainLimits
