/- KemRoom: where there is no room it is said, the box stays if it was put, and is wrapped again as it was: for every room. No condition. -/
import Derived.Test.YtpfeonmgiekpfaaRows
import Derived.Test.YtpfeonmgiekpfaaKemF
import Derived.Test.YtpfeonmgiekpfaaOpens
import Derived.WalkKit
import Derived.ProofKit
import Derived.OpenShut
import Derived.ShutString
import Derived.ChangeOld
import Derived.Below
namespace Go.Proofs.Ytpfeonmgiekpfaa.kemRoom
open Go.ChangeShapes Go.WideShapes Go.ChangeAt Go.RowKit
open Go.ChangeMaps (open_string shut_string)
open Go.Proofs.Ytpfeonmgiekpfaa
set_option linter.unusedVariables false
set_option linter.unusedSimpArgs false

theorem own : ownKnob Try.prog.godebug = none := by kernel_rfl
theorem laidOut : laidOutB Try.prog = true := by kernel_rfl

theorem put1 (M : Int) (h : 3 ≤ M) : putF [] M fy1 = (1, 0, [fy1]) := by
  simp [putF, Tm.may, May, below3, BadP, many, prt, nameOf, eqB, tl0, sz0, List.findIdx?_cons, zeroT, kpubT, boxT, kemT, fy1, fy2, getT, wrapF, openF]
  omega
theorem put2 (M : Int) (h : 3 ≤ M) : putF [fy1] M fy2 = (2, 0, [fy1, fy2]) := by
  simp [putF, Tm.may, May, below3, BadP, many, prt, nameOf, eqB, tl0, sz0, List.findIdx?_cons, zeroT, kpubT, boxT, kemT, fy1, fy2, getT, wrapF, openF]
  omega
theorem put3 (M : Int) (h : 3 ≤ M) : putF [fy1, fy2] M (kpubT 1) = (3, 0, [fy1, fy2, kpubT 1]) := by
  simp [putF, Tm.may, May, below3, BadP, many, prt, nameOf, eqB, tl0, sz0, List.findIdx?_cons, zeroT, kpubT, boxT, kemT, fy1, fy2, getT, wrapF, openF]
  omega
theorem full3 : wrapF [fy1, fy2, kpubT 1] 3 3 2 = (0, 0, 4, [fy1, fy2, kpubT 1]) := by simp [putF, Tm.may, May, below3, BadP, many, prt, nameOf, eqB, tl0, sz0, List.findIdx?_cons, zeroT, kpubT, boxT, kemT, fy1, fy2, getT, wrapF, openF]
theorem full4 : wrapF [fy1, fy2, kpubT 1] 4 3 2 = (0, 0, 4, [fy1, fy2, kpubT 1, boxT 1 2]) := by simp [putF, Tm.may, May, below3, BadP, many, prt, nameOf, eqB, tl0, sz0, List.findIdx?_cons, zeroT, kpubT, boxT, kemT, fy1, fy2, getT, wrapF, openF]
theorem again4 : wrapF [fy1, fy2, kpubT 1, boxT 1 2] 4 3 2 = (0, 0, 4, [fy1, fy2, kpubT 1, boxT 1 2]) := by simp [putF, Tm.may, May, below3, BadP, many, prt, nameOf, eqB, tl0, sz0, List.findIdx?_cons, zeroT, kpubT, boxT, kemT, fy1, fy2, getT, wrapF, openF]
theorem both (M : Int) (h : 5 ≤ M) : wrapF [fy1, fy2, kpubT 1] M 3 2 = (4, 5, 0, [fy1, fy2, kpubT 1, boxT 1 2, kemT 1 2]) := by
  have h1 : ¬ M ≤ 3 := by omega
  have h2 : ¬ M ≤ 4 := by omega
  simp [putF, Tm.may, May, below3, BadP, many, prt, nameOf, eqB, tl0, sz0, List.findIdx?_cons, zeroT, kpubT, boxT, kemT, fy1, fy2, getT, wrapF, openF, h1, h2]
theorem again5 (M : Int) : wrapF [fy1, fy2, kpubT 1, boxT 1 2, kemT 1 2] M 3 2 = (4, 5, 0, [fy1, fy2, kpubT 1, boxT 1 2, kemT 1 2]) := by simp [putF, Tm.may, May, below3, BadP, many, prt, nameOf, eqB, tl0, sz0, List.findIdx?_cons, zeroT, kpubT, boxT, kemT, fy1, fy2, getT, wrapF, openF]

set_option maxHeartbeats 2000000 in
set_option maxRecDepth 100000 in
theorem walk (m : Int) (w : World) (w0 : (Lit.int .u8 m).wf = true) :
    Calls Try.prog 5 #[.int .u8 m] w fun e w' => e = .returned (.bool true) ∧ Below w.heap.size w w' := by
  obtain ⟨m0, m1⟩ := byte_in w0
  clear w0
  have gN := NoS.good w.heap.size
  have M3 : Hid (3 ≤ 3 + m % 4) := Lib.hid (by omega)
  go_enter Try.func5, Try.ntmps5
  go_wp2_with fail
  refine (Pair.new1 (base := w.heap.size) (w0 := w) rfl (Below.refl _ _) (by omega) (by omega)).mono ?_
  rintro e w1 ⟨g, rfl, hp⟩
  have HP0 := Lib.hid hp
  clear hp
  go_wp2_with fail
  refine (HP0.out.putP gN fy1 wy1 (put1 _ M3.out)).mono ?_
  rintro e w1 ⟨rfl, hp, _⟩
  have HP1 := Lib.hid hp
  clear hp HP0
  go_wp2_with fail
  refine (HP1.out.putP gN fy2 wy2 (put2 _ M3.out)).mono ?_
  rintro e w2 ⟨rfl, hp, _⟩
  have HP2 := Lib.hid hp
  clear hp HP1
  go_wp2_with fail
  refine (HP2.out.kpublicP gN k1 (put3 _ M3.out)).mono ?_
  rintro e w3 ⟨rfl, hp, _⟩
  have HP3 := Lib.hid hp
  clear hp HP2
  rcases (by omega : m % 4 = 0 ∨ m % 4 = 1 ∨ 2 ≤ m % 4) with hr | hr | hr
  · have HE : Hid (m % 4 = 0) := Lib.hid hr
    have F1 : Hid (wrapF [fy1, fy2, kpubT 1] (3 + m % 4) 3 2 = (0, 0, 4, [fy1, fy2, kpubT 1])) := Lib.hid (by rw [hr]; exact full3)
    have hr2 : m % 4 < 2 := by omega
    have hl : ((3 : Int) == 3 + m % 4) = true := by simp; omega
    clear hr
    go_wp2_with fail
    refine (HP3.out.wrapP gN k2 F1.out).mono ?_
    rintro e w4 ⟨rfl, hp, _⟩
    have HP4 := Lib.hid hp
    clear hp HP3
    go_wp2_with fail
    refine (HP4.out.wrapP gN k2 F1.out).mono ?_
    rintro e w5 ⟨rfl, hp, _⟩
    have HP5 := Lib.hid hp
    clear hp HP4
    go_wp2_with fail
    refine (HP5.out.lenP).mono ?_
    rintro e w6 ⟨rfl, rfl⟩
    go_wp2_with fail
    refine (fixed_any _).mono ?_
    rintro e w99 ⟨rfl, hb9⟩
    have hb := HP5.out.belowW.trans (hb9.mono HP5.out.base_le)
    clear hb9
    go_wp2
    go_ret
    exact ⟨rfl, hb⟩
  · have HE : Hid (m % 4 = 1) := Lib.hid hr
    have F1 : Hid (wrapF [fy1, fy2, kpubT 1] (3 + m % 4) 3 2 = (0, 0, 4, [fy1, fy2, kpubT 1, boxT 1 2])) := Lib.hid (by rw [hr]; exact full4)
    have F2 : Hid (wrapF [fy1, fy2, kpubT 1, boxT 1 2] (3 + m % 4) 3 2 = (0, 0, 4, [fy1, fy2, kpubT 1, boxT 1 2])) := Lib.hid (by rw [hr]; exact again4)
    have hr2 : m % 4 < 2 := by omega
    have hl : ((4 : Int) == 3 + m % 4) = true := by simp; omega
    clear hr
    go_wp2_with fail
    refine (HP3.out.wrapP gN k2 F1.out).mono ?_
    rintro e w4 ⟨rfl, hp, _⟩
    have HP4 := Lib.hid hp
    clear hp HP3
    go_wp2_with fail
    refine (HP4.out.wrapP gN k2 F2.out).mono ?_
    rintro e w5 ⟨rfl, hp, _⟩
    have HP5 := Lib.hid hp
    clear hp HP4
    go_wp2_with fail
    refine (HP5.out.lenP).mono ?_
    rintro e w6 ⟨rfl, rfl⟩
    go_wp2_with fail
    refine (fixed_any _).mono ?_
    rintro e w99 ⟨rfl, hb9⟩
    have hb := HP5.out.belowW.trans (hb9.mono HP5.out.base_le)
    clear hb9
    go_wp2
    go_ret
    exact ⟨rfl, hb⟩
  · have F1 : Hid (wrapF [fy1, fy2, kpubT 1] (3 + m % 4) 3 2 = (4, 5, 0, [fy1, fy2, kpubT 1, boxT 1 2, kemT 1 2])) := Lib.hid (both _ (by omega))
    have F2 : Hid (wrapF [fy1, fy2, kpubT 1, boxT 1 2, kemT 1 2] (3 + m % 4) 3 2 = (4, 5, 0, [fy1, fy2, kpubT 1, boxT 1 2, kemT 1 2])) := Lib.hid (again5 _)
    have hr2 : decide (m % 4 < 2) = false := by simp; omega
    go_wp2_with fail
    refine (HP3.out.wrapP gN k2 F1.out).mono ?_
    rintro e w4 ⟨rfl, hp, _⟩
    have HP4 := Lib.hid hp
    clear hp HP3
    go_wp2_with fail
    refine (HP4.out.wrapP gN k2 F2.out).mono ?_
    rintro e w5 ⟨rfl, hp, _⟩
    have HP5 := Lib.hid hp
    clear hp HP4
    go_wp2_with fail
    refine (HP5.out.lenP).mono ?_
    rintro e w6 ⟨rfl, rfl⟩
    go_wp2_with fail
    refine (fixed_any _).mono ?_
    rintro e w99 ⟨rfl, hb9⟩
    have hb := HP5.out.belowW.trans (hb9.mono HP5.out.base_le)
    clear hb9
    go_wp2
    go_ret
    exact ⟨rfl, hb⟩

set_option maxRecDepth 100000 in
theorem lifted (os : Os) (started : os.Started) (H : Type) (enc : TypeId × Value → H) :
    ReturnsInHanded {} Try.checked os 5 .any (Rows.kemRoomSpec.pre6 enc Try.prog Try.f5 Rows.kemRoomRow.domain false) (Rows.kemRoomSpec.post enc Try.prog Try.f5 false true false false) := by
  refine returnsInHanded_of_change (C := Try.checked) own started (by kernel_rfl) Try.func5
    (ChangeSpec.witness6 (enc := enc) (C := Try.checked) false ⟨#[], #[.int .u8 0], []⟩ 8 (by kernel_rfl) (by kernel_rfl) (by kernel_rfl) (by kernel_rfl)) ?_
  intro W base args ds gs before hval0 hW hcnd _
  have hval : ∀ (j : Nat) t v, Try.f5.params[j]? = some t → args[j]? = some v → Value.okWide Try.prog W .any base t v := hval0
  have hW' := hW
  obtain ⟨p, q, hA0, hV, rfl, hfz, hnd⟩ := hW
  have hA : DataW.TrodAll enc Try.prog W 0 (fun _ => true) true Try.f5.params.toList args.toList ds p := hA0
  rw [Try.params5] at hA hval
  obtain ⟨v0, vs0, d0, ds0, p0, q0, hargs, rfl, rfl, h0, r0⟩ := trodAll_cons hA
  obtain ⟨rfl, rfl, rfl⟩ := trodAll_nil r0
  obtain rfl : args = #[v0] := by cases args; simp_all
  obtain ⟨rfl, rfl⟩ := trodVars_none hV
  obtain ⟨a0, rfl, rfl, rfl, w0⟩ := open_int Try.underlying5 (hval 0 5 v0 rfl rfl) h0
  clear hA0 hval0
  refine (walk a0 W w0).mono fun e W' ⟨he, bel⟩ => ?_
  subst he
  exact ⟨_, rfl, _, _, _, [], _, [], hW', trodAll_mk1 (shut_bool Try.underlying4 _), (trodAll_cons_mk (shut_int Try.underlying5 w0) trodAll_mk0), rfl, bel.frame _, fun h => by cases h⟩

theorem over : Rows.kemRoomRow.holds Try.pinned (OpenSpec.ofChange Rows.kemRoomSpec) :=
  OpenClaim.holds_of_wide 5 Try.f5 rfl rfl rfl rfl rfl rfl rfl ⟨rfl, rfl, rfl, rfl, rfl⟩ rfl rfl rfl rfl rfl (by kernel_rfl) Try.func5 (by kernel_rfl)
    (of_decide_eq_true (by kernel_rfl)) (by unfold Func.isWrapper; first | (rw [if_pos (by decide +kernel)]; kernel_rfl) | (rw [if_neg (by decide +kernel)]; exact ⟨rfl, rfl⟩))
    (fun os started H enc _ => lifted os started H enc)

theorem proved : Rows.KemRoomSaid := over
#print axioms proved
end Go.Proofs.Ytpfeonmgiekpfaa.kemRoom
