/- AeadRoom: where there is no room it is said, the text stays if it was put, and is read when there is room for both: for every room and text. No condition. -/
import Derived.Test.YtgfnngpbngmalaaRows
import Derived.Test.YtgfnngpbngmalaaAeadF
import Derived.Test.YtgfnngpbngmalaaAeadM
import Derived.Test.YtgfnngpbngmalaaOpens
import Derived.WalkKit
import Derived.ProofKit
import Derived.OpenShut
import Derived.ShutString
import Derived.ChangeOld
import Derived.Below
namespace Go.Proofs.Ytgfnngpbngmalaa.aeadRoom
open Go.ChangeShapes Go.WideShapes Go.ChangeAt Go.RowKit
open Go.ChangeMaps (open_string shut_string)
open Go.Proofs.Ytgfnngpbngmalaa
set_option linter.unusedVariables false
set_option linter.unusedSimpArgs false

theorem own : ownKnob Try.prog.godebug = none := by kernel_rfl
theorem laidOut : laidOutB Try.prog = true := by kernel_rfl

theorem put1 (M : Int) (h : 1 ≤ M) : putF [] M fy1 = (1, 0, [fy1]) := by
  simp [putF, Tm.may, May, below3, BadP, many, prt, nameOf, eqB, tl0, sz0, List.findIdx?_cons, zeroT, sealT, textT, fy1, getT, openF, readF, textF, wrong, wrongT]
  omega
theorem full1 (p : ByteArray) (h : p.size ≤ 1000) : textF [fy1] 1 1 3 1 p = (0, 4, [fy1]) := by simp [putF, Tm.may, May, below3, BadP, many, prt, nameOf, eqB, tl0, sz0, List.findIdx?_cons, zeroT, sealT, textT, fy1, getT, openF, readF, textF, wrong, wrongT, h]
theorem full2 (p : ByteArray) (h : p.size ≤ 1000) : textF [fy1] 2 1 3 1 p = (0, 4, [fy1, textT p]) := by simp [putF, Tm.may, May, below3, BadP, many, prt, nameOf, eqB, tl0, sz0, List.findIdx?_cons, zeroT, sealT, textT, fy1, getT, openF, readF, textF, wrong, wrongT, h]
theorem both (p : ByteArray) (h : p.size ≤ 1000) (M : Int) (hM : 3 ≤ M) : textF [fy1] M 1 3 1 p = (3, 0, [fy1, textT p, sealT 1 3 1 2]) := by
  have h1 : ¬ M ≤ 1 := by omega
  have h2 : ¬ M ≤ 2 := by omega
  simp [putF, Tm.may, May, below3, BadP, many, prt, nameOf, eqB, tl0, sz0, List.findIdx?_cons, zeroT, sealT, textT, fy1, getT, openF, readF, textF, wrong, wrongT, h, h1, h2]
theorem got1 : getT [fy1] 2 = (zeroT, false) := by simp [getT]
theorem got2 (p : ByteArray) : getT [fy1, textT p] 2 = (textT p, true) := by simp [getT]
theorem read3 (p : ByteArray) : readF [fy1, textT p, sealT 1 3 1 2] 1 3 1 3 = (p, 0) := by simp [putF, Tm.may, May, below3, BadP, many, prt, nameOf, eqB, tl0, sz0, List.findIdx?_cons, zeroT, sealT, textT, fy1, getT, openF, readF, textF, wrong, wrongT]
theorem u3 : U64 3 := u64_small (by omega) (by omega)

set_option maxHeartbeats 2000000 in
set_option maxRecDepth 100000 in
theorem walk (m : Int) (text : ByteArray) (w : World) (w0 : (Lit.int .u8 m).wf = true) (w1 : text.size ≤ maxLen) :
    Calls Try.prog 8 #[.int .u8 m, .string text] w fun e w' => e = .returned (.bool true) ∧ Below w.heap.size w w' := by
  obtain ⟨m0, m1⟩ := byte_in w0
  clear w0
  obtain ⟨p, n0, s0, s1, xt⟩ := slice_facts text 1000
  have n0 : min (text.size : Int) 1000 = p.size := n0
  have HTx : Hid (p.size ≤ maxLen) := Lib.hid (by unfold maxLen; omega)
  have HTs := Lib.hid s1
  have s2 : (p.size : Int) ≤ 1000 := by omega
  unfold maxLen at w1
  have gN := NoS.good w.heap.size
  have M1 : Hid (1 ≤ 1 + m % 4) := Lib.hid (by omega)
  go_enter Try.func8, Try.ntmps8
  go_wp2_with fail
  refine (Pair.new1 (base := w.heap.size) (w0 := w) rfl (Below.refl _ _) (by omega) (by omega)).mono ?_
  rintro e w1 ⟨g, rfl, hp⟩
  have HP0 := Lib.hid hp
  clear hp
  go_wp2_with fail
  refine (HP0.out.putP gN fy1 wy1 (put1 _ M1.out)).mono ?_
  rintro e w2 ⟨rfl, hp, _⟩
  have HP2 := Lib.hid hp
  clear hp HP0
  rcases (by omega : m % 4 = 0 ∨ m % 4 = 1 ∨ 2 ≤ m % 4) with hr | hr | hr
  · have F1 : Hid (textF [fy1] (1 + m % 4) 1 3 1 p = (0, 4, [fy1])) := Lib.hid (by rw [hr]; exact full1 p HTs.out)
    have gP := PSq.good w.heap.size g (1 + m % 4)
    have hr2 : 1 + m % 4 < 3 := by omega
    have hr3 : (1 + m % 4 == 2) = false := by simp; omega
    have hl : ((1 : Int) == 1 + m % 4) = true := by simp; omega
    clear hr
    go_wp2_with fail
    refine (HP2.out.textP gN k1 u3 k1 HTx.out F1.out).mono ?_
    rintro e w3 ⟨rfl, hp, _⟩
    have HP3 := Lib.hid hp
    clear hp HP2
    go_wp2_with fail
    refine (HP3.out.getP gN 2 got1).mono ?_
    rintro e w7 ⟨rfl, hp, hb⟩
    rw [show ((zeroT, false) : Tm × Bool).1.v = .agg #[.int .i64 0, .string ⟨#[]⟩, .int .u64 0, .int .i64 0, .int .i64 0, .int .i64 0] from rfl]
    have HP7 := Lib.hid (hp.below gP gN ((Below.refl _ _).alloc (Nat.le_refl _) (.cells #[.int .i64 0, .string ⟨#[]⟩, .int .u64 0, .int .i64 0, .int .i64 0, .int .i64 0] 48)))
    clear hp hb HP3
    go_wp2_with fail
    refine (HP7.out.lenP).mono ?_
    rintro e w8 ⟨rfl, rfl⟩
    go_wp2_with fail
    refine (fixed_any _).mono ?_
    rintro e w99 ⟨rfl, hb9⟩
    have hb := HP7.out.belowW.trans (hb9.mono HP7.out.base_le)
    clear hb9
    go_wp2
    go_ret
    exact ⟨rfl, hb⟩
  · have F1 : Hid (textF [fy1] (1 + m % 4) 1 3 1 p = (0, 4, [fy1, textT p])) := Lib.hid (by rw [hr]; exact full2 p HTs.out)
    have gP := PSq.good w.heap.size g (1 + m % 4)
    have hr2 : 1 + m % 4 < 3 := by omega
    have hr3 : (1 + m % 4 == 2) = true := by simp; omega
    have hl : ((2 : Int) == 1 + m % 4) = true := by simp; omega
    have hE := eql_termP (textT p) (textT p)
    have hgd := guard32
    rw [(eqB_iff _ _).2 rfl] at hE
    unfold Tm.v textT at hE
    simp only [] at hE
    clear hr
    go_wp2_with fail
    refine (HP2.out.textP gN k1 u3 k1 HTx.out F1.out).mono ?_
    rintro e w3 ⟨rfl, hp, _⟩
    have HP3 := Lib.hid hp
    clear hp HP2
    go_wp2_with fail
    refine (HP3.out.getP gN 2 (got2 p)).mono ?_
    rintro e w7 ⟨rfl, hp, hb⟩
    rw [show ((textT p, true) : Tm × Bool).1.v = .agg #[.int .i64 1, .string p, .int .u64 0, .int .i64 0, .int .i64 0, .int .i64 0] from rfl]
    have HP7 := Lib.hid (hp.below gP gN ((Below.refl _ _).alloc (Nat.le_refl _) (.cells #[.int .i64 1, .string p, .int .u64 0, .int .i64 0, .int .i64 0, .int .i64 0] 48)))
    clear hp hb HP3
    go_wp2_with fail
    refine (HP7.out.lenP).mono ?_
    rintro e w8 ⟨rfl, rfl⟩
    go_wp2_with fail
    refine (fixed_any _).mono ?_
    rintro e w99 ⟨rfl, hb9⟩
    have hb := HP7.out.belowW.trans (hb9.mono HP7.out.base_le)
    clear hb9
    go_wp2
    go_ret
    exact ⟨rfl, hb⟩
  · have F1 : Hid (textF [fy1] (1 + m % 4) 1 3 1 p = (3, 0, [fy1, textT p, sealT 1 3 1 2])) := Lib.hid (both p HTs.out _ (by omega))
    have hr2 : decide (1 + m % 4 < 3) = false := by simp; omega
    have hpp : (p.toList == p.toList) = true := by simp
    clear hr
    go_wp2_with fail
    refine (HP2.out.textP gN k1 u3 k1 HTx.out F1.out).mono ?_
    rintro e w3 ⟨rfl, hp, _⟩
    have HP3 := Lib.hid hp
    clear hp HP2
    go_wp2_with fail
    refine (HP3.out.readP gN (read3 p)).mono ?_
    rintro e w4 ⟨rfl, hp, _⟩
    have HP4 := Lib.hid hp
    clear hp HP3
    go_wp2_with fail
    refine (HP4.out.lenP).mono ?_
    rintro e w8 ⟨rfl, rfl⟩
    go_wp2_with fail
    refine (fixed_any _).mono ?_
    rintro e w99 ⟨rfl, hb9⟩
    have hb := HP4.out.belowW.trans (hb9.mono HP4.out.base_le)
    clear hb9
    go_wp2
    go_ret
    exact ⟨rfl, hb⟩

set_option maxRecDepth 100000 in
theorem lifted (os : Os) (started : os.Started) (H : Type) (enc : TypeId × Value → H) :
    ReturnsInHanded {} Try.checked os 8 .any (Rows.aeadRoomSpec.pre6 enc Try.prog Try.f8 Rows.aeadRoomRow.domain false) (Rows.aeadRoomSpec.post enc Try.prog Try.f8 false true false false) := by
  refine returnsInHanded_of_change (C := Try.checked) own started (by kernel_rfl) Try.func8
    (ChangeSpec.witness6 (enc := enc) (C := Try.checked) false ⟨#[], #[.int .u8 0, .string ByteArray.empty], []⟩ 8 (by kernel_rfl) (by kernel_rfl) (by kernel_rfl) (by kernel_rfl)) ?_
  intro W base args ds gs before hval0 hW hcnd _
  have hval : ∀ (j : Nat) t v, Try.f8.params[j]? = some t → args[j]? = some v → Value.okWide Try.prog W .any base t v := hval0
  have hW' := hW
  obtain ⟨p, q, hA0, hV, rfl, hfz, hnd⟩ := hW
  have hA : DataW.TrodAll enc Try.prog W 0 (fun _ => true) true Try.f8.params.toList args.toList ds p := hA0
  rw [Try.params8] at hA hval
  obtain ⟨v0, vs0, d0, ds0, p0, q0, hargs, rfl, rfl, h0, r0⟩ := trodAll_cons hA
  obtain ⟨v1, vs1, d1, ds1, p1, q1, rfl, rfl, rfl, h1, r1⟩ := trodAll_cons r0
  obtain ⟨rfl, rfl, rfl⟩ := trodAll_nil r1
  obtain rfl : args = #[v0, v1] := by cases args; simp_all
  obtain ⟨rfl, rfl⟩ := trodVars_none hV
  obtain ⟨a0, rfl, rfl, rfl, w0⟩ := open_int Try.underlying5 (hval 0 5 v0 rfl rfl) h0
  obtain ⟨a1, rfl, rfl, rfl, w1⟩ := open_string Try.underlying9 (hval 1 9 v1 rfl rfl) h1
  clear hA0 hval0
  refine (walk a0 a1 W w0 w1).mono fun e W' ⟨he, bel⟩ => ?_
  subst he
  exact ⟨_, rfl, _, _, _, [], _, [], hW', trodAll_mk1 (shut_bool Try.underlying4 _), (trodAll_cons_mk (shut_int Try.underlying5 w0) (trodAll_cons_mk (shut_string Try.underlying9 w1) trodAll_mk0)), rfl, bel.frame _, fun h => by cases h⟩

theorem over : Rows.aeadRoomRow.holds Try.pinned (OpenSpec.ofChange Rows.aeadRoomSpec) :=
  OpenClaim.holds_of_wide 8 Try.f8 rfl rfl rfl rfl rfl rfl rfl ⟨rfl, rfl, rfl, rfl, rfl⟩ rfl rfl rfl rfl rfl (by kernel_rfl) Try.func8 (by kernel_rfl)
    (of_decide_eq_true (by kernel_rfl)) (by unfold Func.isWrapper; first | (rw [if_pos (by decide +kernel)]; kernel_rfl) | (rw [if_neg (by decide +kernel)]; exact ⟨rfl, rfl⟩))
    (fun os started H enc _ => lifted os started H enc)

theorem proved : Rows.AeadRoomSaid := over
#print axioms proved
end Go.Proofs.Ytgfnngpbngmalaa.aeadRoom
