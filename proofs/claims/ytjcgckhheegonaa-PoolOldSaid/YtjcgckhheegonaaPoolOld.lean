/- PoolOld: what is begun is held for 50 ticks, and forgotten behind them: what comes later of it begins anew. No condition. -/
import Derived.Test.YtjcgckhheegonaaRows
import Derived.Test.YtjcgckhheegonaaPoolX
import Derived.WalkKit
import Derived.ProofKit
import Derived.OpenShut
import Derived.ShutString
import Derived.ChangeOld
import Derived.Below
namespace Go.Proofs.Ytjcgckhheegonaa.poolOld
open Go.ChangeShapes Go.WideShapes Go.ChangeAt Go.RowKit
open Go.ChangeMaps (open_string shut_string)
open Go.Proofs.Ytjcgckhheegonaa
set_option linter.unusedVariables false
set_option linter.unusedSimpArgs false
set_option maxRecDepth 20000

theorem own : ownKnob Try.prog.godebug = none := by kernel_rfl
theorem laidOut : laidOutB Try.prog = true := by kernel_rfl
def pO (T : Int) : Pl := ⟨[⟨[fL0], T⟩], 4, 100⟩
def pN (T : Int) : Pl := ⟨[⟨[fL1], T⟩], 4, 100⟩
def pE : Pl := ⟨[], 4, 100⟩
theorem exp_not {now : Int} {m : Ms} (h : oldM now m = false) : expM now [m] = [m] ∧ expN now [m] = 0 := by simp [expM, expN, h]
theorem exp_yes {now : Int} {m : Ms} (h : oldM now m = true) : expM now [m] = [] ∧ expN now [m] = 1 := by simp [expM, expN, h]
theorem old_not {T k : Int} {fs : List Fr} (hk : k ≤ 50) : oldM (T + k) ⟨fs, T⟩ = false := by simp [oldM]; omega
theorem old_yes {T k : Int} {fs : List Fr} (hk : 51 ≤ k) : oldM (T + k) ⟨fs, T⟩ = true := by simp [oldM]; omega
theorem o1 (T : Int) : addP fL0 T pE = (pO T, ⟨#[]⟩, false, 0) := rfl
theorem o2 (T : Int) : expP (T + 50) (pO T) = (pO T, 0) := by
  have h := exp_not (old_not (T := T) (k := 50) (fs := [fL0]) (by omega))
  unfold expP pO
  simp only [h.1, h.2]
theorem o3 {T k : Int} (hk : k ≤ 50) : addP fL1 (T + k) (pO T) = (pE, ⟨#[97, 98, 99, 100]⟩, true, 0) := by
  have h := exp_not (old_not (T := T) (k := k) (fs := [fL0]) hk)
  unfold addP pO
  simp only [h.1]
  rfl
theorem o4 {T k : Int} (hk : 51 ≤ k) : addP fL1 (T + k) (pO T) = (pN (T + k), ⟨#[]⟩, false, 0) := by
  have h := exp_yes (old_yes (T := T) (k := k) (fs := [fL0]) hk)
  unfold addP pO
  simp only [h.1]
  rfl
theorem o5 (T : Int) : expP (T + 51) (pN T) = (pE, 1) := by
  have h := exp_yes (old_yes (T := T) (k := 51) (fs := [fL1]) (by omega))
  unfold expP pN
  simp only [h.1, h.2]
  rfl
set_option maxHeartbeats 1000000 in
set_option maxRecDepth 100000 in
theorem walk (a0 a1 : Int) (w : World) (w0 : (Lit.int .u64 a0).wf = true) (w1 : (Lit.int .u8 a1).wf = true) :
    Calls Try.prog 6 #[.int .u64 a0, .int .u8 a1] w fun e w' => e = .returned (.bool true) ∧ Below w.heap.size w w' := by
  have b0 := Go.bounds_u64 w0
  have b1 := Go.bounds_u8 w1
  obtain ⟨T, hT⟩ : ∃ T, a0 / 2 = T := ⟨_, rfl⟩
  have hT0 : 0 ≤ T := by omega
  have hT1 : T ≤ 9223372036854775807 := by omega
  have iw0 : IntKind.u64.wrap T = T := wrap_u64 (by omega) (by omega)
  have iw1 : IntKind.u64.wrap (T + 50) = T + 50 := wrap_u64 (by omega) (by omega)
  have iw2 : IntKind.u64.wrap (T + a1) = T + a1 := wrap_u64 (by omega) (by omega)
  have iw3 : IntKind.u64.wrap a1 = a1 := wrap_u64 (by omega) (by omega)
  have iw4 : IntKind.u64.wrap (T + a1 + 51) = T + a1 + 51 := wrap_u64 (by omega) (by omega)
  have HU : Hid (U64 T ∧ U64 (T + 50) ∧ U64 (T + a1) ∧ U64 (T + a1 + 51)) := Lib.hid ⟨⟨by omega, by omega⟩, ⟨by omega, by omega⟩, ⟨by omega, by omega⟩, ⟨by omega, by omega⟩⟩
  obtain ⟨b00, b01⟩ := b0
  obtain ⟨b10, b11⟩ := b1
  go_enter Try.func6, Try.ntmps6
  go_wp2_with fail
  refine (new_s 4 100 w w (Below.refl _ _) ⟨by decide, by decide, by decide, by decide⟩).mono ?_
  rintro e wa ⟨p, F, rfl, ha, hn, hb⟩
  have HA := Lib.hid ha
  clear ha hn hb
  go_wp2_with fail
  refine (cut_x _ 7 2 _ (by decide) [fL0, fL1] 0 0 cut_7 rfl).mono ?_
  rintro e wb ⟨v, rfl, ho, hb⟩
  obtain ⟨g1, c1, hv⟩ := ho.form (by simp)
  have hv' : v = .slice (some ⟨g1, 0, none⟩) 2 c1 := hv
  subst hv'
  have hfr := Fro.new HA.out.al ho
  have HX : Hid (Px w F wb p pE (.slice (some ⟨g1, 0, none⟩) 2 c1) (.slice (some ⟨g1, 0, none⟩) 2 c1) [fL0, fL1] [fL0, fL1]) := Lib.hid ⟨HA.out.below hb, hfr, hfr⟩
  obtain ⟨m1, m2⟩ := hfr.cap rfl
  have n1 : (2 : Int) ≤ c1 := by omega
  clear hb ho hv HA m1 m2 hfr
  obtain ⟨r0, r1, r2, r3, r4, r5, r6, r7⟩ := two_at HX.out.one
  simp only [fL0, fL1] at r0 r1 r2 r3 r4 r5 r6 r7
  go_wp2_with fail
  clear r0 r1 r2 r3 r4 r5 r6 r7
  refine (add_x HX.out fL0 T #[.int .u64 7, .int .i64 0, .int .i64 2, .string ⟨#[97, 98]⟩] (pO T) ⟨#[]⟩ false 0 0 (by decide) (wf_of (by decide)) HU.out.1 rfl (o1 T) rfl).mono ?_
  rintro e w6 ⟨F6, rfl, hx⟩
  replace HX := Lib.hid hx
  clear hx
  go_wp2_with fail
  refine (exp_x HX.out (T + 50) (pO T) 0 0 HU.out.2.1 (o2 T) rfl).mono ?_
  rintro e w7 ⟨F7, rfl, hx⟩
  replace HX := Lib.hid hx
  clear hx
  go_wp2_with fail
  refine (held_x HX.out 1 2 rfl rfl).mono ?_
  rintro e w8 ⟨rfl, hx⟩
  replace HX := Lib.hid hx
  clear hx
  rcases Int.lt_or_le 50 a1 with hk | hk
  · have t0 : decide (a1 ≤ 50) = false := decide_eq_false (by omega)
    have HK : Hid (51 ≤ a1) := Lib.hid (by omega)
    clear hk
    obtain ⟨r0, r1, r2, r3, r4, r5, r6, r7⟩ := two_at HX.out.one
    simp only [fL0, fL1] at r0 r1 r2 r3 r4 r5 r6 r7
    go_wp2_with fail
    clear r0 r1 r2 r3 r4 r5 r6 r7
    refine (add_x HX.out fL1 (T + a1) #[.int .u64 7, .int .i64 1, .int .i64 2, .string ⟨#[99, 100]⟩] (pN (T + a1)) ⟨#[]⟩ false 0 0 (by decide) (wf_of (by decide)) HU.out.2.2.1 rfl (o4 HK.out) rfl).mono ?_
    rintro e w9 ⟨F9, rfl, hx⟩
    replace HX := Lib.hid hx
    clear hx
    go_wp2_with fail
    refine (held_x HX.out 1 2 rfl rfl).mono ?_
    rintro e w10 ⟨rfl, hx⟩
    replace HX := Lib.hid hx
    clear hx
    go_wp2_with fail
    refine (exp_x HX.out (T + a1 + 51) pE 1 1 HU.out.2.2.2 (o5 (T + a1)) rfl).mono ?_
    rintro e w11 ⟨F11, rfl, hx⟩
    replace HX := Lib.hid hx
    clear hx
    go_wp2_with fail
    refine (fixed_any _).mono ?_
    rintro e wz ⟨rfl, hb⟩
    replace HX := Lib.hid (HX.out.below hb)
    clear hb
    go_wp2_with fail
    go_ret
    exact ⟨rfl, HX.out.al.low⟩
  · have t0 : decide (a1 ≤ 50) = true := decide_eq_true hk
    have HK : Hid (a1 ≤ 50) := Lib.hid hk
    clear hk
    obtain ⟨r0, r1, r2, r3, r4, r5, r6, r7⟩ := two_at HX.out.one
    simp only [fL0, fL1] at r0 r1 r2 r3 r4 r5 r6 r7
    go_wp2_with fail
    clear r0 r1 r2 r3 r4 r5 r6 r7
    refine (add_x HX.out fL1 (T + a1) #[.int .u64 7, .int .i64 1, .int .i64 2, .string ⟨#[99, 100]⟩] pE ⟨#[97, 98, 99, 100]⟩ true 0 0 (by decide) (wf_of (by decide)) HU.out.2.2.1 rfl (o3 HK.out) rfl).mono ?_
    rintro e w12 ⟨F12, rfl, hx⟩
    replace HX := Lib.hid hx
    clear hx
    go_wp2_with fail
    refine (held_x HX.out 0 0 rfl rfl).mono ?_
    rintro e w13 ⟨rfl, hx⟩
    replace HX := Lib.hid hx
    clear hx
    go_wp2_with fail
    refine (fixed_any _).mono ?_
    rintro e wz ⟨rfl, hb⟩
    replace HX := Lib.hid (HX.out.below hb)
    clear hb
    go_wp2_with fail
    go_ret
    exact ⟨rfl, HX.out.al.low⟩

set_option maxRecDepth 100000 in
theorem lifted (os : Os) (started : os.Started) (H : Type) (enc : TypeId × Value → H) :
    ReturnsInHanded {} Try.checked os 6 .any (Rows.poolOldSpec.pre6 enc Try.prog Try.f6 Rows.poolOldRow.domain false) (Rows.poolOldSpec.post enc Try.prog Try.f6 false true false false) := by
  refine returnsInHanded_of_change (C := Try.checked) own started (by kernel_rfl) Try.func6
    (ChangeSpec.witness6 (enc := enc) (C := Try.checked) false ⟨#[], #[.int .u64 0, .int .u8 0], []⟩ 8 (by kernel_rfl) (by kernel_rfl) (by kernel_rfl) (by kernel_rfl)) ?_
  intro W base args ds gs before hval0 hW hcnd _
  have hval : ∀ (j : Nat) t v, Try.f6.params[j]? = some t → args[j]? = some v → Value.okWide Try.prog W .any base t v := hval0
  have hW' := hW
  obtain ⟨p, q, hA0, hV, rfl, hfz, hnd⟩ := hW
  have hA : DataW.TrodAll enc Try.prog W 0 (fun _ => true) true Try.f6.params.toList args.toList ds p := hA0
  rw [Try.params6] at hA hval
  obtain ⟨v0, vs0, d0, ds0, p0, q0, hargs, rfl, rfl, h0, r0⟩ := trodAll_cons hA
  obtain ⟨v1, vs1, d1, ds1, p1, q1, rfl, rfl, rfl, h1, r1⟩ := trodAll_cons r0
  obtain ⟨rfl, rfl, rfl⟩ := trodAll_nil r1
  obtain rfl : args = #[v0, v1] := by cases args; simp_all
  obtain ⟨rfl, rfl⟩ := trodVars_none hV
  obtain ⟨a0, rfl, rfl, rfl, w0⟩ := open_int Try.underlying32 (hval 0 32 v0 rfl rfl) h0
  obtain ⟨a1, rfl, rfl, rfl, w1⟩ := open_int Try.underlying5 (hval 1 5 v1 rfl rfl) h1
  clear hA0 hval0
  refine (walk a0 a1 W w0 w1).mono fun e W' ⟨he, bel⟩ => ?_
  subst he
  exact ⟨_, rfl, _, _, _, [], _, [], hW', trodAll_mk1 (shut_bool Try.underlying4 _), (trodAll_cons_mk (shut_int Try.underlying32 w0) (trodAll_cons_mk (shut_int Try.underlying5 w1) trodAll_mk0)), rfl, bel.frame _, fun h => by cases h⟩

theorem over : Rows.poolOldRow.holds Try.pinned (OpenSpec.ofChange Rows.poolOldSpec) :=
  OpenClaim.holds_of_wide 6 Try.f6 rfl rfl rfl rfl rfl rfl rfl ⟨rfl, rfl, rfl, rfl, rfl⟩ rfl rfl rfl rfl rfl (by kernel_rfl) Try.func6 (by kernel_rfl)
    (of_decide_eq_true (by kernel_rfl)) (by unfold Func.isWrapper; first | (rw [if_pos (by decide +kernel)]; kernel_rfl) | (rw [if_neg (by decide +kernel)]; exact ⟨rfl, rfl⟩))
    (fun os started H enc _ => lifted os started H enc)

theorem proved : Rows.PoolOldSaid := over
#print axioms proved
end Go.Proofs.Ytjcgckhheegonaa.poolOld
