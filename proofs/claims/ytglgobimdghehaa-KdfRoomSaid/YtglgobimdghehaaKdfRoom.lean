/- KdfRoom: for every room and every number of times, what is mixed is put as far as there is room, and where there is not enough it is said. No condition. -/
import Derived.Test.YtglgobimdghehaaRows
import Derived.Test.YtglgobimdghehaaKdfF
import Derived.Test.YtglgobimdghehaaKdfM
import Derived.Test.YtglgobimdghehaaOpens
import Derived.WalkKit
import Derived.ProofKit
import Derived.OpenShut
import Derived.ShutString
import Derived.ChangeOld
import Derived.Below
namespace Go.Proofs.Ytglgobimdghehaa.kdfRoom
open Go.ChangeShapes Go.WideShapes Go.ChangeAt Go.RowKit
open Go.ChangeMaps (open_string shut_string)
open Go.Proofs.Ytglgobimdghehaa
set_option linter.unusedVariables false
set_option linter.unusedSimpArgs false

theorem own : ownKnob Try.prog.godebug = none := by kernel_rfl
theorem laidOut : laidOutB Try.prog = true := by kernel_rfl

theorem put1 (M : Int) (h : 1 ≤ M) : putF [] M fy1 = (1, 0, [fy1]) := by
  simp [putF, Tm.may, May, below3, BadP, many, prt, nameOf, eqB, tl0, sz0, List.findIdx?_cons, zeroT, hashT, keyT, fy1, fy2, getT, mixF, chainF, chainN]
  omega
theorem put2 (M : Int) (h : 2 ≤ M) : putF [fy1] M fy2 = (2, 0, [fy1, fy2]) := by
  simp [putF, Tm.may, May, below3, BadP, many, prt, nameOf, eqB, tl0, sz0, List.findIdx?_cons, zeroT, hashT, keyT, fy1, fy2, getT, mixF, chainF, chainN]
  omega
theorem trip {α β γ : Type} {x : α × β × γ} {a : α} {b : β} (h1 : x.1 = a) (h2 : x.2.1 = b) : ∃ c, x = (a, b, c) ∧ c = x.2.2 := ⟨x.2.2, by rw [← h1, ← h2], rfl⟩
theorem mixlow (r : Int) (h0 : 0 ≤ r) (h1 : r < 3) : ∃ L', mixF [fy1, fy2] (2 + r) 1 2 = (0, 0, 4, L') ∧ (L'.length : Int) = 2 + r := by
  have : (mixF [fy1, fy2] (2 + r) 1 2).1 = 0 ∧ (mixF [fy1, fy2] (2 + r) 1 2).2.1 = 0 ∧ (mixF [fy1, fy2] (2 + r) 1 2).2.2.1 = 4 ∧ ((mixF [fy1, fy2] (2 + r) 1 2).2.2.2.length : Int) = 2 + r := by
    rcases (by omega : r = 0 ∨ r = 1 ∨ r = 2) with rfl | rfl | rfl
    all_goals simp [putF, Tm.may, May, below3, BadP, many, prt, nameOf, eqB, tl0, sz0, List.findIdx?_cons, zeroT, hashT, keyT, fy1, fy2, getT, mixF, chainF, chainN]
  obtain ⟨q1, q2, q3, q4⟩ := this
  exact ⟨_, by rw [← q3]; exact Prod.ext q1 (Prod.ext q2 rfl), q4⟩
theorem mixhigh (r : Int) (h0 : 3 ≤ r) (h1 : r ≤ 5) : mixF [fy1, fy2] (2 + r) 1 2 = (4, 5, 0, [fy1, fy2, hashT 1 2, keyT 3 1, keyT 3 2]) := by
  rcases (by omega : r = 3 ∨ r = 4 ∨ r = 5) with rfl | rfl | rfl
  all_goals simp [putF, Tm.may, May, below3, BadP, many, prt, nameOf, eqB, tl0, sz0, List.findIdx?_cons, zeroT, hashT, keyT, fy1, fy2, getT, mixF, chainF, chainN]
theorem chainlow (r n : Int) (h0 : 0 ≤ r) (h1 : r ≤ 5) (h2 : r < n) (h3 : n ≤ 5) : ∃ L', chainF [fy1] (1 + r) 1 7 n = (0, 4, L') ∧ (L'.length : Int) = 1 + r := by
  have : (chainF [fy1] (1 + r) 1 7 n).1 = 0 ∧ (chainF [fy1] (1 + r) 1 7 n).2.1 = 4 ∧ ((chainF [fy1] (1 + r) 1 7 n).2.2.length : Int) = 1 + r := by
    rcases (by omega : r = 0 ∨ r = 1 ∨ r = 2 ∨ r = 3 ∨ r = 4 ∨ r = 5) with rfl | rfl | rfl | rfl | rfl | rfl
    all_goals rcases (by omega : n = 1 ∨ n = 2 ∨ n = 3 ∨ n = 4 ∨ n = 5) with rfl | rfl | rfl | rfl | rfl
    all_goals first | (exfalso; omega) | simp [putF, Tm.may, May, below3, BadP, many, prt, nameOf, eqB, tl0, sz0, List.findIdx?_cons, zeroT, hashT, keyT, fy1, fy2, getT, mixF, chainF, chainN]
  obtain ⟨q1, q2, q3⟩ := this
  exact ⟨_, Prod.ext q1 (Prod.ext q2 rfl), q3⟩
theorem chainhigh (r n : Int) (h0 : 0 ≤ n) (h1 : r ≤ 5) (h2 : n ≤ r) : ∃ L', chainF [fy1] (1 + r) 1 7 n = (1 + n, 0, L') ∧ (L'.length : Int) = 1 + n := by
  have : (chainF [fy1] (1 + r) 1 7 n).1 = 1 + n ∧ (chainF [fy1] (1 + r) 1 7 n).2.1 = 0 ∧ ((chainF [fy1] (1 + r) 1 7 n).2.2.length : Int) = 1 + n := by
    rcases (by omega : r = 0 ∨ r = 1 ∨ r = 2 ∨ r = 3 ∨ r = 4 ∨ r = 5) with rfl | rfl | rfl | rfl | rfl | rfl
    all_goals rcases (by omega : n = 0 ∨ n = 1 ∨ n = 2 ∨ n = 3 ∨ n = 4 ∨ n = 5) with rfl | rfl | rfl | rfl | rfl | rfl
    all_goals first | (exfalso; omega) | simp [putF, Tm.may, May, below3, BadP, many, prt, nameOf, eqB, tl0, sz0, List.findIdx?_cons, zeroT, hashT, keyT, fy1, fy2, getT, mixF, chainF, chainN]
  obtain ⟨q1, q2, q3⟩ := this
  exact ⟨_, Prod.ext q1 (Prod.ext q2 rfl), q3⟩

set_option maxHeartbeats 4000000 in
set_option maxRecDepth 100000 in
theorem walk (x y : Int) (w : World) (w0 : (Lit.int .u8 x).wf = true) (w1 : (Lit.int .u8 y).wf = true) :
    Calls Try.prog 8 #[.int .u8 x, .int .u8 y] w fun e w' => e = .returned (.bool true) ∧ Below w.heap.size w w' := by
  obtain ⟨x0, x1⟩ := byte_in w0
  obtain ⟨y0, y1⟩ := byte_in w1
  have HU7 := Lib.hid (u64_small (x := 7) (by omega) (by omega))
  clear w0 w1
  go_enter Try.func8, Try.ntmps8
  go_wp2_with fail
  obtain ⟨r, hr⟩ : ∃ r, r = x % 6 := ⟨_, rfl⟩
  obtain ⟨n, hn⟩ : ∃ n, n = y % 6 := ⟨_, rfl⟩
  have r0 : 0 ≤ r := by omega
  have r5 : r ≤ 5 := by omega
  have n0 : 0 ≤ n := by omega
  have n5 : n ≤ 5 := by omega
  have B0 := Lib.hid r0
  have B5 := Lib.hid r5
  have N0 := Lib.hid n0
  have N5 := Lib.hid n5
  rw [← hr]
  try rw [← hn]
  clear hr hn x0 x1 y0 y1
  refine (Pair.new1 (base := w.heap.size) (w0 := w) rfl (Below.refl _ _) (by omega) (by omega)).mono ?_
  rintro e w1 ⟨ga, rfl, hp⟩
  have H0 := Lib.hid hp
  clear hp
  go_wp2_with fail
  refine (Pair.newB H0.out (by omega) (by omega)).mono ?_
  rintro e w2 ⟨gb, rfl, hp⟩
  have H2 := Lib.hid hp
  clear hp H0
  have gA := PSq.good w.heap.size ga (2 + r)
  have gB := PSq.good w.heap.size gb (1 + r)
  go_wp2_with fail
  refine (H2.out.putP gB fy1 wy1 (put1 _ (by omega))).mono ?_
  rintro e w3 ⟨rfl, hp, _⟩
  have H3 := Lib.hid hp
  clear hp H2
  go_wp2_with fail
  refine (H3.out.putP gB fy2 wy2 (put2 _ (by omega))).mono ?_
  rintro e w4 ⟨rfl, hp, _⟩
  have H4 := Lib.hid hp
  clear hp H3
  go_wp2_with fail
  refine (H4.out.swap.putP gA fy1 wy1 (put1 _ (by omega))).mono ?_
  rintro e w5 ⟨rfl, hp, _⟩
  have H5 := Lib.hid hp.swap
  clear hp H4
  by_cases h3 : r < 3
  · obtain ⟨L', f1, hl1⟩ := mixlow r r0 h3
    have F1 := Lib.hid f1
    have hl1' : ((L'.length : Int) != 2 + r) = false := by rw [hl1]; simp
    have h3' : decide (3 ≤ r) = false := by simp; omega
    clear f1 hl1
    by_cases hnr : r < n
    · obtain ⟨M, f2, hl2⟩ := chainlow r n B0.out B5.out hnr N5.out
      have F2 := Lib.hid f2
      have hl2' : ((M.length : Int) == 1 + r) = true := by rw [hl2]; simp
      clear f2 hl2
      go_wp2_with fail
      refine (H5.out.mixP gB k1 k2 F1.out).mono ?_
      rintro e w6 ⟨rfl, hp, _⟩
      have H6 := Lib.hid hp.swap
      clear hp H5
      go_wp2_with fail
      refine (H6.out.chainP gA k1 HU7.out F2.out).mono ?_
      rintro e w7 ⟨rfl, hp, _⟩
      have H7 := Lib.hid hp
      clear hp H6
      go_wp2_with fail
      refine (H7.out.swap.lenP).mono ?_
      rintro e w8 ⟨rfl, rfl⟩
      go_wp2_with fail
      refine (H7.out.lenP).mono ?_
      rintro e w9 ⟨rfl, rfl⟩
      go_wp2_with fail
      refine (fixed_any _).mono ?_
      rintro e w99 ⟨rfl, hb9⟩
      have hb := H7.out.belowW.trans (hb9.mono H7.out.base_le)
      clear hb9
      go_wp2
      go_ret
      exact ⟨rfl, hb⟩
    · have hnr' : decide (r < n) = false := by simpa using hnr
      have hnr2 : n ≤ r := by omega
      obtain ⟨M, f2, hl2⟩ := chainhigh r n N0.out B5.out hnr2
      have F2 := Lib.hid f2
      have hl2' : ((M.length : Int) == 1 + n) = true := by rw [hl2]; simp
      clear f2 hl2 hnr
      go_wp2_with fail
      refine (H5.out.mixP gB k1 k2 F1.out).mono ?_
      rintro e w6 ⟨rfl, hp, _⟩
      have H6 := Lib.hid hp.swap
      clear hp H5
      go_wp2_with fail
      refine (H6.out.chainP gA k1 HU7.out F2.out).mono ?_
      rintro e w7 ⟨rfl, hp, _⟩
      have H7 := Lib.hid hp
      clear hp H6
      go_wp2_with fail
      refine (H7.out.swap.lenP).mono ?_
      rintro e w8 ⟨rfl, rfl⟩
      go_wp2_with fail
      refine (H7.out.lenP).mono ?_
      rintro e w9 ⟨rfl, rfl⟩
      go_wp2_with fail
      refine (fixed_any _).mono ?_
      rintro e w99 ⟨rfl, hb9⟩
      have hb := H7.out.belowW.trans (hb9.mono H7.out.base_le)
      clear hb9
      go_wp2
      go_ret
      exact ⟨rfl, hb⟩
  · have h3' : decide (r < 3) = false := by simpa using h3
    have h4 : 3 ≤ r := by omega
    have F1 := Lib.hid (mixhigh r h4 r5)
    clear h3
    by_cases hnr : r < n
    · obtain ⟨M, f2, hl2⟩ := chainlow r n B0.out B5.out hnr N5.out
      have F2 := Lib.hid f2
      have hl2' : ((M.length : Int) == 1 + r) = true := by rw [hl2]; simp
      clear f2 hl2
      go_wp2_with fail
      refine (H5.out.mixP gB k1 k2 F1.out).mono ?_
      rintro e w6 ⟨rfl, hp, _⟩
      have H6 := Lib.hid hp.swap
      clear hp H5
      go_wp2_with fail
      refine (H6.out.chainP gA k1 HU7.out F2.out).mono ?_
      rintro e w7 ⟨rfl, hp, _⟩
      have H7 := Lib.hid hp
      clear hp H6
      go_wp2_with fail
      refine (H7.out.swap.lenP).mono ?_
      rintro e w8 ⟨rfl, rfl⟩
      go_wp2_with fail
      refine (H7.out.lenP).mono ?_
      rintro e w9 ⟨rfl, rfl⟩
      go_wp2_with fail
      refine (fixed_any _).mono ?_
      rintro e w99 ⟨rfl, hb9⟩
      have hb := H7.out.belowW.trans (hb9.mono H7.out.base_le)
      clear hb9
      go_wp2
      go_ret
      exact ⟨rfl, hb⟩
    · have hnr' : decide (r < n) = false := by simpa using hnr
      have hnr2 : n ≤ r := by omega
      obtain ⟨M, f2, hl2⟩ := chainhigh r n N0.out B5.out hnr2
      have F2 := Lib.hid f2
      have hl2' : ((M.length : Int) == 1 + n) = true := by rw [hl2]; simp
      clear f2 hl2 hnr
      go_wp2_with fail
      refine (H5.out.mixP gB k1 k2 F1.out).mono ?_
      rintro e w6 ⟨rfl, hp, _⟩
      have H6 := Lib.hid hp.swap
      clear hp H5
      go_wp2_with fail
      refine (H6.out.chainP gA k1 HU7.out F2.out).mono ?_
      rintro e w7 ⟨rfl, hp, _⟩
      have H7 := Lib.hid hp
      clear hp H6
      go_wp2_with fail
      refine (H7.out.swap.lenP).mono ?_
      rintro e w8 ⟨rfl, rfl⟩
      go_wp2_with fail
      refine (H7.out.lenP).mono ?_
      rintro e w9 ⟨rfl, rfl⟩
      go_wp2_with fail
      refine (fixed_any _).mono ?_
      rintro e w99 ⟨rfl, hb9⟩
      have hb := H7.out.belowW.trans (hb9.mono H7.out.base_le)
      clear hb9
      go_wp2
      go_ret
      exact ⟨rfl, hb⟩

set_option maxRecDepth 100000 in
theorem lifted (os : Os) (started : os.Started) (H : Type) (enc : TypeId × Value → H) :
    ReturnsInHanded {} Try.checked os 8 .any (Rows.kdfRoomSpec.pre6 enc Try.prog Try.f8 Rows.kdfRoomRow.domain false) (Rows.kdfRoomSpec.post enc Try.prog Try.f8 false true false false) := by
  refine returnsInHanded_of_change (C := Try.checked) own started (by kernel_rfl) Try.func8
    (ChangeSpec.witness6 (enc := enc) (C := Try.checked) false ⟨#[], #[.int .u8 0, .int .u8 0], []⟩ 8 (by kernel_rfl) (by kernel_rfl) (by kernel_rfl) (by kernel_rfl)) ?_
  intro W base args ds gs before hval0 hW hcnd _
  have hval : ∀ (j : Nat) t v, Try.f8.params[j]? = some t → args[j]? = some v → Value.okWide Try.prog W .any base t v := hval0
  have hW' := hW
  obtain ⟨p, q, hA0, hV, rfl, hfz, hnd⟩ := hW
  have hA : DataW.TrodAll enc Try.prog W 0 (fun _ => true) true Try.f8.params.toList args.toList ds p := hA0
  rw [Try.params8] at hA hval
  obtain ⟨v0, vs0, d0, ds0, p0, q0, hargs, rfl, rfl, h0, r0⟩ := trodAll_cons hA
  obtain ⟨v1, vs1, d1, ds1, p1, q1, rfl, rfl, rfl, h1, r1⟩ := trodAll_cons r0
  obtain ⟨rfl, rfl, rfl⟩ := trodAll_nil r1
  obtain rfl : args = #[v0, v1] := by cases args; simp_all
  obtain ⟨rfl, rfl⟩ := trodVars_none hV
  obtain ⟨a0, rfl, rfl, rfl, w0⟩ := open_int Try.underlying5 (hval 0 5 v0 rfl rfl) h0
  obtain ⟨a1, rfl, rfl, rfl, w1⟩ := open_int Try.underlying5 (hval 1 5 v1 rfl rfl) h1
  clear hA0 hval0
  refine (walk a0 a1 W w0 w1).mono fun e W' ⟨he, bel⟩ => ?_
  subst he
  exact ⟨_, rfl, _, _, _, [], _, [], hW', trodAll_mk1 (shut_bool Try.underlying4 _), (trodAll_cons_mk (shut_int Try.underlying5 w0) (trodAll_cons_mk (shut_int Try.underlying5 w1) trodAll_mk0)), rfl, bel.frame _, fun h => by cases h⟩

theorem over : Rows.kdfRoomRow.holds Try.pinned (OpenSpec.ofChange Rows.kdfRoomSpec) :=
  OpenClaim.holds_of_wide 8 Try.f8 rfl rfl rfl rfl rfl rfl rfl ⟨rfl, rfl, rfl, rfl, rfl⟩ rfl rfl rfl rfl rfl (by kernel_rfl) Try.func8 (by kernel_rfl)
    (of_decide_eq_true (by kernel_rfl)) (by unfold Func.isWrapper; first | (rw [if_pos (by decide +kernel)]; kernel_rfl) | (rw [if_neg (by decide +kernel)]; exact ⟨rfl, rfl⟩))
    (fun os started H enc _ => lifted os started H enc)

theorem proved : Rows.KdfRoomSaid := over
#print axioms proved
end Go.Proofs.Ytglgobimdghehaa.kdfRoom
