/- The law OfferTells returns true for every row of integers and any two texts, and its arguments read as they did. No conditions. -/
import Derived.Test.YtahlekcnleedhaaRows
import Derived.Test.YtahlekcnleedhaaOffL
import Derived.WalkKit
import Derived.ProofKit
import Derived.OpenShut
import Derived.ShutString
import Derived.ChangeOld
import Derived.Below
namespace Go.Proofs.Ytahlekcnleedhaa.offerTells
open Go.ChangeShapes Go.WideShapes Go.ChangeAt Go.RowKit
open Go.ChangeMaps (open_string shut_string)
open Go.Proofs.Ytahlekcnleedhaa
set_option linter.unusedVariables false
set_option linter.unusedSimpArgs false
set_option maxRecDepth 20000

theorem own : ownKnob Try.prog.godebug = none := by kernel_rfl
theorem laidOut : laidOutB Try.prog = true := by kernel_rfl


set_option maxHeartbeats 4000000 in
set_option maxRecDepth 100000 in
theorem walkN (a0 : Option Addr) (len0 cap0 : Nat) (xs : List Int) (p : Nat) (a1 a2 A B : ByteArray) (w : World) (m0 : min (len0 : Int) 300 = p) (hp1 : p ≤ len0) (hlc : len0 ≤ cap0) (hcm : cap0 ≤ maxLen) (hxs : xs.length = p) (hr : RowAt .i64 w a0 cap0 xs) (hwf : ∀ x, x ∈ xs → (Lit.int .i64 x).wf = true) (hnil : (a0 = none ∧ len0 = 0 ∧ cap0 = 0) ∨ ∃ x, a0 = some x)
    (m1 : min (a1.size : Int) 20 = A.size) (u1 : A.size ≤ a1.size) (v1 : A.size ≤ 20) (x1 : a1.extract 0 A.size = A) (w1 : a1.size ≤ maxLen)
    (m2 : min (a2.size : Int) 20 = B.size) (u2 : B.size ≤ a2.size) (v2 : B.size ≤ 20) (x2 : a2.extract 0 B.size = B) (w2 : a2.size ≤ maxLen) :
    Calls Try.prog 3 #[.slice a0 len0 cap0, .string a1, .string a2] w fun e w' => e = .returned (.bool true) ∧ Below w.heap.size w w' := by
  have HX := Lib.hid hxs.symm
  have HR := Lib.hid hr
  have HWF := Lib.hid hwf
  have HA : Hid (A.size ≤ maxLen) := Lib.hid (by unfold maxLen; omega)
  have HB : Hid (B.size ≤ maxLen) := Lib.hid (by unfold maxLen; omega)
  unfold maxLen at hcm w1 w2
  obtain ⟨s, hs⟩ := text_of (makeS xs)
  obtain ⟨er, her⟩ : ∃ er, makeE xs = er := ⟨_, rfl⟩
  obtain ⟨v, er2, hbe⟩ : ∃ v er2, BestIs A B v er2 := ⟨_, _, rfl, rfl⟩
  obtain ⟨bt, hbt⟩ := text_of (bothS A.data.toList B.data.toList)
  obtain ⟨rt, hrt⟩ : ∃ rt, rightB A.data.toList = rt := ⟨_, rfl⟩
  have HS := Lib.hid hs
  have HER := Lib.hid her
  have HBE := Lib.hid hbe
  have HBT := Lib.hid hbt
  have HRT := Lib.hid hrt
  have t1 := eqS s
  have t2 := eqS bt
  have t3 : (er == er) = true := by simp
  have t4 : (er2 == er2) = true := by simp
  have t5 : (v == v) = true := by simp
  have t6 : (rt == rt) = true := by simp
  clear hxs hr hwf hs her hbe hbt hrt
  have n0 : (if (300 : Int) < (len0 : Int) then (300 : Int) else (len0 : Int)) = (p : Int) := by rw [← m0]; omega
  have n1 : (if (20 : Int) < (a1.size : Int) then (20 : Int) else (a1.size : Int)) = (A.size : Int) := by rw [← m1]; omega
  have n2 : (if (20 : Int) < (a2.size : Int) then (20 : Int) else (a2.size : Int)) = (B.size : Int) := by rw [← m2]; omega
  clear m0 m1 m2
  rcases hnil with ⟨rfl, rfl, rfl⟩ | ⟨x, rfl⟩
  · obtain rfl : p = 0 := by omega
    clear hp1 hlc hcm n0
    go_enter Try.func3, Try.ntmps3
    go_wp2_with fail
    refine (make_any _ 0 _ xs _ HX.out HR.out HWF.out s er HS HER).mono ?_
    rintro e w1 ⟨rfl, hb⟩
    have H1 := Lib.hid hb
    clear hb
    go_wp2_with fail
    refine (rmake_any _ 0 _ xs _ HX.out (HR.out.below H1.out) HWF.out s er HS HER).mono ?_
    rintro e w2 ⟨rfl, hb⟩
    have H2 := Lib.hid (H1.out.trans (hb.mono H1.out.size))
    clear hb H1
    go_wp2_with fail
    refine (best_any A B _ HA.out HB.out v er2 HBE).mono ?_
    rintro e w1 ⟨rfl, hb⟩
    have H1 := Lib.hid (H2.out.trans (hb.mono H2.out.size))
    clear hb H2
    go_wp2_with fail
    refine (rbest_any A B _ HA.out HB.out v er2 HBE).mono ?_
    rintro e w2 ⟨rfl, hb⟩
    have H2 := Lib.hid (H1.out.trans (hb.mono H1.out.size))
    clear hb H1
    go_wp2_with fail
    refine (right_any A _ HA.out rt HRT).mono ?_
    rintro e w1 ⟨rfl, hb⟩
    have H1 := Lib.hid (H2.out.trans (hb.mono H2.out.size))
    clear hb H2
    go_wp2_with fail
    refine (rright_any A _ HA.out rt HRT).mono ?_
    rintro e w2 ⟨rfl, hb⟩
    have H2 := Lib.hid (H1.out.trans (hb.mono H1.out.size))
    clear hb H1
    go_wp2_with fail
    refine (both_any A B _ HA.out HB.out bt HBT).mono ?_
    rintro e w1 ⟨rfl, hb⟩
    have H1 := Lib.hid (H2.out.trans (hb.mono H2.out.size))
    clear hb H2
    go_wp2_with fail
    refine (rboth_any A B _ HA.out HB.out bt HBT).mono ?_
    rintro e w2 ⟨rfl, hb⟩
    have H2 := Lib.hid (H1.out.trans (hb.mono H1.out.size))
    clear hb H1
    go_wp2_with fail
    refine (fixed_any _).mono ?_
    rintro e w1 ⟨rfl, hb⟩
    have H1 := Lib.hid (H2.out.trans (hb.mono H2.out.size))
    clear hb H2
    go_wp2_with fail
    go_ret
    exact ⟨rfl, H1.out⟩
  · skip
    go_enter Try.func3, Try.ntmps3
    go_wp2_with fail
    refine (make_any _ p _ xs _ HX.out HR.out HWF.out s er HS HER).mono ?_
    rintro e w1 ⟨rfl, hb⟩
    have H1 := Lib.hid hb
    clear hb
    go_wp2_with fail
    refine (rmake_any _ p _ xs _ HX.out (HR.out.below H1.out) HWF.out s er HS HER).mono ?_
    rintro e w2 ⟨rfl, hb⟩
    have H2 := Lib.hid (H1.out.trans (hb.mono H1.out.size))
    clear hb H1
    go_wp2_with fail
    refine (best_any A B _ HA.out HB.out v er2 HBE).mono ?_
    rintro e w1 ⟨rfl, hb⟩
    have H1 := Lib.hid (H2.out.trans (hb.mono H2.out.size))
    clear hb H2
    go_wp2_with fail
    refine (rbest_any A B _ HA.out HB.out v er2 HBE).mono ?_
    rintro e w2 ⟨rfl, hb⟩
    have H2 := Lib.hid (H1.out.trans (hb.mono H1.out.size))
    clear hb H1
    go_wp2_with fail
    refine (right_any A _ HA.out rt HRT).mono ?_
    rintro e w1 ⟨rfl, hb⟩
    have H1 := Lib.hid (H2.out.trans (hb.mono H2.out.size))
    clear hb H2
    go_wp2_with fail
    refine (rright_any A _ HA.out rt HRT).mono ?_
    rintro e w2 ⟨rfl, hb⟩
    have H2 := Lib.hid (H1.out.trans (hb.mono H1.out.size))
    clear hb H1
    go_wp2_with fail
    refine (both_any A B _ HA.out HB.out bt HBT).mono ?_
    rintro e w1 ⟨rfl, hb⟩
    have H1 := Lib.hid (H2.out.trans (hb.mono H2.out.size))
    clear hb H2
    go_wp2_with fail
    refine (rboth_any A B _ HA.out HB.out bt HBT).mono ?_
    rintro e w2 ⟨rfl, hb⟩
    have H2 := Lib.hid (H1.out.trans (hb.mono H1.out.size))
    clear hb H1
    go_wp2_with fail
    refine (fixed_any _).mono ?_
    rintro e w1 ⟨rfl, hb⟩
    have H1 := Lib.hid (H2.out.trans (hb.mono H2.out.size))
    clear hb H2
    go_wp2_with fail
    go_ret
    exact ⟨rfl, H1.out⟩

theorem walk (a0 : Option Addr) (len0 cap0 : Nat) (z0 : List Int) (a1 a2 : ByteArray) (w : World) (w0 : IsRow .i64 w a0 len0 cap0 z0) (w1 : a1.size ≤ maxLen) (w2 : a2.size ≤ maxLen) :
    Calls Try.prog 3 #[.slice a0 len0 cap0, .string a1, .string a2] w fun e w' => e = .returned (.bool true) ∧ Below w.heap.size w w' := by
  obtain ⟨ks, hks, hr, hwf, hnil⟩ := w0.row
  obtain ⟨p, m0, hp1, hp2⟩ : ∃ p : Nat, min (len0 : Int) 300 = p ∧ p ≤ len0 ∧ p ≤ 300 := ⟨min len0 300, by omega, by omega, by omega⟩
  obtain ⟨A, m1, u1, v1, x1⟩ := slice_facts a1 20
  obtain ⟨B, m2, u2, v2, x2⟩ := slice_facts a2 20
  exact walkN a0 len0 cap0 (ks.take p) p a1 a2 A B w m0 hp1 (by have := hr.1; omega) hr.2.1 (by simp; omega) (hr.take p) (fun x hx => hwf x (List.mem_of_mem_take hx)) hnil m1 u1 v1 x1 w1 m2 u2 v2 x2 w2

set_option maxRecDepth 100000 in
theorem lifted (os : Os) (started : os.Started) (H : Type) (enc : TypeId × Value → H) :
    ReturnsInHanded {} Try.checked os 3 .any (Rows.offerTellsSpec.pre6 enc Try.prog Try.f3 Rows.offerTellsRow.domain false) (Rows.offerTellsSpec.post enc Try.prog Try.f3 false true false false) := by
  refine returnsInHanded_of_change (C := Try.checked) own started (by kernel_rfl) Try.func3
    (ChangeSpec.witness6 (enc := enc) (C := Try.checked) false ⟨#[], #[.slice none 0 0, .string ByteArray.empty, .string ByteArray.empty], []⟩ 8 (by kernel_rfl) (by kernel_rfl) (by kernel_rfl) (by kernel_rfl)) ?_
  intro W base args ds gs before hval0 hW hcnd _
  have hval : ∀ (j : Nat) t v, Try.f3.params[j]? = some t → args[j]? = some v → Value.okWide Try.prog W .any base t v := hval0
  have hW' := hW
  obtain ⟨p, q, hA0, hV, rfl, hfz, hnd⟩ := hW
  have hA : DataW.TrodAll enc Try.prog W 0 (fun _ => true) true Try.f3.params.toList args.toList ds p := hA0
  rw [Try.params3] at hA hval
  obtain ⟨v0, vs0, d0, ds0, p0, q0, hargs, rfl, rfl, h0, r0⟩ := trodAll_cons hA
  obtain ⟨v1, vs1, d1, ds1, p1, q1, rfl, rfl, rfl, h1, r1⟩ := trodAll_cons r0
  obtain ⟨v2, vs2, d2, ds2, p2, q2, rfl, rfl, rfl, h2, r2⟩ := trodAll_cons r1
  obtain ⟨rfl, rfl, rfl⟩ := trodAll_nil r2
  obtain rfl : args = #[v0, v1, v2] := by cases args; simp_all
  obtain ⟨rfl, rfl⟩ := trodVars_none hV
  obtain ⟨a0, len0, cap0, rfl⟩ := okWide_slice Try.underlying22 (hval 0 22 v0 rfl rfl)
  have k0 := h0
  have lt0 : ∀ x ∈ p0, x.block < W.heap.size := by obtain ⟨m, hm⟩ := k0; exact DataW.trod_lt m _ _ _ hm
  obtain ⟨z0, w0⟩ : ∃ zs, IsRow .i64 W a0 len0 cap0 zs := by
    obtain ⟨fuel, hf⟩ := h0
    rcases open_ints Try.underlying22 Try.underlying3 (by kernel_rfl) hf with ⟨hcs, _⟩ | ⟨x, l, c, zs, hcs, _, hl, hm, hz, _, hcell, hwz⟩
    · simp [Value.cells] at hcs
      obtain ⟨rfl, rfl, rfl⟩ := hcs
      exact ⟨[], .inl ⟨rfl, rfl, rfl, rfl⟩⟩
    · simp [Value.cells] at hcs
      obtain ⟨rfl, rfl, rfl⟩ := hcs
      exact ⟨zs, .inr ⟨_, rfl, hl, hm, by simpa using hz, hcell, hwz⟩⟩
  obtain ⟨a1, rfl, rfl, rfl, w1⟩ := open_string Try.underlying9 (hval 1 9 v1 rfl rfl) h1
  obtain ⟨a2, rfl, rfl, rfl, w2⟩ := open_string Try.underlying9 (hval 2 9 v2 rfl rfl) h2
  clear hA0 hval0
  refine (walk a0 len0 cap0 z0 a1 a2 W w0 w1 w2).mono fun e W' ⟨he, bel⟩ => ?_
  subst he
  exact ⟨_, rfl, _, _, _, [], _, [], hW', trodAll_mk1 (shut_bool Try.underlying4 _), (trodAll_cons_mk (Below.trod laidOut (by kernel_rfl) (of_decide_eq_true (by kernel_rfl)) k0 bel lt0) (trodAll_cons_mk (shut_string Try.underlying9 w1) (trodAll_cons_mk (shut_string Try.underlying9 w2) trodAll_mk0))), rfl, bel.frame _, fun h => by cases h⟩

theorem over : Rows.offerTellsRow.holds Try.pinned (OpenSpec.ofChange Rows.offerTellsSpec) :=
  OpenClaim.holds_of_wide 3 Try.f3 rfl rfl rfl rfl rfl rfl rfl ⟨rfl, rfl, rfl, rfl, rfl⟩ rfl rfl rfl rfl rfl (by kernel_rfl) Try.func3 (by kernel_rfl)
    (of_decide_eq_true (by kernel_rfl)) (by unfold Func.isWrapper; first | (rw [if_pos (by decide +kernel)]; kernel_rfl) | (rw [if_neg (by decide +kernel)]; exact ⟨rfl, rfl⟩))
    (fun os started H enc _ => lifted os started H enc)

theorem proved : Rows.OfferTellsSaid := over
#print axioms proved
end Go.Proofs.Ytahlekcnleedhaa.offerTells
