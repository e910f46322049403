/- MsgBack: what is encoded is decoded as it was, what is decoded is encoded as it was. No condition. -/
import Derived.Test.YtifpahjlmnimnaaRows
import Derived.Test.YtifpahjlmnimnaaMsgV
import Derived.WalkKit
import Derived.ProofKit
import Derived.OpenShut
import Derived.ShutString
import Derived.ChangeOld
import Derived.Below
namespace Go.Proofs.Ytifpahjlmnimnaa.msgBack
open Go.ChangeShapes Go.WideShapes Go.ChangeAt Go.RowKit
open Go.ChangeMaps (open_string shut_string)
open Go.Proofs.Ytifpahjlmnimnaa
set_option linter.unusedVariables false
set_option linter.unusedSimpArgs false
set_option maxRecDepth 20000

theorem own : ownKnob Try.prog.godebug = none := by kernel_rfl
theorem laidOut : laidOutB Try.prog = true := by kernel_rfl
set_option maxHeartbeats 16000000 in
set_option maxRecDepth 100000 in
theorem walkN (M N : Ms) (a1 A t : ByteArray) (w : World) (hN : N.Wf) (hn : Norm N) (hC : ∀ u, Calls Try.prog 9 #[.agg #[.int .i64 (M.i 0), .int .u64 (M.i 1), .int .u64 (M.i 2), .string M.s, .int .i64 (M.i 4), .int .i64 (M.i 5), .int .i64 (M.i 6), .int .i64 (M.i 7), .int .i64 (M.i 8), .int .i64 (M.i 9), .int .i64 (M.i 10), .int .u64 (M.i 11), .int .u64 (M.i 12)]] u fun e w' => e = .returned (.agg #[.int .i64 (N.i 0), .int .u64 (N.i 1), .int .u64 (N.i 2), .string N.s, .int .i64 (N.i 4), .int .i64 (N.i 5), .int .i64 (N.i 6), .int .i64 (N.i 7), .int .i64 (N.i 8), .int .i64 (N.i 9), .int .i64 (N.i 10), .int .u64 (N.i 11), .int .u64 (N.i 12)]) ∧ Below u.heap.size u w')
    (m1 : min (a1.size : Int) 200 = A.size) (u1 : A.size ≤ a1.size) (v1 : A.size ≤ 200) (x1 : a1.extract 0 A.size = A) (w1 : a1.size ≤ maxLen) (ht : encM N = t) :
    Calls Try.prog 4 #[.agg #[.int .i64 (M.i 0), .int .u64 (M.i 1), .int .u64 (M.i 2), .string M.s, .int .i64 (M.i 4), .int .i64 (M.i 5), .int .i64 (M.i 6), .int .i64 (M.i 7), .int .i64 (M.i 8), .int .i64 (M.i 9), .int .i64 (M.i 10), .int .u64 (M.i 11), .int .u64 (M.i 12)], .string a1] w fun e w' => e = .returned (.bool true) ∧ Below w.heap.size w w' := by
  have HN := Lib.hid hN
  have HC := Lib.hid hC
  have HT := Lib.hid ht
  have HA : Hid (A.size ≤ 1000000) := Lib.hid (by omega)
  have HX1 : Hid (a1.extract 0 (min (a1.size : Int) 200).toNat = A) := Lib.hid (by rw [m1]; simpa using x1)
  have n1 : (if (200 : Int) < (a1.size : Int) then (200 : Int) else (a1.size : Int)) = (A.size : Int) := by rw [← m1]; omega
  unfold maxLen at w1
  clear hN hC m1 x1
  have HBB : Hid (Below w.heap.size w w) := Lib.hid (Below.refl _ _)
  go_enter Try.func4, Try.ntmps4
  go_wp2_with fail
  obtain ⟨u1, hu1⟩ : ∃ x, x = w.alloc (.cells #[.int .i64 (M.i 0), .int .u64 (M.i 1), .int .u64 (M.i 2), .string M.s, .int .i64 (M.i 4), .int .i64 (M.i 5), .int .i64 (M.i 6), .int .i64 (M.i 7), .int .i64 (M.i 8), .int .i64 (M.i 9), .int .i64 (M.i 10), .int .u64 (M.i 11), .int .u64 (M.i 12)] 24) := ⟨_, rfl⟩
  obtain ⟨qm, hqm⟩ : ∃ q, q = w.heap.size := ⟨_, rfl⟩
  have Hm : Hid (MsgAt u1 qm M) := Lib.hid (by rw [hu1, hqm]; exact heap_alloc_new w _)
  have HQm : Hid (w.heap.size ≤ qm) := Lib.hid (by rw [hqm]; exact HBB.out.size)
  replace HBB := Lib.hid (HBB.out.trans ((show Below w.heap.size w u1 by rw [hu1]; exact below_alloc _ _).mono HBB.out.size))
  rw [← hu1]
  clear hu1
  rw [← hqm]
  clear hqm
  refine (HC.out _).mono ?_
  rintro e w2 ⟨rfl, hb⟩
  replace Hm := Lib.hid (Hm.out.below hb)
  replace HBB := Lib.hid (HBB.out.trans (hb.mono HBB.out.size))
  clear hb
  obtain ⟨km0, km1, km2, km3, km4, km5, km6, km7, km8, km9, km10, km11, km12⟩ := Hm.out.cells
  have gm0 := frz_of_row 0 Hm.out
  have gm1 := frz_of_row 1 Hm.out
  have gm2 := frz_of_row 2 Hm.out
  have gm3 := frz_of_row 3 Hm.out
  have gm4 := frz_of_row 4 Hm.out
  have gm5 := frz_of_row 5 Hm.out
  have gm6 := frz_of_row 6 Hm.out
  have gm7 := frz_of_row 7 Hm.out
  have gm8 := frz_of_row 8 Hm.out
  have gm9 := frz_of_row 9 Hm.out
  have gm10 := frz_of_row 10 Hm.out
  have gm11 := frz_of_row 11 Hm.out
  have gm12 := frz_of_row 12 Hm.out
  go_wp2_with fail
  clear km0 km1 km2 km3 km4 km5 km6 km7 km8 km9 km10 km11 km12
  clear gm0 gm1 gm2 gm3 gm4 gm5 gm6 gm7 gm8 gm9 gm10 gm11 gm12
  obtain ⟨u3, hu3⟩ : ∃ x, x = (((((((((((((w2.setCell ⟨qm, 0, none⟩ (.int .i64 (N.i 0))).setCell ⟨qm, 1, none⟩ (.int .u64 (N.i 1))).setCell ⟨qm, 2, none⟩ (.int .u64 (N.i 2))).setCell ⟨qm, 3, none⟩ (.string N.s)).setCell ⟨qm, 4, none⟩ (.int .i64 (N.i 4))).setCell ⟨qm, 5, none⟩ (.int .i64 (N.i 5))).setCell ⟨qm, 6, none⟩ (.int .i64 (N.i 6))).setCell ⟨qm, 7, none⟩ (.int .i64 (N.i 7))).setCell ⟨qm, 8, none⟩ (.int .i64 (N.i 8))).setCell ⟨qm, 9, none⟩ (.int .i64 (N.i 9))).setCell ⟨qm, 10, none⟩ (.int .i64 (N.i 10))).setCell ⟨qm, 11, none⟩ (.int .u64 (N.i 11))).setCell ⟨qm, 12, none⟩ (.int .u64 (N.i 12))) := ⟨_, rfl⟩
  have hc : Chg (fun k => k = qm) w2 u3 := by rw [hu3]; exact chg13 _ _ _ _ _ _ _ _ _ _ _ _ _ _ _
  replace Hm : Hid (MsgAt u3 qm N) := Lib.hid (by rw [hu3]; exact row13 rfl _ _ _ _ _ _ _ _ _ _ _ _ _ Hm.out)
  replace HBB := Lib.hid (Chg.out HBB.out hc HQm.out HBB.out.size)
  rw [← hu3]
  clear hc hu3
  try rw [HX1.out]
  refine (enc_k N _ HN.out t HT).mono ?_
  rintro e w4 ⟨rfl, hb⟩
  replace Hm := Lib.hid (Hm.out.below hb)
  replace HBB := Lib.hid (HBB.out.trans (hb.mono HBB.out.size))
  clear hb
  clear ht
  cases hr : rightM N with
  | false =>
    have ht0 : t = ⟨#[]⟩ := by rw [← HT.out]; exact enc_no hr
    subst ht0
    have HR := Lib.hid hr
    clear hr
    obtain ⟨km0, km1, km2, km3, km4, km5, km6, km7, km8, km9, km10, km11, km12⟩ := Hm.out.cells
    go_wp2_with fail
    clear km0 km1 km2 km3 km4 km5 km6 km7 km8 km9 km10 km11 km12
    refine (right_k N _ HN.out false HR).mono ?_
    rintro e w5 ⟨rfl, hb⟩
    replace Hm := Lib.hid (Hm.out.below hb)
    replace HBB := Lib.hid (HBB.out.trans (hb.mono HBB.out.size))
    clear hb
    go_wp2_with fail
    obtain ⟨D, E, hd⟩ : ∃ D E, decM A = (D, E) := ⟨_, _, rfl⟩
    refine (decode_l A _ HA.out D E E #[.int .i64 (D.i 0), .int .u64 (D.i 1), .int .u64 (D.i 2), .string D.s, .int .i64 (D.i 4), .int .i64 (D.i 5), .int .i64 (D.i 6), .int .i64 (D.i 7), .int .i64 (D.i 8), .int .i64 (D.i 9), .int .i64 (D.i 10), .int .u64 (D.i 11), .int .u64 (D.i 12)] hd rfl rfl).mono ?_
    rintro e w6 ⟨rfl, hb⟩
    replace Hm := Lib.hid (Hm.out.below hb)
    replace HBB := Lib.hid (HBB.out.trans (hb.mono HBB.out.size))
    clear hb
    by_cases hE : E = 0
    · skip
      subst hE
      obtain ⟨hr2, he2⟩ := dec_back hd
      have HR2 := Lib.hid hr2
      have HE2 := Lib.hid he2
      have HW2 := Lib.hid (right_wf hr2)
      have t5 := eqS A
      have z1 : (((0 : Nat) : Int) != 0) = false := by decide
      clear hr2 he2 hd
      obtain ⟨kd0, kd1, kd2, kd3, kd4, kd5, kd6, kd7, kd8, kd9, kd10, kd11, kd12⟩ := (show MsgAt (w6.alloc (.cells #[.int .i64 (D.i 0), .int .u64 (D.i 1), .int .u64 (D.i 2), .string D.s, .int .i64 (D.i 4), .int .i64 (D.i 5), .int .i64 (D.i 6), .int .i64 (D.i 7), .int .i64 (D.i 8), .int .i64 (D.i 9), .int .i64 (D.i 10), .int .u64 (D.i 11), .int .u64 (D.i 12)] 24)) w6.heap.size D from heap_alloc_new _ _).cells
      go_wp2_with fail
      clear kd0 kd1 kd2 kd3 kd4 kd5 kd6 kd7 kd8 kd9 kd10 kd11 kd12
      obtain ⟨u7, hu7⟩ : ∃ x, x = w6.alloc (.cells #[.int .i64 (D.i 0), .int .u64 (D.i 1), .int .u64 (D.i 2), .string D.s, .int .i64 (D.i 4), .int .i64 (D.i 5), .int .i64 (D.i 6), .int .i64 (D.i 7), .int .i64 (D.i 8), .int .i64 (D.i 9), .int .i64 (D.i 10), .int .u64 (D.i 11), .int .u64 (D.i 12)] 24) := ⟨_, rfl⟩
      obtain ⟨qd, hqd⟩ : ∃ q, q = w6.heap.size := ⟨_, rfl⟩
      have Hd : Hid (MsgAt u7 qd D) := Lib.hid (by rw [hu7, hqd]; exact heap_alloc_new w6 _)
      have HNmd : Hid (qm ≠ qd) := Lib.hid (by have := Hm.out.lt; omega)
      replace Hm := Lib.hid (Hm.out.below (show Below w6.heap.size w6 u7 by rw [hu7]; exact below_alloc _ _))
      have HQd : Hid (w.heap.size ≤ qd) := Lib.hid (by rw [hqd]; exact HBB.out.size)
      replace HBB := Lib.hid (HBB.out.trans ((show Below w6.heap.size w6 u7 by rw [hu7]; exact below_alloc _ _).mono HBB.out.size))
      rw [← hu7]
      clear hu7
      rw [← hqd]
      clear hqd
      refine (right_k D _ HW2.out true HR2).mono ?_
      rintro e w8 ⟨rfl, hb⟩
      replace Hm := Lib.hid (Hm.out.below hb)
      replace Hd := Lib.hid (Hd.out.below hb)
      replace HBB := Lib.hid (HBB.out.trans (hb.mono HBB.out.size))
      clear hb
      obtain ⟨kd0, kd1, kd2, kd3, kd4, kd5, kd6, kd7, kd8, kd9, kd10, kd11, kd12⟩ := Hd.out.cells
      go_wp2_with fail
      clear kd0 kd1 kd2 kd3 kd4 kd5 kd6 kd7 kd8 kd9 kd10 kd11 kd12
      refine (enc_k D _ HW2.out A HE2).mono ?_
      rintro e w9 ⟨rfl, hb⟩
      replace Hm := Lib.hid (Hm.out.below hb)
      replace Hd := Lib.hid (Hd.out.below hb)
      replace HBB := Lib.hid (HBB.out.trans (hb.mono HBB.out.size))
      clear hb
      go_wp2_with fail
      refine (fixed_any _).mono ?_
      rintro e w10 ⟨rfl, hb⟩
      replace Hm := Lib.hid (Hm.out.below hb)
      replace Hd := Lib.hid (Hd.out.below hb)
      replace HBB := Lib.hid (HBB.out.trans (hb.mono HBB.out.size))
      clear hb
      go_wp2_with fail
      go_ret
      exact ⟨rfl, HBB.out⟩
    · skip
      have z1 : ((E : Int) != 0) = true := by simp [hE]
      obtain rfl := dec_zero hd hE
      clear hd hE
      obtain ⟨kd0, kd1, kd2, kd3, kd4, kd5, kd6, kd7, kd8, kd9, kd10, kd11, kd12⟩ := (show MsgAt (w6.alloc (.cells #[.int .i64 ((zeroM 0).i 0), .int .u64 ((zeroM 0).i 1), .int .u64 ((zeroM 0).i 2), .string (zeroM 0).s, .int .i64 ((zeroM 0).i 4), .int .i64 ((zeroM 0).i 5), .int .i64 ((zeroM 0).i 6), .int .i64 ((zeroM 0).i 7), .int .i64 ((zeroM 0).i 8), .int .i64 ((zeroM 0).i 9), .int .i64 ((zeroM 0).i 10), .int .u64 ((zeroM 0).i 11), .int .u64 ((zeroM 0).i 12)] 24)) w6.heap.size (zeroM 0) from heap_alloc_new _ _).cells
      have t6 := fun u => (show (binOp .eql 24 (.agg #[.int .i64 ((zeroM 0).i 0), .int .u64 ((zeroM 0).i 1), .int .u64 ((zeroM 0).i 2), .string (zeroM 0).s, .int .i64 ((zeroM 0).i 4), .int .i64 ((zeroM 0).i 5), .int .i64 ((zeroM 0).i 6), .int .i64 ((zeroM 0).i 7), .int .i64 ((zeroM 0).i 8), .int .i64 ((zeroM 0).i 9), .int .i64 ((zeroM 0).i 10), .int .u64 ((zeroM 0).i 11), .int .u64 ((zeroM 0).i 12)]) (.agg #[.int .i64 0, .int .u64 0, .int .u64 0, .string ⟨#[]⟩, .int .i64 0, .int .i64 0, .int .i64 0, .int .i64 0, .int .i64 0, .int .i64 0, .int .i64 0, .int .u64 0, .int .u64 0])).run Try.prog u = .ok (.bool true) u by have := eqlP (zeroM 0) (zeroM 0) u; rw [eqM_self] at this; exact this)
      have t7 := guardP
      go_wp2_with fail
      clear kd0 kd1 kd2 kd3 kd4 kd5 kd6 kd7 kd8 kd9 kd10 kd11 kd12 t6 t7
      obtain ⟨u7, hu7⟩ : ∃ x, x = w6.alloc (.cells #[.int .i64 ((zeroM 0).i 0), .int .u64 ((zeroM 0).i 1), .int .u64 ((zeroM 0).i 2), .string (zeroM 0).s, .int .i64 ((zeroM 0).i 4), .int .i64 ((zeroM 0).i 5), .int .i64 ((zeroM 0).i 6), .int .i64 ((zeroM 0).i 7), .int .i64 ((zeroM 0).i 8), .int .i64 ((zeroM 0).i 9), .int .i64 ((zeroM 0).i 10), .int .u64 ((zeroM 0).i 11), .int .u64 ((zeroM 0).i 12)] 24) := ⟨_, rfl⟩
      obtain ⟨qd, hqd⟩ : ∃ q, q = w6.heap.size := ⟨_, rfl⟩
      have Hd : Hid (MsgAt u7 qd (zeroM 0)) := Lib.hid (by rw [hu7, hqd]; exact heap_alloc_new w6 _)
      have HNmd : Hid (qm ≠ qd) := Lib.hid (by have := Hm.out.lt; omega)
      replace Hm := Lib.hid (Hm.out.below (show Below w6.heap.size w6 u7 by rw [hu7]; exact below_alloc _ _))
      have HQd : Hid (w.heap.size ≤ qd) := Lib.hid (by rw [hqd]; exact HBB.out.size)
      replace HBB := Lib.hid (HBB.out.trans ((show Below w6.heap.size w6 u7 by rw [hu7]; exact below_alloc _ _).mono HBB.out.size))
      rw [← hu7]
      clear hu7
      rw [← hqd]
      clear hqd
      refine (fixed_any _).mono ?_
      rintro e w8 ⟨rfl, hb⟩
      replace Hm := Lib.hid (Hm.out.below hb)
      replace Hd := Lib.hid (Hd.out.below hb)
      replace HBB := Lib.hid (HBB.out.trans (hb.mono HBB.out.size))
      clear hb
      go_wp2_with fail
      go_ret
      exact ⟨rfl, HBB.out⟩
  | true =>
    have hne : t.toList.isEmpty = false := by rw [← HT.out]; exact enc_full hr
    have HR := Lib.hid hr
    have HL : Hid (t.size ≤ 1000000) := Lib.hid (by have := (enc_len hr).2; rw [HT.out] at this; omega)
    have HDE : Hid (decM t = (N, 0)) := Lib.hid (by rw [← HT.out]; exact dec_enc hn hr)
    clear hr
    obtain ⟨km0, km1, km2, km3, km4, km5, km6, km7, km8, km9, km10, km11, km12⟩ := Hm.out.cells
    go_wp2_with fail
    clear km0 km1 km2 km3 km4 km5 km6 km7 km8 km9 km10 km11 km12
    refine (right_k N _ HN.out true HR).mono ?_
    rintro e w5 ⟨rfl, hb⟩
    replace Hm := Lib.hid (Hm.out.below hb)
    replace HBB := Lib.hid (HBB.out.trans (hb.mono HBB.out.size))
    clear hb
    go_wp2_with fail
    refine (decode_l t _ HL.out N 0 0 #[.int .i64 (N.i 0), .int .u64 (N.i 1), .int .u64 (N.i 2), .string N.s, .int .i64 (N.i 4), .int .i64 (N.i 5), .int .i64 (N.i 6), .int .i64 (N.i 7), .int .i64 (N.i 8), .int .i64 (N.i 9), .int .i64 (N.i 10), .int .u64 (N.i 11), .int .u64 (N.i 12)] HDE.out rfl rfl).mono ?_
    rintro e w6 ⟨rfl, hb⟩
    replace Hm := Lib.hid (Hm.out.below hb)
    replace HBB := Lib.hid (HBB.out.trans (hb.mono HBB.out.size))
    clear hb
    obtain ⟨km0, km1, km2, km3, km4, km5, km6, km7, km8, km9, km10, km11, km12⟩ := Hm.out.cells
    obtain ⟨kd0, kd1, kd2, kd3, kd4, kd5, kd6, kd7, kd8, kd9, kd10, kd11, kd12⟩ := (show MsgAt (w6.alloc (.cells #[.int .i64 (N.i 0), .int .u64 (N.i 1), .int .u64 (N.i 2), .string N.s, .int .i64 (N.i 4), .int .i64 (N.i 5), .int .i64 (N.i 6), .int .i64 (N.i 7), .int .i64 (N.i 8), .int .i64 (N.i 9), .int .i64 (N.i 10), .int .u64 (N.i 11), .int .u64 (N.i 12)] 24)) w6.heap.size N from heap_alloc_new _ _).cells
    obtain ⟨ke0, ke1, ke2, ke3, ke4, ke5, ke6, ke7, ke8, ke9, ke10, ke11, ke12⟩ := (show MsgAt (w6.alloc (.cells #[.int .i64 (N.i 0), .int .u64 (N.i 1), .int .u64 (N.i 2), .string N.s, .int .i64 (N.i 4), .int .i64 (N.i 5), .int .i64 (N.i 6), .int .i64 (N.i 7), .int .i64 (N.i 8), .int .i64 (N.i 9), .int .i64 (N.i 10), .int .u64 (N.i 11), .int .u64 (N.i 12)] 24)) qm N from Hm.out.below (below_alloc _ _)).cells
    have t6 := fun u => (show (binOp .neq 24 (.agg #[.int .i64 (N.i 0), .int .u64 (N.i 1), .int .u64 (N.i 2), .string N.s, .int .i64 (N.i 4), .int .i64 (N.i 5), .int .i64 (N.i 6), .int .i64 (N.i 7), .int .i64 (N.i 8), .int .i64 (N.i 9), .int .i64 (N.i 10), .int .u64 (N.i 11), .int .u64 (N.i 12)]) (.agg #[.int .i64 (N.i 0), .int .u64 (N.i 1), .int .u64 (N.i 2), .string N.s, .int .i64 (N.i 4), .int .i64 (N.i 5), .int .i64 (N.i 6), .int .i64 (N.i 7), .int .i64 (N.i 8), .int .i64 (N.i 9), .int .i64 (N.i 10), .int .u64 (N.i 11), .int .u64 (N.i 12)])).run Try.prog u = .ok (.bool false) u by have := neqP N N u; rw [eqM_self] at this; exact this)
    have t7 := guardP
    go_wp2_with fail
    clear km0 km1 km2 km3 km4 km5 km6 km7 km8 km9 km10 km11 km12
    clear kd0 kd1 kd2 kd3 kd4 kd5 kd6 kd7 kd8 kd9 kd10 kd11 kd12 ke0 ke1 ke2 ke3 ke4 ke5 ke6 ke7 ke8 ke9 ke10 ke11 ke12 t6 t7
    obtain ⟨u7, hu7⟩ : ∃ x, x = w6.alloc (.cells #[.int .i64 (N.i 0), .int .u64 (N.i 1), .int .u64 (N.i 2), .string N.s, .int .i64 (N.i 4), .int .i64 (N.i 5), .int .i64 (N.i 6), .int .i64 (N.i 7), .int .i64 (N.i 8), .int .i64 (N.i 9), .int .i64 (N.i 10), .int .u64 (N.i 11), .int .u64 (N.i 12)] 24) := ⟨_, rfl⟩
    obtain ⟨qn, hqn⟩ : ∃ q, q = w6.heap.size := ⟨_, rfl⟩
    have Hn : Hid (MsgAt u7 qn N) := Lib.hid (by rw [hu7, hqn]; exact heap_alloc_new w6 _)
    have HNmn : Hid (qm ≠ qn) := Lib.hid (by have := Hm.out.lt; omega)
    replace Hm := Lib.hid (Hm.out.below (show Below w6.heap.size w6 u7 by rw [hu7]; exact below_alloc _ _))
    have HQn : Hid (w.heap.size ≤ qn) := Lib.hid (by rw [hqn]; exact HBB.out.size)
    replace HBB := Lib.hid (HBB.out.trans ((show Below w6.heap.size w6 u7 by rw [hu7]; exact below_alloc _ _).mono HBB.out.size))
    rw [← hu7]
    clear hu7
    rw [← hqn]
    clear hqn
    obtain ⟨D, E, hd⟩ : ∃ D E, decM A = (D, E) := ⟨_, _, rfl⟩
    refine (decode_l A _ HA.out D E E #[.int .i64 (D.i 0), .int .u64 (D.i 1), .int .u64 (D.i 2), .string D.s, .int .i64 (D.i 4), .int .i64 (D.i 5), .int .i64 (D.i 6), .int .i64 (D.i 7), .int .i64 (D.i 8), .int .i64 (D.i 9), .int .i64 (D.i 10), .int .u64 (D.i 11), .int .u64 (D.i 12)] hd rfl rfl).mono ?_
    rintro e w8 ⟨rfl, hb⟩
    replace Hm := Lib.hid (Hm.out.below hb)
    replace Hn := Lib.hid (Hn.out.below hb)
    replace HBB := Lib.hid (HBB.out.trans (hb.mono HBB.out.size))
    clear hb
    by_cases hE : E = 0
    · skip
      subst hE
      obtain ⟨hr2, he2⟩ := dec_back hd
      have HR2 := Lib.hid hr2
      have HE2 := Lib.hid he2
      have HW2 := Lib.hid (right_wf hr2)
      have t5 := eqS A
      have z1 : (((0 : Nat) : Int) != 0) = false := by decide
      clear hr2 he2 hd
      obtain ⟨kd0, kd1, kd2, kd3, kd4, kd5, kd6, kd7, kd8, kd9, kd10, kd11, kd12⟩ := (show MsgAt (w8.alloc (.cells #[.int .i64 (D.i 0), .int .u64 (D.i 1), .int .u64 (D.i 2), .string D.s, .int .i64 (D.i 4), .int .i64 (D.i 5), .int .i64 (D.i 6), .int .i64 (D.i 7), .int .i64 (D.i 8), .int .i64 (D.i 9), .int .i64 (D.i 10), .int .u64 (D.i 11), .int .u64 (D.i 12)] 24)) w8.heap.size D from heap_alloc_new _ _).cells
      go_wp2_with fail
      clear kd0 kd1 kd2 kd3 kd4 kd5 kd6 kd7 kd8 kd9 kd10 kd11 kd12
      obtain ⟨u9, hu9⟩ : ∃ x, x = w8.alloc (.cells #[.int .i64 (D.i 0), .int .u64 (D.i 1), .int .u64 (D.i 2), .string D.s, .int .i64 (D.i 4), .int .i64 (D.i 5), .int .i64 (D.i 6), .int .i64 (D.i 7), .int .i64 (D.i 8), .int .i64 (D.i 9), .int .i64 (D.i 10), .int .u64 (D.i 11), .int .u64 (D.i 12)] 24) := ⟨_, rfl⟩
      obtain ⟨qd, hqd⟩ : ∃ q, q = w8.heap.size := ⟨_, rfl⟩
      have Hd : Hid (MsgAt u9 qd D) := Lib.hid (by rw [hu9, hqd]; exact heap_alloc_new w8 _)
      have HNmd : Hid (qm ≠ qd) := Lib.hid (by have := Hm.out.lt; omega)
      replace Hm := Lib.hid (Hm.out.below (show Below w8.heap.size w8 u9 by rw [hu9]; exact below_alloc _ _))
      have HNnd : Hid (qn ≠ qd) := Lib.hid (by have := Hn.out.lt; omega)
      replace Hn := Lib.hid (Hn.out.below (show Below w8.heap.size w8 u9 by rw [hu9]; exact below_alloc _ _))
      have HQd : Hid (w.heap.size ≤ qd) := Lib.hid (by rw [hqd]; exact HBB.out.size)
      replace HBB := Lib.hid (HBB.out.trans ((show Below w8.heap.size w8 u9 by rw [hu9]; exact below_alloc _ _).mono HBB.out.size))
      rw [← hu9]
      clear hu9
      rw [← hqd]
      clear hqd
      refine (right_k D _ HW2.out true HR2).mono ?_
      rintro e w10 ⟨rfl, hb⟩
      replace Hm := Lib.hid (Hm.out.below hb)
      replace Hn := Lib.hid (Hn.out.below hb)
      replace Hd := Lib.hid (Hd.out.below hb)
      replace HBB := Lib.hid (HBB.out.trans (hb.mono HBB.out.size))
      clear hb
      obtain ⟨kd0, kd1, kd2, kd3, kd4, kd5, kd6, kd7, kd8, kd9, kd10, kd11, kd12⟩ := Hd.out.cells
      go_wp2_with fail
      clear kd0 kd1 kd2 kd3 kd4 kd5 kd6 kd7 kd8 kd9 kd10 kd11 kd12
      refine (enc_k D _ HW2.out A HE2).mono ?_
      rintro e w11 ⟨rfl, hb⟩
      replace Hm := Lib.hid (Hm.out.below hb)
      replace Hn := Lib.hid (Hn.out.below hb)
      replace Hd := Lib.hid (Hd.out.below hb)
      replace HBB := Lib.hid (HBB.out.trans (hb.mono HBB.out.size))
      clear hb
      go_wp2_with fail
      refine (fixed_any _).mono ?_
      rintro e w12 ⟨rfl, hb⟩
      replace Hm := Lib.hid (Hm.out.below hb)
      replace Hn := Lib.hid (Hn.out.below hb)
      replace Hd := Lib.hid (Hd.out.below hb)
      replace HBB := Lib.hid (HBB.out.trans (hb.mono HBB.out.size))
      clear hb
      go_wp2_with fail
      go_ret
      exact ⟨rfl, HBB.out⟩
    · skip
      have z1 : ((E : Int) != 0) = true := by simp [hE]
      obtain rfl := dec_zero hd hE
      clear hd hE
      obtain ⟨kd0, kd1, kd2, kd3, kd4, kd5, kd6, kd7, kd8, kd9, kd10, kd11, kd12⟩ := (show MsgAt (w8.alloc (.cells #[.int .i64 ((zeroM 0).i 0), .int .u64 ((zeroM 0).i 1), .int .u64 ((zeroM 0).i 2), .string (zeroM 0).s, .int .i64 ((zeroM 0).i 4), .int .i64 ((zeroM 0).i 5), .int .i64 ((zeroM 0).i 6), .int .i64 ((zeroM 0).i 7), .int .i64 ((zeroM 0).i 8), .int .i64 ((zeroM 0).i 9), .int .i64 ((zeroM 0).i 10), .int .u64 ((zeroM 0).i 11), .int .u64 ((zeroM 0).i 12)] 24)) w8.heap.size (zeroM 0) from heap_alloc_new _ _).cells
      have t6 := fun u => (show (binOp .eql 24 (.agg #[.int .i64 ((zeroM 0).i 0), .int .u64 ((zeroM 0).i 1), .int .u64 ((zeroM 0).i 2), .string (zeroM 0).s, .int .i64 ((zeroM 0).i 4), .int .i64 ((zeroM 0).i 5), .int .i64 ((zeroM 0).i 6), .int .i64 ((zeroM 0).i 7), .int .i64 ((zeroM 0).i 8), .int .i64 ((zeroM 0).i 9), .int .i64 ((zeroM 0).i 10), .int .u64 ((zeroM 0).i 11), .int .u64 ((zeroM 0).i 12)]) (.agg #[.int .i64 0, .int .u64 0, .int .u64 0, .string ⟨#[]⟩, .int .i64 0, .int .i64 0, .int .i64 0, .int .i64 0, .int .i64 0, .int .i64 0, .int .i64 0, .int .u64 0, .int .u64 0])).run Try.prog u = .ok (.bool true) u by have := eqlP (zeroM 0) (zeroM 0) u; rw [eqM_self] at this; exact this)
      have t7 := guardP
      go_wp2_with fail
      clear kd0 kd1 kd2 kd3 kd4 kd5 kd6 kd7 kd8 kd9 kd10 kd11 kd12 t6 t7
      obtain ⟨u9, hu9⟩ : ∃ x, x = w8.alloc (.cells #[.int .i64 ((zeroM 0).i 0), .int .u64 ((zeroM 0).i 1), .int .u64 ((zeroM 0).i 2), .string (zeroM 0).s, .int .i64 ((zeroM 0).i 4), .int .i64 ((zeroM 0).i 5), .int .i64 ((zeroM 0).i 6), .int .i64 ((zeroM 0).i 7), .int .i64 ((zeroM 0).i 8), .int .i64 ((zeroM 0).i 9), .int .i64 ((zeroM 0).i 10), .int .u64 ((zeroM 0).i 11), .int .u64 ((zeroM 0).i 12)] 24) := ⟨_, rfl⟩
      obtain ⟨qd, hqd⟩ : ∃ q, q = w8.heap.size := ⟨_, rfl⟩
      have Hd : Hid (MsgAt u9 qd (zeroM 0)) := Lib.hid (by rw [hu9, hqd]; exact heap_alloc_new w8 _)
      have HNmd : Hid (qm ≠ qd) := Lib.hid (by have := Hm.out.lt; omega)
      replace Hm := Lib.hid (Hm.out.below (show Below w8.heap.size w8 u9 by rw [hu9]; exact below_alloc _ _))
      have HNnd : Hid (qn ≠ qd) := Lib.hid (by have := Hn.out.lt; omega)
      replace Hn := Lib.hid (Hn.out.below (show Below w8.heap.size w8 u9 by rw [hu9]; exact below_alloc _ _))
      have HQd : Hid (w.heap.size ≤ qd) := Lib.hid (by rw [hqd]; exact HBB.out.size)
      replace HBB := Lib.hid (HBB.out.trans ((show Below w8.heap.size w8 u9 by rw [hu9]; exact below_alloc _ _).mono HBB.out.size))
      rw [← hu9]
      clear hu9
      rw [← hqd]
      clear hqd
      refine (fixed_any _).mono ?_
      rintro e w10 ⟨rfl, hb⟩
      replace Hm := Lib.hid (Hm.out.below hb)
      replace Hn := Lib.hid (Hn.out.below hb)
      replace Hd := Lib.hid (Hd.out.below hb)
      replace HBB := Lib.hid (HBB.out.trans (hb.mono HBB.out.size))
      clear hb
      go_wp2_with fail
      go_ret
      exact ⟨rfl, HBB.out⟩

theorem walk (M : Ms) (a1 : ByteArray) (w : World) (w0 : M.Wf) (n0 : Norm M) (w1 : a1.size ≤ maxLen) :
    Calls Try.prog 4 #[.agg M.cl, .string a1] w fun e w' => e = .returned (.bool true) ∧ Below w.heap.size w w' := by
  obtain ⟨p, m0, u0, v0, x0⟩ := slice_facts M.s 30
  obtain ⟨A, m1, u1, v1, x1⟩ := slice_facts a1 200
  exact walkN M (M.setS p) a1 A _ w (w0.setS (Nat.le_trans u0 w0.s)) (n0.setS p) (fun u => cut_k M u w0 p m0 u0 x0) m1 u1 v1 x1 w1 rfl

set_option maxRecDepth 100000 in
theorem lifted (os : Os) (started : os.Started) (H : Type) (enc : TypeId × Value → H) :
    ReturnsInHanded {} Try.checked os 4 .any (Rows.msgBackSpec.pre6 enc Try.prog Try.f4 Rows.msgBackRow.domain false) (Rows.msgBackSpec.post enc Try.prog Try.f4 false true false false) := by
  refine returnsInHanded_of_change (C := Try.checked) own started (by kernel_rfl) Try.func4
    (ChangeSpec.witness6 (enc := enc) (C := Try.checked) false ⟨#[], #[.agg #[.int .i64 0, .int .u64 0, .int .u64 0, .string ByteArray.empty, .int .i64 0, .int .i64 0, .int .i64 0, .int .i64 0, .int .i64 0, .int .i64 0, .int .i64 0, .int .u64 0, .int .u64 0], .string ByteArray.empty], []⟩ 8 (by kernel_rfl) (by kernel_rfl) (by kernel_rfl) (by kernel_rfl)) ?_
  intro W base args ds gs before hval0 hW hcnd _
  have hval : ∀ (j : Nat) t v, Try.f4.params[j]? = some t → args[j]? = some v → Value.okWide Try.prog W .any base t v := hval0
  have hW' := hW
  obtain ⟨p, q, hA0, hV, rfl, hfz, hnd⟩ := hW
  have hA : DataW.TrodAll enc Try.prog W 0 (fun _ => true) true Try.f4.params.toList args.toList ds p := hA0
  rw [Try.params4] at hA hval
  obtain ⟨v0, vs0, d0, ds0, p0, q0, hargs, rfl, rfl, h0, r0⟩ := trodAll_cons hA
  obtain ⟨v1, vs1, d1, ds1, p1, q1, rfl, rfl, rfl, h1, r1⟩ := trodAll_cons r0
  obtain ⟨rfl, rfl, rfl⟩ := trodAll_nil r1
  obtain rfl : args = #[v0, v1] := by cases args; simp_all
  obtain ⟨rfl, rfl⟩ := trodVars_none hV
  obtain ⟨cs0, rfl, hsz0⟩ : ∃ cs, v0 = .agg cs ∧ cs.size = Try.prog.cellsOf 24 := by
    have h := hval 0 24 v0 rfl rfl
    simp only [Value.okWide, Try.underlying24] at h
    obtain ⟨cs, e1, e2, _⟩ := h
    exact ⟨cs, e1, e2⟩
  have k0 := h0
  have lt0 : ∀ x ∈ p0, x.block < W.heap.size := by obtain ⟨m, hm⟩ := k0; exact DataW.trod_lt m _ _ _ hm
  obtain ⟨M0, rfl, w0, n0⟩ : ∃ M : Ms, cs0 = M.cl ∧ M.Wf ∧ Norm M := by
    obtain ⟨fuel, hf⟩ := h0
    exact open_msg hf
  obtain ⟨a1, rfl, rfl, rfl, w1⟩ := open_string Try.underlying9 (hval 1 9 v1 rfl rfl) h1
  clear hA0 hval0
  refine (walk M0 a1 W w0 n0 w1).mono fun e W' ⟨he, bel⟩ => ?_
  subst he
  exact ⟨_, rfl, _, _, _, [], _, [], hW', trodAll_mk1 (shut_bool Try.underlying4 _), (trodAll_cons_mk (Below.trod laidOut (by kernel_rfl) (of_decide_eq_true (by kernel_rfl)) k0 bel lt0) (trodAll_cons_mk (shut_string Try.underlying9 w1) trodAll_mk0)), rfl, bel.frame _, fun h => by cases h⟩

theorem over : Rows.msgBackRow.holds Try.pinned (OpenSpec.ofChange Rows.msgBackSpec) :=
  OpenClaim.holds_of_wide 4 Try.f4 rfl rfl rfl rfl rfl rfl rfl ⟨rfl, rfl, rfl, rfl, rfl⟩ rfl rfl rfl rfl rfl (by kernel_rfl) Try.func4 (by kernel_rfl)
    (of_decide_eq_true (by kernel_rfl)) (by unfold Func.isWrapper; first | (rw [if_pos (by decide +kernel)]; kernel_rfl) | (rw [if_neg (by decide +kernel)]; exact ⟨rfl, rfl⟩))
    (fun os started H enc _ => lifted os started H enc)

theorem proved : Rows.MsgBackSaid := over
#print axioms proved
end Go.Proofs.Ytifpahjlmnimnaa.msgBack
