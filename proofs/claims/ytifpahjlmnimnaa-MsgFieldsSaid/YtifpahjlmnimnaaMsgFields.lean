/- MsgFields: with something in a field that its kind has not, it may not be; with other names it has other names. No condition. -/
import Derived.Test.YtifpahjlmnimnaaRows
import Derived.Test.YtifpahjlmnimnaaMsgU
import Derived.WalkKit
import Derived.BigQuiet
import Derived.Deep.CutRange
import Derived.Deep.CutBlock
import Derived.Deep.RegionHeld3
import Derived.ProofKit
import Derived.OpenShut
import Derived.ShutString
import Derived.ChangeOld
import Derived.Below
namespace Go.Proofs.Ytifpahjlmnimnaa.msgFields
open Go.ChangeShapes Go.WideShapes Go.ChangeAt Go.RowKit
open Go.ChangeMaps (open_string shut_string)
open Go.Proofs.Ytifpahjlmnimnaa
set_option linter.unusedVariables false
set_option linter.unusedSimpArgs false
set_option maxRecDepth 20000

theorem own : ownKnob Try.prog.godebug = none := by kernel_rfl
theorem laidOut : laidOutB Try.prog = true := by kernel_rfl
set_option maxHeartbeats 32000000 in
set_option maxRecDepth 100000 in
theorem walkN (M N : Ms) (f y : Nat) (w : World) (hN : N.Wf) (hn : Norm N) (hC : ∀ u, Calls Try.prog 9 #[.agg #[.int .i64 (M.i 0), .int .u64 (M.i 1), .int .u64 (M.i 2), .string M.s, .int .i64 (M.i 4), .int .i64 (M.i 5), .int .i64 (M.i 6), .int .i64 (M.i 7), .int .i64 (M.i 8), .int .i64 (M.i 9), .int .i64 (M.i 10), .int .u64 (M.i 11), .int .u64 (M.i 12)]] u fun e w' => e = .returned (.agg #[.int .i64 (N.i 0), .int .u64 (N.i 1), .int .u64 (N.i 2), .string N.s, .int .i64 (N.i 4), .int .i64 (N.i 5), .int .i64 (N.i 6), .int .i64 (N.i 7), .int .i64 (N.i 8), .int .i64 (N.i 9), .int .i64 (N.i 10), .int .u64 (N.i 11), .int .u64 (N.i 12)]) ∧ Below u.heap.size u w')
    (hf : (f : Int) ≤ 255) (hy : (y : Int) ≤ 65535) :
    Calls Try.prog 7 #[.agg #[.int .i64 (M.i 0), .int .u64 (M.i 1), .int .u64 (M.i 2), .string M.s, .int .i64 (M.i 4), .int .i64 (M.i 5), .int .i64 (M.i 6), .int .i64 (M.i 7), .int .i64 (M.i 8), .int .i64 (M.i 9), .int .i64 (M.i 10), .int .u64 (M.i 11), .int .u64 (M.i 12)], .int .u8 f, .int .u16 y] w fun e w' => e = .returned (.bool true) ∧ Below w.heap.size w w' := by
  have HN := Lib.hid hN
  have HC := Lib.hid hC
  clear hC hN hn
  have HBB : Hid (Below w.heap.size w w) := Lib.hid (Below.refl _ _)
  go_enter Try.func7, Try.ntmps7
  go_wp2_with fail
  obtain ⟨u1, hu1⟩ : ∃ wx, wx = w.alloc (.cells #[.int .i64 (M.i 0), .int .u64 (M.i 1), .int .u64 (M.i 2), .string M.s, .int .i64 (M.i 4), .int .i64 (M.i 5), .int .i64 (M.i 6), .int .i64 (M.i 7), .int .i64 (M.i 8), .int .i64 (M.i 9), .int .i64 (M.i 10), .int .u64 (M.i 11), .int .u64 (M.i 12)] 24) := ⟨_, rfl⟩
  obtain ⟨qm, hqm⟩ : ∃ q, q = w.heap.size := ⟨_, rfl⟩
  have Hm : Hid (MsgAt u1 qm M) := Lib.hid (by rw [hu1, hqm]; exact heap_alloc_new w _)
  have HQm : Hid (w.heap.size ≤ qm) := Lib.hid (by rw [hqm]; exact HBB.out.size)
  replace HBB := Lib.hid (HBB.out.trans ((show Below w.heap.size w u1 by rw [hu1]; exact below_alloc _ _).mono HBB.out.size))
  rw [← hu1]
  clear hu1
  rw [← hqm]
  clear hqm
  refine (HC.out _).mono ?_
  rintro e w2 ⟨rfl, hb⟩
  replace Hm := Lib.hid (Hm.out.below hb)
  replace HBB := Lib.hid (HBB.out.trans (hb.mono HBB.out.size))
  clear hb
  obtain ⟨km0, km1, km2, km3, km4, km5, km6, km7, km8, km9, km10, km11, km12⟩ := Hm.out.cells
  have gm0 := frz_of_row 0 Hm.out
  have gm1 := frz_of_row 1 Hm.out
  have gm2 := frz_of_row 2 Hm.out
  have gm3 := frz_of_row 3 Hm.out
  have gm4 := frz_of_row 4 Hm.out
  have gm5 := frz_of_row 5 Hm.out
  have gm6 := frz_of_row 6 Hm.out
  have gm7 := frz_of_row 7 Hm.out
  have gm8 := frz_of_row 8 Hm.out
  have gm9 := frz_of_row 9 Hm.out
  have gm10 := frz_of_row 10 Hm.out
  have gm11 := frz_of_row 11 Hm.out
  have gm12 := frz_of_row 12 Hm.out
  go_wp2_with fail
  clear km0 km1 km2 km3 km4 km5 km6 km7 km8 km9 km10 km11 km12
  clear gm0 gm1 gm2 gm3 gm4 gm5 gm6 gm7 gm8 gm9 gm10 gm11 gm12
  obtain ⟨u3, hu3⟩ : ∃ wx, wx = (((((((((((((w2.setCell ⟨qm, 0, none⟩ (.int .i64 (N.i 0))).setCell ⟨qm, 1, none⟩ (.int .u64 (N.i 1))).setCell ⟨qm, 2, none⟩ (.int .u64 (N.i 2))).setCell ⟨qm, 3, none⟩ (.string N.s)).setCell ⟨qm, 4, none⟩ (.int .i64 (N.i 4))).setCell ⟨qm, 5, none⟩ (.int .i64 (N.i 5))).setCell ⟨qm, 6, none⟩ (.int .i64 (N.i 6))).setCell ⟨qm, 7, none⟩ (.int .i64 (N.i 7))).setCell ⟨qm, 8, none⟩ (.int .i64 (N.i 8))).setCell ⟨qm, 9, none⟩ (.int .i64 (N.i 9))).setCell ⟨qm, 10, none⟩ (.int .i64 (N.i 10))).setCell ⟨qm, 11, none⟩ (.int .u64 (N.i 11))).setCell ⟨qm, 12, none⟩ (.int .u64 (N.i 12))) := ⟨_, rfl⟩
  have hc : Chg (fun k => k = qm) w2 u3 := by rw [hu3]; exact chg13 _ _ _ _ _ _ _ _ _ _ _ _ _ _ _
  replace Hm : Hid (MsgAt u3 qm N) := Lib.hid (by rw [hu3]; exact row13 rfl _ _ _ _ _ _ _ _ _ _ _ _ _ Hm.out)
  replace HBB := Lib.hid (Chg.out HBB.out hc HQm.out HBB.out.size)
  rw [← hu3]
  clear hc hu3
  cases hr : rightM N with
  | false =>
    have HR := Lib.hid hr
    have HE : Hid (encM N = ⟨#[]⟩) := Lib.hid (enc_no hr)
    clear hr
    refine (right_k N _ HN.out false HR).mono ?_
    rintro e w4 ⟨rfl, hb⟩
    replace Hm := Lib.hid (Hm.out.below hb)
    replace HBB := Lib.hid (HBB.out.trans (hb.mono HBB.out.size))
    clear hb
    obtain ⟨km0, km1, km2, km3, km4, km5, km6, km7, km8, km9, km10, km11, km12⟩ := Hm.out.cells
    go_wp2_with fail
    clear km0 km1 km2 km3 km4 km5 km6 km7 km8 km9 km10 km11 km12
    refine (enc_k N _ HN.out ⟨#[]⟩ HE).mono ?_
    rintro e w5 ⟨rfl, hb⟩
    replace Hm := Lib.hid (Hm.out.below hb)
    replace HBB := Lib.hid (HBB.out.trans (hb.mono HBB.out.size))
    clear hb
    go_wp2_with fail
    refine (fixed_any _).mono ?_
    rintro e w6 ⟨rfl, hb⟩
    replace Hm := Lib.hid (Hm.out.below hb)
    replace HBB := Lib.hid (HBB.out.trans (hb.mono HBB.out.size))
    clear hb
    go_wp2_with fail
    go_ret
    exact ⟨rfl, HBB.out⟩
  | true =>
    have HR := Lib.hid hr
    clear hr
    refine (right_k N _ HN.out true HR).mono ?_
    rintro e w4 ⟨rfl, hb⟩
    replace Hm := Lib.hid (Hm.out.below hb)
    replace HBB := Lib.hid (HBB.out.trans (hb.mono HBB.out.size))
    clear hb
    obtain ⟨km0, km1, km2, km3, km4, km5, km6, km7, km8, km9, km10, km11, km12⟩ := Hm.out.cells
    go_upto_region 5 with fail
    clear km0 km1 km2 km3 km4 km5 km6 km7 km8 km9 km10 km11 km12
    obtain ⟨u5, hu5⟩ : ∃ wx, wx = w4.alloc (.cells #[.int .i64 (N.i 0), .int .u64 (N.i 1), .int .u64 (N.i 2), .string N.s, .int .i64 (N.i 4), .int .i64 (N.i 5), .int .i64 (N.i 6), .int .i64 (N.i 7), .int .i64 (N.i 8), .int .i64 (N.i 9), .int .i64 (N.i 10), .int .u64 (N.i 11), .int .u64 (N.i 12)] 24) := ⟨_, rfl⟩
    obtain ⟨qa, hqa⟩ : ∃ q, q = w4.heap.size := ⟨_, rfl⟩
    have Ha : Hid (MsgAt u5 qa N) := Lib.hid (by rw [hu5, hqa]; exact heap_alloc_new w4 _)
    have HNma : Hid (qm ≠ qa) := Lib.hid (by have := Hm.out.lt; omega)
    replace Hm := Lib.hid (Hm.out.below (show Below w4.heap.size w4 u5 by rw [hu5]; exact below_alloc _ _))
    have HQa : Hid (w.heap.size ≤ qa) := Lib.hid (by rw [hqa]; exact HBB.out.size)
    replace HBB := Lib.hid (HBB.out.trans ((show Below w4.heap.size w4 u5 by rw [hu5]; exact below_alloc _ _).mono HBB.out.size))
    rw [← hu5]
    clear hu5
    rw [← hqa]
    clear hqa
    obtain ⟨km0, km1, km2, km3, km4, km5, km6, km7, km8, km9, km10, km11, km12⟩ := Hm.out.cells
    go_upto_block 0 with fail
    clear km0 km1 km2 km3 km4 km5 km6 km7 km8 km9 km10 km11 km12
    go_cut [] from 27 to 144 (fun wx => ∃ A : Ms, Hid (MsgAt wx qm N) ∧ Hid (MsgAt wx qa A) ∧ Hid (rightM A = false) ∧ Hid A.Wf ∧ Hid (Below w.heap.size w wx))
    case first =>
      have hkd := kind_facts HR.out
      have hks : N.i 0 = 1 ∨ N.i 0 = 2 ∨ N.i 0 = 3 ∨ N.i 0 = 4 := by omega
      clear hkd
      rcases hks with hk | hk | hk | hk
      · skip
        have HK := Lib.hid hk
        have e1 : (N.i 0 == 1) = true := by rw [hk]; rfl
        have e2 : (N.i 0 == 2) = false := by rw [hk]; rfl
        have e3 : (N.i 0 == 3) = false := by rw [hk]; rfl
        clear hk
        have hr4 : (f : Int) % 4 = 0 ∨ (f : Int) % 4 = 1 ∨ (f : Int) % 4 = 2 ∨ (f : Int) % 4 = 3 := by omega
        rcases hr4 with h4 | h4 | h4 | h4
        · skip
          obtain ⟨v, c0, f0⟩ := (show MsgAt (u5.alloc (.cells #[.int .u64 1, .int .u64 0, .int .u64 0, .int .u64 0] 22)) qa N from Ha.out.below (below_alloc _ _)).any (j := 2) (by omega)
          go_upto_region 12 with fail
          obtain ⟨u6, hu6⟩ : ∃ wx, wx = (u5.alloc (.cells #[.int .u64 1, .int .u64 0, .int .u64 0, .int .u64 0] 22)).setCell ⟨qa, 2, none⟩ (.int .u64 1) := ⟨_, rfl⟩
          have hb : Below u5.heap.size u5 (u5.alloc (.cells #[.int .u64 1, .int .u64 0, .int .u64 0, .int .u64 0] 22)) := below_alloc _ _
          have hc : Chg (fun k => k = qa) (u5.alloc (.cells #[.int .u64 1, .int .u64 0, .int .u64 0, .int .u64 0] 22)) u6 := by rw [hu6]; exact Chg.setCell _ _ _ _
          replace Hm := Lib.hid ((Hm.out.below hb).chg hc HNma.out)
          replace Ha : Hid (MsgAt u6 qa (N.set 2 1)) := Lib.hid (by rw [hu6]; exact (Ha.out.below hb).set (by decide) (by decide) 1)
          have HB1 : Below w.heap.size w (u5.alloc (.cells #[.int .u64 1, .int .u64 0, .int .u64 0, .int .u64 0] 22)) := HBB.out.trans (hb.mono HBB.out.size)
          replace HBB := Lib.hid (Chg.out HB1 hc HQa.out HB1.size)
          rw [← hu6]
          clear HB1 hb hc hu6 c0 f0 v
          obtain ⟨v, c0, f0⟩ := (show MsgAt (u6.alloc (.cells #[.int .i64 0, .int .i64 1, .int .i64 0, .int .i64 0] 3)) qa (N.set 2 1) from Ha.out.below (below_alloc _ _)).any (j := 5) (by omega)
          go_upto_region 13 with fail
          obtain ⟨u7, hu7⟩ : ∃ wx, wx = (u6.alloc (.cells #[.int .i64 0, .int .i64 1, .int .i64 0, .int .i64 0] 3)).setCell ⟨qa, 5, none⟩ (.int .i64 0) := ⟨_, rfl⟩
          have hb : Below u6.heap.size u6 (u6.alloc (.cells #[.int .i64 0, .int .i64 1, .int .i64 0, .int .i64 0] 3)) := below_alloc _ _
          have hc : Chg (fun k => k = qa) (u6.alloc (.cells #[.int .i64 0, .int .i64 1, .int .i64 0, .int .i64 0] 3)) u7 := by rw [hu7]; exact Chg.setCell _ _ _ _
          replace Hm := Lib.hid ((Hm.out.below hb).chg hc HNma.out)
          replace Ha : Hid (MsgAt u7 qa ((N.set 2 1).set 5 0)) := Lib.hid (by rw [hu7]; exact (Ha.out.below hb).set (by decide) (by decide) 0)
          have HB1 : Below w.heap.size w (u6.alloc (.cells #[.int .i64 0, .int .i64 1, .int .i64 0, .int .i64 0] 3)) := HBB.out.trans (hb.mono HBB.out.size)
          replace HBB := Lib.hid (Chg.out HB1 hc HQa.out HB1.size)
          rw [← hu7]
          clear HB1 hb hc hu7 c0 f0 v
          obtain ⟨v, c0, f0⟩ := (show MsgAt (u7.alloc (.cells #[.int .u64 0, .int .u64 0, .int .u64 1, .int .u64 0] 22)) qa ((N.set 2 1).set 5 0) from Ha.out.below (below_alloc _ _)).any (j := 11) (by omega)
          go_upto_region 14 with fail
          obtain ⟨u8, hu8⟩ : ∃ wx, wx = (u7.alloc (.cells #[.int .u64 0, .int .u64 0, .int .u64 1, .int .u64 0] 22)).setCell ⟨qa, 11, none⟩ (.int .u64 0) := ⟨_, rfl⟩
          have hb : Below u7.heap.size u7 (u7.alloc (.cells #[.int .u64 0, .int .u64 0, .int .u64 1, .int .u64 0] 22)) := below_alloc _ _
          have hc : Chg (fun k => k = qa) (u7.alloc (.cells #[.int .u64 0, .int .u64 0, .int .u64 1, .int .u64 0] 22)) u8 := by rw [hu8]; exact Chg.setCell _ _ _ _
          replace Hm := Lib.hid ((Hm.out.below hb).chg hc HNma.out)
          replace Ha : Hid (MsgAt u8 qa (((N.set 2 1).set 5 0).set 11 0)) := Lib.hid (by rw [hu8]; exact (Ha.out.below hb).set (by decide) (by decide) 0)
          have HB1 : Below w.heap.size w (u7.alloc (.cells #[.int .u64 0, .int .u64 0, .int .u64 1, .int .u64 0] 22)) := HBB.out.trans (hb.mono HBB.out.size)
          replace HBB := Lib.hid (Chg.out HB1 hc HQa.out HB1.size)
          rw [← hu8]
          clear HB1 hb hc hu8 c0 f0 v
          obtain ⟨v, c0, f0⟩ := (show MsgAt (u8.alloc (.cells #[.int .u64 0, .int .u64 0, .int .u64 0, .int .u64 1] 22)) qa (((N.set 2 1).set 5 0).set 11 0) from Ha.out.below (below_alloc _ _)).any (j := 12) (by omega)
          go_wp2_with fail
          obtain ⟨u9, hu9⟩ : ∃ wx, wx = (u8.alloc (.cells #[.int .u64 0, .int .u64 0, .int .u64 0, .int .u64 1] 22)).setCell ⟨qa, 12, none⟩ (.int .u64 0) := ⟨_, rfl⟩
          have hb : Below u8.heap.size u8 (u8.alloc (.cells #[.int .u64 0, .int .u64 0, .int .u64 0, .int .u64 1] 22)) := below_alloc _ _
          have hc : Chg (fun k => k = qa) (u8.alloc (.cells #[.int .u64 0, .int .u64 0, .int .u64 0, .int .u64 1] 22)) u9 := by rw [hu9]; exact Chg.setCell _ _ _ _
          replace Hm := Lib.hid ((Hm.out.below hb).chg hc HNma.out)
          replace Ha : Hid (MsgAt u9 qa ((((N.set 2 1).set 5 0).set 11 0).set 12 0)) := Lib.hid (by rw [hu9]; exact (Ha.out.below hb).set (by decide) (by decide) 0)
          have HB1 : Below w.heap.size w (u8.alloc (.cells #[.int .u64 0, .int .u64 0, .int .u64 0, .int .u64 1] 22)) := HBB.out.trans (hb.mono HBB.out.size)
          replace HBB := Lib.hid (Chg.out HB1 hc HQa.out HB1.size)
          rw [← hu9]
          clear HB1 hb hc hu9 c0 f0 v
          go_meet
          exact ⟨_, Hm, Ha, Lib.hid (bad1 HK.out 1 0 0 0 (by decide)), Lib.hid ((((HN.out.set (j := 2) (x := 1) (by decide)).set (j := 5) (x := 0) (by decide)).set (j := 11) (x := 0) (by decide)).set (j := 12) (x := 0) (by decide)), HBB⟩
        · skip
          obtain ⟨v, c0, f0⟩ := (show MsgAt (u5.alloc (.cells #[.int .u64 1, .int .u64 0, .int .u64 0, .int .u64 0] 22)) qa N from Ha.out.below (below_alloc _ _)).any (j := 2) (by omega)
          go_upto_region 12 with fail
          obtain ⟨u6, hu6⟩ : ∃ wx, wx = (u5.alloc (.cells #[.int .u64 1, .int .u64 0, .int .u64 0, .int .u64 0] 22)).setCell ⟨qa, 2, none⟩ (.int .u64 0) := ⟨_, rfl⟩
          have hb : Below u5.heap.size u5 (u5.alloc (.cells #[.int .u64 1, .int .u64 0, .int .u64 0, .int .u64 0] 22)) := below_alloc _ _
          have hc : Chg (fun k => k = qa) (u5.alloc (.cells #[.int .u64 1, .int .u64 0, .int .u64 0, .int .u64 0] 22)) u6 := by rw [hu6]; exact Chg.setCell _ _ _ _
          replace Hm := Lib.hid ((Hm.out.below hb).chg hc HNma.out)
          replace Ha : Hid (MsgAt u6 qa (N.set 2 0)) := Lib.hid (by rw [hu6]; exact (Ha.out.below hb).set (by decide) (by decide) 0)
          have HB1 : Below w.heap.size w (u5.alloc (.cells #[.int .u64 1, .int .u64 0, .int .u64 0, .int .u64 0] 22)) := HBB.out.trans (hb.mono HBB.out.size)
          replace HBB := Lib.hid (Chg.out HB1 hc HQa.out HB1.size)
          rw [← hu6]
          clear HB1 hb hc hu6 c0 f0 v
          obtain ⟨v, c0, f0⟩ := (show MsgAt (u6.alloc (.cells #[.int .i64 0, .int .i64 1, .int .i64 0, .int .i64 0] 3)) qa (N.set 2 0) from Ha.out.below (below_alloc _ _)).any (j := 5) (by omega)
          go_upto_region 13 with fail
          obtain ⟨u7, hu7⟩ : ∃ wx, wx = (u6.alloc (.cells #[.int .i64 0, .int .i64 1, .int .i64 0, .int .i64 0] 3)).setCell ⟨qa, 5, none⟩ (.int .i64 1) := ⟨_, rfl⟩
          have hb : Below u6.heap.size u6 (u6.alloc (.cells #[.int .i64 0, .int .i64 1, .int .i64 0, .int .i64 0] 3)) := below_alloc _ _
          have hc : Chg (fun k => k = qa) (u6.alloc (.cells #[.int .i64 0, .int .i64 1, .int .i64 0, .int .i64 0] 3)) u7 := by rw [hu7]; exact Chg.setCell _ _ _ _
          replace Hm := Lib.hid ((Hm.out.below hb).chg hc HNma.out)
          replace Ha : Hid (MsgAt u7 qa ((N.set 2 0).set 5 1)) := Lib.hid (by rw [hu7]; exact (Ha.out.below hb).set (by decide) (by decide) 1)
          have HB1 : Below w.heap.size w (u6.alloc (.cells #[.int .i64 0, .int .i64 1, .int .i64 0, .int .i64 0] 3)) := HBB.out.trans (hb.mono HBB.out.size)
          replace HBB := Lib.hid (Chg.out HB1 hc HQa.out HB1.size)
          rw [← hu7]
          clear HB1 hb hc hu7 c0 f0 v
          obtain ⟨v, c0, f0⟩ := (show MsgAt (u7.alloc (.cells #[.int .u64 0, .int .u64 0, .int .u64 1, .int .u64 0] 22)) qa ((N.set 2 0).set 5 1) from Ha.out.below (below_alloc _ _)).any (j := 11) (by omega)
          go_upto_region 14 with fail
          obtain ⟨u8, hu8⟩ : ∃ wx, wx = (u7.alloc (.cells #[.int .u64 0, .int .u64 0, .int .u64 1, .int .u64 0] 22)).setCell ⟨qa, 11, none⟩ (.int .u64 0) := ⟨_, rfl⟩
          have hb : Below u7.heap.size u7 (u7.alloc (.cells #[.int .u64 0, .int .u64 0, .int .u64 1, .int .u64 0] 22)) := below_alloc _ _
          have hc : Chg (fun k => k = qa) (u7.alloc (.cells #[.int .u64 0, .int .u64 0, .int .u64 1, .int .u64 0] 22)) u8 := by rw [hu8]; exact Chg.setCell _ _ _ _
          replace Hm := Lib.hid ((Hm.out.below hb).chg hc HNma.out)
          replace Ha : Hid (MsgAt u8 qa (((N.set 2 0).set 5 1).set 11 0)) := Lib.hid (by rw [hu8]; exact (Ha.out.below hb).set (by decide) (by decide) 0)
          have HB1 : Below w.heap.size w (u7.alloc (.cells #[.int .u64 0, .int .u64 0, .int .u64 1, .int .u64 0] 22)) := HBB.out.trans (hb.mono HBB.out.size)
          replace HBB := Lib.hid (Chg.out HB1 hc HQa.out HB1.size)
          rw [← hu8]
          clear HB1 hb hc hu8 c0 f0 v
          obtain ⟨v, c0, f0⟩ := (show MsgAt (u8.alloc (.cells #[.int .u64 0, .int .u64 0, .int .u64 0, .int .u64 1] 22)) qa (((N.set 2 0).set 5 1).set 11 0) from Ha.out.below (below_alloc _ _)).any (j := 12) (by omega)
          go_wp2_with fail
          obtain ⟨u9, hu9⟩ : ∃ wx, wx = (u8.alloc (.cells #[.int .u64 0, .int .u64 0, .int .u64 0, .int .u64 1] 22)).setCell ⟨qa, 12, none⟩ (.int .u64 0) := ⟨_, rfl⟩
          have hb : Below u8.heap.size u8 (u8.alloc (.cells #[.int .u64 0, .int .u64 0, .int .u64 0, .int .u64 1] 22)) := below_alloc _ _
          have hc : Chg (fun k => k = qa) (u8.alloc (.cells #[.int .u64 0, .int .u64 0, .int .u64 0, .int .u64 1] 22)) u9 := by rw [hu9]; exact Chg.setCell _ _ _ _
          replace Hm := Lib.hid ((Hm.out.below hb).chg hc HNma.out)
          replace Ha : Hid (MsgAt u9 qa ((((N.set 2 0).set 5 1).set 11 0).set 12 0)) := Lib.hid (by rw [hu9]; exact (Ha.out.below hb).set (by decide) (by decide) 0)
          have HB1 : Below w.heap.size w (u8.alloc (.cells #[.int .u64 0, .int .u64 0, .int .u64 0, .int .u64 1] 22)) := HBB.out.trans (hb.mono HBB.out.size)
          replace HBB := Lib.hid (Chg.out HB1 hc HQa.out HB1.size)
          rw [← hu9]
          clear HB1 hb hc hu9 c0 f0 v
          go_meet
          exact ⟨_, Hm, Ha, Lib.hid (bad1 HK.out 0 1 0 0 (by decide)), Lib.hid ((((HN.out.set (j := 2) (x := 0) (by decide)).set (j := 5) (x := 1) (by decide)).set (j := 11) (x := 0) (by decide)).set (j := 12) (x := 0) (by decide)), HBB⟩
        · skip
          obtain ⟨v, c0, f0⟩ := (show MsgAt (u5.alloc (.cells #[.int .u64 1, .int .u64 0, .int .u64 0, .int .u64 0] 22)) qa N from Ha.out.below (below_alloc _ _)).any (j := 2) (by omega)
          go_upto_region 12 with fail
          obtain ⟨u6, hu6⟩ : ∃ wx, wx = (u5.alloc (.cells #[.int .u64 1, .int .u64 0, .int .u64 0, .int .u64 0] 22)).setCell ⟨qa, 2, none⟩ (.int .u64 0) := ⟨_, rfl⟩
          have hb : Below u5.heap.size u5 (u5.alloc (.cells #[.int .u64 1, .int .u64 0, .int .u64 0, .int .u64 0] 22)) := below_alloc _ _
          have hc : Chg (fun k => k = qa) (u5.alloc (.cells #[.int .u64 1, .int .u64 0, .int .u64 0, .int .u64 0] 22)) u6 := by rw [hu6]; exact Chg.setCell _ _ _ _
          replace Hm := Lib.hid ((Hm.out.below hb).chg hc HNma.out)
          replace Ha : Hid (MsgAt u6 qa (N.set 2 0)) := Lib.hid (by rw [hu6]; exact (Ha.out.below hb).set (by decide) (by decide) 0)
          have HB1 : Below w.heap.size w (u5.alloc (.cells #[.int .u64 1, .int .u64 0, .int .u64 0, .int .u64 0] 22)) := HBB.out.trans (hb.mono HBB.out.size)
          replace HBB := Lib.hid (Chg.out HB1 hc HQa.out HB1.size)
          rw [← hu6]
          clear HB1 hb hc hu6 c0 f0 v
          obtain ⟨v, c0, f0⟩ := (show MsgAt (u6.alloc (.cells #[.int .i64 0, .int .i64 1, .int .i64 0, .int .i64 0] 3)) qa (N.set 2 0) from Ha.out.below (below_alloc _ _)).any (j := 5) (by omega)
          go_upto_region 13 with fail
          obtain ⟨u7, hu7⟩ : ∃ wx, wx = (u6.alloc (.cells #[.int .i64 0, .int .i64 1, .int .i64 0, .int .i64 0] 3)).setCell ⟨qa, 5, none⟩ (.int .i64 0) := ⟨_, rfl⟩
          have hb : Below u6.heap.size u6 (u6.alloc (.cells #[.int .i64 0, .int .i64 1, .int .i64 0, .int .i64 0] 3)) := below_alloc _ _
          have hc : Chg (fun k => k = qa) (u6.alloc (.cells #[.int .i64 0, .int .i64 1, .int .i64 0, .int .i64 0] 3)) u7 := by rw [hu7]; exact Chg.setCell _ _ _ _
          replace Hm := Lib.hid ((Hm.out.below hb).chg hc HNma.out)
          replace Ha : Hid (MsgAt u7 qa ((N.set 2 0).set 5 0)) := Lib.hid (by rw [hu7]; exact (Ha.out.below hb).set (by decide) (by decide) 0)
          have HB1 : Below w.heap.size w (u6.alloc (.cells #[.int .i64 0, .int .i64 1, .int .i64 0, .int .i64 0] 3)) := HBB.out.trans (hb.mono HBB.out.size)
          replace HBB := Lib.hid (Chg.out HB1 hc HQa.out HB1.size)
          rw [← hu7]
          clear HB1 hb hc hu7 c0 f0 v
          obtain ⟨v, c0, f0⟩ := (show MsgAt (u7.alloc (.cells #[.int .u64 0, .int .u64 0, .int .u64 1, .int .u64 0] 22)) qa ((N.set 2 0).set 5 0) from Ha.out.below (below_alloc _ _)).any (j := 11) (by omega)
          go_upto_region 14 with fail
          obtain ⟨u8, hu8⟩ : ∃ wx, wx = (u7.alloc (.cells #[.int .u64 0, .int .u64 0, .int .u64 1, .int .u64 0] 22)).setCell ⟨qa, 11, none⟩ (.int .u64 1) := ⟨_, rfl⟩
          have hb : Below u7.heap.size u7 (u7.alloc (.cells #[.int .u64 0, .int .u64 0, .int .u64 1, .int .u64 0] 22)) := below_alloc _ _
          have hc : Chg (fun k => k = qa) (u7.alloc (.cells #[.int .u64 0, .int .u64 0, .int .u64 1, .int .u64 0] 22)) u8 := by rw [hu8]; exact Chg.setCell _ _ _ _
          replace Hm := Lib.hid ((Hm.out.below hb).chg hc HNma.out)
          replace Ha : Hid (MsgAt u8 qa (((N.set 2 0).set 5 0).set 11 1)) := Lib.hid (by rw [hu8]; exact (Ha.out.below hb).set (by decide) (by decide) 1)
          have HB1 : Below w.heap.size w (u7.alloc (.cells #[.int .u64 0, .int .u64 0, .int .u64 1, .int .u64 0] 22)) := HBB.out.trans (hb.mono HBB.out.size)
          replace HBB := Lib.hid (Chg.out HB1 hc HQa.out HB1.size)
          rw [← hu8]
          clear HB1 hb hc hu8 c0 f0 v
          obtain ⟨v, c0, f0⟩ := (show MsgAt (u8.alloc (.cells #[.int .u64 0, .int .u64 0, .int .u64 0, .int .u64 1] 22)) qa (((N.set 2 0).set 5 0).set 11 1) from Ha.out.below (below_alloc _ _)).any (j := 12) (by omega)
          go_wp2_with fail
          obtain ⟨u9, hu9⟩ : ∃ wx, wx = (u8.alloc (.cells #[.int .u64 0, .int .u64 0, .int .u64 0, .int .u64 1] 22)).setCell ⟨qa, 12, none⟩ (.int .u64 0) := ⟨_, rfl⟩
          have hb : Below u8.heap.size u8 (u8.alloc (.cells #[.int .u64 0, .int .u64 0, .int .u64 0, .int .u64 1] 22)) := below_alloc _ _
          have hc : Chg (fun k => k = qa) (u8.alloc (.cells #[.int .u64 0, .int .u64 0, .int .u64 0, .int .u64 1] 22)) u9 := by rw [hu9]; exact Chg.setCell _ _ _ _
          replace Hm := Lib.hid ((Hm.out.below hb).chg hc HNma.out)
          replace Ha : Hid (MsgAt u9 qa ((((N.set 2 0).set 5 0).set 11 1).set 12 0)) := Lib.hid (by rw [hu9]; exact (Ha.out.below hb).set (by decide) (by decide) 0)
          have HB1 : Below w.heap.size w (u8.alloc (.cells #[.int .u64 0, .int .u64 0, .int .u64 0, .int .u64 1] 22)) := HBB.out.trans (hb.mono HBB.out.size)
          replace HBB := Lib.hid (Chg.out HB1 hc HQa.out HB1.size)
          rw [← hu9]
          clear HB1 hb hc hu9 c0 f0 v
          go_meet
          exact ⟨_, Hm, Ha, Lib.hid (bad1 HK.out 0 0 1 0 (by decide)), Lib.hid ((((HN.out.set (j := 2) (x := 0) (by decide)).set (j := 5) (x := 0) (by decide)).set (j := 11) (x := 1) (by decide)).set (j := 12) (x := 0) (by decide)), HBB⟩
        · skip
          obtain ⟨v, c0, f0⟩ := (show MsgAt (u5.alloc (.cells #[.int .u64 1, .int .u64 0, .int .u64 0, .int .u64 0] 22)) qa N from Ha.out.below (below_alloc _ _)).any (j := 2) (by omega)
          go_upto_region 12 with fail
          obtain ⟨u6, hu6⟩ : ∃ wx, wx = (u5.alloc (.cells #[.int .u64 1, .int .u64 0, .int .u64 0, .int .u64 0] 22)).setCell ⟨qa, 2, none⟩ (.int .u64 0) := ⟨_, rfl⟩
          have hb : Below u5.heap.size u5 (u5.alloc (.cells #[.int .u64 1, .int .u64 0, .int .u64 0, .int .u64 0] 22)) := below_alloc _ _
          have hc : Chg (fun k => k = qa) (u5.alloc (.cells #[.int .u64 1, .int .u64 0, .int .u64 0, .int .u64 0] 22)) u6 := by rw [hu6]; exact Chg.setCell _ _ _ _
          replace Hm := Lib.hid ((Hm.out.below hb).chg hc HNma.out)
          replace Ha : Hid (MsgAt u6 qa (N.set 2 0)) := Lib.hid (by rw [hu6]; exact (Ha.out.below hb).set (by decide) (by decide) 0)
          have HB1 : Below w.heap.size w (u5.alloc (.cells #[.int .u64 1, .int .u64 0, .int .u64 0, .int .u64 0] 22)) := HBB.out.trans (hb.mono HBB.out.size)
          replace HBB := Lib.hid (Chg.out HB1 hc HQa.out HB1.size)
          rw [← hu6]
          clear HB1 hb hc hu6 c0 f0 v
          obtain ⟨v, c0, f0⟩ := (show MsgAt (u6.alloc (.cells #[.int .i64 0, .int .i64 1, .int .i64 0, .int .i64 0] 3)) qa (N.set 2 0) from Ha.out.below (below_alloc _ _)).any (j := 5) (by omega)
          go_upto_region 13 with fail
          obtain ⟨u7, hu7⟩ : ∃ wx, wx = (u6.alloc (.cells #[.int .i64 0, .int .i64 1, .int .i64 0, .int .i64 0] 3)).setCell ⟨qa, 5, none⟩ (.int .i64 0) := ⟨_, rfl⟩
          have hb : Below u6.heap.size u6 (u6.alloc (.cells #[.int .i64 0, .int .i64 1, .int .i64 0, .int .i64 0] 3)) := below_alloc _ _
          have hc : Chg (fun k => k = qa) (u6.alloc (.cells #[.int .i64 0, .int .i64 1, .int .i64 0, .int .i64 0] 3)) u7 := by rw [hu7]; exact Chg.setCell _ _ _ _
          replace Hm := Lib.hid ((Hm.out.below hb).chg hc HNma.out)
          replace Ha : Hid (MsgAt u7 qa ((N.set 2 0).set 5 0)) := Lib.hid (by rw [hu7]; exact (Ha.out.below hb).set (by decide) (by decide) 0)
          have HB1 : Below w.heap.size w (u6.alloc (.cells #[.int .i64 0, .int .i64 1, .int .i64 0, .int .i64 0] 3)) := HBB.out.trans (hb.mono HBB.out.size)
          replace HBB := Lib.hid (Chg.out HB1 hc HQa.out HB1.size)
          rw [← hu7]
          clear HB1 hb hc hu7 c0 f0 v
          obtain ⟨v, c0, f0⟩ := (show MsgAt (u7.alloc (.cells #[.int .u64 0, .int .u64 0, .int .u64 1, .int .u64 0] 22)) qa ((N.set 2 0).set 5 0) from Ha.out.below (below_alloc _ _)).any (j := 11) (by omega)
          go_upto_region 14 with fail
          obtain ⟨u8, hu8⟩ : ∃ wx, wx = (u7.alloc (.cells #[.int .u64 0, .int .u64 0, .int .u64 1, .int .u64 0] 22)).setCell ⟨qa, 11, none⟩ (.int .u64 0) := ⟨_, rfl⟩
          have hb : Below u7.heap.size u7 (u7.alloc (.cells #[.int .u64 0, .int .u64 0, .int .u64 1, .int .u64 0] 22)) := below_alloc _ _
          have hc : Chg (fun k => k = qa) (u7.alloc (.cells #[.int .u64 0, .int .u64 0, .int .u64 1, .int .u64 0] 22)) u8 := by rw [hu8]; exact Chg.setCell _ _ _ _
          replace Hm := Lib.hid ((Hm.out.below hb).chg hc HNma.out)
          replace Ha : Hid (MsgAt u8 qa (((N.set 2 0).set 5 0).set 11 0)) := Lib.hid (by rw [hu8]; exact (Ha.out.below hb).set (by decide) (by decide) 0)
          have HB1 : Below w.heap.size w (u7.alloc (.cells #[.int .u64 0, .int .u64 0, .int .u64 1, .int .u64 0] 22)) := HBB.out.trans (hb.mono HBB.out.size)
          replace HBB := Lib.hid (Chg.out HB1 hc HQa.out HB1.size)
          rw [← hu8]
          clear HB1 hb hc hu8 c0 f0 v
          obtain ⟨v, c0, f0⟩ := (show MsgAt (u8.alloc (.cells #[.int .u64 0, .int .u64 0, .int .u64 0, .int .u64 1] 22)) qa (((N.set 2 0).set 5 0).set 11 0) from Ha.out.below (below_alloc _ _)).any (j := 12) (by omega)
          go_wp2_with fail
          obtain ⟨u9, hu9⟩ : ∃ wx, wx = (u8.alloc (.cells #[.int .u64 0, .int .u64 0, .int .u64 0, .int .u64 1] 22)).setCell ⟨qa, 12, none⟩ (.int .u64 1) := ⟨_, rfl⟩
          have hb : Below u8.heap.size u8 (u8.alloc (.cells #[.int .u64 0, .int .u64 0, .int .u64 0, .int .u64 1] 22)) := below_alloc _ _
          have hc : Chg (fun k => k = qa) (u8.alloc (.cells #[.int .u64 0, .int .u64 0, .int .u64 0, .int .u64 1] 22)) u9 := by rw [hu9]; exact Chg.setCell _ _ _ _
          replace Hm := Lib.hid ((Hm.out.below hb).chg hc HNma.out)
          replace Ha : Hid (MsgAt u9 qa ((((N.set 2 0).set 5 0).set 11 0).set 12 1)) := Lib.hid (by rw [hu9]; exact (Ha.out.below hb).set (by decide) (by decide) 1)
          have HB1 : Below w.heap.size w (u8.alloc (.cells #[.int .u64 0, .int .u64 0, .int .u64 0, .int .u64 1] 22)) := HBB.out.trans (hb.mono HBB.out.size)
          replace HBB := Lib.hid (Chg.out HB1 hc HQa.out HB1.size)
          rw [← hu9]
          clear HB1 hb hc hu9 c0 f0 v
          go_meet
          exact ⟨_, Hm, Ha, Lib.hid (bad1 HK.out 0 0 0 1 (by decide)), Lib.hid ((((HN.out.set (j := 2) (x := 0) (by decide)).set (j := 5) (x := 0) (by decide)).set (j := 11) (x := 0) (by decide)).set (j := 12) (x := 1) (by decide)), HBB⟩
      · skip
        have HK := Lib.hid hk
        have e1 : (N.i 0 == 1) = false := by rw [hk]; rfl
        have e2 : (N.i 0 == 2) = true := by rw [hk]; rfl
        have e3 : (N.i 0 == 3) = false := by rw [hk]; rfl
        clear hk
        have hr4 : (f : Int) % 4 = 0 ∨ (f : Int) % 4 = 1 ∨ (f : Int) % 4 = 2 ∨ (f : Int) % 4 = 3 := by omega
        rcases hr4 with h4 | h4 | h4 | h4
        · skip
          obtain ⟨v, c0, f0⟩ := (show MsgAt (u5.alloc (.cells #[.string ⟨#[1]⟩, .string ⟨#[]⟩, .string ⟨#[]⟩, .string ⟨#[]⟩] 9)) qa N from Ha.out.below (below_alloc _ _)).any (j := 3) (by omega)
          go_upto_region 17 with fail
          obtain ⟨u6, hu6⟩ : ∃ wx, wx = (u5.alloc (.cells #[.string ⟨#[1]⟩, .string ⟨#[]⟩, .string ⟨#[]⟩, .string ⟨#[]⟩] 9)).setCell ⟨qa, 3, none⟩ (.string ⟨#[1]⟩) := ⟨_, rfl⟩
          have hb : Below u5.heap.size u5 (u5.alloc (.cells #[.string ⟨#[1]⟩, .string ⟨#[]⟩, .string ⟨#[]⟩, .string ⟨#[]⟩] 9)) := below_alloc _ _
          have hc : Chg (fun k => k = qa) (u5.alloc (.cells #[.string ⟨#[1]⟩, .string ⟨#[]⟩, .string ⟨#[]⟩, .string ⟨#[]⟩] 9)) u6 := by rw [hu6]; exact Chg.setCell _ _ _ _
          replace Hm := Lib.hid ((Hm.out.below hb).chg hc HNma.out)
          replace Ha : Hid (MsgAt u6 qa (N.setS ⟨#[1]⟩)) := Lib.hid (by rw [hu6]; exact (Ha.out.below hb).setS ⟨#[1]⟩)
          have HB1 : Below w.heap.size w (u5.alloc (.cells #[.string ⟨#[1]⟩, .string ⟨#[]⟩, .string ⟨#[]⟩, .string ⟨#[]⟩] 9)) := HBB.out.trans (hb.mono HBB.out.size)
          replace HBB := Lib.hid (Chg.out HB1 hc HQa.out HB1.size)
          rw [← hu6]
          clear HB1 hb hc hu6 c0 f0 v
          obtain ⟨v, c0, f0⟩ := (show MsgAt (u6.alloc (.cells #[.int .i64 0, .int .i64 1, .int .i64 0, .int .i64 0] 3)) qa (N.setS ⟨#[1]⟩) from Ha.out.below (below_alloc _ _)).any (j := 4) (by omega)
          go_upto_region 18 with fail
          obtain ⟨u7, hu7⟩ : ∃ wx, wx = (u6.alloc (.cells #[.int .i64 0, .int .i64 1, .int .i64 0, .int .i64 0] 3)).setCell ⟨qa, 4, none⟩ (.int .i64 0) := ⟨_, rfl⟩
          have hb : Below u6.heap.size u6 (u6.alloc (.cells #[.int .i64 0, .int .i64 1, .int .i64 0, .int .i64 0] 3)) := below_alloc _ _
          have hc : Chg (fun k => k = qa) (u6.alloc (.cells #[.int .i64 0, .int .i64 1, .int .i64 0, .int .i64 0] 3)) u7 := by rw [hu7]; exact Chg.setCell _ _ _ _
          replace Hm := Lib.hid ((Hm.out.below hb).chg hc HNma.out)
          replace Ha : Hid (MsgAt u7 qa ((N.setS ⟨#[1]⟩).set 4 0)) := Lib.hid (by rw [hu7]; exact (Ha.out.below hb).set (by decide) (by decide) 0)
          have HB1 : Below w.heap.size w (u6.alloc (.cells #[.int .i64 0, .int .i64 1, .int .i64 0, .int .i64 0] 3)) := HBB.out.trans (hb.mono HBB.out.size)
          replace HBB := Lib.hid (Chg.out HB1 hc HQa.out HB1.size)
          rw [← hu7]
          clear HB1 hb hc hu7 c0 f0 v
          obtain ⟨v, c0, f0⟩ := (show MsgAt (u7.alloc (.cells #[.int .i64 0, .int .i64 0, .int .i64 1, .int .i64 0] 3)) qa ((N.setS ⟨#[1]⟩).set 4 0) from Ha.out.below (below_alloc _ _)).any (j := 7) (by omega)
          go_upto_region 19 with fail
          obtain ⟨u8, hu8⟩ : ∃ wx, wx = (u7.alloc (.cells #[.int .i64 0, .int .i64 0, .int .i64 1, .int .i64 0] 3)).setCell ⟨qa, 7, none⟩ (.int .i64 0) := ⟨_, rfl⟩
          have hb : Below u7.heap.size u7 (u7.alloc (.cells #[.int .i64 0, .int .i64 0, .int .i64 1, .int .i64 0] 3)) := below_alloc _ _
          have hc : Chg (fun k => k = qa) (u7.alloc (.cells #[.int .i64 0, .int .i64 0, .int .i64 1, .int .i64 0] 3)) u8 := by rw [hu8]; exact Chg.setCell _ _ _ _
          replace Hm := Lib.hid ((Hm.out.below hb).chg hc HNma.out)
          replace Ha : Hid (MsgAt u8 qa (((N.setS ⟨#[1]⟩).set 4 0).set 7 0)) := Lib.hid (by rw [hu8]; exact (Ha.out.below hb).set (by decide) (by decide) 0)
          have HB1 : Below w.heap.size w (u7.alloc (.cells #[.int .i64 0, .int .i64 0, .int .i64 1, .int .i64 0] 3)) := HBB.out.trans (hb.mono HBB.out.size)
          replace HBB := Lib.hid (Chg.out HB1 hc HQa.out HB1.size)
          rw [← hu8]
          clear HB1 hb hc hu8 c0 f0 v
          obtain ⟨v, c0, f0⟩ := (show MsgAt (u8.alloc (.cells #[.int .i64 0, .int .i64 0, .int .i64 0, .int .i64 1] 3)) qa (((N.setS ⟨#[1]⟩).set 4 0).set 7 0) from Ha.out.below (below_alloc _ _)).any (j := 10) (by omega)
          go_wp2_with fail
          obtain ⟨u9, hu9⟩ : ∃ wx, wx = (u8.alloc (.cells #[.int .i64 0, .int .i64 0, .int .i64 0, .int .i64 1] 3)).setCell ⟨qa, 10, none⟩ (.int .i64 0) := ⟨_, rfl⟩
          have hb : Below u8.heap.size u8 (u8.alloc (.cells #[.int .i64 0, .int .i64 0, .int .i64 0, .int .i64 1] 3)) := below_alloc _ _
          have hc : Chg (fun k => k = qa) (u8.alloc (.cells #[.int .i64 0, .int .i64 0, .int .i64 0, .int .i64 1] 3)) u9 := by rw [hu9]; exact Chg.setCell _ _ _ _
          replace Hm := Lib.hid ((Hm.out.below hb).chg hc HNma.out)
          replace Ha : Hid (MsgAt u9 qa ((((N.setS ⟨#[1]⟩).set 4 0).set 7 0).set 10 0)) := Lib.hid (by rw [hu9]; exact (Ha.out.below hb).set (by decide) (by decide) 0)
          have HB1 : Below w.heap.size w (u8.alloc (.cells #[.int .i64 0, .int .i64 0, .int .i64 0, .int .i64 1] 3)) := HBB.out.trans (hb.mono HBB.out.size)
          replace HBB := Lib.hid (Chg.out HB1 hc HQa.out HB1.size)
          rw [← hu9]
          clear HB1 hb hc hu9 c0 f0 v
          go_meet
          exact ⟨_, Hm, Ha, Lib.hid (bad2 HK.out ⟨#[1]⟩ 0 0 0 (by decide)), Lib.hid ((((HN.out.setS (t := ⟨#[1]⟩) (Nat.le_trans (by decide : _ ≤ 1) (by unfold maxLen; decide))).set (j := 4) (x := 0) (by decide)).set (j := 7) (x := 0) (by decide)).set (j := 10) (x := 0) (by decide)), HBB⟩
        · skip
          obtain ⟨v, c0, f0⟩ := (show MsgAt (u5.alloc (.cells #[.string ⟨#[1]⟩, .string ⟨#[]⟩, .string ⟨#[]⟩, .string ⟨#[]⟩] 9)) qa N from Ha.out.below (below_alloc _ _)).any (j := 3) (by omega)
          go_upto_region 17 with fail
          obtain ⟨u6, hu6⟩ : ∃ wx, wx = (u5.alloc (.cells #[.string ⟨#[1]⟩, .string ⟨#[]⟩, .string ⟨#[]⟩, .string ⟨#[]⟩] 9)).setCell ⟨qa, 3, none⟩ (.string ⟨#[]⟩) := ⟨_, rfl⟩
          have hb : Below u5.heap.size u5 (u5.alloc (.cells #[.string ⟨#[1]⟩, .string ⟨#[]⟩, .string ⟨#[]⟩, .string ⟨#[]⟩] 9)) := below_alloc _ _
          have hc : Chg (fun k => k = qa) (u5.alloc (.cells #[.string ⟨#[1]⟩, .string ⟨#[]⟩, .string ⟨#[]⟩, .string ⟨#[]⟩] 9)) u6 := by rw [hu6]; exact Chg.setCell _ _ _ _
          replace Hm := Lib.hid ((Hm.out.below hb).chg hc HNma.out)
          replace Ha : Hid (MsgAt u6 qa (N.setS ⟨#[]⟩)) := Lib.hid (by rw [hu6]; exact (Ha.out.below hb).setS ⟨#[]⟩)
          have HB1 : Below w.heap.size w (u5.alloc (.cells #[.string ⟨#[1]⟩, .string ⟨#[]⟩, .string ⟨#[]⟩, .string ⟨#[]⟩] 9)) := HBB.out.trans (hb.mono HBB.out.size)
          replace HBB := Lib.hid (Chg.out HB1 hc HQa.out HB1.size)
          rw [← hu6]
          clear HB1 hb hc hu6 c0 f0 v
          obtain ⟨v, c0, f0⟩ := (show MsgAt (u6.alloc (.cells #[.int .i64 0, .int .i64 1, .int .i64 0, .int .i64 0] 3)) qa (N.setS ⟨#[]⟩) from Ha.out.below (below_alloc _ _)).any (j := 4) (by omega)
          go_upto_region 18 with fail
          obtain ⟨u7, hu7⟩ : ∃ wx, wx = (u6.alloc (.cells #[.int .i64 0, .int .i64 1, .int .i64 0, .int .i64 0] 3)).setCell ⟨qa, 4, none⟩ (.int .i64 1) := ⟨_, rfl⟩
          have hb : Below u6.heap.size u6 (u6.alloc (.cells #[.int .i64 0, .int .i64 1, .int .i64 0, .int .i64 0] 3)) := below_alloc _ _
          have hc : Chg (fun k => k = qa) (u6.alloc (.cells #[.int .i64 0, .int .i64 1, .int .i64 0, .int .i64 0] 3)) u7 := by rw [hu7]; exact Chg.setCell _ _ _ _
          replace Hm := Lib.hid ((Hm.out.below hb).chg hc HNma.out)
          replace Ha : Hid (MsgAt u7 qa ((N.setS ⟨#[]⟩).set 4 1)) := Lib.hid (by rw [hu7]; exact (Ha.out.below hb).set (by decide) (by decide) 1)
          have HB1 : Below w.heap.size w (u6.alloc (.cells #[.int .i64 0, .int .i64 1, .int .i64 0, .int .i64 0] 3)) := HBB.out.trans (hb.mono HBB.out.size)
          replace HBB := Lib.hid (Chg.out HB1 hc HQa.out HB1.size)
          rw [← hu7]
          clear HB1 hb hc hu7 c0 f0 v
          obtain ⟨v, c0, f0⟩ := (show MsgAt (u7.alloc (.cells #[.int .i64 0, .int .i64 0, .int .i64 1, .int .i64 0] 3)) qa ((N.setS ⟨#[]⟩).set 4 1) from Ha.out.below (below_alloc _ _)).any (j := 7) (by omega)
          go_upto_region 19 with fail
          obtain ⟨u8, hu8⟩ : ∃ wx, wx = (u7.alloc (.cells #[.int .i64 0, .int .i64 0, .int .i64 1, .int .i64 0] 3)).setCell ⟨qa, 7, none⟩ (.int .i64 0) := ⟨_, rfl⟩
          have hb : Below u7.heap.size u7 (u7.alloc (.cells #[.int .i64 0, .int .i64 0, .int .i64 1, .int .i64 0] 3)) := below_alloc _ _
          have hc : Chg (fun k => k = qa) (u7.alloc (.cells #[.int .i64 0, .int .i64 0, .int .i64 1, .int .i64 0] 3)) u8 := by rw [hu8]; exact Chg.setCell _ _ _ _
          replace Hm := Lib.hid ((Hm.out.below hb).chg hc HNma.out)
          replace Ha : Hid (MsgAt u8 qa (((N.setS ⟨#[]⟩).set 4 1).set 7 0)) := Lib.hid (by rw [hu8]; exact (Ha.out.below hb).set (by decide) (by decide) 0)
          have HB1 : Below w.heap.size w (u7.alloc (.cells #[.int .i64 0, .int .i64 0, .int .i64 1, .int .i64 0] 3)) := HBB.out.trans (hb.mono HBB.out.size)
          replace HBB := Lib.hid (Chg.out HB1 hc HQa.out HB1.size)
          rw [← hu8]
          clear HB1 hb hc hu8 c0 f0 v
          obtain ⟨v, c0, f0⟩ := (show MsgAt (u8.alloc (.cells #[.int .i64 0, .int .i64 0, .int .i64 0, .int .i64 1] 3)) qa (((N.setS ⟨#[]⟩).set 4 1).set 7 0) from Ha.out.below (below_alloc _ _)).any (j := 10) (by omega)
          go_wp2_with fail
          obtain ⟨u9, hu9⟩ : ∃ wx, wx = (u8.alloc (.cells #[.int .i64 0, .int .i64 0, .int .i64 0, .int .i64 1] 3)).setCell ⟨qa, 10, none⟩ (.int .i64 0) := ⟨_, rfl⟩
          have hb : Below u8.heap.size u8 (u8.alloc (.cells #[.int .i64 0, .int .i64 0, .int .i64 0, .int .i64 1] 3)) := below_alloc _ _
          have hc : Chg (fun k => k = qa) (u8.alloc (.cells #[.int .i64 0, .int .i64 0, .int .i64 0, .int .i64 1] 3)) u9 := by rw [hu9]; exact Chg.setCell _ _ _ _
          replace Hm := Lib.hid ((Hm.out.below hb).chg hc HNma.out)
          replace Ha : Hid (MsgAt u9 qa ((((N.setS ⟨#[]⟩).set 4 1).set 7 0).set 10 0)) := Lib.hid (by rw [hu9]; exact (Ha.out.below hb).set (by decide) (by decide) 0)
          have HB1 : Below w.heap.size w (u8.alloc (.cells #[.int .i64 0, .int .i64 0, .int .i64 0, .int .i64 1] 3)) := HBB.out.trans (hb.mono HBB.out.size)
          replace HBB := Lib.hid (Chg.out HB1 hc HQa.out HB1.size)
          rw [← hu9]
          clear HB1 hb hc hu9 c0 f0 v
          go_meet
          exact ⟨_, Hm, Ha, Lib.hid (bad2 HK.out ⟨#[]⟩ 1 0 0 (by decide)), Lib.hid ((((HN.out.setS (t := ⟨#[]⟩) (Nat.le_trans (by decide : _ ≤ 1) (by unfold maxLen; decide))).set (j := 4) (x := 1) (by decide)).set (j := 7) (x := 0) (by decide)).set (j := 10) (x := 0) (by decide)), HBB⟩
        · skip
          obtain ⟨v, c0, f0⟩ := (show MsgAt (u5.alloc (.cells #[.string ⟨#[1]⟩, .string ⟨#[]⟩, .string ⟨#[]⟩, .string ⟨#[]⟩] 9)) qa N from Ha.out.below (below_alloc _ _)).any (j := 3) (by omega)
          go_upto_region 17 with fail
          obtain ⟨u6, hu6⟩ : ∃ wx, wx = (u5.alloc (.cells #[.string ⟨#[1]⟩, .string ⟨#[]⟩, .string ⟨#[]⟩, .string ⟨#[]⟩] 9)).setCell ⟨qa, 3, none⟩ (.string ⟨#[]⟩) := ⟨_, rfl⟩
          have hb : Below u5.heap.size u5 (u5.alloc (.cells #[.string ⟨#[1]⟩, .string ⟨#[]⟩, .string ⟨#[]⟩, .string ⟨#[]⟩] 9)) := below_alloc _ _
          have hc : Chg (fun k => k = qa) (u5.alloc (.cells #[.string ⟨#[1]⟩, .string ⟨#[]⟩, .string ⟨#[]⟩, .string ⟨#[]⟩] 9)) u6 := by rw [hu6]; exact Chg.setCell _ _ _ _
          replace Hm := Lib.hid ((Hm.out.below hb).chg hc HNma.out)
          replace Ha : Hid (MsgAt u6 qa (N.setS ⟨#[]⟩)) := Lib.hid (by rw [hu6]; exact (Ha.out.below hb).setS ⟨#[]⟩)
          have HB1 : Below w.heap.size w (u5.alloc (.cells #[.string ⟨#[1]⟩, .string ⟨#[]⟩, .string ⟨#[]⟩, .string ⟨#[]⟩] 9)) := HBB.out.trans (hb.mono HBB.out.size)
          replace HBB := Lib.hid (Chg.out HB1 hc HQa.out HB1.size)
          rw [← hu6]
          clear HB1 hb hc hu6 c0 f0 v
          obtain ⟨v, c0, f0⟩ := (show MsgAt (u6.alloc (.cells #[.int .i64 0, .int .i64 1, .int .i64 0, .int .i64 0] 3)) qa (N.setS ⟨#[]⟩) from Ha.out.below (below_alloc _ _)).any (j := 4) (by omega)
          go_upto_region 18 with fail
          obtain ⟨u7, hu7⟩ : ∃ wx, wx = (u6.alloc (.cells #[.int .i64 0, .int .i64 1, .int .i64 0, .int .i64 0] 3)).setCell ⟨qa, 4, none⟩ (.int .i64 0) := ⟨_, rfl⟩
          have hb : Below u6.heap.size u6 (u6.alloc (.cells #[.int .i64 0, .int .i64 1, .int .i64 0, .int .i64 0] 3)) := below_alloc _ _
          have hc : Chg (fun k => k = qa) (u6.alloc (.cells #[.int .i64 0, .int .i64 1, .int .i64 0, .int .i64 0] 3)) u7 := by rw [hu7]; exact Chg.setCell _ _ _ _
          replace Hm := Lib.hid ((Hm.out.below hb).chg hc HNma.out)
          replace Ha : Hid (MsgAt u7 qa ((N.setS ⟨#[]⟩).set 4 0)) := Lib.hid (by rw [hu7]; exact (Ha.out.below hb).set (by decide) (by decide) 0)
          have HB1 : Below w.heap.size w (u6.alloc (.cells #[.int .i64 0, .int .i64 1, .int .i64 0, .int .i64 0] 3)) := HBB.out.trans (hb.mono HBB.out.size)
          replace HBB := Lib.hid (Chg.out HB1 hc HQa.out HB1.size)
          rw [← hu7]
          clear HB1 hb hc hu7 c0 f0 v
          obtain ⟨v, c0, f0⟩ := (show MsgAt (u7.alloc (.cells #[.int .i64 0, .int .i64 0, .int .i64 1, .int .i64 0] 3)) qa ((N.setS ⟨#[]⟩).set 4 0) from Ha.out.below (below_alloc _ _)).any (j := 7) (by omega)
          go_upto_region 19 with fail
          obtain ⟨u8, hu8⟩ : ∃ wx, wx = (u7.alloc (.cells #[.int .i64 0, .int .i64 0, .int .i64 1, .int .i64 0] 3)).setCell ⟨qa, 7, none⟩ (.int .i64 1) := ⟨_, rfl⟩
          have hb : Below u7.heap.size u7 (u7.alloc (.cells #[.int .i64 0, .int .i64 0, .int .i64 1, .int .i64 0] 3)) := below_alloc _ _
          have hc : Chg (fun k => k = qa) (u7.alloc (.cells #[.int .i64 0, .int .i64 0, .int .i64 1, .int .i64 0] 3)) u8 := by rw [hu8]; exact Chg.setCell _ _ _ _
          replace Hm := Lib.hid ((Hm.out.below hb).chg hc HNma.out)
          replace Ha : Hid (MsgAt u8 qa (((N.setS ⟨#[]⟩).set 4 0).set 7 1)) := Lib.hid (by rw [hu8]; exact (Ha.out.below hb).set (by decide) (by decide) 1)
          have HB1 : Below w.heap.size w (u7.alloc (.cells #[.int .i64 0, .int .i64 0, .int .i64 1, .int .i64 0] 3)) := HBB.out.trans (hb.mono HBB.out.size)
          replace HBB := Lib.hid (Chg.out HB1 hc HQa.out HB1.size)
          rw [← hu8]
          clear HB1 hb hc hu8 c0 f0 v
          obtain ⟨v, c0, f0⟩ := (show MsgAt (u8.alloc (.cells #[.int .i64 0, .int .i64 0, .int .i64 0, .int .i64 1] 3)) qa (((N.setS ⟨#[]⟩).set 4 0).set 7 1) from Ha.out.below (below_alloc _ _)).any (j := 10) (by omega)
          go_wp2_with fail
          obtain ⟨u9, hu9⟩ : ∃ wx, wx = (u8.alloc (.cells #[.int .i64 0, .int .i64 0, .int .i64 0, .int .i64 1] 3)).setCell ⟨qa, 10, none⟩ (.int .i64 0) := ⟨_, rfl⟩
          have hb : Below u8.heap.size u8 (u8.alloc (.cells #[.int .i64 0, .int .i64 0, .int .i64 0, .int .i64 1] 3)) := below_alloc _ _
          have hc : Chg (fun k => k = qa) (u8.alloc (.cells #[.int .i64 0, .int .i64 0, .int .i64 0, .int .i64 1] 3)) u9 := by rw [hu9]; exact Chg.setCell _ _ _ _
          replace Hm := Lib.hid ((Hm.out.below hb).chg hc HNma.out)
          replace Ha : Hid (MsgAt u9 qa ((((N.setS ⟨#[]⟩).set 4 0).set 7 1).set 10 0)) := Lib.hid (by rw [hu9]; exact (Ha.out.below hb).set (by decide) (by decide) 0)
          have HB1 : Below w.heap.size w (u8.alloc (.cells #[.int .i64 0, .int .i64 0, .int .i64 0, .int .i64 1] 3)) := HBB.out.trans (hb.mono HBB.out.size)
          replace HBB := Lib.hid (Chg.out HB1 hc HQa.out HB1.size)
          rw [← hu9]
          clear HB1 hb hc hu9 c0 f0 v
          go_meet
          exact ⟨_, Hm, Ha, Lib.hid (bad2 HK.out ⟨#[]⟩ 0 1 0 (by decide)), Lib.hid ((((HN.out.setS (t := ⟨#[]⟩) (Nat.le_trans (by decide : _ ≤ 1) (by unfold maxLen; decide))).set (j := 4) (x := 0) (by decide)).set (j := 7) (x := 1) (by decide)).set (j := 10) (x := 0) (by decide)), HBB⟩
        · skip
          obtain ⟨v, c0, f0⟩ := (show MsgAt (u5.alloc (.cells #[.string ⟨#[1]⟩, .string ⟨#[]⟩, .string ⟨#[]⟩, .string ⟨#[]⟩] 9)) qa N from Ha.out.below (below_alloc _ _)).any (j := 3) (by omega)
          go_upto_region 17 with fail
          obtain ⟨u6, hu6⟩ : ∃ wx, wx = (u5.alloc (.cells #[.string ⟨#[1]⟩, .string ⟨#[]⟩, .string ⟨#[]⟩, .string ⟨#[]⟩] 9)).setCell ⟨qa, 3, none⟩ (.string ⟨#[]⟩) := ⟨_, rfl⟩
          have hb : Below u5.heap.size u5 (u5.alloc (.cells #[.string ⟨#[1]⟩, .string ⟨#[]⟩, .string ⟨#[]⟩, .string ⟨#[]⟩] 9)) := below_alloc _ _
          have hc : Chg (fun k => k = qa) (u5.alloc (.cells #[.string ⟨#[1]⟩, .string ⟨#[]⟩, .string ⟨#[]⟩, .string ⟨#[]⟩] 9)) u6 := by rw [hu6]; exact Chg.setCell _ _ _ _
          replace Hm := Lib.hid ((Hm.out.below hb).chg hc HNma.out)
          replace Ha : Hid (MsgAt u6 qa (N.setS ⟨#[]⟩)) := Lib.hid (by rw [hu6]; exact (Ha.out.below hb).setS ⟨#[]⟩)
          have HB1 : Below w.heap.size w (u5.alloc (.cells #[.string ⟨#[1]⟩, .string ⟨#[]⟩, .string ⟨#[]⟩, .string ⟨#[]⟩] 9)) := HBB.out.trans (hb.mono HBB.out.size)
          replace HBB := Lib.hid (Chg.out HB1 hc HQa.out HB1.size)
          rw [← hu6]
          clear HB1 hb hc hu6 c0 f0 v
          obtain ⟨v, c0, f0⟩ := (show MsgAt (u6.alloc (.cells #[.int .i64 0, .int .i64 1, .int .i64 0, .int .i64 0] 3)) qa (N.setS ⟨#[]⟩) from Ha.out.below (below_alloc _ _)).any (j := 4) (by omega)
          go_upto_region 18 with fail
          obtain ⟨u7, hu7⟩ : ∃ wx, wx = (u6.alloc (.cells #[.int .i64 0, .int .i64 1, .int .i64 0, .int .i64 0] 3)).setCell ⟨qa, 4, none⟩ (.int .i64 0) := ⟨_, rfl⟩
          have hb : Below u6.heap.size u6 (u6.alloc (.cells #[.int .i64 0, .int .i64 1, .int .i64 0, .int .i64 0] 3)) := below_alloc _ _
          have hc : Chg (fun k => k = qa) (u6.alloc (.cells #[.int .i64 0, .int .i64 1, .int .i64 0, .int .i64 0] 3)) u7 := by rw [hu7]; exact Chg.setCell _ _ _ _
          replace Hm := Lib.hid ((Hm.out.below hb).chg hc HNma.out)
          replace Ha : Hid (MsgAt u7 qa ((N.setS ⟨#[]⟩).set 4 0)) := Lib.hid (by rw [hu7]; exact (Ha.out.below hb).set (by decide) (by decide) 0)
          have HB1 : Below w.heap.size w (u6.alloc (.cells #[.int .i64 0, .int .i64 1, .int .i64 0, .int .i64 0] 3)) := HBB.out.trans (hb.mono HBB.out.size)
          replace HBB := Lib.hid (Chg.out HB1 hc HQa.out HB1.size)
          rw [← hu7]
          clear HB1 hb hc hu7 c0 f0 v
          obtain ⟨v, c0, f0⟩ := (show MsgAt (u7.alloc (.cells #[.int .i64 0, .int .i64 0, .int .i64 1, .int .i64 0] 3)) qa ((N.setS ⟨#[]⟩).set 4 0) from Ha.out.below (below_alloc _ _)).any (j := 7) (by omega)
          go_upto_region 19 with fail
          obtain ⟨u8, hu8⟩ : ∃ wx, wx = (u7.alloc (.cells #[.int .i64 0, .int .i64 0, .int .i64 1, .int .i64 0] 3)).setCell ⟨qa, 7, none⟩ (.int .i64 0) := ⟨_, rfl⟩
          have hb : Below u7.heap.size u7 (u7.alloc (.cells #[.int .i64 0, .int .i64 0, .int .i64 1, .int .i64 0] 3)) := below_alloc _ _
          have hc : Chg (fun k => k = qa) (u7.alloc (.cells #[.int .i64 0, .int .i64 0, .int .i64 1, .int .i64 0] 3)) u8 := by rw [hu8]; exact Chg.setCell _ _ _ _
          replace Hm := Lib.hid ((Hm.out.below hb).chg hc HNma.out)
          replace Ha : Hid (MsgAt u8 qa (((N.setS ⟨#[]⟩).set 4 0).set 7 0)) := Lib.hid (by rw [hu8]; exact (Ha.out.below hb).set (by decide) (by decide) 0)
          have HB1 : Below w.heap.size w (u7.alloc (.cells #[.int .i64 0, .int .i64 0, .int .i64 1, .int .i64 0] 3)) := HBB.out.trans (hb.mono HBB.out.size)
          replace HBB := Lib.hid (Chg.out HB1 hc HQa.out HB1.size)
          rw [← hu8]
          clear HB1 hb hc hu8 c0 f0 v
          obtain ⟨v, c0, f0⟩ := (show MsgAt (u8.alloc (.cells #[.int .i64 0, .int .i64 0, .int .i64 0, .int .i64 1] 3)) qa (((N.setS ⟨#[]⟩).set 4 0).set 7 0) from Ha.out.below (below_alloc _ _)).any (j := 10) (by omega)
          go_wp2_with fail
          obtain ⟨u9, hu9⟩ : ∃ wx, wx = (u8.alloc (.cells #[.int .i64 0, .int .i64 0, .int .i64 0, .int .i64 1] 3)).setCell ⟨qa, 10, none⟩ (.int .i64 1) := ⟨_, rfl⟩
          have hb : Below u8.heap.size u8 (u8.alloc (.cells #[.int .i64 0, .int .i64 0, .int .i64 0, .int .i64 1] 3)) := below_alloc _ _
          have hc : Chg (fun k => k = qa) (u8.alloc (.cells #[.int .i64 0, .int .i64 0, .int .i64 0, .int .i64 1] 3)) u9 := by rw [hu9]; exact Chg.setCell _ _ _ _
          replace Hm := Lib.hid ((Hm.out.below hb).chg hc HNma.out)
          replace Ha : Hid (MsgAt u9 qa ((((N.setS ⟨#[]⟩).set 4 0).set 7 0).set 10 1)) := Lib.hid (by rw [hu9]; exact (Ha.out.below hb).set (by decide) (by decide) 1)
          have HB1 : Below w.heap.size w (u8.alloc (.cells #[.int .i64 0, .int .i64 0, .int .i64 0, .int .i64 1] 3)) := HBB.out.trans (hb.mono HBB.out.size)
          replace HBB := Lib.hid (Chg.out HB1 hc HQa.out HB1.size)
          rw [← hu9]
          clear HB1 hb hc hu9 c0 f0 v
          go_meet
          exact ⟨_, Hm, Ha, Lib.hid (bad2 HK.out ⟨#[]⟩ 0 0 1 (by decide)), Lib.hid ((((HN.out.setS (t := ⟨#[]⟩) (Nat.le_trans (by decide : _ ≤ 1) (by unfold maxLen; decide))).set (j := 4) (x := 0) (by decide)).set (j := 7) (x := 0) (by decide)).set (j := 10) (x := 1) (by decide)), HBB⟩
      · skip
        have HK := Lib.hid hk
        have e1 : (N.i 0 == 1) = false := by rw [hk]; rfl
        have e2 : (N.i 0 == 2) = false := by rw [hk]; rfl
        have e3 : (N.i 0 == 3) = true := by rw [hk]; rfl
        clear hk
        have hr4 : (f : Int) % 4 = 0 ∨ (f : Int) % 4 = 1 ∨ (f : Int) % 4 = 2 ∨ (f : Int) % 4 = 3 := by omega
        rcases hr4 with h4 | h4 | h4 | h4
        · skip
          obtain ⟨v, c0, f0⟩ := (show MsgAt (u5.alloc (.cells #[.int .u64 1, .int .u64 0, .int .u64 0, .int .u64 0] 22)) qa N from Ha.out.below (below_alloc _ _)).any (j := 1) (by omega)
          go_upto_region 22 with fail
          obtain ⟨u6, hu6⟩ : ∃ wx, wx = (u5.alloc (.cells #[.int .u64 1, .int .u64 0, .int .u64 0, .int .u64 0] 22)).setCell ⟨qa, 1, none⟩ (.int .u64 1) := ⟨_, rfl⟩
          have hb : Below u5.heap.size u5 (u5.alloc (.cells #[.int .u64 1, .int .u64 0, .int .u64 0, .int .u64 0] 22)) := below_alloc _ _
          have hc : Chg (fun k => k = qa) (u5.alloc (.cells #[.int .u64 1, .int .u64 0, .int .u64 0, .int .u64 0] 22)) u6 := by rw [hu6]; exact Chg.setCell _ _ _ _
          replace Hm := Lib.hid ((Hm.out.below hb).chg hc HNma.out)
          replace Ha : Hid (MsgAt u6 qa (N.set 1 1)) := Lib.hid (by rw [hu6]; exact (Ha.out.below hb).set (by decide) (by decide) 1)
          have HB1 : Below w.heap.size w (u5.alloc (.cells #[.int .u64 1, .int .u64 0, .int .u64 0, .int .u64 0] 22)) := HBB.out.trans (hb.mono HBB.out.size)
          replace HBB := Lib.hid (Chg.out HB1 hc HQa.out HB1.size)
          rw [← hu6]
          clear HB1 hb hc hu6 c0 f0 v
          obtain ⟨v, c0, f0⟩ := (show MsgAt (u6.alloc (.cells #[.int .i64 0, .int .i64 1, .int .i64 0, .int .i64 0] 3)) qa (N.set 1 1) from Ha.out.below (below_alloc _ _)).any (j := 9) (by omega)
          go_upto_region 23 with fail
          obtain ⟨u7, hu7⟩ : ∃ wx, wx = (u6.alloc (.cells #[.int .i64 0, .int .i64 1, .int .i64 0, .int .i64 0] 3)).setCell ⟨qa, 9, none⟩ (.int .i64 0) := ⟨_, rfl⟩
          have hb : Below u6.heap.size u6 (u6.alloc (.cells #[.int .i64 0, .int .i64 1, .int .i64 0, .int .i64 0] 3)) := below_alloc _ _
          have hc : Chg (fun k => k = qa) (u6.alloc (.cells #[.int .i64 0, .int .i64 1, .int .i64 0, .int .i64 0] 3)) u7 := by rw [hu7]; exact Chg.setCell _ _ _ _
          replace Hm := Lib.hid ((Hm.out.below hb).chg hc HNma.out)
          replace Ha : Hid (MsgAt u7 qa ((N.set 1 1).set 9 0)) := Lib.hid (by rw [hu7]; exact (Ha.out.below hb).set (by decide) (by decide) 0)
          have HB1 : Below w.heap.size w (u6.alloc (.cells #[.int .i64 0, .int .i64 1, .int .i64 0, .int .i64 0] 3)) := HBB.out.trans (hb.mono HBB.out.size)
          replace HBB := Lib.hid (Chg.out HB1 hc HQa.out HB1.size)
          rw [← hu7]
          clear HB1 hb hc hu7 c0 f0 v
          obtain ⟨v, c0, f0⟩ := (show MsgAt (u7.alloc (.cells #[.int .i64 0, .int .i64 0, .int .i64 1, .int .i64 0] 3)) qa ((N.set 1 1).set 9 0) from Ha.out.below (below_alloc _ _)).any (j := 8) (by omega)
          go_upto_region 24 with fail
          obtain ⟨u8, hu8⟩ : ∃ wx, wx = (u7.alloc (.cells #[.int .i64 0, .int .i64 0, .int .i64 1, .int .i64 0] 3)).setCell ⟨qa, 8, none⟩ (.int .i64 0) := ⟨_, rfl⟩
          have hb : Below u7.heap.size u7 (u7.alloc (.cells #[.int .i64 0, .int .i64 0, .int .i64 1, .int .i64 0] 3)) := below_alloc _ _
          have hc : Chg (fun k => k = qa) (u7.alloc (.cells #[.int .i64 0, .int .i64 0, .int .i64 1, .int .i64 0] 3)) u8 := by rw [hu8]; exact Chg.setCell _ _ _ _
          replace Hm := Lib.hid ((Hm.out.below hb).chg hc HNma.out)
          replace Ha : Hid (MsgAt u8 qa (((N.set 1 1).set 9 0).set 8 0)) := Lib.hid (by rw [hu8]; exact (Ha.out.below hb).set (by decide) (by decide) 0)
          have HB1 : Below w.heap.size w (u7.alloc (.cells #[.int .i64 0, .int .i64 0, .int .i64 1, .int .i64 0] 3)) := HBB.out.trans (hb.mono HBB.out.size)
          replace HBB := Lib.hid (Chg.out HB1 hc HQa.out HB1.size)
          rw [← hu8]
          clear HB1 hb hc hu8 c0 f0 v
          obtain ⟨v, c0, f0⟩ := (show MsgAt (u8.alloc (.cells #[.int .i64 0, .int .i64 0, .int .i64 0, .int .i64 1] 3)) qa (((N.set 1 1).set 9 0).set 8 0) from Ha.out.below (below_alloc _ _)).any (j := 6) (by omega)
          go_wp2_with fail
          obtain ⟨u9, hu9⟩ : ∃ wx, wx = (u8.alloc (.cells #[.int .i64 0, .int .i64 0, .int .i64 0, .int .i64 1] 3)).setCell ⟨qa, 6, none⟩ (.int .i64 0) := ⟨_, rfl⟩
          have hb : Below u8.heap.size u8 (u8.alloc (.cells #[.int .i64 0, .int .i64 0, .int .i64 0, .int .i64 1] 3)) := below_alloc _ _
          have hc : Chg (fun k => k = qa) (u8.alloc (.cells #[.int .i64 0, .int .i64 0, .int .i64 0, .int .i64 1] 3)) u9 := by rw [hu9]; exact Chg.setCell _ _ _ _
          replace Hm := Lib.hid ((Hm.out.below hb).chg hc HNma.out)
          replace Ha : Hid (MsgAt u9 qa ((((N.set 1 1).set 9 0).set 8 0).set 6 0)) := Lib.hid (by rw [hu9]; exact (Ha.out.below hb).set (by decide) (by decide) 0)
          have HB1 : Below w.heap.size w (u8.alloc (.cells #[.int .i64 0, .int .i64 0, .int .i64 0, .int .i64 1] 3)) := HBB.out.trans (hb.mono HBB.out.size)
          replace HBB := Lib.hid (Chg.out HB1 hc HQa.out HB1.size)
          rw [← hu9]
          clear HB1 hb hc hu9 c0 f0 v
          go_meet
          exact ⟨_, Hm, Ha, Lib.hid (bad3 HK.out 1 0 0 0 (by decide)), Lib.hid ((((HN.out.set (j := 1) (x := 1) (by decide)).set (j := 9) (x := 0) (by decide)).set (j := 8) (x := 0) (by decide)).set (j := 6) (x := 0) (by decide)), HBB⟩
        · skip
          obtain ⟨v, c0, f0⟩ := (show MsgAt (u5.alloc (.cells #[.int .u64 1, .int .u64 0, .int .u64 0, .int .u64 0] 22)) qa N from Ha.out.below (below_alloc _ _)).any (j := 1) (by omega)
          go_upto_region 22 with fail
          obtain ⟨u6, hu6⟩ : ∃ wx, wx = (u5.alloc (.cells #[.int .u64 1, .int .u64 0, .int .u64 0, .int .u64 0] 22)).setCell ⟨qa, 1, none⟩ (.int .u64 0) := ⟨_, rfl⟩
          have hb : Below u5.heap.size u5 (u5.alloc (.cells #[.int .u64 1, .int .u64 0, .int .u64 0, .int .u64 0] 22)) := below_alloc _ _
          have hc : Chg (fun k => k = qa) (u5.alloc (.cells #[.int .u64 1, .int .u64 0, .int .u64 0, .int .u64 0] 22)) u6 := by rw [hu6]; exact Chg.setCell _ _ _ _
          replace Hm := Lib.hid ((Hm.out.below hb).chg hc HNma.out)
          replace Ha : Hid (MsgAt u6 qa (N.set 1 0)) := Lib.hid (by rw [hu6]; exact (Ha.out.below hb).set (by decide) (by decide) 0)
          have HB1 : Below w.heap.size w (u5.alloc (.cells #[.int .u64 1, .int .u64 0, .int .u64 0, .int .u64 0] 22)) := HBB.out.trans (hb.mono HBB.out.size)
          replace HBB := Lib.hid (Chg.out HB1 hc HQa.out HB1.size)
          rw [← hu6]
          clear HB1 hb hc hu6 c0 f0 v
          obtain ⟨v, c0, f0⟩ := (show MsgAt (u6.alloc (.cells #[.int .i64 0, .int .i64 1, .int .i64 0, .int .i64 0] 3)) qa (N.set 1 0) from Ha.out.below (below_alloc _ _)).any (j := 9) (by omega)
          go_upto_region 23 with fail
          obtain ⟨u7, hu7⟩ : ∃ wx, wx = (u6.alloc (.cells #[.int .i64 0, .int .i64 1, .int .i64 0, .int .i64 0] 3)).setCell ⟨qa, 9, none⟩ (.int .i64 1) := ⟨_, rfl⟩
          have hb : Below u6.heap.size u6 (u6.alloc (.cells #[.int .i64 0, .int .i64 1, .int .i64 0, .int .i64 0] 3)) := below_alloc _ _
          have hc : Chg (fun k => k = qa) (u6.alloc (.cells #[.int .i64 0, .int .i64 1, .int .i64 0, .int .i64 0] 3)) u7 := by rw [hu7]; exact Chg.setCell _ _ _ _
          replace Hm := Lib.hid ((Hm.out.below hb).chg hc HNma.out)
          replace Ha : Hid (MsgAt u7 qa ((N.set 1 0).set 9 1)) := Lib.hid (by rw [hu7]; exact (Ha.out.below hb).set (by decide) (by decide) 1)
          have HB1 : Below w.heap.size w (u6.alloc (.cells #[.int .i64 0, .int .i64 1, .int .i64 0, .int .i64 0] 3)) := HBB.out.trans (hb.mono HBB.out.size)
          replace HBB := Lib.hid (Chg.out HB1 hc HQa.out HB1.size)
          rw [← hu7]
          clear HB1 hb hc hu7 c0 f0 v
          obtain ⟨v, c0, f0⟩ := (show MsgAt (u7.alloc (.cells #[.int .i64 0, .int .i64 0, .int .i64 1, .int .i64 0] 3)) qa ((N.set 1 0).set 9 1) from Ha.out.below (below_alloc _ _)).any (j := 8) (by omega)
          go_upto_region 24 with fail
          obtain ⟨u8, hu8⟩ : ∃ wx, wx = (u7.alloc (.cells #[.int .i64 0, .int .i64 0, .int .i64 1, .int .i64 0] 3)).setCell ⟨qa, 8, none⟩ (.int .i64 0) := ⟨_, rfl⟩
          have hb : Below u7.heap.size u7 (u7.alloc (.cells #[.int .i64 0, .int .i64 0, .int .i64 1, .int .i64 0] 3)) := below_alloc _ _
          have hc : Chg (fun k => k = qa) (u7.alloc (.cells #[.int .i64 0, .int .i64 0, .int .i64 1, .int .i64 0] 3)) u8 := by rw [hu8]; exact Chg.setCell _ _ _ _
          replace Hm := Lib.hid ((Hm.out.below hb).chg hc HNma.out)
          replace Ha : Hid (MsgAt u8 qa (((N.set 1 0).set 9 1).set 8 0)) := Lib.hid (by rw [hu8]; exact (Ha.out.below hb).set (by decide) (by decide) 0)
          have HB1 : Below w.heap.size w (u7.alloc (.cells #[.int .i64 0, .int .i64 0, .int .i64 1, .int .i64 0] 3)) := HBB.out.trans (hb.mono HBB.out.size)
          replace HBB := Lib.hid (Chg.out HB1 hc HQa.out HB1.size)
          rw [← hu8]
          clear HB1 hb hc hu8 c0 f0 v
          obtain ⟨v, c0, f0⟩ := (show MsgAt (u8.alloc (.cells #[.int .i64 0, .int .i64 0, .int .i64 0, .int .i64 1] 3)) qa (((N.set 1 0).set 9 1).set 8 0) from Ha.out.below (below_alloc _ _)).any (j := 6) (by omega)
          go_wp2_with fail
          obtain ⟨u9, hu9⟩ : ∃ wx, wx = (u8.alloc (.cells #[.int .i64 0, .int .i64 0, .int .i64 0, .int .i64 1] 3)).setCell ⟨qa, 6, none⟩ (.int .i64 0) := ⟨_, rfl⟩
          have hb : Below u8.heap.size u8 (u8.alloc (.cells #[.int .i64 0, .int .i64 0, .int .i64 0, .int .i64 1] 3)) := below_alloc _ _
          have hc : Chg (fun k => k = qa) (u8.alloc (.cells #[.int .i64 0, .int .i64 0, .int .i64 0, .int .i64 1] 3)) u9 := by rw [hu9]; exact Chg.setCell _ _ _ _
          replace Hm := Lib.hid ((Hm.out.below hb).chg hc HNma.out)
          replace Ha : Hid (MsgAt u9 qa ((((N.set 1 0).set 9 1).set 8 0).set 6 0)) := Lib.hid (by rw [hu9]; exact (Ha.out.below hb).set (by decide) (by decide) 0)
          have HB1 : Below w.heap.size w (u8.alloc (.cells #[.int .i64 0, .int .i64 0, .int .i64 0, .int .i64 1] 3)) := HBB.out.trans (hb.mono HBB.out.size)
          replace HBB := Lib.hid (Chg.out HB1 hc HQa.out HB1.size)
          rw [← hu9]
          clear HB1 hb hc hu9 c0 f0 v
          go_meet
          exact ⟨_, Hm, Ha, Lib.hid (bad3 HK.out 0 1 0 0 (by decide)), Lib.hid ((((HN.out.set (j := 1) (x := 0) (by decide)).set (j := 9) (x := 1) (by decide)).set (j := 8) (x := 0) (by decide)).set (j := 6) (x := 0) (by decide)), HBB⟩
        · skip
          obtain ⟨v, c0, f0⟩ := (show MsgAt (u5.alloc (.cells #[.int .u64 1, .int .u64 0, .int .u64 0, .int .u64 0] 22)) qa N from Ha.out.below (below_alloc _ _)).any (j := 1) (by omega)
          go_upto_region 22 with fail
          obtain ⟨u6, hu6⟩ : ∃ wx, wx = (u5.alloc (.cells #[.int .u64 1, .int .u64 0, .int .u64 0, .int .u64 0] 22)).setCell ⟨qa, 1, none⟩ (.int .u64 0) := ⟨_, rfl⟩
          have hb : Below u5.heap.size u5 (u5.alloc (.cells #[.int .u64 1, .int .u64 0, .int .u64 0, .int .u64 0] 22)) := below_alloc _ _
          have hc : Chg (fun k => k = qa) (u5.alloc (.cells #[.int .u64 1, .int .u64 0, .int .u64 0, .int .u64 0] 22)) u6 := by rw [hu6]; exact Chg.setCell _ _ _ _
          replace Hm := Lib.hid ((Hm.out.below hb).chg hc HNma.out)
          replace Ha : Hid (MsgAt u6 qa (N.set 1 0)) := Lib.hid (by rw [hu6]; exact (Ha.out.below hb).set (by decide) (by decide) 0)
          have HB1 : Below w.heap.size w (u5.alloc (.cells #[.int .u64 1, .int .u64 0, .int .u64 0, .int .u64 0] 22)) := HBB.out.trans (hb.mono HBB.out.size)
          replace HBB := Lib.hid (Chg.out HB1 hc HQa.out HB1.size)
          rw [← hu6]
          clear HB1 hb hc hu6 c0 f0 v
          obtain ⟨v, c0, f0⟩ := (show MsgAt (u6.alloc (.cells #[.int .i64 0, .int .i64 1, .int .i64 0, .int .i64 0] 3)) qa (N.set 1 0) from Ha.out.below (below_alloc _ _)).any (j := 9) (by omega)
          go_upto_region 23 with fail
          obtain ⟨u7, hu7⟩ : ∃ wx, wx = (u6.alloc (.cells #[.int .i64 0, .int .i64 1, .int .i64 0, .int .i64 0] 3)).setCell ⟨qa, 9, none⟩ (.int .i64 0) := ⟨_, rfl⟩
          have hb : Below u6.heap.size u6 (u6.alloc (.cells #[.int .i64 0, .int .i64 1, .int .i64 0, .int .i64 0] 3)) := below_alloc _ _
          have hc : Chg (fun k => k = qa) (u6.alloc (.cells #[.int .i64 0, .int .i64 1, .int .i64 0, .int .i64 0] 3)) u7 := by rw [hu7]; exact Chg.setCell _ _ _ _
          replace Hm := Lib.hid ((Hm.out.below hb).chg hc HNma.out)
          replace Ha : Hid (MsgAt u7 qa ((N.set 1 0).set 9 0)) := Lib.hid (by rw [hu7]; exact (Ha.out.below hb).set (by decide) (by decide) 0)
          have HB1 : Below w.heap.size w (u6.alloc (.cells #[.int .i64 0, .int .i64 1, .int .i64 0, .int .i64 0] 3)) := HBB.out.trans (hb.mono HBB.out.size)
          replace HBB := Lib.hid (Chg.out HB1 hc HQa.out HB1.size)
          rw [← hu7]
          clear HB1 hb hc hu7 c0 f0 v
          obtain ⟨v, c0, f0⟩ := (show MsgAt (u7.alloc (.cells #[.int .i64 0, .int .i64 0, .int .i64 1, .int .i64 0] 3)) qa ((N.set 1 0).set 9 0) from Ha.out.below (below_alloc _ _)).any (j := 8) (by omega)
          go_upto_region 24 with fail
          obtain ⟨u8, hu8⟩ : ∃ wx, wx = (u7.alloc (.cells #[.int .i64 0, .int .i64 0, .int .i64 1, .int .i64 0] 3)).setCell ⟨qa, 8, none⟩ (.int .i64 1) := ⟨_, rfl⟩
          have hb : Below u7.heap.size u7 (u7.alloc (.cells #[.int .i64 0, .int .i64 0, .int .i64 1, .int .i64 0] 3)) := below_alloc _ _
          have hc : Chg (fun k => k = qa) (u7.alloc (.cells #[.int .i64 0, .int .i64 0, .int .i64 1, .int .i64 0] 3)) u8 := by rw [hu8]; exact Chg.setCell _ _ _ _
          replace Hm := Lib.hid ((Hm.out.below hb).chg hc HNma.out)
          replace Ha : Hid (MsgAt u8 qa (((N.set 1 0).set 9 0).set 8 1)) := Lib.hid (by rw [hu8]; exact (Ha.out.below hb).set (by decide) (by decide) 1)
          have HB1 : Below w.heap.size w (u7.alloc (.cells #[.int .i64 0, .int .i64 0, .int .i64 1, .int .i64 0] 3)) := HBB.out.trans (hb.mono HBB.out.size)
          replace HBB := Lib.hid (Chg.out HB1 hc HQa.out HB1.size)
          rw [← hu8]
          clear HB1 hb hc hu8 c0 f0 v
          obtain ⟨v, c0, f0⟩ := (show MsgAt (u8.alloc (.cells #[.int .i64 0, .int .i64 0, .int .i64 0, .int .i64 1] 3)) qa (((N.set 1 0).set 9 0).set 8 1) from Ha.out.below (below_alloc _ _)).any (j := 6) (by omega)
          go_wp2_with fail
          obtain ⟨u9, hu9⟩ : ∃ wx, wx = (u8.alloc (.cells #[.int .i64 0, .int .i64 0, .int .i64 0, .int .i64 1] 3)).setCell ⟨qa, 6, none⟩ (.int .i64 0) := ⟨_, rfl⟩
          have hb : Below u8.heap.size u8 (u8.alloc (.cells #[.int .i64 0, .int .i64 0, .int .i64 0, .int .i64 1] 3)) := below_alloc _ _
          have hc : Chg (fun k => k = qa) (u8.alloc (.cells #[.int .i64 0, .int .i64 0, .int .i64 0, .int .i64 1] 3)) u9 := by rw [hu9]; exact Chg.setCell _ _ _ _
          replace Hm := Lib.hid ((Hm.out.below hb).chg hc HNma.out)
          replace Ha : Hid (MsgAt u9 qa ((((N.set 1 0).set 9 0).set 8 1).set 6 0)) := Lib.hid (by rw [hu9]; exact (Ha.out.below hb).set (by decide) (by decide) 0)
          have HB1 : Below w.heap.size w (u8.alloc (.cells #[.int .i64 0, .int .i64 0, .int .i64 0, .int .i64 1] 3)) := HBB.out.trans (hb.mono HBB.out.size)
          replace HBB := Lib.hid (Chg.out HB1 hc HQa.out HB1.size)
          rw [← hu9]
          clear HB1 hb hc hu9 c0 f0 v
          go_meet
          exact ⟨_, Hm, Ha, Lib.hid (bad3 HK.out 0 0 1 0 (by decide)), Lib.hid ((((HN.out.set (j := 1) (x := 0) (by decide)).set (j := 9) (x := 0) (by decide)).set (j := 8) (x := 1) (by decide)).set (j := 6) (x := 0) (by decide)), HBB⟩
        · skip
          obtain ⟨v, c0, f0⟩ := (show MsgAt (u5.alloc (.cells #[.int .u64 1, .int .u64 0, .int .u64 0, .int .u64 0] 22)) qa N from Ha.out.below (below_alloc _ _)).any (j := 1) (by omega)
          go_upto_region 22 with fail
          obtain ⟨u6, hu6⟩ : ∃ wx, wx = (u5.alloc (.cells #[.int .u64 1, .int .u64 0, .int .u64 0, .int .u64 0] 22)).setCell ⟨qa, 1, none⟩ (.int .u64 0) := ⟨_, rfl⟩
          have hb : Below u5.heap.size u5 (u5.alloc (.cells #[.int .u64 1, .int .u64 0, .int .u64 0, .int .u64 0] 22)) := below_alloc _ _
          have hc : Chg (fun k => k = qa) (u5.alloc (.cells #[.int .u64 1, .int .u64 0, .int .u64 0, .int .u64 0] 22)) u6 := by rw [hu6]; exact Chg.setCell _ _ _ _
          replace Hm := Lib.hid ((Hm.out.below hb).chg hc HNma.out)
          replace Ha : Hid (MsgAt u6 qa (N.set 1 0)) := Lib.hid (by rw [hu6]; exact (Ha.out.below hb).set (by decide) (by decide) 0)
          have HB1 : Below w.heap.size w (u5.alloc (.cells #[.int .u64 1, .int .u64 0, .int .u64 0, .int .u64 0] 22)) := HBB.out.trans (hb.mono HBB.out.size)
          replace HBB := Lib.hid (Chg.out HB1 hc HQa.out HB1.size)
          rw [← hu6]
          clear HB1 hb hc hu6 c0 f0 v
          obtain ⟨v, c0, f0⟩ := (show MsgAt (u6.alloc (.cells #[.int .i64 0, .int .i64 1, .int .i64 0, .int .i64 0] 3)) qa (N.set 1 0) from Ha.out.below (below_alloc _ _)).any (j := 9) (by omega)
          go_upto_region 23 with fail
          obtain ⟨u7, hu7⟩ : ∃ wx, wx = (u6.alloc (.cells #[.int .i64 0, .int .i64 1, .int .i64 0, .int .i64 0] 3)).setCell ⟨qa, 9, none⟩ (.int .i64 0) := ⟨_, rfl⟩
          have hb : Below u6.heap.size u6 (u6.alloc (.cells #[.int .i64 0, .int .i64 1, .int .i64 0, .int .i64 0] 3)) := below_alloc _ _
          have hc : Chg (fun k => k = qa) (u6.alloc (.cells #[.int .i64 0, .int .i64 1, .int .i64 0, .int .i64 0] 3)) u7 := by rw [hu7]; exact Chg.setCell _ _ _ _
          replace Hm := Lib.hid ((Hm.out.below hb).chg hc HNma.out)
          replace Ha : Hid (MsgAt u7 qa ((N.set 1 0).set 9 0)) := Lib.hid (by rw [hu7]; exact (Ha.out.below hb).set (by decide) (by decide) 0)
          have HB1 : Below w.heap.size w (u6.alloc (.cells #[.int .i64 0, .int .i64 1, .int .i64 0, .int .i64 0] 3)) := HBB.out.trans (hb.mono HBB.out.size)
          replace HBB := Lib.hid (Chg.out HB1 hc HQa.out HB1.size)
          rw [← hu7]
          clear HB1 hb hc hu7 c0 f0 v
          obtain ⟨v, c0, f0⟩ := (show MsgAt (u7.alloc (.cells #[.int .i64 0, .int .i64 0, .int .i64 1, .int .i64 0] 3)) qa ((N.set 1 0).set 9 0) from Ha.out.below (below_alloc _ _)).any (j := 8) (by omega)
          go_upto_region 24 with fail
          obtain ⟨u8, hu8⟩ : ∃ wx, wx = (u7.alloc (.cells #[.int .i64 0, .int .i64 0, .int .i64 1, .int .i64 0] 3)).setCell ⟨qa, 8, none⟩ (.int .i64 0) := ⟨_, rfl⟩
          have hb : Below u7.heap.size u7 (u7.alloc (.cells #[.int .i64 0, .int .i64 0, .int .i64 1, .int .i64 0] 3)) := below_alloc _ _
          have hc : Chg (fun k => k = qa) (u7.alloc (.cells #[.int .i64 0, .int .i64 0, .int .i64 1, .int .i64 0] 3)) u8 := by rw [hu8]; exact Chg.setCell _ _ _ _
          replace Hm := Lib.hid ((Hm.out.below hb).chg hc HNma.out)
          replace Ha : Hid (MsgAt u8 qa (((N.set 1 0).set 9 0).set 8 0)) := Lib.hid (by rw [hu8]; exact (Ha.out.below hb).set (by decide) (by decide) 0)
          have HB1 : Below w.heap.size w (u7.alloc (.cells #[.int .i64 0, .int .i64 0, .int .i64 1, .int .i64 0] 3)) := HBB.out.trans (hb.mono HBB.out.size)
          replace HBB := Lib.hid (Chg.out HB1 hc HQa.out HB1.size)
          rw [← hu8]
          clear HB1 hb hc hu8 c0 f0 v
          obtain ⟨v, c0, f0⟩ := (show MsgAt (u8.alloc (.cells #[.int .i64 0, .int .i64 0, .int .i64 0, .int .i64 1] 3)) qa (((N.set 1 0).set 9 0).set 8 0) from Ha.out.below (below_alloc _ _)).any (j := 6) (by omega)
          go_wp2_with fail
          obtain ⟨u9, hu9⟩ : ∃ wx, wx = (u8.alloc (.cells #[.int .i64 0, .int .i64 0, .int .i64 0, .int .i64 1] 3)).setCell ⟨qa, 6, none⟩ (.int .i64 1) := ⟨_, rfl⟩
          have hb : Below u8.heap.size u8 (u8.alloc (.cells #[.int .i64 0, .int .i64 0, .int .i64 0, .int .i64 1] 3)) := below_alloc _ _
          have hc : Chg (fun k => k = qa) (u8.alloc (.cells #[.int .i64 0, .int .i64 0, .int .i64 0, .int .i64 1] 3)) u9 := by rw [hu9]; exact Chg.setCell _ _ _ _
          replace Hm := Lib.hid ((Hm.out.below hb).chg hc HNma.out)
          replace Ha : Hid (MsgAt u9 qa ((((N.set 1 0).set 9 0).set 8 0).set 6 1)) := Lib.hid (by rw [hu9]; exact (Ha.out.below hb).set (by decide) (by decide) 1)
          have HB1 : Below w.heap.size w (u8.alloc (.cells #[.int .i64 0, .int .i64 0, .int .i64 0, .int .i64 1] 3)) := HBB.out.trans (hb.mono HBB.out.size)
          replace HBB := Lib.hid (Chg.out HB1 hc HQa.out HB1.size)
          rw [← hu9]
          clear HB1 hb hc hu9 c0 f0 v
          go_meet
          exact ⟨_, Hm, Ha, Lib.hid (bad3 HK.out 0 0 0 1 (by decide)), Lib.hid ((((HN.out.set (j := 1) (x := 0) (by decide)).set (j := 9) (x := 0) (by decide)).set (j := 8) (x := 0) (by decide)).set (j := 6) (x := 1) (by decide)), HBB⟩
      · skip
        have HK := Lib.hid hk
        have e1 : (N.i 0 == 1) = false := by rw [hk]; rfl
        have e2 : (N.i 0 == 2) = false := by rw [hk]; rfl
        have e3 : (N.i 0 == 3) = false := by rw [hk]; rfl
        clear hk
        have hr4 : (f : Int) % 4 = 0 ∨ (f : Int) % 4 = 1 ∨ (f : Int) % 4 = 2 ∨ (f : Int) % 4 = 3 := by omega
        rcases hr4 with h4 | h4 | h4 | h4
        · skip
          obtain ⟨v, c0, f0⟩ := (show MsgAt (u5.alloc (.cells #[.int .u64 1, .int .u64 0, .int .u64 0, .int .u64 0] 22)) qa N from Ha.out.below (below_alloc _ _)).any (j := 1) (by omega)
          go_upto_region 7 with fail
          obtain ⟨u6, hu6⟩ : ∃ wx, wx = (u5.alloc (.cells #[.int .u64 1, .int .u64 0, .int .u64 0, .int .u64 0] 22)).setCell ⟨qa, 1, none⟩ (.int .u64 1) := ⟨_, rfl⟩
          have hb : Below u5.heap.size u5 (u5.alloc (.cells #[.int .u64 1, .int .u64 0, .int .u64 0, .int .u64 0] 22)) := below_alloc _ _
          have hc : Chg (fun k => k = qa) (u5.alloc (.cells #[.int .u64 1, .int .u64 0, .int .u64 0, .int .u64 0] 22)) u6 := by rw [hu6]; exact Chg.setCell _ _ _ _
          replace Hm := Lib.hid ((Hm.out.below hb).chg hc HNma.out)
          replace Ha : Hid (MsgAt u6 qa (N.set 1 1)) := Lib.hid (by rw [hu6]; exact (Ha.out.below hb).set (by decide) (by decide) 1)
          have HB1 : Below w.heap.size w (u5.alloc (.cells #[.int .u64 1, .int .u64 0, .int .u64 0, .int .u64 0] 22)) := HBB.out.trans (hb.mono HBB.out.size)
          replace HBB := Lib.hid (Chg.out HB1 hc HQa.out HB1.size)
          rw [← hu6]
          clear HB1 hb hc hu6 c0 f0 v
          obtain ⟨v, c0, f0⟩ := (show MsgAt (u6.alloc (.cells #[.int .i64 0, .int .i64 1, .int .i64 0, .int .i64 0] 3)) qa (N.set 1 1) from Ha.out.below (below_alloc _ _)).any (j := 5) (by omega)
          go_upto_region 8 with fail
          obtain ⟨u7, hu7⟩ : ∃ wx, wx = (u6.alloc (.cells #[.int .i64 0, .int .i64 1, .int .i64 0, .int .i64 0] 3)).setCell ⟨qa, 5, none⟩ (.int .i64 0) := ⟨_, rfl⟩
          have hb : Below u6.heap.size u6 (u6.alloc (.cells #[.int .i64 0, .int .i64 1, .int .i64 0, .int .i64 0] 3)) := below_alloc _ _
          have hc : Chg (fun k => k = qa) (u6.alloc (.cells #[.int .i64 0, .int .i64 1, .int .i64 0, .int .i64 0] 3)) u7 := by rw [hu7]; exact Chg.setCell _ _ _ _
          replace Hm := Lib.hid ((Hm.out.below hb).chg hc HNma.out)
          replace Ha : Hid (MsgAt u7 qa ((N.set 1 1).set 5 0)) := Lib.hid (by rw [hu7]; exact (Ha.out.below hb).set (by decide) (by decide) 0)
          have HB1 : Below w.heap.size w (u6.alloc (.cells #[.int .i64 0, .int .i64 1, .int .i64 0, .int .i64 0] 3)) := HBB.out.trans (hb.mono HBB.out.size)
          replace HBB := Lib.hid (Chg.out HB1 hc HQa.out HB1.size)
          rw [← hu7]
          clear HB1 hb hc hu7 c0 f0 v
          obtain ⟨v, c0, f0⟩ := (show MsgAt (u7.alloc (.cells #[.int .i64 0, .int .i64 0, .int .i64 1, .int .i64 0] 3)) qa ((N.set 1 1).set 5 0) from Ha.out.below (below_alloc _ _)).any (j := 6) (by omega)
          go_upto_region 9 with fail
          obtain ⟨u8, hu8⟩ : ∃ wx, wx = (u7.alloc (.cells #[.int .i64 0, .int .i64 0, .int .i64 1, .int .i64 0] 3)).setCell ⟨qa, 6, none⟩ (.int .i64 0) := ⟨_, rfl⟩
          have hb : Below u7.heap.size u7 (u7.alloc (.cells #[.int .i64 0, .int .i64 0, .int .i64 1, .int .i64 0] 3)) := below_alloc _ _
          have hc : Chg (fun k => k = qa) (u7.alloc (.cells #[.int .i64 0, .int .i64 0, .int .i64 1, .int .i64 0] 3)) u8 := by rw [hu8]; exact Chg.setCell _ _ _ _
          replace Hm := Lib.hid ((Hm.out.below hb).chg hc HNma.out)
          replace Ha : Hid (MsgAt u8 qa (((N.set 1 1).set 5 0).set 6 0)) := Lib.hid (by rw [hu8]; exact (Ha.out.below hb).set (by decide) (by decide) 0)
          have HB1 : Below w.heap.size w (u7.alloc (.cells #[.int .i64 0, .int .i64 0, .int .i64 1, .int .i64 0] 3)) := HBB.out.trans (hb.mono HBB.out.size)
          replace HBB := Lib.hid (Chg.out HB1 hc HQa.out HB1.size)
          rw [← hu8]
          clear HB1 hb hc hu8 c0 f0 v
          obtain ⟨v, c0, f0⟩ := (show MsgAt (u8.alloc (.cells #[.int .i64 0, .int .i64 0, .int .i64 0, .int .i64 1] 3)) qa (((N.set 1 1).set 5 0).set 6 0) from Ha.out.below (below_alloc _ _)).any (j := 10) (by omega)
          go_wp2_with fail
          obtain ⟨u9, hu9⟩ : ∃ wx, wx = (u8.alloc (.cells #[.int .i64 0, .int .i64 0, .int .i64 0, .int .i64 1] 3)).setCell ⟨qa, 10, none⟩ (.int .i64 0) := ⟨_, rfl⟩
          have hb : Below u8.heap.size u8 (u8.alloc (.cells #[.int .i64 0, .int .i64 0, .int .i64 0, .int .i64 1] 3)) := below_alloc _ _
          have hc : Chg (fun k => k = qa) (u8.alloc (.cells #[.int .i64 0, .int .i64 0, .int .i64 0, .int .i64 1] 3)) u9 := by rw [hu9]; exact Chg.setCell _ _ _ _
          replace Hm := Lib.hid ((Hm.out.below hb).chg hc HNma.out)
          replace Ha : Hid (MsgAt u9 qa ((((N.set 1 1).set 5 0).set 6 0).set 10 0)) := Lib.hid (by rw [hu9]; exact (Ha.out.below hb).set (by decide) (by decide) 0)
          have HB1 : Below w.heap.size w (u8.alloc (.cells #[.int .i64 0, .int .i64 0, .int .i64 0, .int .i64 1] 3)) := HBB.out.trans (hb.mono HBB.out.size)
          replace HBB := Lib.hid (Chg.out HB1 hc HQa.out HB1.size)
          rw [← hu9]
          clear HB1 hb hc hu9 c0 f0 v
          go_meet
          exact ⟨_, Hm, Ha, Lib.hid (bad4 HK.out 1 0 0 0 (by decide)), Lib.hid ((((HN.out.set (j := 1) (x := 1) (by decide)).set (j := 5) (x := 0) (by decide)).set (j := 6) (x := 0) (by decide)).set (j := 10) (x := 0) (by decide)), HBB⟩
        · skip
          obtain ⟨v, c0, f0⟩ := (show MsgAt (u5.alloc (.cells #[.int .u64 1, .int .u64 0, .int .u64 0, .int .u64 0] 22)) qa N from Ha.out.below (below_alloc _ _)).any (j := 1) (by omega)
          go_upto_region 7 with fail
          obtain ⟨u6, hu6⟩ : ∃ wx, wx = (u5.alloc (.cells #[.int .u64 1, .int .u64 0, .int .u64 0, .int .u64 0] 22)).setCell ⟨qa, 1, none⟩ (.int .u64 0) := ⟨_, rfl⟩
          have hb : Below u5.heap.size u5 (u5.alloc (.cells #[.int .u64 1, .int .u64 0, .int .u64 0, .int .u64 0] 22)) := below_alloc _ _
          have hc : Chg (fun k => k = qa) (u5.alloc (.cells #[.int .u64 1, .int .u64 0, .int .u64 0, .int .u64 0] 22)) u6 := by rw [hu6]; exact Chg.setCell _ _ _ _
          replace Hm := Lib.hid ((Hm.out.below hb).chg hc HNma.out)
          replace Ha : Hid (MsgAt u6 qa (N.set 1 0)) := Lib.hid (by rw [hu6]; exact (Ha.out.below hb).set (by decide) (by decide) 0)
          have HB1 : Below w.heap.size w (u5.alloc (.cells #[.int .u64 1, .int .u64 0, .int .u64 0, .int .u64 0] 22)) := HBB.out.trans (hb.mono HBB.out.size)
          replace HBB := Lib.hid (Chg.out HB1 hc HQa.out HB1.size)
          rw [← hu6]
          clear HB1 hb hc hu6 c0 f0 v
          obtain ⟨v, c0, f0⟩ := (show MsgAt (u6.alloc (.cells #[.int .i64 0, .int .i64 1, .int .i64 0, .int .i64 0] 3)) qa (N.set 1 0) from Ha.out.below (below_alloc _ _)).any (j := 5) (by omega)
          go_upto_region 8 with fail
          obtain ⟨u7, hu7⟩ : ∃ wx, wx = (u6.alloc (.cells #[.int .i64 0, .int .i64 1, .int .i64 0, .int .i64 0] 3)).setCell ⟨qa, 5, none⟩ (.int .i64 1) := ⟨_, rfl⟩
          have hb : Below u6.heap.size u6 (u6.alloc (.cells #[.int .i64 0, .int .i64 1, .int .i64 0, .int .i64 0] 3)) := below_alloc _ _
          have hc : Chg (fun k => k = qa) (u6.alloc (.cells #[.int .i64 0, .int .i64 1, .int .i64 0, .int .i64 0] 3)) u7 := by rw [hu7]; exact Chg.setCell _ _ _ _
          replace Hm := Lib.hid ((Hm.out.below hb).chg hc HNma.out)
          replace Ha : Hid (MsgAt u7 qa ((N.set 1 0).set 5 1)) := Lib.hid (by rw [hu7]; exact (Ha.out.below hb).set (by decide) (by decide) 1)
          have HB1 : Below w.heap.size w (u6.alloc (.cells #[.int .i64 0, .int .i64 1, .int .i64 0, .int .i64 0] 3)) := HBB.out.trans (hb.mono HBB.out.size)
          replace HBB := Lib.hid (Chg.out HB1 hc HQa.out HB1.size)
          rw [← hu7]
          clear HB1 hb hc hu7 c0 f0 v
          obtain ⟨v, c0, f0⟩ := (show MsgAt (u7.alloc (.cells #[.int .i64 0, .int .i64 0, .int .i64 1, .int .i64 0] 3)) qa ((N.set 1 0).set 5 1) from Ha.out.below (below_alloc _ _)).any (j := 6) (by omega)
          go_upto_region 9 with fail
          obtain ⟨u8, hu8⟩ : ∃ wx, wx = (u7.alloc (.cells #[.int .i64 0, .int .i64 0, .int .i64 1, .int .i64 0] 3)).setCell ⟨qa, 6, none⟩ (.int .i64 0) := ⟨_, rfl⟩
          have hb : Below u7.heap.size u7 (u7.alloc (.cells #[.int .i64 0, .int .i64 0, .int .i64 1, .int .i64 0] 3)) := below_alloc _ _
          have hc : Chg (fun k => k = qa) (u7.alloc (.cells #[.int .i64 0, .int .i64 0, .int .i64 1, .int .i64 0] 3)) u8 := by rw [hu8]; exact Chg.setCell _ _ _ _
          replace Hm := Lib.hid ((Hm.out.below hb).chg hc HNma.out)
          replace Ha : Hid (MsgAt u8 qa (((N.set 1 0).set 5 1).set 6 0)) := Lib.hid (by rw [hu8]; exact (Ha.out.below hb).set (by decide) (by decide) 0)
          have HB1 : Below w.heap.size w (u7.alloc (.cells #[.int .i64 0, .int .i64 0, .int .i64 1, .int .i64 0] 3)) := HBB.out.trans (hb.mono HBB.out.size)
          replace HBB := Lib.hid (Chg.out HB1 hc HQa.out HB1.size)
          rw [← hu8]
          clear HB1 hb hc hu8 c0 f0 v
          obtain ⟨v, c0, f0⟩ := (show MsgAt (u8.alloc (.cells #[.int .i64 0, .int .i64 0, .int .i64 0, .int .i64 1] 3)) qa (((N.set 1 0).set 5 1).set 6 0) from Ha.out.below (below_alloc _ _)).any (j := 10) (by omega)
          go_wp2_with fail
          obtain ⟨u9, hu9⟩ : ∃ wx, wx = (u8.alloc (.cells #[.int .i64 0, .int .i64 0, .int .i64 0, .int .i64 1] 3)).setCell ⟨qa, 10, none⟩ (.int .i64 0) := ⟨_, rfl⟩
          have hb : Below u8.heap.size u8 (u8.alloc (.cells #[.int .i64 0, .int .i64 0, .int .i64 0, .int .i64 1] 3)) := below_alloc _ _
          have hc : Chg (fun k => k = qa) (u8.alloc (.cells #[.int .i64 0, .int .i64 0, .int .i64 0, .int .i64 1] 3)) u9 := by rw [hu9]; exact Chg.setCell _ _ _ _
          replace Hm := Lib.hid ((Hm.out.below hb).chg hc HNma.out)
          replace Ha : Hid (MsgAt u9 qa ((((N.set 1 0).set 5 1).set 6 0).set 10 0)) := Lib.hid (by rw [hu9]; exact (Ha.out.below hb).set (by decide) (by decide) 0)
          have HB1 : Below w.heap.size w (u8.alloc (.cells #[.int .i64 0, .int .i64 0, .int .i64 0, .int .i64 1] 3)) := HBB.out.trans (hb.mono HBB.out.size)
          replace HBB := Lib.hid (Chg.out HB1 hc HQa.out HB1.size)
          rw [← hu9]
          clear HB1 hb hc hu9 c0 f0 v
          go_meet
          exact ⟨_, Hm, Ha, Lib.hid (bad4 HK.out 0 1 0 0 (by decide)), Lib.hid ((((HN.out.set (j := 1) (x := 0) (by decide)).set (j := 5) (x := 1) (by decide)).set (j := 6) (x := 0) (by decide)).set (j := 10) (x := 0) (by decide)), HBB⟩
        · skip
          obtain ⟨v, c0, f0⟩ := (show MsgAt (u5.alloc (.cells #[.int .u64 1, .int .u64 0, .int .u64 0, .int .u64 0] 22)) qa N from Ha.out.below (below_alloc _ _)).any (j := 1) (by omega)
          go_upto_region 7 with fail
          obtain ⟨u6, hu6⟩ : ∃ wx, wx = (u5.alloc (.cells #[.int .u64 1, .int .u64 0, .int .u64 0, .int .u64 0] 22)).setCell ⟨qa, 1, none⟩ (.int .u64 0) := ⟨_, rfl⟩
          have hb : Below u5.heap.size u5 (u5.alloc (.cells #[.int .u64 1, .int .u64 0, .int .u64 0, .int .u64 0] 22)) := below_alloc _ _
          have hc : Chg (fun k => k = qa) (u5.alloc (.cells #[.int .u64 1, .int .u64 0, .int .u64 0, .int .u64 0] 22)) u6 := by rw [hu6]; exact Chg.setCell _ _ _ _
          replace Hm := Lib.hid ((Hm.out.below hb).chg hc HNma.out)
          replace Ha : Hid (MsgAt u6 qa (N.set 1 0)) := Lib.hid (by rw [hu6]; exact (Ha.out.below hb).set (by decide) (by decide) 0)
          have HB1 : Below w.heap.size w (u5.alloc (.cells #[.int .u64 1, .int .u64 0, .int .u64 0, .int .u64 0] 22)) := HBB.out.trans (hb.mono HBB.out.size)
          replace HBB := Lib.hid (Chg.out HB1 hc HQa.out HB1.size)
          rw [← hu6]
          clear HB1 hb hc hu6 c0 f0 v
          obtain ⟨v, c0, f0⟩ := (show MsgAt (u6.alloc (.cells #[.int .i64 0, .int .i64 1, .int .i64 0, .int .i64 0] 3)) qa (N.set 1 0) from Ha.out.below (below_alloc _ _)).any (j := 5) (by omega)
          go_upto_region 8 with fail
          obtain ⟨u7, hu7⟩ : ∃ wx, wx = (u6.alloc (.cells #[.int .i64 0, .int .i64 1, .int .i64 0, .int .i64 0] 3)).setCell ⟨qa, 5, none⟩ (.int .i64 0) := ⟨_, rfl⟩
          have hb : Below u6.heap.size u6 (u6.alloc (.cells #[.int .i64 0, .int .i64 1, .int .i64 0, .int .i64 0] 3)) := below_alloc _ _
          have hc : Chg (fun k => k = qa) (u6.alloc (.cells #[.int .i64 0, .int .i64 1, .int .i64 0, .int .i64 0] 3)) u7 := by rw [hu7]; exact Chg.setCell _ _ _ _
          replace Hm := Lib.hid ((Hm.out.below hb).chg hc HNma.out)
          replace Ha : Hid (MsgAt u7 qa ((N.set 1 0).set 5 0)) := Lib.hid (by rw [hu7]; exact (Ha.out.below hb).set (by decide) (by decide) 0)
          have HB1 : Below w.heap.size w (u6.alloc (.cells #[.int .i64 0, .int .i64 1, .int .i64 0, .int .i64 0] 3)) := HBB.out.trans (hb.mono HBB.out.size)
          replace HBB := Lib.hid (Chg.out HB1 hc HQa.out HB1.size)
          rw [← hu7]
          clear HB1 hb hc hu7 c0 f0 v
          obtain ⟨v, c0, f0⟩ := (show MsgAt (u7.alloc (.cells #[.int .i64 0, .int .i64 0, .int .i64 1, .int .i64 0] 3)) qa ((N.set 1 0).set 5 0) from Ha.out.below (below_alloc _ _)).any (j := 6) (by omega)
          go_upto_region 9 with fail
          obtain ⟨u8, hu8⟩ : ∃ wx, wx = (u7.alloc (.cells #[.int .i64 0, .int .i64 0, .int .i64 1, .int .i64 0] 3)).setCell ⟨qa, 6, none⟩ (.int .i64 1) := ⟨_, rfl⟩
          have hb : Below u7.heap.size u7 (u7.alloc (.cells #[.int .i64 0, .int .i64 0, .int .i64 1, .int .i64 0] 3)) := below_alloc _ _
          have hc : Chg (fun k => k = qa) (u7.alloc (.cells #[.int .i64 0, .int .i64 0, .int .i64 1, .int .i64 0] 3)) u8 := by rw [hu8]; exact Chg.setCell _ _ _ _
          replace Hm := Lib.hid ((Hm.out.below hb).chg hc HNma.out)
          replace Ha : Hid (MsgAt u8 qa (((N.set 1 0).set 5 0).set 6 1)) := Lib.hid (by rw [hu8]; exact (Ha.out.below hb).set (by decide) (by decide) 1)
          have HB1 : Below w.heap.size w (u7.alloc (.cells #[.int .i64 0, .int .i64 0, .int .i64 1, .int .i64 0] 3)) := HBB.out.trans (hb.mono HBB.out.size)
          replace HBB := Lib.hid (Chg.out HB1 hc HQa.out HB1.size)
          rw [← hu8]
          clear HB1 hb hc hu8 c0 f0 v
          obtain ⟨v, c0, f0⟩ := (show MsgAt (u8.alloc (.cells #[.int .i64 0, .int .i64 0, .int .i64 0, .int .i64 1] 3)) qa (((N.set 1 0).set 5 0).set 6 1) from Ha.out.below (below_alloc _ _)).any (j := 10) (by omega)
          go_wp2_with fail
          obtain ⟨u9, hu9⟩ : ∃ wx, wx = (u8.alloc (.cells #[.int .i64 0, .int .i64 0, .int .i64 0, .int .i64 1] 3)).setCell ⟨qa, 10, none⟩ (.int .i64 0) := ⟨_, rfl⟩
          have hb : Below u8.heap.size u8 (u8.alloc (.cells #[.int .i64 0, .int .i64 0, .int .i64 0, .int .i64 1] 3)) := below_alloc _ _
          have hc : Chg (fun k => k = qa) (u8.alloc (.cells #[.int .i64 0, .int .i64 0, .int .i64 0, .int .i64 1] 3)) u9 := by rw [hu9]; exact Chg.setCell _ _ _ _
          replace Hm := Lib.hid ((Hm.out.below hb).chg hc HNma.out)
          replace Ha : Hid (MsgAt u9 qa ((((N.set 1 0).set 5 0).set 6 1).set 10 0)) := Lib.hid (by rw [hu9]; exact (Ha.out.below hb).set (by decide) (by decide) 0)
          have HB1 : Below w.heap.size w (u8.alloc (.cells #[.int .i64 0, .int .i64 0, .int .i64 0, .int .i64 1] 3)) := HBB.out.trans (hb.mono HBB.out.size)
          replace HBB := Lib.hid (Chg.out HB1 hc HQa.out HB1.size)
          rw [← hu9]
          clear HB1 hb hc hu9 c0 f0 v
          go_meet
          exact ⟨_, Hm, Ha, Lib.hid (bad4 HK.out 0 0 1 0 (by decide)), Lib.hid ((((HN.out.set (j := 1) (x := 0) (by decide)).set (j := 5) (x := 0) (by decide)).set (j := 6) (x := 1) (by decide)).set (j := 10) (x := 0) (by decide)), HBB⟩
        · skip
          obtain ⟨v, c0, f0⟩ := (show MsgAt (u5.alloc (.cells #[.int .u64 1, .int .u64 0, .int .u64 0, .int .u64 0] 22)) qa N from Ha.out.below (below_alloc _ _)).any (j := 1) (by omega)
          go_upto_region 7 with fail
          obtain ⟨u6, hu6⟩ : ∃ wx, wx = (u5.alloc (.cells #[.int .u64 1, .int .u64 0, .int .u64 0, .int .u64 0] 22)).setCell ⟨qa, 1, none⟩ (.int .u64 0) := ⟨_, rfl⟩
          have hb : Below u5.heap.size u5 (u5.alloc (.cells #[.int .u64 1, .int .u64 0, .int .u64 0, .int .u64 0] 22)) := below_alloc _ _
          have hc : Chg (fun k => k = qa) (u5.alloc (.cells #[.int .u64 1, .int .u64 0, .int .u64 0, .int .u64 0] 22)) u6 := by rw [hu6]; exact Chg.setCell _ _ _ _
          replace Hm := Lib.hid ((Hm.out.below hb).chg hc HNma.out)
          replace Ha : Hid (MsgAt u6 qa (N.set 1 0)) := Lib.hid (by rw [hu6]; exact (Ha.out.below hb).set (by decide) (by decide) 0)
          have HB1 : Below w.heap.size w (u5.alloc (.cells #[.int .u64 1, .int .u64 0, .int .u64 0, .int .u64 0] 22)) := HBB.out.trans (hb.mono HBB.out.size)
          replace HBB := Lib.hid (Chg.out HB1 hc HQa.out HB1.size)
          rw [← hu6]
          clear HB1 hb hc hu6 c0 f0 v
          obtain ⟨v, c0, f0⟩ := (show MsgAt (u6.alloc (.cells #[.int .i64 0, .int .i64 1, .int .i64 0, .int .i64 0] 3)) qa (N.set 1 0) from Ha.out.below (below_alloc _ _)).any (j := 5) (by omega)
          go_upto_region 8 with fail
          obtain ⟨u7, hu7⟩ : ∃ wx, wx = (u6.alloc (.cells #[.int .i64 0, .int .i64 1, .int .i64 0, .int .i64 0] 3)).setCell ⟨qa, 5, none⟩ (.int .i64 0) := ⟨_, rfl⟩
          have hb : Below u6.heap.size u6 (u6.alloc (.cells #[.int .i64 0, .int .i64 1, .int .i64 0, .int .i64 0] 3)) := below_alloc _ _
          have hc : Chg (fun k => k = qa) (u6.alloc (.cells #[.int .i64 0, .int .i64 1, .int .i64 0, .int .i64 0] 3)) u7 := by rw [hu7]; exact Chg.setCell _ _ _ _
          replace Hm := Lib.hid ((Hm.out.below hb).chg hc HNma.out)
          replace Ha : Hid (MsgAt u7 qa ((N.set 1 0).set 5 0)) := Lib.hid (by rw [hu7]; exact (Ha.out.below hb).set (by decide) (by decide) 0)
          have HB1 : Below w.heap.size w (u6.alloc (.cells #[.int .i64 0, .int .i64 1, .int .i64 0, .int .i64 0] 3)) := HBB.out.trans (hb.mono HBB.out.size)
          replace HBB := Lib.hid (Chg.out HB1 hc HQa.out HB1.size)
          rw [← hu7]
          clear HB1 hb hc hu7 c0 f0 v
          obtain ⟨v, c0, f0⟩ := (show MsgAt (u7.alloc (.cells #[.int .i64 0, .int .i64 0, .int .i64 1, .int .i64 0] 3)) qa ((N.set 1 0).set 5 0) from Ha.out.below (below_alloc _ _)).any (j := 6) (by omega)
          go_upto_region 9 with fail
          obtain ⟨u8, hu8⟩ : ∃ wx, wx = (u7.alloc (.cells #[.int .i64 0, .int .i64 0, .int .i64 1, .int .i64 0] 3)).setCell ⟨qa, 6, none⟩ (.int .i64 0) := ⟨_, rfl⟩
          have hb : Below u7.heap.size u7 (u7.alloc (.cells #[.int .i64 0, .int .i64 0, .int .i64 1, .int .i64 0] 3)) := below_alloc _ _
          have hc : Chg (fun k => k = qa) (u7.alloc (.cells #[.int .i64 0, .int .i64 0, .int .i64 1, .int .i64 0] 3)) u8 := by rw [hu8]; exact Chg.setCell _ _ _ _
          replace Hm := Lib.hid ((Hm.out.below hb).chg hc HNma.out)
          replace Ha : Hid (MsgAt u8 qa (((N.set 1 0).set 5 0).set 6 0)) := Lib.hid (by rw [hu8]; exact (Ha.out.below hb).set (by decide) (by decide) 0)
          have HB1 : Below w.heap.size w (u7.alloc (.cells #[.int .i64 0, .int .i64 0, .int .i64 1, .int .i64 0] 3)) := HBB.out.trans (hb.mono HBB.out.size)
          replace HBB := Lib.hid (Chg.out HB1 hc HQa.out HB1.size)
          rw [← hu8]
          clear HB1 hb hc hu8 c0 f0 v
          obtain ⟨v, c0, f0⟩ := (show MsgAt (u8.alloc (.cells #[.int .i64 0, .int .i64 0, .int .i64 0, .int .i64 1] 3)) qa (((N.set 1 0).set 5 0).set 6 0) from Ha.out.below (below_alloc _ _)).any (j := 10) (by omega)
          go_wp2_with fail
          obtain ⟨u9, hu9⟩ : ∃ wx, wx = (u8.alloc (.cells #[.int .i64 0, .int .i64 0, .int .i64 0, .int .i64 1] 3)).setCell ⟨qa, 10, none⟩ (.int .i64 1) := ⟨_, rfl⟩
          have hb : Below u8.heap.size u8 (u8.alloc (.cells #[.int .i64 0, .int .i64 0, .int .i64 0, .int .i64 1] 3)) := below_alloc _ _
          have hc : Chg (fun k => k = qa) (u8.alloc (.cells #[.int .i64 0, .int .i64 0, .int .i64 0, .int .i64 1] 3)) u9 := by rw [hu9]; exact Chg.setCell _ _ _ _
          replace Hm := Lib.hid ((Hm.out.below hb).chg hc HNma.out)
          replace Ha : Hid (MsgAt u9 qa ((((N.set 1 0).set 5 0).set 6 0).set 10 1)) := Lib.hid (by rw [hu9]; exact (Ha.out.below hb).set (by decide) (by decide) 1)
          have HB1 : Below w.heap.size w (u8.alloc (.cells #[.int .i64 0, .int .i64 0, .int .i64 0, .int .i64 1] 3)) := HBB.out.trans (hb.mono HBB.out.size)
          replace HBB := Lib.hid (Chg.out HB1 hc HQa.out HB1.size)
          rw [← hu9]
          clear HB1 hb hc hu9 c0 f0 v
          go_meet
          exact ⟨_, Hm, Ha, Lib.hid (bad4 HK.out 0 0 0 1 (by decide)), Lib.hid ((((HN.out.set (j := 1) (x := 0) (by decide)).set (j := 5) (x := 0) (by decide)).set (j := 6) (x := 0) (by decide)).set (j := 10) (x := 1) (by decide)), HBB⟩
    case rest =>
      obtain ⟨A, Hm2, Ha2, HRA, HAW, HBB2⟩ := hcut
      clear HBB Hm Ha
      have Hm := Hm2
      have Ha := Ha2
      have HBB := HBB2
      clear Hm2 Ha2 HBB2
      rename World => wr
      have HEA : Hid (encM A = ⟨#[]⟩) := Lib.hid (enc_no HRA.out)
      obtain ⟨km0, km1, km2, km3, km4, km5, km6, km7, km8, km9, km10, km11, km12⟩ := Hm.out.cells
      go_upto_region 26 with fail
      clear km0 km1 km2 km3 km4 km5 km6 km7 km8 km9 km10 km11 km12
      obtain ⟨u6, hu6⟩ : ∃ wx, wx = wr.alloc (.cells #[.int .i64 (N.i 0), .int .u64 (N.i 1), .int .u64 (N.i 2), .string N.s, .int .i64 (N.i 4), .int .i64 (N.i 5), .int .i64 (N.i 6), .int .i64 (N.i 7), .int .i64 (N.i 8), .int .i64 (N.i 9), .int .i64 (N.i 10), .int .u64 (N.i 11), .int .u64 (N.i 12)] 24) := ⟨_, rfl⟩
      obtain ⟨qb, hqb⟩ : ∃ q, q = wr.heap.size := ⟨_, rfl⟩
      have Hb : Hid (MsgAt u6 qb N) := Lib.hid (by rw [hu6, hqb]; exact heap_alloc_new wr _)
      have HNmb : Hid (qm ≠ qb) := Lib.hid (by have := Hm.out.lt; omega)
      replace Hm := Lib.hid (Hm.out.below (show Below wr.heap.size wr u6 by rw [hu6]; exact below_alloc _ _))
      have HNab : Hid (qa ≠ qb) := Lib.hid (by have := Ha.out.lt; omega)
      replace Ha := Lib.hid (Ha.out.below (show Below wr.heap.size wr u6 by rw [hu6]; exact below_alloc _ _))
      have HQb : Hid (w.heap.size ≤ qb) := Lib.hid (by rw [hqb]; exact HBB.out.size)
      replace HBB := Lib.hid (HBB.out.trans ((show Below wr.heap.size wr u6 by rw [hu6]; exact below_alloc _ _).mono HBB.out.size))
      rw [← hu6]
      clear hu6
      rw [← hqb]
      clear hqb
      obtain ⟨x, hx⟩ : ∃ x : Int, x = 1 + (y : Int) := ⟨_, rfl⟩
      rw [← hx]
      have HX : Hid (1 ≤ x ∧ x ≤ 65536) := Lib.hid (by omega)
      clear hx
      by_cases hk3 : N.i 0 = 3
      · skip
        have e1 : (N.i 0 != 3) = false := by rw [hk3]; rfl
        have e2 : (N.i 0 == 3) = true := by rw [hk3]; rfl
        have HK0 : Hid (N.i 0 = N.i 0) := Lib.hid rfl
        have HBW := HN
        have HBR := HR
        have HANY : Hid (∀ L, namesM N = L → (true || L.any (fun z => z == x)) = true) := Lib.hid (fun _ _ => rfl)
        clear hk3
        obtain ⟨km0, km1, km2, km3, km4, km5, km6, km7, km8, km9, km10, km11, km12⟩ := Hm.out.cells
        obtain ⟨kb0, kb1, kb2, kb3, kb4, kb5, kb6, kb7, kb8, kb9, kb10, kb11, kb12⟩ := Hb.out.cells
        go_wp2_with fail
        clear km0 km1 km2 km3 km4 km5 km6 km7 km8 km9 km10 km11 km12
        clear kb0 kb1 kb2 kb3 kb4 kb5 kb6 kb7 kb8 kb9 kb10 kb11 kb12
        clear e1 e2
        obtain ⟨L, hL⟩ : ∃ L, namesM N = L := ⟨_, rfl⟩
        have HLB := Lib.hid hL
        clear hL
        refine (names_l N _ HBW.out).mono ?_
        rintro e w7 ⟨a, n, cap, rfl, hn, hrow, hb⟩
        rw [HLB.out] at hn hrow
        have HL := Lib.hid hn
        have HROW := Lib.hid hrow
        have HL8 : Hid (n ≤ 8) := Lib.hid (by rw [hn, ← HLB.out]; exact names_le _)
        clear hn hrow
        replace Hm := Lib.hid (Hm.out.below hb)
        replace Ha := Lib.hid (Ha.out.below hb)
        replace Hb := Lib.hid (Hb.out.below hb)
        replace HBB := Lib.hid (HBB.out.trans (hb.mono HBB.out.size))
        clear hb
        go_wp2_with fail
        go_loopw [10, 12] (fun s i wq => ∃ (k : Nat) (b : Bool), k ≤ n ∧ s = .bool b ∧ i = .int .i64 k ∧ wq = w7 ∧ Hid (b = (true || (L.take k).any (fun z => z == x)))) (fun _ i _ => n - (intOf i).toNat)
        case atStart => exact ⟨0, true, Nat.zero_le _, rfl, rfl, rfl, Lib.hid (by simp)⟩
        case round =>
          obtain ⟨k, b, hk, rfl, rfl, rfl, HB⟩ := hrel
          by_cases hlt : k < n
          · have e1 : decide (k < n) = true := by simpa using hlt
            have h3 : (k : Int) < (n : Int) := by omega
            have h8 : n ≤ 8 := HL8.out
            have HI := Lib.hid hlt
            have HT : Hid ((L.take (k + 1)).any (fun z => z == x) = ((L.take k).any (fun z => z == x) || L.getD k 0 == x)) := Lib.hid (any_take (by rw [← HL.out]; exact hlt) x)
            obtain ⟨q1, q2, bk, off, q3⟩ := HROW.out
            obtain ⟨hqa, hc⟩ := q3 k (by rw [← HL.out]; exact hlt)
            subst hqa
            obtain ⟨z, hz⟩ : ∃ z, z = L.getD k 0 := ⟨_, rfl⟩
            rw [← hz] at hc HT
            clear hz q1 q2 q3 hlt hk
            cases b with
            | true =>
              go_wp2_with fail
              go_roundw
              case rel => exact ⟨k + 1, true, by have := HI.out; omega, rfl, by go_num, trivial, Lib.hid (by rw [HT.out, ← Bool.or_assoc, ← HB.out]; rfl)⟩
              case measure => have := HI.out; simp [intOf]; omega
            | false =>
              go_wp2_with fail
              go_roundw
              case rel => exact ⟨k + 1, z == x, by have := HI.out; omega, rfl, by go_num, trivial, Lib.hid (by rw [HT.out, ← Bool.or_assoc, ← HB.out]; rfl)⟩
              case measure => have := HI.out; simp [intOf]; omega
          · have e1 : decide (k < n) = false := by simpa using hlt
            have hbt : b = true := by
              rw [HB.out, List.take_of_length_le (by rw [← HL.out]; omega)]
              exact HANY.out L HLB.out
            subst hbt
            clear HB hlt hk
            obtain ⟨ka0, ka1, ka2, ka3, ka4, ka5, ka6, ka7, ka8, ka9, ka10, ka11, ka12⟩ := Ha.out.cells
            go_wp2_with fail
            clear ka0 ka1 ka2 ka3 ka4 ka5 ka6 ka7 ka8 ka9 ka10 ka11 ka12
            refine (right_k A _ HAW.out false HRA).mono ?_
            rintro e w8 ⟨rfl, hb⟩
            replace Hm := Lib.hid (Hm.out.below hb)
            replace Ha := Lib.hid (Ha.out.below hb)
            replace Hb := Lib.hid (Hb.out.below hb)
            replace HBB := Lib.hid (HBB.out.trans (hb.mono HBB.out.size))
            clear hb
            obtain ⟨ka0, ka1, ka2, ka3, ka4, ka5, ka6, ka7, ka8, ka9, ka10, ka11, ka12⟩ := Ha.out.cells
            go_wp2_with fail
            clear ka0 ka1 ka2 ka3 ka4 ka5 ka6 ka7 ka8 ka9 ka10 ka11 ka12
            refine (enc_k A _ HAW.out ⟨#[]⟩ HEA).mono ?_
            rintro e w9 ⟨rfl, hb⟩
            replace Hm := Lib.hid (Hm.out.below hb)
            replace Ha := Lib.hid (Ha.out.below hb)
            replace Hb := Lib.hid (Hb.out.below hb)
            replace HBB := Lib.hid (HBB.out.trans (hb.mono HBB.out.size))
            clear hb
            obtain ⟨kb0, kb1, kb2, kb3, kb4, kb5, kb6, kb7, kb8, kb9, kb10, kb11, kb12⟩ := Hb.out.cells
            go_wp2_with fail
            clear kb0 kb1 kb2 kb3 kb4 kb5 kb6 kb7 kb8 kb9 kb10 kb11 kb12
            refine (right_k N _ HBW.out true HBR).mono ?_
            rintro e w10 ⟨rfl, hb⟩
            replace Hm := Lib.hid (Hm.out.below hb)
            replace Ha := Lib.hid (Ha.out.below hb)
            replace Hb := Lib.hid (Hb.out.below hb)
            replace HBB := Lib.hid (HBB.out.trans (hb.mono HBB.out.size))
            clear hb
            obtain ⟨km0, km1, km2, km3, km4, km5, km6, km7, km8, km9, km10, km11, km12⟩ := Hm.out.cells
            go_wp2_with fail
            clear km0 km1 km2 km3 km4 km5 km6 km7 km8 km9 km10 km11 km12
            refine (names_l N _ HN.out).mono ?_
            rintro e w11 ⟨a2, n2, cap2, rfl, hn2, _, hb⟩
            obtain rfl : n = n2 := by rw [HL.out, hn2, ← HLB.out]; first | done | exact names_len HK0.out
            clear hn2
            replace Hm := Lib.hid (Hm.out.below hb)
            replace Ha := Lib.hid (Ha.out.below hb)
            replace Hb := Lib.hid (Hb.out.below hb)
            replace HBB := Lib.hid (HBB.out.trans (hb.mono HBB.out.size))
            clear hb
            go_wp2_with fail
            refine (fixed_any _).mono ?_
            rintro e w12 ⟨rfl, hb⟩
            replace Hm := Lib.hid (Hm.out.below hb)
            replace Ha := Lib.hid (Ha.out.below hb)
            replace Hb := Lib.hid (Hb.out.below hb)
            replace HBB := Lib.hid (HBB.out.trans (hb.mono HBB.out.size))
            clear hb
            go_wp2_with fail
            go_ret
            exact ⟨rfl, HBB.out⟩
      · skip
        have e1 : (N.i 0 != 3) = true := by simp [hk3]
        have e2 : (N.i 0 == 3) = false := by simp [hk3]
        have hB9 := set9_right HR.out hk3 HX.out.1 (by have := HX.out.2; omega)
        obtain ⟨B, hB⟩ : ∃ B, B = N.set 9 x := ⟨_, rfl⟩
        have HBR : Hid (rightM B = true) := Lib.hid (by rw [hB]; exact hB9)
        have HBW : Hid B.Wf := Lib.hid (right_wf HBR.out)
        have HK0 : Hid (B.i 0 = N.i 0) := Lib.hid (by rw [hB]; rfl)
        have HANY : Hid (∀ L, namesM B = L → (false || L.any (fun z => z == x)) = true) := Lib.hid (fun L h => by rw [← h, hB, Bool.false_or]; exact names_has HR.out hk3 x)
        have HBE := Lib.hid hB
        clear hB9 hk3 hB
        obtain ⟨v, c9, f9⟩ := Hb.out.any (j := 9) (by omega)
        obtain ⟨ks0, ks1, ks2, ks3, ks4, ks5, ks6, ks7, ks8, ks9, ks10, ks11, ks12⟩ := (show MsgAt (u6.setCell ⟨qb, 9, none⟩ (.int .i64 x)) qb B by rw [HBE.out]; exact Hb.out.set (by decide) (by decide) x).cells
        obtain ⟨kt0, kt1, kt2, kt3, kt4, kt5, kt6, kt7, kt8, kt9, kt10, kt11, kt12⟩ := (show MsgAt (u6.setCell ⟨qb, 9, none⟩ (.int .i64 x)) qm N from Hm.out.chg (Chg.setCell _ _ _ _) HNmb.out).cells
        obtain ⟨km0, km1, km2, km3, km4, km5, km6, km7, km8, km9, km10, km11, km12⟩ := Hm.out.cells
        go_wp2_with fail
        clear km0 km1 km2 km3 km4 km5 km6 km7 km8 km9 km10 km11 km12
        clear ks0 ks1 ks2 ks3 ks4 ks5 ks6 ks7 ks8 ks9 ks10 ks11 ks12 kt0 kt1 kt2 kt3 kt4 kt5 kt6 kt7 kt8 kt9 kt10 kt11 kt12 e1 e2
        obtain ⟨u7, hu7⟩ : ∃ wx, wx = u6.setCell ⟨qb, 9, none⟩ (.int .i64 x) := ⟨_, rfl⟩
        have hc : Chg (fun k => k = qb) u6 u7 := by rw [hu7]; exact Chg.setCell _ _ _ _
        replace Hb : Hid (MsgAt u7 qb B) := Lib.hid (by rw [hu7, HBE.out]; exact Hb.out.set (by decide) (by decide) x)
        replace Hm := Lib.hid (Hm.out.chg hc HNmb.out)
        replace Ha := Lib.hid (Ha.out.chg hc HNab.out)
        replace HBB := Lib.hid (Chg.out HBB.out hc HQb.out HBB.out.size)
        rw [← hu7]
        clear hc hu7 HBE c9 f9 v
        obtain ⟨L, hL⟩ : ∃ L, namesM B = L := ⟨_, rfl⟩
        have HLB := Lib.hid hL
        clear hL
        refine (names_l B _ HBW.out).mono ?_
        rintro e w8 ⟨a, n, cap, rfl, hn, hrow, hb⟩
        rw [HLB.out] at hn hrow
        have HL := Lib.hid hn
        have HROW := Lib.hid hrow
        have HL8 : Hid (n ≤ 8) := Lib.hid (by rw [hn, ← HLB.out]; exact names_le _)
        clear hn hrow
        replace Hm := Lib.hid (Hm.out.below hb)
        replace Ha := Lib.hid (Ha.out.below hb)
        replace Hb := Lib.hid (Hb.out.below hb)
        replace HBB := Lib.hid (HBB.out.trans (hb.mono HBB.out.size))
        clear hb
        go_wp2_with fail
        go_loopw [10, 12] (fun s i wq => ∃ (k : Nat) (b : Bool), k ≤ n ∧ s = .bool b ∧ i = .int .i64 k ∧ wq = w8 ∧ Hid (b = (false || (L.take k).any (fun z => z == x)))) (fun _ i _ => n - (intOf i).toNat)
        case atStart => exact ⟨0, false, Nat.zero_le _, rfl, rfl, rfl, Lib.hid (by simp)⟩
        case round =>
          obtain ⟨k, b, hk, rfl, rfl, rfl, HB⟩ := hrel
          by_cases hlt : k < n
          · have e1 : decide (k < n) = true := by simpa using hlt
            have h3 : (k : Int) < (n : Int) := by omega
            have h8 : n ≤ 8 := HL8.out
            have HI := Lib.hid hlt
            have HT : Hid ((L.take (k + 1)).any (fun z => z == x) = ((L.take k).any (fun z => z == x) || L.getD k 0 == x)) := Lib.hid (any_take (by rw [← HL.out]; exact hlt) x)
            obtain ⟨q1, q2, bk, off, q3⟩ := HROW.out
            obtain ⟨hqa, hc⟩ := q3 k (by rw [← HL.out]; exact hlt)
            subst hqa
            obtain ⟨z, hz⟩ : ∃ z, z = L.getD k 0 := ⟨_, rfl⟩
            rw [← hz] at hc HT
            clear hz q1 q2 q3 hlt hk
            cases b with
            | true =>
              go_wp2_with fail
              go_roundw
              case rel => exact ⟨k + 1, true, by have := HI.out; omega, rfl, by go_num, trivial, Lib.hid (by rw [HT.out, ← Bool.or_assoc, ← HB.out]; rfl)⟩
              case measure => have := HI.out; simp [intOf]; omega
            | false =>
              go_wp2_with fail
              go_roundw
              case rel => exact ⟨k + 1, z == x, by have := HI.out; omega, rfl, by go_num, trivial, Lib.hid (by rw [HT.out, ← Bool.or_assoc, ← HB.out]; rfl)⟩
              case measure => have := HI.out; simp [intOf]; omega
          · have e1 : decide (k < n) = false := by simpa using hlt
            have hbt : b = true := by
              rw [HB.out, List.take_of_length_le (by rw [← HL.out]; omega)]
              exact HANY.out L HLB.out
            subst hbt
            clear HB hlt hk
            obtain ⟨ka0, ka1, ka2, ka3, ka4, ka5, ka6, ka7, ka8, ka9, ka10, ka11, ka12⟩ := Ha.out.cells
            go_wp2_with fail
            clear ka0 ka1 ka2 ka3 ka4 ka5 ka6 ka7 ka8 ka9 ka10 ka11 ka12
            refine (right_k A _ HAW.out false HRA).mono ?_
            rintro e w9 ⟨rfl, hb⟩
            replace Hm := Lib.hid (Hm.out.below hb)
            replace Ha := Lib.hid (Ha.out.below hb)
            replace Hb := Lib.hid (Hb.out.below hb)
            replace HBB := Lib.hid (HBB.out.trans (hb.mono HBB.out.size))
            clear hb
            obtain ⟨ka0, ka1, ka2, ka3, ka4, ka5, ka6, ka7, ka8, ka9, ka10, ka11, ka12⟩ := Ha.out.cells
            go_wp2_with fail
            clear ka0 ka1 ka2 ka3 ka4 ka5 ka6 ka7 ka8 ka9 ka10 ka11 ka12
            refine (enc_k A _ HAW.out ⟨#[]⟩ HEA).mono ?_
            rintro e w10 ⟨rfl, hb⟩
            replace Hm := Lib.hid (Hm.out.below hb)
            replace Ha := Lib.hid (Ha.out.below hb)
            replace Hb := Lib.hid (Hb.out.below hb)
            replace HBB := Lib.hid (HBB.out.trans (hb.mono HBB.out.size))
            clear hb
            obtain ⟨kb0, kb1, kb2, kb3, kb4, kb5, kb6, kb7, kb8, kb9, kb10, kb11, kb12⟩ := Hb.out.cells
            go_wp2_with fail
            clear kb0 kb1 kb2 kb3 kb4 kb5 kb6 kb7 kb8 kb9 kb10 kb11 kb12
            refine (right_k B _ HBW.out true HBR).mono ?_
            rintro e w11 ⟨rfl, hb⟩
            replace Hm := Lib.hid (Hm.out.below hb)
            replace Ha := Lib.hid (Ha.out.below hb)
            replace Hb := Lib.hid (Hb.out.below hb)
            replace HBB := Lib.hid (HBB.out.trans (hb.mono HBB.out.size))
            clear hb
            obtain ⟨km0, km1, km2, km3, km4, km5, km6, km7, km8, km9, km10, km11, km12⟩ := Hm.out.cells
            go_wp2_with fail
            clear km0 km1 km2 km3 km4 km5 km6 km7 km8 km9 km10 km11 km12
            refine (names_l N _ HN.out).mono ?_
            rintro e w12 ⟨a2, n2, cap2, rfl, hn2, _, hb⟩
            obtain rfl : n = n2 := by rw [HL.out, hn2, ← HLB.out]; first | done | exact names_len HK0.out
            clear hn2
            replace Hm := Lib.hid (Hm.out.below hb)
            replace Ha := Lib.hid (Ha.out.below hb)
            replace Hb := Lib.hid (Hb.out.below hb)
            replace HBB := Lib.hid (HBB.out.trans (hb.mono HBB.out.size))
            clear hb
            go_wp2_with fail
            refine (fixed_any _).mono ?_
            rintro e w13 ⟨rfl, hb⟩
            replace Hm := Lib.hid (Hm.out.below hb)
            replace Ha := Lib.hid (Ha.out.below hb)
            replace Hb := Lib.hid (Hb.out.below hb)
            replace HBB := Lib.hid (HBB.out.trans (hb.mono HBB.out.size))
            clear hb
            go_wp2_with fail
            go_ret
            exact ⟨rfl, HBB.out⟩

theorem walk (M : Ms) (a1 a2 : Int) (w : World) (w0 : M.Wf) (n0 : Norm M) (w1 : (Lit.int .u8 a1).wf = true) (w2 : (Lit.int .u16 a2).wf = true) :
    Calls Try.prog 7 #[.agg M.cl, .int .u8 a1, .int .u16 a2] w fun e w' => e = .returned (.bool true) ∧ Below w.heap.size w w' := by
  obtain ⟨p, m0, u0, v0, x0⟩ := slice_facts M.s 30
  have b1 := bounds_u8 w1
  have b2 := bounds_u16 w2
  obtain ⟨f, rfl⟩ := Int.eq_ofNat_of_zero_le b1.1
  obtain ⟨y, rfl⟩ := Int.eq_ofNat_of_zero_le b2.1
  exact walkN M (M.setS p) f y w (w0.setS (Nat.le_trans u0 w0.s)) (n0.setS p) (fun u => cut_k M u w0 p m0 u0 x0) b1.2 b2.2

set_option maxRecDepth 100000 in
theorem lifted (os : Os) (started : os.Started) (H : Type) (enc : TypeId × Value → H) :
    ReturnsInHanded {} Try.checked os 7 .any (Rows.msgFieldsSpec.pre6 enc Try.prog Try.f7 Rows.msgFieldsRow.domain false) (Rows.msgFieldsSpec.post enc Try.prog Try.f7 false true false false) := by
  refine returnsInHanded_of_change (C := Try.checked) own started (by kernel_rfl) Try.func7
    (ChangeSpec.witness6 (enc := enc) (C := Try.checked) false ⟨#[], #[.agg #[.int .i64 0, .int .u64 0, .int .u64 0, .string ByteArray.empty, .int .i64 0, .int .i64 0, .int .i64 0, .int .i64 0, .int .i64 0, .int .i64 0, .int .i64 0, .int .u64 0, .int .u64 0], .int .u8 0, .int .u16 0], []⟩ 8 (by kernel_rfl) (by kernel_rfl) (by kernel_rfl) (by kernel_rfl)) ?_
  intro W base args ds gs before hval0 hW hcnd _
  have hval : ∀ (j : Nat) t v, Try.f7.params[j]? = some t → args[j]? = some v → Value.okWide Try.prog W .any base t v := hval0
  have hW' := hW
  obtain ⟨p, q, hA0, hV, rfl, hfz, hnd⟩ := hW
  have hA : DataW.TrodAll enc Try.prog W 0 (fun _ => true) true Try.f7.params.toList args.toList ds p := hA0
  rw [Try.params7] at hA hval
  obtain ⟨v0, vs0, d0, ds0, p0, q0, hargs, rfl, rfl, h0, r0⟩ := trodAll_cons hA
  obtain ⟨v1, vs1, d1, ds1, p1, q1, rfl, rfl, rfl, h1, r1⟩ := trodAll_cons r0
  obtain ⟨v2, vs2, d2, ds2, p2, q2, rfl, rfl, rfl, h2, r2⟩ := trodAll_cons r1
  obtain ⟨rfl, rfl, rfl⟩ := trodAll_nil r2
  obtain rfl : args = #[v0, v1, v2] := by cases args; simp_all
  obtain ⟨rfl, rfl⟩ := trodVars_none hV
  obtain ⟨cs0, rfl, hsz0⟩ : ∃ cs, v0 = .agg cs ∧ cs.size = Try.prog.cellsOf 24 := by
    have h := hval 0 24 v0 rfl rfl
    simp only [Value.okWide, Try.underlying24] at h
    obtain ⟨cs, e1, e2, _⟩ := h
    exact ⟨cs, e1, e2⟩
  have k0 := h0
  have lt0 : ∀ x ∈ p0, x.block < W.heap.size := by obtain ⟨m, hm⟩ := k0; exact DataW.trod_lt m _ _ _ hm
  obtain ⟨M0, rfl, w0, n0⟩ : ∃ M : Ms, cs0 = M.cl ∧ M.Wf ∧ Norm M := by
    obtain ⟨fuel, hf⟩ := h0
    exact open_msg hf
  obtain ⟨a1, rfl, rfl, rfl, w1⟩ := open_int Try.underlying5 (hval 1 5 v1 rfl rfl) h1
  obtain ⟨a2, rfl, rfl, rfl, w2⟩ := open_int Try.underlying46 (hval 2 46 v2 rfl rfl) h2
  clear hA0 hval0
  refine (walk M0 a1 a2 W w0 n0 w1 w2).mono fun e W' ⟨he, bel⟩ => ?_
  subst he
  exact ⟨_, rfl, _, _, _, [], _, [], hW', trodAll_mk1 (shut_bool Try.underlying4 _), (trodAll_cons_mk (Below.trod laidOut (by kernel_rfl) (of_decide_eq_true (by kernel_rfl)) k0 bel lt0) (trodAll_cons_mk (shut_int Try.underlying5 w1) (trodAll_cons_mk (shut_int Try.underlying46 w2) trodAll_mk0))), rfl, bel.frame _, fun h => by cases h⟩

theorem over : Rows.msgFieldsRow.holds Try.pinned (OpenSpec.ofChange Rows.msgFieldsSpec) :=
  OpenClaim.holds_of_wide 7 Try.f7 rfl rfl rfl rfl rfl rfl rfl ⟨rfl, rfl, rfl, rfl, rfl⟩ rfl rfl rfl rfl rfl (by kernel_rfl) Try.func7 (by kernel_rfl)
    (of_decide_eq_true (by kernel_rfl)) (by unfold Func.isWrapper; first | (rw [if_pos (by decide +kernel)]; kernel_rfl) | (rw [if_neg (by decide +kernel)]; exact ⟨rfl, rfl⟩))
    (fun os started H enc _ => lifted os started H enc)

theorem proved : Rows.MsgFieldsSaid := over
#print axioms proved
end Go.Proofs.Ytifpahjlmnimnaa.msgFields
