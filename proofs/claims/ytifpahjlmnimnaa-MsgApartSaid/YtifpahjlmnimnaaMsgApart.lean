/- MsgApart: two messages that may be have the same bytes just if they are the same. No condition. -/
import Derived.Test.YtifpahjlmnimnaaRows
import Derived.Test.YtifpahjlmnimnaaMsgV
import Derived.WalkKit
import Derived.ProofKit
import Derived.OpenShut
import Derived.ShutString
import Derived.ChangeOld
import Derived.Below
namespace Go.Proofs.Ytifpahjlmnimnaa.msgApart
open Go.ChangeShapes Go.WideShapes Go.ChangeAt Go.RowKit
open Go.ChangeMaps (open_string shut_string)
open Go.Proofs.Ytifpahjlmnimnaa
set_option linter.unusedVariables false
set_option linter.unusedSimpArgs false
set_option maxRecDepth 20000

theorem own : ownKnob Try.prog.godebug = none := by kernel_rfl
theorem laidOut : laidOutB Try.prog = true := by kernel_rfl
set_option maxHeartbeats 16000000 in
set_option maxRecDepth 100000 in
theorem walkN (M N X Y : Ms) (s t : ByteArray) (w : World) (hN : N.Wf) (hnN : Norm N) (hY : Y.Wf) (hnY : Norm Y) (hC : (∀ u, Calls Try.prog 9 #[.agg #[.int .i64 (M.i 0), .int .u64 (M.i 1), .int .u64 (M.i 2), .string M.s, .int .i64 (M.i 4), .int .i64 (M.i 5), .int .i64 (M.i 6), .int .i64 (M.i 7), .int .i64 (M.i 8), .int .i64 (M.i 9), .int .i64 (M.i 10), .int .u64 (M.i 11), .int .u64 (M.i 12)]] u fun e w' => e = .returned (.agg #[.int .i64 (N.i 0), .int .u64 (N.i 1), .int .u64 (N.i 2), .string N.s, .int .i64 (N.i 4), .int .i64 (N.i 5), .int .i64 (N.i 6), .int .i64 (N.i 7), .int .i64 (N.i 8), .int .i64 (N.i 9), .int .i64 (N.i 10), .int .u64 (N.i 11), .int .u64 (N.i 12)]) ∧ Below u.heap.size u w')) (hC2 : (∀ u, Calls Try.prog 9 #[.agg #[.int .i64 (X.i 0), .int .u64 (X.i 1), .int .u64 (X.i 2), .string X.s, .int .i64 (X.i 4), .int .i64 (X.i 5), .int .i64 (X.i 6), .int .i64 (X.i 7), .int .i64 (X.i 8), .int .i64 (X.i 9), .int .i64 (X.i 10), .int .u64 (X.i 11), .int .u64 (X.i 12)]] u fun e w' => e = .returned (.agg #[.int .i64 (Y.i 0), .int .u64 (Y.i 1), .int .u64 (Y.i 2), .string Y.s, .int .i64 (Y.i 4), .int .i64 (Y.i 5), .int .i64 (Y.i 6), .int .i64 (Y.i 7), .int .i64 (Y.i 8), .int .i64 (Y.i 9), .int .i64 (Y.i 10), .int .u64 (Y.i 11), .int .u64 (Y.i 12)]) ∧ Below u.heap.size u w'))
    (hs : encM N = s) (ht : encM Y = t) :
    Calls Try.prog 6 #[.agg #[.int .i64 (M.i 0), .int .u64 (M.i 1), .int .u64 (M.i 2), .string M.s, .int .i64 (M.i 4), .int .i64 (M.i 5), .int .i64 (M.i 6), .int .i64 (M.i 7), .int .i64 (M.i 8), .int .i64 (M.i 9), .int .i64 (M.i 10), .int .u64 (M.i 11), .int .u64 (M.i 12)], .agg #[.int .i64 (X.i 0), .int .u64 (X.i 1), .int .u64 (X.i 2), .string X.s, .int .i64 (X.i 4), .int .i64 (X.i 5), .int .i64 (X.i 6), .int .i64 (X.i 7), .int .i64 (X.i 8), .int .i64 (X.i 9), .int .i64 (X.i 10), .int .u64 (X.i 11), .int .u64 (X.i 12)]] w fun e w' => e = .returned (.bool true) ∧ Below w.heap.size w w' := by
  have HN := Lib.hid hN
  have HY := Lib.hid hY
  have HC := Lib.hid hC
  have HC2 := Lib.hid hC2
  have HS := Lib.hid hs
  have HT := Lib.hid ht
  have HNN := Lib.hid hnN
  have HNY := Lib.hid hnY
  clear hN hY hC hC2 hs ht hnN hnY
  have HBB : Hid (Below w.heap.size w w) := Lib.hid (Below.refl _ _)
  go_enter Try.func6, Try.ntmps6
  go_wp2_with fail
  obtain ⟨u0, hu0⟩ : ∃ x, x = (w.alloc (.cells #[.int .i64 (M.i 0), .int .u64 (M.i 1), .int .u64 (M.i 2), .string M.s, .int .i64 (M.i 4), .int .i64 (M.i 5), .int .i64 (M.i 6), .int .i64 (M.i 7), .int .i64 (M.i 8), .int .i64 (M.i 9), .int .i64 (M.i 10), .int .u64 (M.i 11), .int .u64 (M.i 12)] 24)).alloc (.cells #[.int .i64 (X.i 0), .int .u64 (X.i 1), .int .u64 (X.i 2), .string X.s, .int .i64 (X.i 4), .int .i64 (X.i 5), .int .i64 (X.i 6), .int .i64 (X.i 7), .int .i64 (X.i 8), .int .i64 (X.i 9), .int .i64 (X.i 10), .int .u64 (X.i 11), .int .u64 (X.i 12)] 24) := ⟨_, rfl⟩
  obtain ⟨qm, hqm⟩ : ∃ q, q = w.heap.size := ⟨_, rfl⟩
  obtain ⟨qx, hqx⟩ : ∃ q, q = w.heap.size + 1 := ⟨_, rfl⟩
  have Hm : Hid (MsgAt u0 qm M) := Lib.hid (by
    rw [hu0, hqm]
    exact MsgAt.below (show MsgAt (w.alloc _) w.heap.size M from heap_alloc_new w _) (below_alloc _ _))
  have Hx : Hid (MsgAt u0 qx X) := Lib.hid (by
    rw [hu0, hqx]
    have := heap_alloc_new (w.alloc (.cells #[.int .i64 (M.i 0), .int .u64 (M.i 1), .int .u64 (M.i 2), .string M.s, .int .i64 (M.i 4), .int .i64 (M.i 5), .int .i64 (M.i 6), .int .i64 (M.i 7), .int .i64 (M.i 8), .int .i64 (M.i 9), .int .i64 (M.i 10), .int .u64 (M.i 11), .int .u64 (M.i 12)] 24)) (.cells #[.int .i64 (X.i 0), .int .u64 (X.i 1), .int .u64 (X.i 2), .string X.s, .int .i64 (X.i 4), .int .i64 (X.i 5), .int .i64 (X.i 6), .int .i64 (X.i 7), .int .i64 (X.i 8), .int .i64 (X.i 9), .int .i64 (X.i 10), .int .u64 (X.i 11), .int .u64 (X.i 12)] 24)
    rw [size_alloc] at this
    exact this)
  replace HBB : Hid (Below w.heap.size w u0) := Lib.hid (by rw [hu0]; exact ((Below.refl _ _).alloc (Nat.le_refl _) _).alloc (by simp) _)
  have HQm : Hid (w.heap.size ≤ qm) := Lib.hid (by omega)
  have HQx : Hid (w.heap.size ≤ qx) := Lib.hid (by omega)
  have HNmx : Hid (qm ≠ qx) := Lib.hid (by omega)
  have HNxm : Hid (qx ≠ qm) := Lib.hid (by omega)
  rw [← hu0, ← hqx, ← hqm]
  clear hu0 hqm hqx
  refine (HC.out _).mono ?_
  rintro e w1 ⟨rfl, hb⟩
  replace Hm := Lib.hid (Hm.out.below hb)
  replace Hx := Lib.hid (Hx.out.below hb)
  replace HBB := Lib.hid (HBB.out.trans (hb.mono HBB.out.size))
  clear hb
  obtain ⟨km0, km1, km2, km3, km4, km5, km6, km7, km8, km9, km10, km11, km12⟩ := Hm.out.cells
  have gm0 := frz_of_row 0 Hm.out
  have gm1 := frz_of_row 1 Hm.out
  have gm2 := frz_of_row 2 Hm.out
  have gm3 := frz_of_row 3 Hm.out
  have gm4 := frz_of_row 4 Hm.out
  have gm5 := frz_of_row 5 Hm.out
  have gm6 := frz_of_row 6 Hm.out
  have gm7 := frz_of_row 7 Hm.out
  have gm8 := frz_of_row 8 Hm.out
  have gm9 := frz_of_row 9 Hm.out
  have gm10 := frz_of_row 10 Hm.out
  have gm11 := frz_of_row 11 Hm.out
  have gm12 := frz_of_row 12 Hm.out
  obtain ⟨kx0, kx1, kx2, kx3, kx4, kx5, kx6, kx7, kx8, kx9, kx10, kx11, kx12⟩ := (show MsgAt (((((((((((((w1.setCell ⟨qm, 0, none⟩ (.int .i64 (N.i 0))).setCell ⟨qm, 1, none⟩ (.int .u64 (N.i 1))).setCell ⟨qm, 2, none⟩ (.int .u64 (N.i 2))).setCell ⟨qm, 3, none⟩ (.string N.s)).setCell ⟨qm, 4, none⟩ (.int .i64 (N.i 4))).setCell ⟨qm, 5, none⟩ (.int .i64 (N.i 5))).setCell ⟨qm, 6, none⟩ (.int .i64 (N.i 6))).setCell ⟨qm, 7, none⟩ (.int .i64 (N.i 7))).setCell ⟨qm, 8, none⟩ (.int .i64 (N.i 8))).setCell ⟨qm, 9, none⟩ (.int .i64 (N.i 9))).setCell ⟨qm, 10, none⟩ (.int .i64 (N.i 10))).setCell ⟨qm, 11, none⟩ (.int .u64 (N.i 11))).setCell ⟨qm, 12, none⟩ (.int .u64 (N.i 12))) qx X from Hx.out.chg (chg13 _ _ _ _ _ _ _ _ _ _ _ _ _ _ _) HNxm.out).cells
  go_wp2_with fail
  clear km0 km1 km2 km3 km4 km5 km6 km7 km8 km9 km10 km11 km12
  clear kx0 kx1 kx2 kx3 kx4 kx5 kx6 kx7 kx8 kx9 kx10 kx11 kx12
  clear gm0 gm1 gm2 gm3 gm4 gm5 gm6 gm7 gm8 gm9 gm10 gm11 gm12
  obtain ⟨u2, hu2⟩ : ∃ wx, wx = (((((((((((((w1.setCell ⟨qm, 0, none⟩ (.int .i64 (N.i 0))).setCell ⟨qm, 1, none⟩ (.int .u64 (N.i 1))).setCell ⟨qm, 2, none⟩ (.int .u64 (N.i 2))).setCell ⟨qm, 3, none⟩ (.string N.s)).setCell ⟨qm, 4, none⟩ (.int .i64 (N.i 4))).setCell ⟨qm, 5, none⟩ (.int .i64 (N.i 5))).setCell ⟨qm, 6, none⟩ (.int .i64 (N.i 6))).setCell ⟨qm, 7, none⟩ (.int .i64 (N.i 7))).setCell ⟨qm, 8, none⟩ (.int .i64 (N.i 8))).setCell ⟨qm, 9, none⟩ (.int .i64 (N.i 9))).setCell ⟨qm, 10, none⟩ (.int .i64 (N.i 10))).setCell ⟨qm, 11, none⟩ (.int .u64 (N.i 11))).setCell ⟨qm, 12, none⟩ (.int .u64 (N.i 12))) := ⟨_, rfl⟩
  have hc : Chg (fun k => k = qm) w1 u2 := by rw [hu2]; exact chg13 _ _ _ _ _ _ _ _ _ _ _ _ _ _ _
  replace Hm : Hid (MsgAt u2 qm N) := Lib.hid (by rw [hu2]; exact row13 rfl _ _ _ _ _ _ _ _ _ _ _ _ _ Hm.out)
  replace Hx := Lib.hid (Hx.out.chg hc HNxm.out)
  replace HBB := Lib.hid (Chg.out HBB.out hc HQm.out HBB.out.size)
  rw [← hu2]
  clear hc hu2
  refine (HC2.out _).mono ?_
  rintro e w3 ⟨rfl, hb⟩
  replace Hm := Lib.hid (Hm.out.below hb)
  replace Hx := Lib.hid (Hx.out.below hb)
  replace HBB := Lib.hid (HBB.out.trans (hb.mono HBB.out.size))
  clear hb
  obtain ⟨kx0, kx1, kx2, kx3, kx4, kx5, kx6, kx7, kx8, kx9, kx10, kx11, kx12⟩ := Hx.out.cells
  have gx0 := frz_of_row 0 Hx.out
  have gx1 := frz_of_row 1 Hx.out
  have gx2 := frz_of_row 2 Hx.out
  have gx3 := frz_of_row 3 Hx.out
  have gx4 := frz_of_row 4 Hx.out
  have gx5 := frz_of_row 5 Hx.out
  have gx6 := frz_of_row 6 Hx.out
  have gx7 := frz_of_row 7 Hx.out
  have gx8 := frz_of_row 8 Hx.out
  have gx9 := frz_of_row 9 Hx.out
  have gx10 := frz_of_row 10 Hx.out
  have gx11 := frz_of_row 11 Hx.out
  have gx12 := frz_of_row 12 Hx.out
  go_wp2_with fail
  clear kx0 kx1 kx2 kx3 kx4 kx5 kx6 kx7 kx8 kx9 kx10 kx11 kx12
  clear gx0 gx1 gx2 gx3 gx4 gx5 gx6 gx7 gx8 gx9 gx10 gx11 gx12
  obtain ⟨u4, hu4⟩ : ∃ wx, wx = (((((((((((((w3.setCell ⟨qx, 0, none⟩ (.int .i64 (Y.i 0))).setCell ⟨qx, 1, none⟩ (.int .u64 (Y.i 1))).setCell ⟨qx, 2, none⟩ (.int .u64 (Y.i 2))).setCell ⟨qx, 3, none⟩ (.string Y.s)).setCell ⟨qx, 4, none⟩ (.int .i64 (Y.i 4))).setCell ⟨qx, 5, none⟩ (.int .i64 (Y.i 5))).setCell ⟨qx, 6, none⟩ (.int .i64 (Y.i 6))).setCell ⟨qx, 7, none⟩ (.int .i64 (Y.i 7))).setCell ⟨qx, 8, none⟩ (.int .i64 (Y.i 8))).setCell ⟨qx, 9, none⟩ (.int .i64 (Y.i 9))).setCell ⟨qx, 10, none⟩ (.int .i64 (Y.i 10))).setCell ⟨qx, 11, none⟩ (.int .u64 (Y.i 11))).setCell ⟨qx, 12, none⟩ (.int .u64 (Y.i 12))) := ⟨_, rfl⟩
  have hc : Chg (fun k => k = qx) w3 u4 := by rw [hu4]; exact chg13 _ _ _ _ _ _ _ _ _ _ _ _ _ _ _
  replace Hx : Hid (MsgAt u4 qx Y) := Lib.hid (by rw [hu4]; exact row13 rfl _ _ _ _ _ _ _ _ _ _ _ _ _ Hx.out)
  replace Hm := Lib.hid (Hm.out.chg hc HNmx.out)
  replace HBB := Lib.hid (Chg.out HBB.out hc HQx.out HBB.out.size)
  rw [← hu4]
  clear hc hu4
  refine wp_region_held_drew (S := fun w' => MsgAt w' qm N ∧ MsgAt w' qx Y) (by kernel_rfl) ⟨Hm.out.drewn, Hx.out.drewn⟩ (fun hHeld => ?_)
  replace HBB := Lib.hid (below_drewn HBB.out)
  clear Hm Hx
  refine wpAnyH_take (i := 0) (oi := ?o1) (v := ?v1) ?i1 (by kernel_rfl) (by kernel_rfl) (by kernel_rfl) ?q1 (Or.inl ⟨?w1, ?y1⟩) (by assumption) ?r1
  case' i1 => simp only [List.getElem?_toArray, List.getElem?_cons_succ, List.getElem?_cons_zero]
  case i1 => rfl
  case q1 => exact fun _ _ _ h => h
  case w1 => rfl
  case y1 => (intro w hSw; obtain ⟨k0, k1, k2, k3, k4, k5, k6, k7, k8, k9, k10, k11, k12⟩ := hSw.1.cells; go_simp) <;> with_reducible rfl
  try simp only [Act.put, List.setIfInBounds_toArray, List.set_cons_zero, List.set_cons_succ]
  refine wpAnyH_take (i := 2) (oi := ?o2) (v := ?v2) ?i2 (by kernel_rfl) (by kernel_rfl) (by kernel_rfl) ?q2 (Or.inl ⟨?w2, ?y2⟩) (by assumption) ?r2
  case' i2 => simp only [List.getElem?_toArray, List.getElem?_cons_succ, List.getElem?_cons_zero]
  case i2 => rfl
  case q2 => exact fun _ _ _ h => h
  case w2 => rfl
  case y2 => (intro w hSw; obtain ⟨k0, k1, k2, k3, k4, k5, k6, k7, k8, k9, k10, k11, k12⟩ := hSw.2.cells; go_simp) <;> with_reducible rfl
  try simp only [Act.put, List.setIfInBounds_toArray, List.set_cons_zero, List.set_cons_succ]
  refine wpAnyH_ready (rs := [1]) (by kernel_rfl) (by simp) ?_
  refine AllReadyH.cons (o := ?o3) ?i3 (fun K' hK => ?_) AllReadyH.nil
  case' i3 => simp only [List.getElem?_toArray, List.getElem?_cons_succ, List.getElem?_cons_zero]
  case i3 => rfl
  go_simp
  go_at_call 15
  refine (enc_k N _ HN.out s HS).mono ?_
  rintro e w' ⟨rfl, hb⟩
  have HBB' := Lib.hid (HBB.out.trans (hb.mono HBB.out.size))
  have hHeld' : MsgAt w' qm N ∧ MsgAt w' qx Y := ⟨hHeld.1.below hb, hHeld.2.below hb⟩
  clear HBB hb
  have HBB := HBB'
  clear HBB'
  go_wp2_with fail
  refine hK.out _ _ hHeld' (fun _ => ?_)
  clear hK K' hHeld
  have hHeld := hHeld'
  clear hHeld'
  try simp only [Act.put, List.setIfInBounds_toArray, List.set_cons_zero, List.set_cons_succ]
  refine wpAnyH_ready (rs := [3]) (by kernel_rfl) (by simp) ?_
  refine AllReadyH.cons (o := ?o4) ?i4 (fun K' hK => ?_) AllReadyH.nil
  case' i4 => simp only [List.getElem?_toArray, List.getElem?_cons_succ, List.getElem?_cons_zero]
  case i4 => rfl
  go_simp
  go_at_call 15
  refine (enc_k Y _ HY.out t HT).mono ?_
  rintro e w' ⟨rfl, hb⟩
  have HBB' := Lib.hid (HBB.out.trans (hb.mono HBB.out.size))
  have hHeld' : MsgAt w' qm N ∧ MsgAt w' qx Y := ⟨hHeld.1.below hb, hHeld.2.below hb⟩
  clear HBB hb
  have HBB := HBB'
  clear HBB'
  go_wp2_with fail
  refine hK.out _ _ hHeld' (fun _ => ?_)
  clear hK K' hHeld
  have hHeld := hHeld'
  clear hHeld'
  try simp only [Act.put, List.setIfInBounds_toArray, List.set_cons_zero, List.set_cons_succ]
  refine wpAnyH_take (i := 4) (oi := ?o5) (v := ?v5) ?i5 (by kernel_rfl) (by kernel_rfl) (by kernel_rfl) ?q5 (Or.inl ⟨?w5, ?y5⟩) (by assumption) ?r5
  case' i5 => simp only [List.getElem?_toArray, List.getElem?_cons_succ, List.getElem?_cons_zero]
  case i5 => rfl
  case q5 => exact fun _ _ _ h => h
  case w5 => rfl
  case y5 => (intro w hSw; go_simp) <;> with_reducible rfl
  try simp only [Act.put, List.setIfInBounds_toArray, List.set_cons_zero, List.set_cons_succ]
  refine wpAnyH_take (i := 5) (oi := ?o6) (v := ?v6) ?i6 (by kernel_rfl) (by kernel_rfl) (by kernel_rfl) ?q6 (Or.inl ⟨?w6, ?y6⟩) (by assumption) ?r6
  case' i6 => simp only [List.getElem?_toArray, List.getElem?_cons_succ, List.getElem?_cons_zero]
  case i6 => rfl
  case q6 => exact fun _ _ _ h => h
  case w6 => rfl
  case y6 => (intro w hSw; go_simp) <;> with_reducible rfl
  try simp only [Act.put, List.setIfInBounds_toArray, List.set_cons_zero, List.set_cons_succ]
  refine wpAnyH_done (by kernel_rfl) ?_ _
  have Hm := Lib.hid hHeld.1
  have Hx := Lib.hid hHeld.2
  clear hHeld
  rename World => wr
  cases ha : rightM N with
  | false =>
    cases hy : rightM Y with
    | false =>
      have zs0 : s = ⟨#[]⟩ := by rw [← HS.out]; exact enc_no ha
      subst zs0
      have zt0 : t = ⟨#[]⟩ := by rw [← HT.out]; exact enc_no hy
      subst zt0
      have HRN := Lib.hid ha
      have HRY := Lib.hid hy
      clear ha hy
      obtain ⟨km0, km1, km2, km3, km4, km5, km6, km7, km8, km9, km10, km11, km12⟩ := Hm.out.cells
      go_wp2_with fail
      clear km0 km1 km2 km3 km4 km5 km6 km7 km8 km9 km10 km11 km12
      refine (right_k N _ HN.out false HRN).mono ?_
      rintro e w5 ⟨rfl, hb⟩
      replace Hm := Lib.hid (Hm.out.below hb)
      replace Hx := Lib.hid (Hx.out.below hb)
      replace HBB := Lib.hid (HBB.out.trans (hb.mono HBB.out.size))
      clear hb
      obtain ⟨kx0, kx1, kx2, kx3, kx4, kx5, kx6, kx7, kx8, kx9, kx10, kx11, kx12⟩ := Hx.out.cells
      go_wp2_with fail
      clear kx0 kx1 kx2 kx3 kx4 kx5 kx6 kx7 kx8 kx9 kx10 kx11 kx12
      refine (right_k Y _ HY.out false HRY).mono ?_
      rintro e w6 ⟨rfl, hb⟩
      replace Hm := Lib.hid (Hm.out.below hb)
      replace Hx := Lib.hid (Hx.out.below hb)
      replace HBB := Lib.hid (HBB.out.trans (hb.mono HBB.out.size))
      clear hb
      go_wp2_with fail
      refine (fixed_any _).mono ?_
      rintro e w7 ⟨rfl, hb⟩
      replace Hm := Lib.hid (Hm.out.below hb)
      replace Hx := Lib.hid (Hx.out.below hb)
      replace HBB := Lib.hid (HBB.out.trans (hb.mono HBB.out.size))
      clear hb
      go_wp2_with fail
      go_ret
      exact ⟨rfl, HBB.out⟩
    | true =>
      have zs0 : s = ⟨#[]⟩ := by rw [← HS.out]; exact enc_no ha
      subst zs0
      have zte : t.toList.isEmpty = false := by rw [← HT.out]; exact enc_full hy
      have HRN := Lib.hid ha
      have HRY := Lib.hid hy
      clear ha hy
      obtain ⟨km0, km1, km2, km3, km4, km5, km6, km7, km8, km9, km10, km11, km12⟩ := Hm.out.cells
      go_wp2_with fail
      clear km0 km1 km2 km3 km4 km5 km6 km7 km8 km9 km10 km11 km12
      refine (right_k N _ HN.out false HRN).mono ?_
      rintro e w5 ⟨rfl, hb⟩
      replace Hm := Lib.hid (Hm.out.below hb)
      replace Hx := Lib.hid (Hx.out.below hb)
      replace HBB := Lib.hid (HBB.out.trans (hb.mono HBB.out.size))
      clear hb
      obtain ⟨kx0, kx1, kx2, kx3, kx4, kx5, kx6, kx7, kx8, kx9, kx10, kx11, kx12⟩ := Hx.out.cells
      go_wp2_with fail
      clear kx0 kx1 kx2 kx3 kx4 kx5 kx6 kx7 kx8 kx9 kx10 kx11 kx12
      refine (right_k Y _ HY.out true HRY).mono ?_
      rintro e w6 ⟨rfl, hb⟩
      replace Hm := Lib.hid (Hm.out.below hb)
      replace Hx := Lib.hid (Hx.out.below hb)
      replace HBB := Lib.hid (HBB.out.trans (hb.mono HBB.out.size))
      clear hb
      go_wp2_with fail
      refine (fixed_any _).mono ?_
      rintro e w7 ⟨rfl, hb⟩
      replace Hm := Lib.hid (Hm.out.below hb)
      replace Hx := Lib.hid (Hx.out.below hb)
      replace HBB := Lib.hid (HBB.out.trans (hb.mono HBB.out.size))
      clear hb
      go_wp2_with fail
      go_ret
      exact ⟨rfl, HBB.out⟩
  | true =>
    cases hy : rightM Y with
    | false =>
      have zse : s.toList.isEmpty = false := by rw [← HS.out]; exact enc_full ha
      have zt0 : t = ⟨#[]⟩ := by rw [← HT.out]; exact enc_no hy
      subst zt0
      have HRN := Lib.hid ha
      have HRY := Lib.hid hy
      clear ha hy
      obtain ⟨km0, km1, km2, km3, km4, km5, km6, km7, km8, km9, km10, km11, km12⟩ := Hm.out.cells
      go_wp2_with fail
      clear km0 km1 km2 km3 km4 km5 km6 km7 km8 km9 km10 km11 km12
      refine (right_k N _ HN.out true HRN).mono ?_
      rintro e w5 ⟨rfl, hb⟩
      replace Hm := Lib.hid (Hm.out.below hb)
      replace Hx := Lib.hid (Hx.out.below hb)
      replace HBB := Lib.hid (HBB.out.trans (hb.mono HBB.out.size))
      clear hb
      obtain ⟨kx0, kx1, kx2, kx3, kx4, kx5, kx6, kx7, kx8, kx9, kx10, kx11, kx12⟩ := Hx.out.cells
      go_wp2_with fail
      clear kx0 kx1 kx2 kx3 kx4 kx5 kx6 kx7 kx8 kx9 kx10 kx11 kx12
      refine (right_k Y _ HY.out false HRY).mono ?_
      rintro e w6 ⟨rfl, hb⟩
      replace Hm := Lib.hid (Hm.out.below hb)
      replace Hx := Lib.hid (Hx.out.below hb)
      replace HBB := Lib.hid (HBB.out.trans (hb.mono HBB.out.size))
      clear hb
      go_wp2_with fail
      refine (fixed_any _).mono ?_
      rintro e w7 ⟨rfl, hb⟩
      replace Hm := Lib.hid (Hm.out.below hb)
      replace Hx := Lib.hid (Hx.out.below hb)
      replace HBB := Lib.hid (HBB.out.trans (hb.mono HBB.out.size))
      clear hb
      go_wp2_with fail
      go_ret
      exact ⟨rfl, HBB.out⟩
    | true =>
      have zse : s.toList.isEmpty = false := by rw [← HS.out]; exact enc_full ha
      have zte : t.toList.isEmpty = false := by rw [← HT.out]; exact enc_full hy
      have HRN := Lib.hid ha
      have HRY := Lib.hid hy
      by_cases he : N = Y
      · skip
        subst he
        have hst : s = t := HS.out.symm.trans HT.out
        subst hst
        have t5 := eqS s
        clear ha hy zte
        have t7 := guardP
        have t6 := fun u => (show (binOp .eql 24 (.agg #[.int .i64 (N.i 0), .int .u64 (N.i 1), .int .u64 (N.i 2), .string N.s, .int .i64 (N.i 4), .int .i64 (N.i 5), .int .i64 (N.i 6), .int .i64 (N.i 7), .int .i64 (N.i 8), .int .i64 (N.i 9), .int .i64 (N.i 10), .int .u64 (N.i 11), .int .u64 (N.i 12)]) (.agg #[.int .i64 (N.i 0), .int .u64 (N.i 1), .int .u64 (N.i 2), .string N.s, .int .i64 (N.i 4), .int .i64 (N.i 5), .int .i64 (N.i 6), .int .i64 (N.i 7), .int .i64 (N.i 8), .int .i64 (N.i 9), .int .i64 (N.i 10), .int .u64 (N.i 11), .int .u64 (N.i 12)])).run Try.prog u = .ok (.bool true) u by have := eqlP N N u; rw [eqM_self] at this; exact this)
        obtain ⟨km0, km1, km2, km3, km4, km5, km6, km7, km8, km9, km10, km11, km12⟩ := Hm.out.cells
        obtain ⟨kx0, kx1, kx2, kx3, kx4, kx5, kx6, kx7, kx8, kx9, kx10, kx11, kx12⟩ := Hx.out.cells
        go_wp2_with fail
        clear km0 km1 km2 km3 km4 km5 km6 km7 km8 km9 km10 km11 km12
        clear kx0 kx1 kx2 kx3 kx4 kx5 kx6 kx7 kx8 kx9 kx10 kx11 kx12
        clear t6 t7
        refine (fixed_any _).mono ?_
        rintro e w5 ⟨rfl, hb⟩
        replace Hm := Lib.hid (Hm.out.below hb)
        replace Hx := Lib.hid (Hx.out.below hb)
        replace HBB := Lib.hid (HBB.out.trans (hb.mono HBB.out.size))
        clear hb
        go_wp2_with fail
        go_ret
        exact ⟨rfl, HBB.out⟩
      · skip
        have hcl : eqM N Y = false := by
          cases hq : eqM N Y with
          | false => rfl
          | true => exact absurd (Norm.eq HNN.out HNY.out ((eqM_iff _ _).1 hq)) he
        have hne : s ≠ t := by rw [← HS.out, ← HT.out]; exact enc_ne HNN.out HNY.out ha hy he
        have hne1 : (s.toList == t.toList) = false := by simp only [beq_eq_false_iff_ne, ne_eq, toList_iff]; exact hne
        have hl1 := enc_len ha
        have hl2 := enc_len hy
        rw [HS.out] at hl1
        rw [HT.out] at hl2
        have hap1 : s.size ≤ t.size → ((t.extract 0 s.size).toList == s.toList) = false := fun hl => by
          simp only [beq_eq_false_iff_ne, ne_eq, toList_iff]
          have := apart HNN.out HNY.out ha hy he (by rw [HS.out, HT.out]; exact hl)
          rw [HS.out, HT.out] at this
          exact this
        have hap2 : t.size ≤ s.size → ((s.extract 0 t.size).toList == t.toList) = false := fun hl => by
          simp only [beq_eq_false_iff_ne, ne_eq, toList_iff]
          have := apart HNY.out HNN.out hy ha (fun e => he e.symm) (by rw [HS.out, HT.out]; exact hl)
          rw [HS.out, HT.out] at this
          exact this
        have t7 := guardP
        have t6 := fun u => (show (binOp .eql 24 (.agg #[.int .i64 (N.i 0), .int .u64 (N.i 1), .int .u64 (N.i 2), .string N.s, .int .i64 (N.i 4), .int .i64 (N.i 5), .int .i64 (N.i 6), .int .i64 (N.i 7), .int .i64 (N.i 8), .int .i64 (N.i 9), .int .i64 (N.i 10), .int .u64 (N.i 11), .int .u64 (N.i 12)]) (.agg #[.int .i64 (Y.i 0), .int .u64 (Y.i 1), .int .u64 (Y.i 2), .string Y.s, .int .i64 (Y.i 4), .int .i64 (Y.i 5), .int .i64 (Y.i 6), .int .i64 (Y.i 7), .int .i64 (Y.i 8), .int .i64 (Y.i 9), .int .i64 (Y.i 10), .int .u64 (Y.i 11), .int .u64 (Y.i 12)])).run Try.prog u = .ok (.bool false) u by have := eqlP N Y u; rw [hcl] at this; exact this)
        clear ha hy he hne hcl
        rcases Nat.lt_trichotomy s.size t.size with hl | hl | hl
        · skip
          have g1 : decide ((t.size : Int) < (s.size : Int)) = false := by simp; omega
          have g2 : decide ((s.size : Int) < (t.size : Int)) = true := by simp; omega
          have g5 : decide (t.size < s.size) = false := by simp; omega
          have g6 : decide (s.size < t.size) = true := by simp; omega
          have g3 : (s.size : Int) ≤ t.size := by omega
          have p1 := hap1 (by omega)
          skip
          clear hap1 hap2 hl
          obtain ⟨km0, km1, km2, km3, km4, km5, km6, km7, km8, km9, km10, km11, km12⟩ := Hm.out.cells
          obtain ⟨kx0, kx1, kx2, kx3, kx4, kx5, kx6, kx7, kx8, kx9, kx10, kx11, kx12⟩ := Hx.out.cells
          go_wp2_with fail
          clear km0 km1 km2 km3 km4 km5 km6 km7 km8 km9 km10 km11 km12
          clear kx0 kx1 kx2 kx3 kx4 kx5 kx6 kx7 kx8 kx9 kx10 kx11 kx12
          clear t6 t7
          refine (fixed_any _).mono ?_
          rintro e w5 ⟨rfl, hb⟩
          replace Hm := Lib.hid (Hm.out.below hb)
          replace Hx := Lib.hid (Hx.out.below hb)
          replace HBB := Lib.hid (HBB.out.trans (hb.mono HBB.out.size))
          clear hb
          go_wp2_with fail
          go_ret
          exact ⟨rfl, HBB.out⟩
        · skip
          have g1 : decide ((t.size : Int) < (s.size : Int)) = false := by simp; omega
          have g2 : decide ((s.size : Int) < (t.size : Int)) = false := by simp; omega
          have g5 : decide (t.size < s.size) = false := by simp; omega
          have g6 : decide (s.size < t.size) = false := by simp; omega
          have g3 : (s.size : Int) ≤ t.size := by omega
          have p1 := hap1 (by omega)
          have g4 : (t.size : Int) ≤ s.size := by omega
          have p2 := hap2 (by omega)
          clear hap1 hap2 hl
          obtain ⟨km0, km1, km2, km3, km4, km5, km6, km7, km8, km9, km10, km11, km12⟩ := Hm.out.cells
          obtain ⟨kx0, kx1, kx2, kx3, kx4, kx5, kx6, kx7, kx8, kx9, kx10, kx11, kx12⟩ := Hx.out.cells
          go_wp2_with fail
          clear km0 km1 km2 km3 km4 km5 km6 km7 km8 km9 km10 km11 km12
          clear kx0 kx1 kx2 kx3 kx4 kx5 kx6 kx7 kx8 kx9 kx10 kx11 kx12
          clear t6 t7
          refine (fixed_any _).mono ?_
          rintro e w5 ⟨rfl, hb⟩
          replace Hm := Lib.hid (Hm.out.below hb)
          replace Hx := Lib.hid (Hx.out.below hb)
          replace HBB := Lib.hid (HBB.out.trans (hb.mono HBB.out.size))
          clear hb
          go_wp2_with fail
          go_ret
          exact ⟨rfl, HBB.out⟩
        · skip
          have g1 : decide ((t.size : Int) < (s.size : Int)) = true := by simp; omega
          have g2 : decide ((s.size : Int) < (t.size : Int)) = false := by simp; omega
          have g5 : decide (t.size < s.size) = true := by simp; omega
          have g6 : decide (s.size < t.size) = false := by simp; omega
          skip
          have g4 : (t.size : Int) ≤ s.size := by omega
          have p2 := hap2 (by omega)
          clear hap1 hap2 hl
          obtain ⟨km0, km1, km2, km3, km4, km5, km6, km7, km8, km9, km10, km11, km12⟩ := Hm.out.cells
          obtain ⟨kx0, kx1, kx2, kx3, kx4, kx5, kx6, kx7, kx8, kx9, kx10, kx11, kx12⟩ := Hx.out.cells
          go_wp2_with fail
          clear km0 km1 km2 km3 km4 km5 km6 km7 km8 km9 km10 km11 km12
          clear kx0 kx1 kx2 kx3 kx4 kx5 kx6 kx7 kx8 kx9 kx10 kx11 kx12
          clear t6 t7
          refine (fixed_any _).mono ?_
          rintro e w5 ⟨rfl, hb⟩
          replace Hm := Lib.hid (Hm.out.below hb)
          replace Hx := Lib.hid (Hx.out.below hb)
          replace HBB := Lib.hid (HBB.out.trans (hb.mono HBB.out.size))
          clear hb
          go_wp2_with fail
          go_ret
          exact ⟨rfl, HBB.out⟩

theorem walk (M X : Ms) (w : World) (w0 : M.Wf) (n0 : Norm M) (w1 : X.Wf) (n1 : Norm X) :
    Calls Try.prog 6 #[.agg M.cl, .agg X.cl] w fun e w' => e = .returned (.bool true) ∧ Below w.heap.size w w' := by
  obtain ⟨p, m0, u0, v0, x0⟩ := slice_facts M.s 30
  obtain ⟨q, m1, u1, v1, x1⟩ := slice_facts X.s 30
  exact walkN M (M.setS p) X (X.setS q) _ _ w (w0.setS (Nat.le_trans u0 w0.s)) (n0.setS p) (w1.setS (Nat.le_trans u1 w1.s)) (n1.setS q) (fun u => cut_k M u w0 p m0 u0 x0) (fun u => cut_k X u w1 q m1 u1 x1) rfl rfl

set_option maxRecDepth 100000 in
theorem lifted (os : Os) (started : os.Started) (H : Type) (enc : TypeId × Value → H) :
    ReturnsInHanded {} Try.checked os 6 .any (Rows.msgApartSpec.pre6 enc Try.prog Try.f6 Rows.msgApartRow.domain false) (Rows.msgApartSpec.post enc Try.prog Try.f6 false true false false) := by
  refine returnsInHanded_of_change (C := Try.checked) own started (by kernel_rfl) Try.func6
    (ChangeSpec.witness6 (enc := enc) (C := Try.checked) false ⟨#[], #[.agg #[.int .i64 0, .int .u64 0, .int .u64 0, .string ByteArray.empty, .int .i64 0, .int .i64 0, .int .i64 0, .int .i64 0, .int .i64 0, .int .i64 0, .int .i64 0, .int .u64 0, .int .u64 0], .agg #[.int .i64 0, .int .u64 0, .int .u64 0, .string ByteArray.empty, .int .i64 0, .int .i64 0, .int .i64 0, .int .i64 0, .int .i64 0, .int .i64 0, .int .i64 0, .int .u64 0, .int .u64 0]], []⟩ 8 (by kernel_rfl) (by kernel_rfl) (by kernel_rfl) (by kernel_rfl)) ?_
  intro W base args ds gs before hval0 hW hcnd _
  have hval : ∀ (j : Nat) t v, Try.f6.params[j]? = some t → args[j]? = some v → Value.okWide Try.prog W .any base t v := hval0
  have hW' := hW
  obtain ⟨p, q, hA0, hV, rfl, hfz, hnd⟩ := hW
  have hA : DataW.TrodAll enc Try.prog W 0 (fun _ => true) true Try.f6.params.toList args.toList ds p := hA0
  rw [Try.params6] at hA hval
  obtain ⟨v0, vs0, d0, ds0, p0, q0, hargs, rfl, rfl, h0, r0⟩ := trodAll_cons hA
  obtain ⟨v1, vs1, d1, ds1, p1, q1, rfl, rfl, rfl, h1, r1⟩ := trodAll_cons r0
  obtain ⟨rfl, rfl, rfl⟩ := trodAll_nil r1
  obtain rfl : args = #[v0, v1] := by cases args; simp_all
  obtain ⟨rfl, rfl⟩ := trodVars_none hV
  obtain ⟨cs0, rfl, hsz0⟩ : ∃ cs, v0 = .agg cs ∧ cs.size = Try.prog.cellsOf 24 := by
    have h := hval 0 24 v0 rfl rfl
    simp only [Value.okWide, Try.underlying24] at h
    obtain ⟨cs, e1, e2, _⟩ := h
    exact ⟨cs, e1, e2⟩
  have k0 := h0
  have lt0 : ∀ x ∈ p0, x.block < W.heap.size := by obtain ⟨m, hm⟩ := k0; exact DataW.trod_lt m _ _ _ hm
  obtain ⟨M0, rfl, w0, n0⟩ : ∃ M : Ms, cs0 = M.cl ∧ M.Wf ∧ Norm M := by
    obtain ⟨fuel, hf⟩ := h0
    exact open_msg hf
  obtain ⟨cs1, rfl, hsz1⟩ : ∃ cs, v1 = .agg cs ∧ cs.size = Try.prog.cellsOf 24 := by
    have h := hval 1 24 v1 rfl rfl
    simp only [Value.okWide, Try.underlying24] at h
    obtain ⟨cs, e1, e2, _⟩ := h
    exact ⟨cs, e1, e2⟩
  have k1 := h1
  have lt1 : ∀ x ∈ p1, x.block < W.heap.size := by obtain ⟨m, hm⟩ := k1; exact DataW.trod_lt m _ _ _ hm
  obtain ⟨M1, rfl, w1, n1⟩ : ∃ M : Ms, cs1 = M.cl ∧ M.Wf ∧ Norm M := by
    obtain ⟨fuel, hf⟩ := h1
    exact open_msg hf
  clear hA0 hval0
  refine (walk M0 M1 W w0 n0 w1 n1).mono fun e W' ⟨he, bel⟩ => ?_
  subst he
  exact ⟨_, rfl, _, _, _, [], _, [], hW', trodAll_mk1 (shut_bool Try.underlying4 _), (trodAll_cons_mk (Below.trod laidOut (by kernel_rfl) (of_decide_eq_true (by kernel_rfl)) k0 bel lt0) (trodAll_cons_mk (Below.trod laidOut (by kernel_rfl) (of_decide_eq_true (by kernel_rfl)) k1 bel lt1) trodAll_mk0)), rfl, bel.frame _, fun h => by cases h⟩

theorem over : Rows.msgApartRow.holds Try.pinned (OpenSpec.ofChange Rows.msgApartSpec) :=
  OpenClaim.holds_of_wide 6 Try.f6 rfl rfl rfl rfl rfl rfl rfl ⟨rfl, rfl, rfl, rfl, rfl⟩ rfl rfl rfl rfl rfl (by kernel_rfl) Try.func6 (by kernel_rfl)
    (of_decide_eq_true (by kernel_rfl)) (by unfold Func.isWrapper; first | (rw [if_pos (by decide +kernel)]; kernel_rfl) | (rw [if_neg (by decide +kernel)]; exact ⟨rfl, rfl⟩))
    (fun os started H enc _ => lifted os started H enc)

theorem proved : Rows.MsgApartSaid := over
#print axioms proved
end Go.Proofs.Ytifpahjlmnimnaa.msgApart
