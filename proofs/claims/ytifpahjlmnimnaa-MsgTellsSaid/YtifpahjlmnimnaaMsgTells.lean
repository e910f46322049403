/- MsgTells: for every message and every text, all that is asked of both is as the document says. No condition. -/
import Derived.Test.YtifpahjlmnimnaaRows
import Derived.Test.YtifpahjlmnimnaaMsgW
import Derived.WalkKit
import Derived.ProofKit
import Derived.OpenShut
import Derived.ShutString
import Derived.ChangeOld
import Derived.Below
namespace Go.Proofs.Ytifpahjlmnimnaa.msgTells
open Go.ChangeShapes Go.WideShapes Go.ChangeAt Go.RowKit
open Go.ChangeMaps (open_string shut_string)
open Go.Proofs.Ytifpahjlmnimnaa
set_option linter.unusedVariables false
set_option linter.unusedSimpArgs false
set_option maxRecDepth 20000

theorem own : ownKnob Try.prog.godebug = none := by kernel_rfl
theorem laidOut : laidOutB Try.prog = true := by kernel_rfl
set_option maxHeartbeats 16000000 in
set_option maxRecDepth 100000 in
theorem walkN (M N D : Ms) (E : Nat) (a1 A t : ByteArray) (b : Bool) (w : World) (hN : N.Wf) (hC : ∀ u, Calls Try.prog 9 #[.agg #[.int .i64 (M.i 0), .int .u64 (M.i 1), .int .u64 (M.i 2), .string M.s, .int .i64 (M.i 4), .int .i64 (M.i 5), .int .i64 (M.i 6), .int .i64 (M.i 7), .int .i64 (M.i 8), .int .i64 (M.i 9), .int .i64 (M.i 10), .int .u64 (M.i 11), .int .u64 (M.i 12)]] u fun e w' => e = .returned (.agg #[.int .i64 (N.i 0), .int .u64 (N.i 1), .int .u64 (N.i 2), .string N.s, .int .i64 (N.i 4), .int .i64 (N.i 5), .int .i64 (N.i 6), .int .i64 (N.i 7), .int .i64 (N.i 8), .int .i64 (N.i 9), .int .i64 (N.i 10), .int .u64 (N.i 11), .int .u64 (N.i 12)]) ∧ Below u.heap.size u w')
    (m1 : min (a1.size : Int) 5000 = A.size) (u1 : A.size ≤ a1.size) (v1 : A.size ≤ 5000) (x1 : a1.extract 0 A.size = A) (w1 : a1.size ≤ maxLen) (hb : rightM N = b) (ht : encM N = t) (hd : decM A = (D, E)) :
    Calls Try.prog 3 #[.agg #[.int .i64 (M.i 0), .int .u64 (M.i 1), .int .u64 (M.i 2), .string M.s, .int .i64 (M.i 4), .int .i64 (M.i 5), .int .i64 (M.i 6), .int .i64 (M.i 7), .int .i64 (M.i 8), .int .i64 (M.i 9), .int .i64 (M.i 10), .int .u64 (M.i 11), .int .u64 (M.i 12)], .string a1] w fun e w' => e = .returned (.bool true) ∧ Below w.heap.size w w' := by
  have HN := Lib.hid hN
  have HC := Lib.hid hC
  have HB0 := Lib.hid hb
  have HT := Lib.hid ht
  have HD := Lib.hid hd
  have HDW := Lib.hid (dec_wf hd)
  have HA : Hid (A.size ≤ 1000000) := Lib.hid (by omega)
  have HX1 : Hid (a1.extract 0 (min (a1.size : Int) 5000).toNat = A) := Lib.hid (by rw [m1]; simpa using x1)
  have n1 : (if (5000 : Int) < (a1.size : Int) then (5000 : Int) else (a1.size : Int)) = (A.size : Int) := by rw [← m1]; omega
  unfold maxLen at w1
  clear hN hC hb ht hd m1 x1
  have HBB : Hid (Below w.heap.size w w) := Lib.hid (Below.refl _ _)
  go_enter Try.func3, Try.ntmps3
  go_wp2_with fail
  obtain ⟨u1, hu1⟩ : ∃ x, x = w.alloc (.cells #[.int .i64 (M.i 0), .int .u64 (M.i 1), .int .u64 (M.i 2), .string M.s, .int .i64 (M.i 4), .int .i64 (M.i 5), .int .i64 (M.i 6), .int .i64 (M.i 7), .int .i64 (M.i 8), .int .i64 (M.i 9), .int .i64 (M.i 10), .int .u64 (M.i 11), .int .u64 (M.i 12)] 24) := ⟨_, rfl⟩
  obtain ⟨qm, hqm⟩ : ∃ q, q = w.heap.size := ⟨_, rfl⟩
  have Hm : Hid (MsgAt u1 qm M) := Lib.hid (by rw [hu1, hqm]; exact heap_alloc_new w _)
  have HQm : Hid (w.heap.size ≤ qm) := Lib.hid (by rw [hqm]; exact HBB.out.size)
  replace HBB := Lib.hid (HBB.out.trans ((show Below w.heap.size w u1 by rw [hu1]; exact below_alloc _ _).mono HBB.out.size))
  rw [← hu1]
  clear hu1
  rw [← hqm]
  clear hqm
  refine (HC.out _).mono ?_
  rintro e w2 ⟨rfl, hb⟩
  replace Hm := Lib.hid (Hm.out.below hb)
  replace HBB := Lib.hid (HBB.out.trans (hb.mono HBB.out.size))
  clear hb
  obtain ⟨km0, km1, km2, km3, km4, km5, km6, km7, km8, km9, km10, km11, km12⟩ := Hm.out.cells
  have gm0 := frz_of_row 0 Hm.out
  have gm1 := frz_of_row 1 Hm.out
  have gm2 := frz_of_row 2 Hm.out
  have gm3 := frz_of_row 3 Hm.out
  have gm4 := frz_of_row 4 Hm.out
  have gm5 := frz_of_row 5 Hm.out
  have gm6 := frz_of_row 6 Hm.out
  have gm7 := frz_of_row 7 Hm.out
  have gm8 := frz_of_row 8 Hm.out
  have gm9 := frz_of_row 9 Hm.out
  have gm10 := frz_of_row 10 Hm.out
  have gm11 := frz_of_row 11 Hm.out
  have gm12 := frz_of_row 12 Hm.out
  go_wp2_with fail
  clear km0 km1 km2 km3 km4 km5 km6 km7 km8 km9 km10 km11 km12
  clear gm0 gm1 gm2 gm3 gm4 gm5 gm6 gm7 gm8 gm9 gm10 gm11 gm12
  obtain ⟨u3, hu3⟩ : ∃ x, x = (((((((((((((w2.setCell ⟨qm, 0, none⟩ (.int .i64 (N.i 0))).setCell ⟨qm, 1, none⟩ (.int .u64 (N.i 1))).setCell ⟨qm, 2, none⟩ (.int .u64 (N.i 2))).setCell ⟨qm, 3, none⟩ (.string N.s)).setCell ⟨qm, 4, none⟩ (.int .i64 (N.i 4))).setCell ⟨qm, 5, none⟩ (.int .i64 (N.i 5))).setCell ⟨qm, 6, none⟩ (.int .i64 (N.i 6))).setCell ⟨qm, 7, none⟩ (.int .i64 (N.i 7))).setCell ⟨qm, 8, none⟩ (.int .i64 (N.i 8))).setCell ⟨qm, 9, none⟩ (.int .i64 (N.i 9))).setCell ⟨qm, 10, none⟩ (.int .i64 (N.i 10))).setCell ⟨qm, 11, none⟩ (.int .u64 (N.i 11))).setCell ⟨qm, 12, none⟩ (.int .u64 (N.i 12))) := ⟨_, rfl⟩
  have hc : Chg (fun k => k = qm) w2 u3 := by rw [hu3]; exact chg13 _ _ _ _ _ _ _ _ _ _ _ _ _ _ _
  replace Hm : Hid (MsgAt u3 qm N) := Lib.hid (by rw [hu3]; exact row13 rfl _ _ _ _ _ _ _ _ _ _ _ _ _ Hm.out)
  replace HBB := Lib.hid (Chg.out HBB.out hc HQm.out HBB.out.size)
  rw [← hu3]
  clear hc hu3
  rw [HX1.out]
  clear HX1 n1 w1 u1 v1
  refine (decode_l A _ HA.out D E E #[.int .i64 (D.i 0), .int .u64 (D.i 1), .int .u64 (D.i 2), .string D.s, .int .i64 (D.i 4), .int .i64 (D.i 5), .int .i64 (D.i 6), .int .i64 (D.i 7), .int .i64 (D.i 8), .int .i64 (D.i 9), .int .i64 (D.i 10), .int .u64 (D.i 11), .int .u64 (D.i 12)] HD.out rfl rfl).mono ?_
  rintro e w4 ⟨rfl, hb⟩
  replace Hm := Lib.hid (Hm.out.below hb)
  replace HBB := Lib.hid (HBB.out.trans (hb.mono HBB.out.size))
  clear hb
  go_wp2_with fail
  obtain ⟨u5, hu5⟩ : ∃ x, x = w4.alloc (.cells #[.int .i64 (D.i 0), .int .u64 (D.i 1), .int .u64 (D.i 2), .string D.s, .int .i64 (D.i 4), .int .i64 (D.i 5), .int .i64 (D.i 6), .int .i64 (D.i 7), .int .i64 (D.i 8), .int .i64 (D.i 9), .int .i64 (D.i 10), .int .u64 (D.i 11), .int .u64 (D.i 12)] 24) := ⟨_, rfl⟩
  obtain ⟨qa, hqa⟩ : ∃ q, q = w4.heap.size := ⟨_, rfl⟩
  have Ha : Hid (MsgAt u5 qa D) := Lib.hid (by rw [hu5, hqa]; exact heap_alloc_new w4 _)
  have HNma : Hid (qm ≠ qa) := Lib.hid (by have := Hm.out.lt; omega)
  replace Hm := Lib.hid (Hm.out.below (show Below w4.heap.size w4 u5 by rw [hu5]; exact below_alloc _ _))
  have HQa : Hid (w.heap.size ≤ qa) := Lib.hid (by rw [hqa]; exact HBB.out.size)
  replace HBB := Lib.hid (HBB.out.trans ((show Below w4.heap.size w4 u5 by rw [hu5]; exact below_alloc _ _).mono HBB.out.size))
  rw [← hu5]
  clear hu5
  rw [← hqa]
  clear hqa
  refine (rdecode_l A _ HA.out D E E #[.int .i64 (D.i 0), .int .u64 (D.i 1), .int .u64 (D.i 2), .string D.s, .int .i64 (D.i 4), .int .i64 (D.i 5), .int .i64 (D.i 6), .int .i64 (D.i 7), .int .i64 (D.i 8), .int .i64 (D.i 9), .int .i64 (D.i 10), .int .u64 (D.i 11), .int .u64 (D.i 12)] HD.out rfl rfl).mono ?_
  rintro e w6 ⟨rfl, hb⟩
  replace Hm := Lib.hid (Hm.out.below hb)
  replace Ha := Lib.hid (Ha.out.below hb)
  replace HBB := Lib.hid (HBB.out.trans (hb.mono HBB.out.size))
  clear hb
  go_wp2_with fail
  obtain ⟨u7, hu7⟩ : ∃ x, x = w6.alloc (.cells #[.int .i64 (D.i 0), .int .u64 (D.i 1), .int .u64 (D.i 2), .string D.s, .int .i64 (D.i 4), .int .i64 (D.i 5), .int .i64 (D.i 6), .int .i64 (D.i 7), .int .i64 (D.i 8), .int .i64 (D.i 9), .int .i64 (D.i 10), .int .u64 (D.i 11), .int .u64 (D.i 12)] 29) := ⟨_, rfl⟩
  obtain ⟨qb, hqb⟩ : ∃ q, q = w6.heap.size := ⟨_, rfl⟩
  have Hb : Hid (RAt u7 qb D) := Lib.hid (by rw [hu7, hqb]; exact heap_alloc_new w6 _)
  have HNmb : Hid (qm ≠ qb) := Lib.hid (by have := Hm.out.lt; omega)
  replace Hm := Lib.hid (Hm.out.below (show Below w6.heap.size w6 u7 by rw [hu7]; exact below_alloc _ _))
  have HNab : Hid (qa ≠ qb) := Lib.hid (by have := Ha.out.lt; omega)
  replace Ha := Lib.hid (Ha.out.below (show Below w6.heap.size w6 u7 by rw [hu7]; exact below_alloc _ _))
  have HQb : Hid (w.heap.size ≤ qb) := Lib.hid (by rw [hqb]; exact HBB.out.size)
  replace HBB := Lib.hid (HBB.out.trans ((show Below w6.heap.size w6 u7 by rw [hu7]; exact below_alloc _ _).mono HBB.out.size))
  rw [← hu7]
  clear hu7
  rw [← hqb]
  clear hqb
  refine wp_region_held_drew (S := fun u => MsgAt u qm N ∧ MsgAt u qa D ∧ RAt u qb D) (by kernel_rfl) ⟨Hm.out.drewn, Ha.out.drewn, Hb.out.drewn⟩ (fun hHeld => ?_)
  replace HBB := Lib.hid (below_drewn HBB.out)
  clear Hm Ha Hb
  have t5 := guardR
  have t1 : (b == b) = true := by simp
  have t2 := eqS t
  have t3 : ((E : Int) == (E : Int)) = true := by simp
  have t4 := fun u => (show (binOp .eql 29 (.agg #[.int .i64 (D.i 0), .int .u64 (D.i 1), .int .u64 (D.i 2), .string D.s, .int .i64 (D.i 4), .int .i64 (D.i 5), .int .i64 (D.i 6), .int .i64 (D.i 7), .int .i64 (D.i 8), .int .i64 (D.i 9), .int .i64 (D.i 10), .int .u64 (D.i 11), .int .u64 (D.i 12)]) (.agg #[.int .i64 (D.i 0), .int .u64 (D.i 1), .int .u64 (D.i 2), .string D.s, .int .i64 (D.i 4), .int .i64 (D.i 5), .int .i64 (D.i 6), .int .i64 (D.i 7), .int .i64 (D.i 8), .int .i64 (D.i 9), .int .i64 (D.i 10), .int .u64 (D.i 11), .int .u64 (D.i 12)])).run Try.prog u = .ok (.bool true) u by have := eqlR D D u; rw [eqM_self] at this; exact this)
  refine wpAnyH_take (i := 0) (oi := ?o1) (v := ?v1) ?i1 (by kernel_rfl) (by kernel_rfl) (by kernel_rfl) ?q1 (Or.inl ⟨?w1, ?y1⟩) (by assumption) ?r1
  case' i1 => simp only [List.getElem?_toArray, List.getElem?_cons_succ, List.getElem?_cons_zero]
  case i1 => rfl
  case q1 => exact fun _ _ _ h => h
  case w1 => rfl
  case y1 => (intro w hSw; obtain ⟨k0, k1, k2, k3, k4, k5, k6, k7, k8, k9, k10, k11, k12⟩ := hSw.1.cells; go_simp) <;> with_reducible rfl
  try simp only [Act.put, List.setIfInBounds_toArray, List.set_cons_zero, List.set_cons_succ]
  refine wpAnyH_take (i := 2) (oi := ?o2) (v := ?v2) ?i2 (by kernel_rfl) (by kernel_rfl) (by kernel_rfl) ?q2 (Or.inl ⟨?w2, ?y2⟩) (by assumption) ?r2
  case' i2 => simp only [List.getElem?_toArray, List.getElem?_cons_succ, List.getElem?_cons_zero]
  case i2 => rfl
  case q2 => exact fun _ _ _ h => h
  case w2 => rfl
  case y2 => (intro w hSw; obtain ⟨k0, k1, k2, k3, k4, k5, k6, k7, k8, k9, k10, k11, k12⟩ := hSw.1.cells; go_simp) <;> with_reducible rfl
  try simp only [Act.put, List.setIfInBounds_toArray, List.set_cons_zero, List.set_cons_succ]
  refine wpAnyH_ready (rs := [1]) (by kernel_rfl) (by simp) ?_
  refine AllReadyH.cons (o := ?o3) ?i3 (fun K' hK => ?_) AllReadyH.nil
  case' i3 => simp only [List.getElem?_toArray, List.getElem?_cons_succ, List.getElem?_cons_zero]
  case i3 => rfl
  go_simp
  go_at_call 12
  refine (right_k N _ HN.out b HB0).mono ?_
  rintro e w' ⟨rfl, hb⟩
  have HBB' := Lib.hid (HBB.out.trans (hb.mono HBB.out.size))
  have hHeld' : MsgAt w' qm N ∧ MsgAt w' qa D ∧ RAt w' qb D := ⟨hHeld.1.below hb, hHeld.2.1.below hb, hHeld.2.2.below hb⟩
  clear HBB hb
  have HBB := HBB'
  clear HBB'
  go_wp2_with fail
  refine hK.out _ _ hHeld' (fun _ => ?_)
  clear hK K' hHeld
  have hHeld := hHeld'
  clear hHeld'
  try simp only [Act.put, List.setIfInBounds_toArray, List.set_cons_zero, List.set_cons_succ]
  refine wpAnyH_ready (rs := [3]) (by kernel_rfl) (by simp) ?_
  refine AllReadyH.cons (o := ?o4) ?i4 (fun K' hK => ?_) AllReadyH.nil
  case' i4 => simp only [List.getElem?_toArray, List.getElem?_cons_succ, List.getElem?_cons_zero]
  case i4 => rfl
  go_simp
  go_at_call 14
  refine (ref_l N _).mono ?_
  rintro e w' ⟨rfl, hb⟩
  have HBB' := Lib.hid (HBB.out.trans (hb.mono HBB.out.size))
  have hHeld' : MsgAt w' qm N ∧ MsgAt w' qa D ∧ RAt w' qb D := ⟨hHeld.1.below hb, hHeld.2.1.below hb, hHeld.2.2.below hb⟩
  clear HBB hb
  have HBB := HBB'
  clear HBB'
  go_wp2_with fail
  refine hK.out _ _ hHeld' (fun _ => ?_)
  clear hK K' hHeld
  have hHeld := hHeld'
  clear hHeld'
  try simp only [Act.put, List.setIfInBounds_toArray, List.set_cons_zero, List.set_cons_succ]
  refine wpAnyH_ready (rs := [4]) (by kernel_rfl) (by simp) ?_
  refine AllReadyH.cons (o := ?o5) ?i5 (fun K' hK => ?_) AllReadyH.nil
  case' i5 => simp only [List.getElem?_toArray, List.getElem?_cons_succ, List.getElem?_cons_zero]
  case i5 => rfl
  go_simp
  go_at_call 13
  refine (rright_k N _ HN.out b HB0).mono ?_
  rintro e w' ⟨rfl, hb⟩
  have HBB' := Lib.hid (HBB.out.trans (hb.mono HBB.out.size))
  have hHeld' : MsgAt w' qm N ∧ MsgAt w' qa D ∧ RAt w' qb D := ⟨hHeld.1.below hb, hHeld.2.1.below hb, hHeld.2.2.below hb⟩
  clear HBB hb
  have HBB := HBB'
  clear HBB'
  go_wp2_with fail
  refine hK.out _ _ hHeld' (fun _ => ?_)
  clear hK K' hHeld
  have hHeld := hHeld'
  clear hHeld'
  try simp only [Act.put, List.setIfInBounds_toArray, List.set_cons_zero, List.set_cons_succ]
  refine wpAnyH_take (i := 5) (oi := ?o6) (v := .bool true) ?i6 (by kernel_rfl) (by kernel_rfl) (by kernel_rfl) ?q6 (Or.inl ⟨?w6, ?y6⟩) (by assumption) ?r6
  case' i6 => simp only [List.getElem?_toArray, List.getElem?_cons_succ, List.getElem?_cons_zero]
  case i6 => rfl
  case q6 => exact fun _ _ _ h => h
  case w6 => rfl
  case y6 => (intro w hSw; go_simp) <;> with_reducible rfl
  try simp only [Act.put, List.setIfInBounds_toArray, List.set_cons_zero, List.set_cons_succ]
  refine wpAnyH_take (i := 6) (oi := ?o7) (v := .bool true) ?i7 (by kernel_rfl) (by kernel_rfl) (by kernel_rfl) ?q7 (Or.inl ⟨?w7, ?y7⟩) (by assumption) ?r7
  case' i7 => simp only [List.getElem?_toArray, List.getElem?_cons_succ, List.getElem?_cons_zero]
  case i7 => rfl
  case q7 => exact fun _ _ _ h => h
  case w7 => rfl
  case y7 => (intro w hSw; go_simp) <;> with_reducible rfl
  try simp only [Act.put, List.setIfInBounds_toArray, List.set_cons_zero, List.set_cons_succ]
  refine wpAnyH_take (i := 7) (oi := ?o8) (v := ?v8) ?i8 (by kernel_rfl) (by kernel_rfl) (by kernel_rfl) ?q8 (Or.inl ⟨?w8, ?y8⟩) (by assumption) ?r8
  case' i8 => simp only [List.getElem?_toArray, List.getElem?_cons_succ, List.getElem?_cons_zero]
  case i8 => rfl
  case q8 => exact fun _ _ _ h => h
  case w8 => rfl
  case y8 => (intro w hSw; obtain ⟨k0, k1, k2, k3, k4, k5, k6, k7, k8, k9, k10, k11, k12⟩ := hSw.1.cells; go_simp) <;> with_reducible rfl
  try simp only [Act.put, List.setIfInBounds_toArray, List.set_cons_zero, List.set_cons_succ]
  refine wpAnyH_take (i := 9) (oi := ?o9) (v := ?v9) ?i9 (by kernel_rfl) (by kernel_rfl) (by kernel_rfl) ?q9 (Or.inl ⟨?w9, ?y9⟩) (by assumption) ?r9
  case' i9 => simp only [List.getElem?_toArray, List.getElem?_cons_succ, List.getElem?_cons_zero]
  case i9 => rfl
  case q9 => exact fun _ _ _ h => h
  case w9 => rfl
  case y9 => (intro w hSw; obtain ⟨k0, k1, k2, k3, k4, k5, k6, k7, k8, k9, k10, k11, k12⟩ := hSw.1.cells; go_simp) <;> with_reducible rfl
  try simp only [Act.put, List.setIfInBounds_toArray, List.set_cons_zero, List.set_cons_succ]
  refine wpAnyH_ready (rs := [8]) (by kernel_rfl) (by simp) ?_
  refine AllReadyH.cons (o := ?o10) ?i10 (fun K' hK => ?_) AllReadyH.nil
  case' i10 => simp only [List.getElem?_toArray, List.getElem?_cons_succ, List.getElem?_cons_zero]
  case i10 => rfl
  go_simp
  go_at_call 15
  refine (enc_k N _ HN.out t HT).mono ?_
  rintro e w' ⟨rfl, hb⟩
  have HBB' := Lib.hid (HBB.out.trans (hb.mono HBB.out.size))
  have hHeld' : MsgAt w' qm N ∧ MsgAt w' qa D ∧ RAt w' qb D := ⟨hHeld.1.below hb, hHeld.2.1.below hb, hHeld.2.2.below hb⟩
  clear HBB hb
  have HBB := HBB'
  clear HBB'
  go_wp2_with fail
  refine hK.out _ _ hHeld' (fun _ => ?_)
  clear hK K' hHeld
  have hHeld := hHeld'
  clear hHeld'
  try simp only [Act.put, List.setIfInBounds_toArray, List.set_cons_zero, List.set_cons_succ]
  refine wpAnyH_ready (rs := [10]) (by kernel_rfl) (by simp) ?_
  refine AllReadyH.cons (o := ?o11) ?i11 (fun K' hK => ?_) AllReadyH.nil
  case' i11 => simp only [List.getElem?_toArray, List.getElem?_cons_succ, List.getElem?_cons_zero]
  case i11 => rfl
  go_simp
  go_at_call 14
  refine (ref_l N _).mono ?_
  rintro e w' ⟨rfl, hb⟩
  have HBB' := Lib.hid (HBB.out.trans (hb.mono HBB.out.size))
  have hHeld' : MsgAt w' qm N ∧ MsgAt w' qa D ∧ RAt w' qb D := ⟨hHeld.1.below hb, hHeld.2.1.below hb, hHeld.2.2.below hb⟩
  clear HBB hb
  have HBB := HBB'
  clear HBB'
  go_wp2_with fail
  refine hK.out _ _ hHeld' (fun _ => ?_)
  clear hK K' hHeld
  have hHeld := hHeld'
  clear hHeld'
  try simp only [Act.put, List.setIfInBounds_toArray, List.set_cons_zero, List.set_cons_succ]
  refine wpAnyH_ready (rs := [11]) (by kernel_rfl) (by simp) ?_
  refine AllReadyH.cons (o := ?o12) ?i12 (fun K' hK => ?_) AllReadyH.nil
  case' i12 => simp only [List.getElem?_toArray, List.getElem?_cons_succ, List.getElem?_cons_zero]
  case i12 => rfl
  go_simp
  go_at_call 16
  refine (renc_k N _ HN.out t HT).mono ?_
  rintro e w' ⟨rfl, hb⟩
  have HBB' := Lib.hid (HBB.out.trans (hb.mono HBB.out.size))
  have hHeld' : MsgAt w' qm N ∧ MsgAt w' qa D ∧ RAt w' qb D := ⟨hHeld.1.below hb, hHeld.2.1.below hb, hHeld.2.2.below hb⟩
  clear HBB hb
  have HBB := HBB'
  clear HBB'
  go_wp2_with fail
  refine hK.out _ _ hHeld' (fun _ => ?_)
  clear hK K' hHeld
  have hHeld := hHeld'
  clear hHeld'
  try simp only [Act.put, List.setIfInBounds_toArray, List.set_cons_zero, List.set_cons_succ]
  refine wpAnyH_take (i := 12) (oi := ?o13) (v := .bool true) ?i13 (by kernel_rfl) (by kernel_rfl) (by kernel_rfl) ?q13 (Or.inl ⟨?w13, ?y13⟩) (by assumption) ?r13
  case' i13 => simp only [List.getElem?_toArray, List.getElem?_cons_succ, List.getElem?_cons_zero]
  case i13 => rfl
  case q13 => exact fun _ _ _ h => h
  case w13 => rfl
  case y13 => (intro w hSw; go_simp) <;> with_reducible rfl
  try simp only [Act.put, List.setIfInBounds_toArray, List.set_cons_zero, List.set_cons_succ]
  refine wpAnyH_take (i := 13) (oi := ?o14) (v := .bool true) ?i14 (by kernel_rfl) (by kernel_rfl) (by kernel_rfl) ?q14 (Or.inl ⟨?w14, ?y14⟩) (by assumption) ?r14
  case' i14 => simp only [List.getElem?_toArray, List.getElem?_cons_succ, List.getElem?_cons_zero]
  case i14 => rfl
  case q14 => exact fun _ _ _ h => h
  case w14 => rfl
  case y14 => (intro w hSw; go_simp) <;> with_reducible rfl
  try simp only [Act.put, List.setIfInBounds_toArray, List.set_cons_zero, List.set_cons_succ]
  refine wpAnyH_take (i := 14) (oi := ?o15) (v := .bool true) ?i15 (by kernel_rfl) (by kernel_rfl) (by kernel_rfl) ?q15 (Or.inl ⟨?w15, ?y15⟩) (by assumption) ?r15
  case' i15 => simp only [List.getElem?_toArray, List.getElem?_cons_succ, List.getElem?_cons_zero]
  case i15 => rfl
  case q15 => exact fun _ _ _ h => h
  case w15 => rfl
  case y15 => (intro w hSw; go_simp) <;> with_reducible rfl
  try simp only [Act.put, List.setIfInBounds_toArray, List.set_cons_zero, List.set_cons_succ]
  refine wpAnyH_take (i := 15) (oi := ?o16) (v := ?v16) ?i16 (by kernel_rfl) (by kernel_rfl) (by kernel_rfl) ?q16 (Or.inl ⟨?w16, ?y16⟩) (by assumption) ?r16
  case' i16 => simp only [List.getElem?_toArray, List.getElem?_cons_succ, List.getElem?_cons_zero]
  case i16 => rfl
  case q16 => exact fun _ _ _ h => h
  case w16 => rfl
  case y16 => (intro w hSw; obtain ⟨k0, k1, k2, k3, k4, k5, k6, k7, k8, k9, k10, k11, k12⟩ := hSw.1.cells; go_simp) <;> with_reducible rfl
  try simp only [Act.put, List.setIfInBounds_toArray, List.set_cons_zero, List.set_cons_succ]
  refine wpAnyH_take (i := 17) (oi := ?o17) (v := ?v17) ?i17 (by kernel_rfl) (by kernel_rfl) (by kernel_rfl) ?q17 (Or.inl ⟨?w17, ?y17⟩) (by assumption) ?r17
  case' i17 => simp only [List.getElem?_toArray, List.getElem?_cons_succ, List.getElem?_cons_zero]
  case i17 => rfl
  case q17 => exact fun _ _ _ h => h
  case w17 => rfl
  case y17 => (intro w hSw; obtain ⟨k0, k1, k2, k3, k4, k5, k6, k7, k8, k9, k10, k11, k12⟩ := hSw.1.cells; go_simp) <;> with_reducible rfl
  try simp only [Act.put, List.setIfInBounds_toArray, List.set_cons_zero, List.set_cons_succ]
  refine wpAnyH_ready (rs := [16]) (by kernel_rfl) (by simp) ?_
  refine AllReadyH.cons (o := ?o18) ?i18 (fun K' hK => ?_) AllReadyH.nil
  case' i18 => simp only [List.getElem?_toArray, List.getElem?_cons_succ, List.getElem?_cons_zero]
  case i18 => rfl
  go_simp
  go_at_call 18
  refine (names_l N _ HN.out).mono ?_
  rintro e w' ⟨x1, n1, c1, rfl, hn1, hr1, hb⟩
  have HBB' := Lib.hid (HBB.out.trans (hb.mono HBB.out.size))
  have hHeld' : MsgAt w' qm N ∧ MsgAt w' qa D ∧ RAt w' qb D := ⟨hHeld.1.below hb, hHeld.2.1.below hb, hHeld.2.2.below hb⟩
  have HR1 := Lib.hid hr1
  have HN1 := Lib.hid hn1
  clear hr1 hn1
  clear HBB hb
  have HBB := HBB'
  clear HBB'
  go_wp2_with fail
  refine hK.out _ _ hHeld' (fun _ => ?_)
  clear hK K' hHeld
  have hHeld := hHeld'
  clear hHeld'
  try simp only [Act.put, List.setIfInBounds_toArray, List.set_cons_zero, List.set_cons_succ]
  refine wpAnyH_ready (rs := [18]) (by kernel_rfl) (by simp) ?_
  refine AllReadyH.cons (o := ?o19) ?i19 (fun K' hK => ?_) AllReadyH.nil
  case' i19 => simp only [List.getElem?_toArray, List.getElem?_cons_succ, List.getElem?_cons_zero]
  case i19 => rfl
  go_simp
  go_at_call 14
  refine (ref_k N _).mono ?_
  rintro e w' ⟨rfl, hb⟩
  have HBB' := Lib.hid (HBB.out.trans (hb.mono HBB.out.size))
  have hHeld' : MsgAt w' qm N ∧ MsgAt w' qa D ∧ RAt w' qb D := ⟨hHeld.1.below hb, hHeld.2.1.below hb, hHeld.2.2.below hb⟩
  replace HR1 := Lib.hid (HR1.out.below hb)
  clear HBB hb
  have HBB := HBB'
  clear HBB'
  go_wp2_with fail
  refine hK.out _ _ hHeld' (fun _ => ?_)
  clear hK K' hHeld
  have hHeld := hHeld'
  clear hHeld'
  try simp only [Act.put, List.setIfInBounds_toArray, List.set_cons_zero, List.set_cons_succ]
  refine wpAnyH_ready (rs := [19]) (by kernel_rfl) (by simp) ?_
  refine AllReadyH.cons (o := ?o20) ?i20 (fun K' hK => ?_) AllReadyH.nil
  case' i20 => simp only [List.getElem?_toArray, List.getElem?_cons_succ, List.getElem?_cons_zero]
  case i20 => rfl
  go_simp
  go_at_call 19
  refine (rnames_k N _).mono ?_
  rintro e w' ⟨x2, n2, c2, rfl, hn2, hr2, hb⟩
  have HBB' := Lib.hid (HBB.out.trans (hb.mono HBB.out.size))
  have hHeld' : MsgAt w' qm N ∧ MsgAt w' qa D ∧ RAt w' qb D := ⟨hHeld.1.below hb, hHeld.2.1.below hb, hHeld.2.2.below hb⟩
  replace HR1 := Lib.hid (HR1.out.below hb)
  have HR2 := Lib.hid hr2
  clear hr2
  obtain rfl : n1 = n2 := HN1.out.trans hn2.symm
  clear hn2
  clear HBB hb
  have HBB := HBB'
  clear HBB'
  go_wp2_with fail
  refine hK.out _ _ hHeld' (fun _ => ?_)
  clear hK K' hHeld
  have hHeld := hHeld'
  clear hHeld'
  try simp only [Act.put, List.setIfInBounds_toArray, List.set_cons_zero, List.set_cons_succ]
  refine wpAnyH_ready (rs := [20]) (by kernel_rfl) (by simp) ?_
  refine AllReadyH.cons (o := ?o21) ?i21 (fun K' hK => ?_) AllReadyH.nil
  case' i21 => simp only [List.getElem?_toArray, List.getElem?_cons_succ, List.getElem?_cons_zero]
  case i21 => rfl
  go_simp
  go_at_call 17
  refine (same_true x1 x2 _ c1 c2 _ _ HN1.out HR1.out HR2.out).mono ?_
  rintro e w' ⟨rfl, hb⟩
  have HBB' := Lib.hid (HBB.out.trans (hb.mono HBB.out.size))
  have hHeld' : MsgAt w' qm N ∧ MsgAt w' qa D ∧ RAt w' qb D := ⟨hHeld.1.below hb, hHeld.2.1.below hb, hHeld.2.2.below hb⟩
  clear HBB hb
  have HBB := HBB'
  clear HBB'
  go_wp2_with fail
  refine hK.out _ _ hHeld' (fun _ => ?_)
  clear hK K' hHeld
  have hHeld := hHeld'
  clear hHeld'
  try simp only [Act.put, List.setIfInBounds_toArray, List.set_cons_zero, List.set_cons_succ]
  refine wpAnyH_take (i := 21) (oi := ?o22) (v := .bool true) ?i22 (by kernel_rfl) (by kernel_rfl) (by kernel_rfl) ?q22 (Or.inl ⟨?w22, ?y22⟩) (by assumption) ?r22
  case' i22 => simp only [List.getElem?_toArray, List.getElem?_cons_succ, List.getElem?_cons_zero]
  case i22 => rfl
  case q22 => exact fun _ _ _ h => h
  case w22 => rfl
  case y22 => (intro w hSw; go_simp) <;> with_reducible rfl
  try simp only [Act.put, List.setIfInBounds_toArray, List.set_cons_zero, List.set_cons_succ]
  refine wpAnyH_take (i := 22) (oi := ?o23) (v := .bool true) ?i23 (by kernel_rfl) (by kernel_rfl) (by kernel_rfl) ?q23 (Or.inl ⟨?w23, ?y23⟩) (by assumption) ?r23
  case' i23 => simp only [List.getElem?_toArray, List.getElem?_cons_succ, List.getElem?_cons_zero]
  case i23 => rfl
  case q23 => exact fun _ _ _ h => h
  case w23 => rfl
  case y23 => (intro w hSw; go_simp) <;> with_reducible rfl
  try simp only [Act.put, List.setIfInBounds_toArray, List.set_cons_zero, List.set_cons_succ]
  refine wpAnyH_take (i := 23) (oi := ?o24) (v := ?v24) ?i24 (by kernel_rfl) (by kernel_rfl) (by kernel_rfl) ?q24 (Or.inl ⟨?w24, ?y24⟩) (by assumption) ?r24
  case' i24 => simp only [List.getElem?_toArray, List.getElem?_cons_succ, List.getElem?_cons_zero]
  case i24 => rfl
  case q24 => exact fun _ _ _ h => h
  case w24 => rfl
  case y24 => (intro w hSw; obtain ⟨k0, k1, k2, k3, k4, k5, k6, k7, k8, k9, k10, k11, k12⟩ := hSw.2.1.cells; go_simp) <;> with_reducible rfl
  try simp only [Act.put, List.setIfInBounds_toArray, List.set_cons_zero, List.set_cons_succ]
  refine wpAnyH_take (i := 25) (oi := ?o25) (v := ?v25) ?i25 (by kernel_rfl) (by kernel_rfl) (by kernel_rfl) ?q25 (Or.inl ⟨?w25, ?y25⟩) (by assumption) ?r25
  case' i25 => simp only [List.getElem?_toArray, List.getElem?_cons_succ, List.getElem?_cons_zero]
  case i25 => rfl
  case q25 => exact fun _ _ _ h => h
  case w25 => rfl
  case y25 => (intro w hSw; obtain ⟨k0, k1, k2, k3, k4, k5, k6, k7, k8, k9, k10, k11, k12⟩ := hSw.2.2.cells; go_simp) <;> with_reducible rfl
  try simp only [Act.put, List.setIfInBounds_toArray, List.set_cons_zero, List.set_cons_succ]
  refine wpAnyH_ready (rs := [24]) (by kernel_rfl) (by simp) ?_
  refine AllReadyH.cons (o := ?o26) ?i26 (fun K' hK => ?_) AllReadyH.nil
  case' i26 => simp only [List.getElem?_toArray, List.getElem?_cons_succ, List.getElem?_cons_zero]
  case i26 => rfl
  go_simp
  go_at_call 14
  refine (ref_l D _).mono ?_
  rintro e w' ⟨rfl, hb⟩
  have HBB' := Lib.hid (HBB.out.trans (hb.mono HBB.out.size))
  have hHeld' : MsgAt w' qm N ∧ MsgAt w' qa D ∧ RAt w' qb D := ⟨hHeld.1.below hb, hHeld.2.1.below hb, hHeld.2.2.below hb⟩
  clear HBB hb
  have HBB := HBB'
  clear HBB'
  go_wp2_with fail
  refine hK.out _ _ hHeld' (fun _ => ?_)
  clear hK K' hHeld
  have hHeld := hHeld'
  clear hHeld'
  try simp only [Act.put, List.setIfInBounds_toArray, List.set_cons_zero, List.set_cons_succ]
  refine wpAnyH_take (i := 26) (oi := ?o27) (v := .bool true) ?i27 (by kernel_rfl) (by kernel_rfl) (by kernel_rfl) ?q27 (Or.inl ⟨?w27, ?y27⟩) (by assumption) ?r27
  case' i27 => simp only [List.getElem?_toArray, List.getElem?_cons_succ, List.getElem?_cons_zero]
  case i27 => rfl
  case q27 => exact fun _ _ _ h => h
  case w27 => rfl
  case y27 => (intro w hSw; go_simp) <;> with_reducible rfl
  try simp only [Act.put, List.setIfInBounds_toArray, List.set_cons_zero, List.set_cons_succ]
  refine wpAnyH_take (i := 27) (oi := ?o28) (v := .bool true) ?i28 (by kernel_rfl) (by kernel_rfl) (by kernel_rfl) ?q28 (Or.inl ⟨?w28, ?y28⟩) (by assumption) ?r28
  case' i28 => simp only [List.getElem?_toArray, List.getElem?_cons_succ, List.getElem?_cons_zero]
  case i28 => rfl
  case q28 => exact fun _ _ _ h => h
  case w28 => rfl
  case y28 => (intro w hSw; go_simp) <;> with_reducible rfl
  try simp only [Act.put, List.setIfInBounds_toArray, List.set_cons_zero, List.set_cons_succ]
  refine wpAnyH_take (i := 28) (oi := ?o29) (v := .bool true) ?i29 (by kernel_rfl) (by kernel_rfl) (by kernel_rfl) ?q29 (Or.inl ⟨?w29, ?y29⟩) (by assumption) ?r29
  case' i29 => simp only [List.getElem?_toArray, List.getElem?_cons_succ, List.getElem?_cons_zero]
  case i29 => rfl
  case q29 => exact fun _ _ _ h => h
  case w29 => rfl
  case y29 => (intro w hSw; go_simp) <;> with_reducible rfl
  try simp only [Act.put, List.setIfInBounds_toArray, List.set_cons_zero, List.set_cons_succ]
  refine wpAnyH_take (i := 29) (oi := ?o30) (v := ?v30) ?i30 (by kernel_rfl) (by kernel_rfl) (by kernel_rfl) ?q30 (Or.inl ⟨?w30, ?y30⟩) (by assumption) ?r30
  case' i30 => simp only [List.getElem?_toArray, List.getElem?_cons_succ, List.getElem?_cons_zero]
  case i30 => rfl
  case q30 => exact fun _ _ _ h => h
  case w30 => rfl
  case y30 => (intro w hSw; go_simp) <;> with_reducible rfl
  try simp only [Act.put, List.setIfInBounds_toArray, List.set_cons_zero, List.set_cons_succ]
  refine wpAnyH_take (i := 30) (oi := ?o31) (v := ?v31) ?i31 (by kernel_rfl) (by kernel_rfl) (by kernel_rfl) ?q31 (Or.inl ⟨?w31, ?y31⟩) (by assumption) ?r31
  case' i31 => simp only [List.getElem?_toArray, List.getElem?_cons_succ, List.getElem?_cons_zero]
  case i31 => rfl
  case q31 => exact fun _ _ _ h => h
  case w31 => rfl
  case y31 => (intro w hSw; go_simp) <;> with_reducible rfl
  try simp only [Act.put, List.setIfInBounds_toArray, List.set_cons_zero, List.set_cons_succ]
  refine wpAnyH_take (i := 31) (oi := ?o32) (v := .bool true) ?i32 (by kernel_rfl) (by kernel_rfl) (by kernel_rfl) ?q32 (Or.inl ⟨?w32, ?y32⟩) (by assumption) ?r32
  case' i32 => simp only [List.getElem?_toArray, List.getElem?_cons_succ, List.getElem?_cons_zero]
  case i32 => rfl
  case q32 => exact fun _ _ _ h => h
  case w32 => rfl
  case y32 => (intro w hSw; go_simp) <;> with_reducible rfl
  try simp only [Act.put, List.setIfInBounds_toArray, List.set_cons_zero, List.set_cons_succ]
  refine wpAnyH_take (i := 32) (oi := ?o33) (v := .bool true) ?i33 (by kernel_rfl) (by kernel_rfl) (by kernel_rfl) ?q33 (Or.inl ⟨?w33, ?y33⟩) (by assumption) ?r33
  case' i33 => simp only [List.getElem?_toArray, List.getElem?_cons_succ, List.getElem?_cons_zero]
  case i33 => rfl
  case q33 => exact fun _ _ _ h => h
  case w33 => rfl
  case y33 => (intro w hSw; go_simp) <;> with_reducible rfl
  try simp only [Act.put, List.setIfInBounds_toArray, List.set_cons_zero, List.set_cons_succ]
  refine wpAnyH_take (i := 33) (oi := ?o34) (v := .bool true) ?i34 (by kernel_rfl) (by kernel_rfl) (by kernel_rfl) ?q34 (Or.inl ⟨?w34, ?y34⟩) (by assumption) ?r34
  case' i34 => simp only [List.getElem?_toArray, List.getElem?_cons_succ, List.getElem?_cons_zero]
  case i34 => rfl
  case q34 => exact fun _ _ _ h => h
  case w34 => rfl
  case y34 => (intro w hSw; go_simp) <;> with_reducible rfl
  try simp only [Act.put, List.setIfInBounds_toArray, List.set_cons_zero, List.set_cons_succ]
  refine wpAnyH_ready (rs := [34]) (by kernel_rfl) (by simp) ?_
  refine AllReadyH.cons (o := ?o35) ?i35 (fun K' hK => ?_) AllReadyH.nil
  case' i35 => simp only [List.getElem?_toArray, List.getElem?_cons_succ, List.getElem?_cons_zero]
  case i35 => rfl
  go_simp
  go_at_call 20
  refine (fixed_any _).mono ?_
  rintro e w' ⟨rfl, hb⟩
  have HBB' := Lib.hid (HBB.out.trans (hb.mono HBB.out.size))
  have hHeld' : MsgAt w' qm N ∧ MsgAt w' qa D ∧ RAt w' qb D := ⟨hHeld.1.below hb, hHeld.2.1.below hb, hHeld.2.2.below hb⟩
  clear HBB hb
  have HBB := HBB'
  clear HBB'
  go_wp2_with fail
  refine hK.out _ _ hHeld' (fun _ => ?_)
  clear hK K' hHeld
  have hHeld := hHeld'
  clear hHeld'
  try simp only [Act.put, List.setIfInBounds_toArray, List.set_cons_zero, List.set_cons_succ]
  refine wpAnyH_take (i := 35) (oi := ?o36) (v := .bool true) ?i36 (by kernel_rfl) (by kernel_rfl) (by kernel_rfl) ?q36 (Or.inl ⟨?w36, ?y36⟩) (by assumption) ?r36
  case' i36 => simp only [List.getElem?_toArray, List.getElem?_cons_succ, List.getElem?_cons_zero]
  case i36 => rfl
  case q36 => exact fun _ _ _ h => h
  case w36 => rfl
  case y36 => (intro w hSw; go_simp) <;> with_reducible rfl
  try simp only [Act.put, List.setIfInBounds_toArray, List.set_cons_zero, List.set_cons_succ]
  refine wpAnyH_take (i := 36) (oi := ?o37) (v := .bool true) ?i37 (by kernel_rfl) (by kernel_rfl) (by kernel_rfl) ?q37 (Or.inl ⟨?w37, ?y37⟩) (by assumption) ?r37
  case' i37 => simp only [List.getElem?_toArray, List.getElem?_cons_succ, List.getElem?_cons_zero]
  case i37 => rfl
  case q37 => exact fun _ _ _ h => h
  case w37 => rfl
  case y37 => (intro w hSw; go_simp) <;> with_reducible rfl
  try simp only [Act.put, List.setIfInBounds_toArray, List.set_cons_zero, List.set_cons_succ]
  refine wpAnyH_done (by kernel_rfl) ?_ _
  go_wp2_with fail
  go_ret
  exact ⟨rfl, HBB.out⟩

theorem walk (M : Ms) (a1 : ByteArray) (w : World) (w0 : M.Wf) (n0 : Norm M) (w1 : a1.size ≤ maxLen) :
    Calls Try.prog 3 #[.agg M.cl, .string a1] w fun e w' => e = .returned (.bool true) ∧ Below w.heap.size w w' := by
  obtain ⟨p, m0, u0, v0, x0⟩ := slice_facts M.s 30
  obtain ⟨A, m1, u1, v1, x1⟩ := slice_facts a1 5000
  exact walkN M (M.setS p) _ _ a1 A _ _ w (w0.setS (Nat.le_trans u0 w0.s)) (fun u => cut_k M u w0 p m0 u0 x0) m1 u1 v1 x1 w1 rfl rfl rfl

set_option maxRecDepth 100000 in
theorem lifted (os : Os) (started : os.Started) (H : Type) (enc : TypeId × Value → H) :
    ReturnsInHanded {} Try.checked os 3 .any (Rows.msgTellsSpec.pre6 enc Try.prog Try.f3 Rows.msgTellsRow.domain false) (Rows.msgTellsSpec.post enc Try.prog Try.f3 false true false false) := by
  refine returnsInHanded_of_change (C := Try.checked) own started (by kernel_rfl) Try.func3
    (ChangeSpec.witness6 (enc := enc) (C := Try.checked) false ⟨#[], #[.agg #[.int .i64 0, .int .u64 0, .int .u64 0, .string ByteArray.empty, .int .i64 0, .int .i64 0, .int .i64 0, .int .i64 0, .int .i64 0, .int .i64 0, .int .i64 0, .int .u64 0, .int .u64 0], .string ByteArray.empty], []⟩ 8 (by kernel_rfl) (by kernel_rfl) (by kernel_rfl) (by kernel_rfl)) ?_
  intro W base args ds gs before hval0 hW hcnd _
  have hval : ∀ (j : Nat) t v, Try.f3.params[j]? = some t → args[j]? = some v → Value.okWide Try.prog W .any base t v := hval0
  have hW' := hW
  obtain ⟨p, q, hA0, hV, rfl, hfz, hnd⟩ := hW
  have hA : DataW.TrodAll enc Try.prog W 0 (fun _ => true) true Try.f3.params.toList args.toList ds p := hA0
  rw [Try.params3] at hA hval
  obtain ⟨v0, vs0, d0, ds0, p0, q0, hargs, rfl, rfl, h0, r0⟩ := trodAll_cons hA
  obtain ⟨v1, vs1, d1, ds1, p1, q1, rfl, rfl, rfl, h1, r1⟩ := trodAll_cons r0
  obtain ⟨rfl, rfl, rfl⟩ := trodAll_nil r1
  obtain rfl : args = #[v0, v1] := by cases args; simp_all
  obtain ⟨rfl, rfl⟩ := trodVars_none hV
  obtain ⟨cs0, rfl, hsz0⟩ : ∃ cs, v0 = .agg cs ∧ cs.size = Try.prog.cellsOf 24 := by
    have h := hval 0 24 v0 rfl rfl
    simp only [Value.okWide, Try.underlying24] at h
    obtain ⟨cs, e1, e2, _⟩ := h
    exact ⟨cs, e1, e2⟩
  have k0 := h0
  have lt0 : ∀ x ∈ p0, x.block < W.heap.size := by obtain ⟨m, hm⟩ := k0; exact DataW.trod_lt m _ _ _ hm
  obtain ⟨M0, rfl, w0, n0⟩ : ∃ M : Ms, cs0 = M.cl ∧ M.Wf ∧ Norm M := by
    obtain ⟨fuel, hf⟩ := h0
    exact open_msg hf
  obtain ⟨a1, rfl, rfl, rfl, w1⟩ := open_string Try.underlying9 (hval 1 9 v1 rfl rfl) h1
  clear hA0 hval0
  refine (walk M0 a1 W w0 n0 w1).mono fun e W' ⟨he, bel⟩ => ?_
  subst he
  exact ⟨_, rfl, _, _, _, [], _, [], hW', trodAll_mk1 (shut_bool Try.underlying4 _), (trodAll_cons_mk (Below.trod laidOut (by kernel_rfl) (of_decide_eq_true (by kernel_rfl)) k0 bel lt0) (trodAll_cons_mk (shut_string Try.underlying9 w1) trodAll_mk0)), rfl, bel.frame _, fun h => by cases h⟩

theorem over : Rows.msgTellsRow.holds Try.pinned (OpenSpec.ofChange Rows.msgTellsSpec) :=
  OpenClaim.holds_of_wide 3 Try.f3 rfl rfl rfl rfl rfl rfl rfl ⟨rfl, rfl, rfl, rfl, rfl⟩ rfl rfl rfl rfl rfl (by kernel_rfl) Try.func3 (by kernel_rfl)
    (of_decide_eq_true (by kernel_rfl)) (by unfold Func.isWrapper; first | (rw [if_pos (by decide +kernel)]; kernel_rfl) | (rw [if_neg (by decide +kernel)]; exact ⟨rfl, rfl⟩))
    (fun os started H enc _ => lifted os started H enc)

theorem proved : Rows.MsgTellsSaid := over
#print axioms proved
end Go.Proofs.Ytifpahjlmnimnaa.msgTells
