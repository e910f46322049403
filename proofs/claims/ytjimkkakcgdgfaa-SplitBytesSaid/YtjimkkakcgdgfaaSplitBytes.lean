/- SplitBytes: whether any part may be, its bytes, and the part that any bytes are, is as the document says. No condition. -/
import Derived.Test.YtjimkkakcgdgfaaRows
import Derived.Test.YtjimkkakcgdgfaaFragV
import Derived.WalkKit
import Derived.ProofKit
import Derived.OpenShut
import Derived.ShutString
import Derived.ChangeOld
import Derived.Below
namespace Go.Proofs.Ytjimkkakcgdgfaa.splitBytes
open Go.ChangeShapes Go.WideShapes Go.ChangeAt Go.RowKit
open Go.ChangeMaps (open_string shut_string)
open Go.Proofs.Ytjimkkakcgdgfaa
set_option linter.unusedVariables false
set_option linter.unusedSimpArgs false
set_option maxRecDepth 20000

theorem own : ownKnob Try.prog.godebug = none := by kernel_rfl
theorem laidOut : laidOutB Try.prog = true := by kernel_rfl
set_option maxHeartbeats 16000000 in
set_option maxRecDepth 100000 in
theorem walkN (M N D : Fr) (E : Nat) (a1 A t : ByteArray) (b : Bool) (w : World) (hN : N.Wf) (hC : ∀ u, Calls Try.prog 9 #[.agg #[.int .u64 M.id, .int .i64 M.ix, .int .i64 M.ct, .string M.s]] u fun e w' => e = .returned (.agg #[.int .u64 N.id, .int .i64 N.ix, .int .i64 N.ct, .string N.s]) ∧ Below u.heap.size u w')
    (m1 : min (a1.size : Int) 1100 = A.size) (u1 : A.size ≤ a1.size) (v1 : A.size ≤ 1100) (x1 : a1.extract 0 A.size = A) (w1 : a1.size ≤ maxLen) (hb : rightF N = b) (ht : encF N = t) (hd : decF A = (D, E)) :
    Calls Try.prog 4 #[.agg #[.int .u64 M.id, .int .i64 M.ix, .int .i64 M.ct, .string M.s], .string a1] w fun e w' => e = .returned (.bool true) ∧ Below w.heap.size w w' := by
  have HN := Lib.hid hN
  have HC := Lib.hid hC
  have HB0 := Lib.hid hb
  have HT := Lib.hid ht
  have HD := Lib.hid hd
  have HDW := Lib.hid (dec_wf hd)
  have HA : Hid (A.size ≤ 1000000) := Lib.hid (by omega)
  have HA2 : Hid (A.size ≤ maxLen) := Lib.hid (by unfold maxLen; omega)
  have HX1 : Hid (a1.extract 0 (min (a1.size : Int) 1100).toNat = A) := Lib.hid (by rw [m1]; simpa using x1)
  have n1 : (if (1100 : Int) < (a1.size : Int) then (1100 : Int) else (a1.size : Int)) = (A.size : Int) := by rw [← m1]; omega
  unfold maxLen at w1
  clear hN hC hb ht hd m1 x1
  have HBB : Hid (Below w.heap.size w w) := Lib.hid (Below.refl _ _)
  go_enter Try.func4, Try.ntmps4
  go_wp2_with fail
  obtain ⟨u1, hu1⟩ : ∃ wx, wx = w.alloc (.cells #[.int .u64 M.id, .int .i64 M.ix, .int .i64 M.ct, .string M.s] 26) := ⟨_, rfl⟩
  obtain ⟨qm, hqm⟩ : ∃ q, q = w.heap.size := ⟨_, rfl⟩
  have Hm : Hid (FrAt 26 u1 qm M) := Lib.hid (by rw [hu1, hqm]; exact heap_alloc_new w _)
  have HQm : Hid (w.heap.size ≤ qm) := Lib.hid (by rw [hqm]; exact HBB.out.size)
  replace HBB := Lib.hid (HBB.out.trans ((show Below w.heap.size w u1 by rw [hu1]; exact below_alloc _ _).mono HBB.out.size))
  rw [← hu1]
  clear hu1
  rw [← hqm]
  clear hqm
  refine (HC.out _).mono ?_
  rintro e w2 ⟨rfl, hb⟩
  replace Hm := Lib.hid (Hm.out.below hb)
  replace HBB := Lib.hid (HBB.out.trans (hb.mono HBB.out.size))
  clear hb
  obtain ⟨km0, km1, km2, km3⟩ := Hm.out.cells
  have gm0 := frz_of_row 0 Hm.out
  have gm1 := frz_of_row 1 Hm.out
  have gm2 := frz_of_row 2 Hm.out
  have gm3 := frz_of_row 3 Hm.out
  go_wp2_with fail
  clear km0 km1 km2 km3
  clear gm0 gm1 gm2 gm3
  obtain ⟨u3, hu3⟩ : ∃ wx, wx = ((((w2.setCell ⟨qm, 0, none⟩ (.int .u64 N.id)).setCell ⟨qm, 1, none⟩ (.int .i64 N.ix)).setCell ⟨qm, 2, none⟩ (.int .i64 N.ct)).setCell ⟨qm, 3, none⟩ (.string N.s)) := ⟨_, rfl⟩
  have hc : Chg (fun k => k = qm) w2 u3 := by rw [hu3]; exact chg4 _ _ _ _ _ _
  replace Hm : Hid (FrAt 26 u3 qm N) := Lib.hid (by rw [hu3]; exact row4 rfl _ _ _ _ Hm.out)
  replace HBB := Lib.hid (Chg.out HBB.out hc HQm.out HBB.out.size)
  rw [← hu3]
  clear hc hu3
  rw [HX1.out]
  clear HX1 n1 w1 u1 v1
  refine (dec_l A _ HA.out D E E #[.int .u64 D.id, .int .i64 D.ix, .int .i64 D.ct, .string D.s] HD.out rfl rfl).mono ?_
  rintro e w4 ⟨rfl, hb⟩
  replace Hm := Lib.hid (Hm.out.below hb)
  replace HBB := Lib.hid (HBB.out.trans (hb.mono HBB.out.size))
  clear hb
  go_wp2_with fail
  obtain ⟨u5, hu5⟩ : ∃ wx, wx = w4.alloc (.cells #[.int .u64 D.id, .int .i64 D.ix, .int .i64 D.ct, .string D.s] 26) := ⟨_, rfl⟩
  obtain ⟨qa, hqa⟩ : ∃ q, q = w4.heap.size := ⟨_, rfl⟩
  have Ha : Hid (FrAt 26 u5 qa D) := Lib.hid (by rw [hu5, hqa]; exact heap_alloc_new w4 _)
  have HNma : Hid (qm ≠ qa) := Lib.hid (by have := Hm.out.lt; omega)
  replace Hm := Lib.hid (Hm.out.below (show Below w4.heap.size w4 u5 by rw [hu5]; exact below_alloc _ _))
  have HQa : Hid (w.heap.size ≤ qa) := Lib.hid (by rw [hqa]; exact HBB.out.size)
  replace HBB := Lib.hid (HBB.out.trans ((show Below w4.heap.size w4 u5 by rw [hu5]; exact below_alloc _ _).mono HBB.out.size))
  rw [← hu5]
  clear hu5
  rw [← hqa]
  clear hqa
  refine (rdec_f A _ HA2.out D E HD.out).mono ?_
  rintro e w6 ⟨rfl, hb⟩
  replace Hm := Lib.hid (Hm.out.below hb)
  replace Ha := Lib.hid (Ha.out.below hb)
  replace HBB := Lib.hid (HBB.out.trans (hb.mono HBB.out.size))
  clear hb
  have hdv : D.v = .agg #[.int .u64 D.id, .int .i64 D.ix, .int .i64 D.ct, .string D.s] := rfl
  rw [hdv]
  clear hdv
  obtain ⟨km0, km1, km2, km3⟩ := (show FrAt 26 (w6.alloc (.cells #[.int .u64 D.id, .int .i64 D.ix, .int .i64 D.ct, .string D.s] 43)) qm N from Hm.out.below (below_alloc _ _)).cells
  go_wp2_with fail
  clear km0 km1 km2 km3
  obtain ⟨u7, hu7⟩ : ∃ wx, wx = w6.alloc (.cells #[.int .u64 D.id, .int .i64 D.ix, .int .i64 D.ct, .string D.s] 43) := ⟨_, rfl⟩
  obtain ⟨qb, hqb⟩ : ∃ q, q = w6.heap.size := ⟨_, rfl⟩
  have Hb : Hid (FrAt 43 u7 qb D) := Lib.hid (by rw [hu7, hqb]; exact heap_alloc_new w6 _)
  have HNmb : Hid (qm ≠ qb) := Lib.hid (by have := Hm.out.lt; omega)
  replace Hm := Lib.hid (Hm.out.below (show Below w6.heap.size w6 u7 by rw [hu7]; exact below_alloc _ _))
  have HNab : Hid (qa ≠ qb) := Lib.hid (by have := Ha.out.lt; omega)
  replace Ha := Lib.hid (Ha.out.below (show Below w6.heap.size w6 u7 by rw [hu7]; exact below_alloc _ _))
  have HQb : Hid (w.heap.size ≤ qb) := Lib.hid (by rw [hqb]; exact HBB.out.size)
  replace HBB := Lib.hid (HBB.out.trans ((show Below w6.heap.size w6 u7 by rw [hu7]; exact below_alloc _ _).mono HBB.out.size))
  rw [← hu7]
  clear hu7
  rw [← hqb]
  clear hqb
  refine (enc_f N _ HN.out t HT).mono ?_
  rintro e w8 ⟨rfl, hb⟩
  replace Hm := Lib.hid (Hm.out.below hb)
  replace Ha := Lib.hid (Ha.out.below hb)
  replace Hb := Lib.hid (Hb.out.below hb)
  replace HBB := Lib.hid (HBB.out.trans (hb.mono HBB.out.size))
  clear hb
  go_wp2_with fail
  refine wp_region_held_drew (S := fun w' => FrAt 26 w' qm N ∧ FrAt 26 w' qa D ∧ FrAt 43 w' qb D) (by kernel_rfl) ⟨Hm.out.drewn, Ha.out.drewn, Hb.out.drewn⟩ (fun hHeld => ?_)
  replace HBB := Lib.hid (below_drewn HBB.out)
  clear Hm Ha Hb
  have t1 : (b != b) = false := by simp
  have t2 := eqS t
  have t3 : ((E : Int) != (E : Int)) = false := by simp
  have t5 := guardR
  have t4 := fun u => (show (binOp .neq 43 (.agg #[.int .u64 D.id, .int .i64 D.ix, .int .i64 D.ct, .string D.s]) (.agg #[.int .u64 D.id, .int .i64 D.ix, .int .i64 D.ct, .string D.s])).run Try.prog u = .ok (.bool false) u by have := neqR D D u; rw [eqF_self] at this; exact this)
  refine wpAnyH_take (i := 0) (oi := ?o1) (v := ?v1) ?i1 (by kernel_rfl) (by kernel_rfl) (by kernel_rfl) ?q1 (Or.inl ⟨?w1, ?y1⟩) (by assumption) ?r1
  case' i1 => simp only [List.getElem?_toArray, List.getElem?_cons_succ, List.getElem?_cons_zero]
  case i1 => rfl
  case q1 => exact fun _ _ _ h => h
  case w1 => rfl
  case y1 => (intro w hSw; obtain ⟨k0, k1, k2, k3⟩ := hSw.1.cells; go_simp) <;> with_reducible rfl
  try simp only [Act.put, List.setIfInBounds_toArray, List.set_cons_zero, List.set_cons_succ]
  refine wpAnyH_take (i := 2) (oi := ?o2) (v := ?v2) ?i2 (by kernel_rfl) (by kernel_rfl) (by kernel_rfl) ?q2 (Or.inl ⟨?w2, ?y2⟩) (by assumption) ?r2
  case' i2 => simp only [List.getElem?_toArray, List.getElem?_cons_succ, List.getElem?_cons_zero]
  case i2 => rfl
  case q2 => exact fun _ _ _ h => h
  case w2 => rfl
  case y2 => (intro w hSw; obtain ⟨k0, k1, k2, k3⟩ := hSw.1.cells; go_simp) <;> with_reducible rfl
  try simp only [Act.put, List.setIfInBounds_toArray, List.set_cons_zero, List.set_cons_succ]
  refine wpAnyH_ready (rs := [1]) (by kernel_rfl) (by simp) ?_
  refine AllReadyH.cons (o := ?o3) ?i3 (fun K' hK => ?_) AllReadyH.nil
  case' i3 => simp only [List.getElem?_toArray, List.getElem?_cons_succ, List.getElem?_cons_zero]
  case i3 => rfl
  go_simp
  go_at_call 20
  refine (right_f N.id N.ix N.ct N.s _ HN.out.s b HB0).mono ?_
  rintro e w' ⟨rfl, hb⟩
  have HBB' := Lib.hid (HBB.out.trans (hb.mono HBB.out.size))
  have hHeld' : FrAt 26 w' qm N ∧ FrAt 26 w' qa D ∧ FrAt 43 w' qb D := ⟨hHeld.1.below hb, hHeld.2.1.below hb, hHeld.2.2.below hb⟩
  clear HBB hb
  have HBB := HBB'
  clear HBB'
  go_wp2_with fail
  refine hK.out _ _ hHeld' (fun _ => ?_)
  clear hK K' hHeld
  have hHeld := hHeld'
  clear hHeld'
  try simp only [Act.put, List.setIfInBounds_toArray, List.set_cons_zero, List.set_cons_succ]
  refine wpAnyH_ready (rs := [3]) (by kernel_rfl) (by simp) ?_
  refine AllReadyH.cons (o := ?o4) ?i4 (fun K' hK => ?_) AllReadyH.nil
  case' i4 => simp only [List.getElem?_toArray, List.getElem?_cons_succ, List.getElem?_cons_zero]
  case i4 => rfl
  go_simp
  go_at_call 22
  refine (one_f N.id N.ix N.ct N.s _).mono ?_
  rintro e w' ⟨rfl, hb⟩
  have HBB' := Lib.hid (HBB.out.trans (hb.mono HBB.out.size))
  have hHeld' : FrAt 26 w' qm N ∧ FrAt 26 w' qa D ∧ FrAt 43 w' qb D := ⟨hHeld.1.below hb, hHeld.2.1.below hb, hHeld.2.2.below hb⟩
  clear HBB hb
  have HBB := HBB'
  clear HBB'
  go_wp2_with fail
  refine hK.out _ _ hHeld' (fun _ => ?_)
  clear hK K' hHeld
  have hHeld := hHeld'
  clear hHeld'
  try simp only [Act.put, List.setIfInBounds_toArray, List.set_cons_zero, List.set_cons_succ]
  refine wpAnyH_ready (rs := [4]) (by kernel_rfl) (by simp) ?_
  refine AllReadyH.cons (o := ?o5) ?i5 (fun K' hK => ?_) AllReadyH.nil
  case' i5 => simp only [List.getElem?_toArray, List.getElem?_cons_succ, List.getElem?_cons_zero]
  case i5 => rfl
  go_simp
  go_at_call 21
  refine (rright_f N.id N.ix N.ct N.s _ HN.out.s b HB0).mono ?_
  rintro e w' ⟨rfl, hb⟩
  have HBB' := Lib.hid (HBB.out.trans (hb.mono HBB.out.size))
  have hHeld' : FrAt 26 w' qm N ∧ FrAt 26 w' qa D ∧ FrAt 43 w' qb D := ⟨hHeld.1.below hb, hHeld.2.1.below hb, hHeld.2.2.below hb⟩
  clear HBB hb
  have HBB := HBB'
  clear HBB'
  go_wp2_with fail
  refine hK.out _ _ hHeld' (fun _ => ?_)
  clear hK K' hHeld
  have hHeld := hHeld'
  clear hHeld'
  try simp only [Act.put, List.setIfInBounds_toArray, List.set_cons_zero, List.set_cons_succ]
  refine wpAnyH_take (i := 5) (oi := ?o6) (v := .bool false) ?i6 (by kernel_rfl) (by kernel_rfl) (by kernel_rfl) ?q6 (Or.inl ⟨?w6, ?y6⟩) (by assumption) ?r6
  case' i6 => simp only [List.getElem?_toArray, List.getElem?_cons_succ, List.getElem?_cons_zero]
  case i6 => rfl
  case q6 => exact fun _ _ _ h => h
  case w6 => rfl
  case y6 => (intro w hSw; go_simp) <;> with_reducible rfl
  try simp only [Act.put, List.setIfInBounds_toArray, List.set_cons_zero, List.set_cons_succ]
  refine wpAnyH_take (i := 6) (oi := ?o7) (v := .bool false) ?i7 (by kernel_rfl) (by kernel_rfl) (by kernel_rfl) ?q7 (Or.inl ⟨?w7, ?y7⟩) (by assumption) ?r7
  case' i7 => simp only [List.getElem?_toArray, List.getElem?_cons_succ, List.getElem?_cons_zero]
  case i7 => rfl
  case q7 => exact fun _ _ _ h => h
  case w7 => rfl
  case y7 => (intro w hSw; go_simp) <;> with_reducible rfl
  try simp only [Act.put, List.setIfInBounds_toArray, List.set_cons_zero, List.set_cons_succ]
  refine wpAnyH_take (i := 7) (oi := ?o8) (v := ?v8) ?i8 (by kernel_rfl) (by kernel_rfl) (by kernel_rfl) ?q8 (Or.inl ⟨?w8, ?y8⟩) (by assumption) ?r8
  case' i8 => simp only [List.getElem?_toArray, List.getElem?_cons_succ, List.getElem?_cons_zero]
  case i8 => rfl
  case q8 => exact fun _ _ _ h => h
  case w8 => rfl
  case y8 => (intro w hSw; go_simp) <;> with_reducible rfl
  try simp only [Act.put, List.setIfInBounds_toArray, List.set_cons_zero, List.set_cons_succ]
  refine wpAnyH_take (i := 8) (oi := ?o9) (v := ?v9) ?i9 (by kernel_rfl) (by kernel_rfl) (by kernel_rfl) ?q9 (Or.inl ⟨?w9, ?y9⟩) (by assumption) ?r9
  case' i9 => simp only [List.getElem?_toArray, List.getElem?_cons_succ, List.getElem?_cons_zero]
  case i9 => rfl
  case q9 => exact fun _ _ _ h => h
  case w9 => rfl
  case y9 => (intro w hSw; obtain ⟨k0, k1, k2, k3⟩ := hSw.1.cells; go_simp) <;> with_reducible rfl
  try simp only [Act.put, List.setIfInBounds_toArray, List.set_cons_zero, List.set_cons_succ]
  refine wpAnyH_ready (rs := [9]) (by kernel_rfl) (by simp) ?_
  refine AllReadyH.cons (o := ?o10) ?i10 (fun K' hK => ?_) AllReadyH.nil
  case' i10 => simp only [List.getElem?_toArray, List.getElem?_cons_succ, List.getElem?_cons_zero]
  case i10 => rfl
  go_simp
  go_at_call 22
  refine (one_f N.id N.ix N.ct N.s _).mono ?_
  rintro e w' ⟨rfl, hb⟩
  have HBB' := Lib.hid (HBB.out.trans (hb.mono HBB.out.size))
  have hHeld' : FrAt 26 w' qm N ∧ FrAt 26 w' qa D ∧ FrAt 43 w' qb D := ⟨hHeld.1.below hb, hHeld.2.1.below hb, hHeld.2.2.below hb⟩
  clear HBB hb
  have HBB := HBB'
  clear HBB'
  go_wp2_with fail
  refine hK.out _ _ hHeld' (fun _ => ?_)
  clear hK K' hHeld
  have hHeld := hHeld'
  clear hHeld'
  try simp only [Act.put, List.setIfInBounds_toArray, List.set_cons_zero, List.set_cons_succ]
  refine wpAnyH_ready (rs := [10]) (by kernel_rfl) (by simp) ?_
  refine AllReadyH.cons (o := ?o11) ?i11 (fun K' hK => ?_) AllReadyH.nil
  case' i11 => simp only [List.getElem?_toArray, List.getElem?_cons_succ, List.getElem?_cons_zero]
  case i11 => rfl
  go_simp
  go_at_call 23
  refine (renc_f N _ HN.out t HT).mono ?_
  rintro e w' ⟨rfl, hb⟩
  have HBB' := Lib.hid (HBB.out.trans (hb.mono HBB.out.size))
  have hHeld' : FrAt 26 w' qm N ∧ FrAt 26 w' qa D ∧ FrAt 43 w' qb D := ⟨hHeld.1.below hb, hHeld.2.1.below hb, hHeld.2.2.below hb⟩
  clear HBB hb
  have HBB := HBB'
  clear HBB'
  go_wp2_with fail
  refine hK.out _ _ hHeld' (fun _ => ?_)
  clear hK K' hHeld
  have hHeld := hHeld'
  clear hHeld'
  try simp only [Act.put, List.setIfInBounds_toArray, List.set_cons_zero, List.set_cons_succ]
  refine wpAnyH_take (i := 11) (oi := ?o12) (v := .bool false) ?i12 (by kernel_rfl) (by kernel_rfl) (by kernel_rfl) ?q12 (Or.inl ⟨?w12, ?y12⟩) (by assumption) ?r12
  case' i12 => simp only [List.getElem?_toArray, List.getElem?_cons_succ, List.getElem?_cons_zero]
  case i12 => rfl
  case q12 => exact fun _ _ _ h => h
  case w12 => rfl
  case y12 => (intro w hSw; go_simp) <;> with_reducible rfl
  try simp only [Act.put, List.setIfInBounds_toArray, List.set_cons_zero, List.set_cons_succ]
  refine wpAnyH_take (i := 12) (oi := ?o13) (v := .bool false) ?i13 (by kernel_rfl) (by kernel_rfl) (by kernel_rfl) ?q13 (Or.inl ⟨?w13, ?y13⟩) (by assumption) ?r13
  case' i13 => simp only [List.getElem?_toArray, List.getElem?_cons_succ, List.getElem?_cons_zero]
  case i13 => rfl
  case q13 => exact fun _ _ _ h => h
  case w13 => rfl
  case y13 => (intro w hSw; go_simp) <;> with_reducible rfl
  try simp only [Act.put, List.setIfInBounds_toArray, List.set_cons_zero, List.set_cons_succ]
  refine wpAnyH_take (i := 13) (oi := ?o14) (v := .bool false) ?i14 (by kernel_rfl) (by kernel_rfl) (by kernel_rfl) ?q14 (Or.inl ⟨?w14, ?y14⟩) (by assumption) ?r14
  case' i14 => simp only [List.getElem?_toArray, List.getElem?_cons_succ, List.getElem?_cons_zero]
  case i14 => rfl
  case q14 => exact fun _ _ _ h => h
  case w14 => rfl
  case y14 => (intro w hSw; go_simp) <;> with_reducible rfl
  try simp only [Act.put, List.setIfInBounds_toArray, List.set_cons_zero, List.set_cons_succ]
  refine wpAnyH_take (i := 14) (oi := ?o15) (v := ?v15) ?i15 (by kernel_rfl) (by kernel_rfl) (by kernel_rfl) ?q15 (Or.inl ⟨?w15, ?y15⟩) (by assumption) ?r15
  case' i15 => simp only [List.getElem?_toArray, List.getElem?_cons_succ, List.getElem?_cons_zero]
  case i15 => rfl
  case q15 => exact fun _ _ _ h => h
  case w15 => rfl
  case y15 => (intro w hSw; obtain ⟨k0, k1, k2, k3⟩ := hSw.2.1.cells; go_simp) <;> with_reducible rfl
  try simp only [Act.put, List.setIfInBounds_toArray, List.set_cons_zero, List.set_cons_succ]
  refine wpAnyH_take (i := 16) (oi := ?o16) (v := ?v16) ?i16 (by kernel_rfl) (by kernel_rfl) (by kernel_rfl) ?q16 (Or.inl ⟨?w16, ?y16⟩) (by assumption) ?r16
  case' i16 => simp only [List.getElem?_toArray, List.getElem?_cons_succ, List.getElem?_cons_zero]
  case i16 => rfl
  case q16 => exact fun _ _ _ h => h
  case w16 => rfl
  case y16 => (intro w hSw; obtain ⟨k0, k1, k2, k3⟩ := hSw.2.2.cells; go_simp) <;> with_reducible rfl
  try simp only [Act.put, List.setIfInBounds_toArray, List.set_cons_zero, List.set_cons_succ]
  refine wpAnyH_ready (rs := [15]) (by kernel_rfl) (by simp) ?_
  refine AllReadyH.cons (o := ?o17) ?i17 (fun K' hK => ?_) AllReadyH.nil
  case' i17 => simp only [List.getElem?_toArray, List.getElem?_cons_succ, List.getElem?_cons_zero]
  case i17 => rfl
  go_simp
  go_at_call 22
  refine (one_f D.id D.ix D.ct D.s _).mono ?_
  rintro e w' ⟨rfl, hb⟩
  have HBB' := Lib.hid (HBB.out.trans (hb.mono HBB.out.size))
  have hHeld' : FrAt 26 w' qm N ∧ FrAt 26 w' qa D ∧ FrAt 43 w' qb D := ⟨hHeld.1.below hb, hHeld.2.1.below hb, hHeld.2.2.below hb⟩
  clear HBB hb
  have HBB := HBB'
  clear HBB'
  go_wp2_with fail
  refine hK.out _ _ hHeld' (fun _ => ?_)
  clear hK K' hHeld
  have hHeld := hHeld'
  clear hHeld'
  try simp only [Act.put, List.setIfInBounds_toArray, List.set_cons_zero, List.set_cons_succ]
  refine wpAnyH_take (i := 17) (oi := ?o18) (v := .bool false) ?i18 (by kernel_rfl) (by kernel_rfl) (by kernel_rfl) ?q18 (Or.inl ⟨?w18, ?y18⟩) (by assumption) ?r18
  case' i18 => simp only [List.getElem?_toArray, List.getElem?_cons_succ, List.getElem?_cons_zero]
  case i18 => rfl
  case q18 => exact fun _ _ _ h => h
  case w18 => rfl
  case y18 => (intro w hSw; go_simp) <;> with_reducible rfl
  try simp only [Act.put, List.setIfInBounds_toArray, List.set_cons_zero, List.set_cons_succ]
  refine wpAnyH_take (i := 18) (oi := ?o19) (v := .bool false) ?i19 (by kernel_rfl) (by kernel_rfl) (by kernel_rfl) ?q19 (Or.inl ⟨?w19, ?y19⟩) (by assumption) ?r19
  case' i19 => simp only [List.getElem?_toArray, List.getElem?_cons_succ, List.getElem?_cons_zero]
  case i19 => rfl
  case q19 => exact fun _ _ _ h => h
  case w19 => rfl
  case y19 => (intro w hSw; go_simp) <;> with_reducible rfl
  try simp only [Act.put, List.setIfInBounds_toArray, List.set_cons_zero, List.set_cons_succ]
  refine wpAnyH_take (i := 19) (oi := ?o20) (v := .bool false) ?i20 (by kernel_rfl) (by kernel_rfl) (by kernel_rfl) ?q20 (Or.inl ⟨?w20, ?y20⟩) (by assumption) ?r20
  case' i20 => simp only [List.getElem?_toArray, List.getElem?_cons_succ, List.getElem?_cons_zero]
  case i20 => rfl
  case q20 => exact fun _ _ _ h => h
  case w20 => rfl
  case y20 => (intro w hSw; go_simp) <;> with_reducible rfl
  try simp only [Act.put, List.setIfInBounds_toArray, List.set_cons_zero, List.set_cons_succ]
  refine wpAnyH_take (i := 20) (oi := ?o21) (v := ?v21) ?i21 (by kernel_rfl) (by kernel_rfl) (by kernel_rfl) ?q21 (Or.inl ⟨?w21, ?y21⟩) (by assumption) ?r21
  case' i21 => simp only [List.getElem?_toArray, List.getElem?_cons_succ, List.getElem?_cons_zero]
  case i21 => rfl
  case q21 => exact fun _ _ _ h => h
  case w21 => rfl
  case y21 => (intro w hSw; go_simp) <;> with_reducible rfl
  try simp only [Act.put, List.setIfInBounds_toArray, List.set_cons_zero, List.set_cons_succ]
  refine wpAnyH_take (i := 21) (oi := ?o22) (v := ?v22) ?i22 (by kernel_rfl) (by kernel_rfl) (by kernel_rfl) ?q22 (Or.inl ⟨?w22, ?y22⟩) (by assumption) ?r22
  case' i22 => simp only [List.getElem?_toArray, List.getElem?_cons_succ, List.getElem?_cons_zero]
  case i22 => rfl
  case q22 => exact fun _ _ _ h => h
  case w22 => rfl
  case y22 => (intro w hSw; go_simp) <;> with_reducible rfl
  try simp only [Act.put, List.setIfInBounds_toArray, List.set_cons_zero, List.set_cons_succ]
  refine wpAnyH_take (i := 22) (oi := ?o23) (v := .bool false) ?i23 (by kernel_rfl) (by kernel_rfl) (by kernel_rfl) ?q23 (Or.inl ⟨?w23, ?y23⟩) (by assumption) ?r23
  case' i23 => simp only [List.getElem?_toArray, List.getElem?_cons_succ, List.getElem?_cons_zero]
  case i23 => rfl
  case q23 => exact fun _ _ _ h => h
  case w23 => rfl
  case y23 => (intro w hSw; go_simp) <;> with_reducible rfl
  try simp only [Act.put, List.setIfInBounds_toArray, List.set_cons_zero, List.set_cons_succ]
  refine wpAnyH_take (i := 23) (oi := ?o24) (v := .bool false) ?i24 (by kernel_rfl) (by kernel_rfl) (by kernel_rfl) ?q24 (Or.inl ⟨?w24, ?y24⟩) (by assumption) ?r24
  case' i24 => simp only [List.getElem?_toArray, List.getElem?_cons_succ, List.getElem?_cons_zero]
  case i24 => rfl
  case q24 => exact fun _ _ _ h => h
  case w24 => rfl
  case y24 => (intro w hSw; go_simp) <;> with_reducible rfl
  try simp only [Act.put, List.setIfInBounds_toArray, List.set_cons_zero, List.set_cons_succ]
  refine wpAnyH_done (by kernel_rfl) ?_ _
  have Ha := Lib.hid hHeld.2.1
  clear hHeld t1 t2 t3 t4 t5
  by_cases hE : E = 0
  · skip
    subst hE
    have z1 : (((0 : Nat) : Int) != 0) = false := by decide
    have HED : Hid (encF D = A) := Lib.hid (dec_back HD.out).2
    have t5 := eqS A
    obtain ⟨ka0, ka1, ka2, ka3⟩ := Ha.out.cells
    go_wp2_with fail
    clear ka0 ka1 ka2 ka3
    refine (enc_f D _ HDW.out A HED).mono ?_
    rintro e wy ⟨rfl, hb⟩
    replace HBB := Lib.hid (HBB.out.trans (hb.mono HBB.out.size))
    clear hb
    go_wp2_with fail
    refine (fixed_any _).mono ?_
    rintro e wz ⟨rfl, hb⟩
    replace HBB := Lib.hid (HBB.out.trans (hb.mono HBB.out.size))
    clear hb
    go_wp2_with fail
    go_ret
    exact ⟨rfl, HBB.out⟩
  · skip
    have z1 : ((E : Int) != 0) = true := by simp [hE]
    clear hE
    go_wp2_with fail
    refine (fixed_any _).mono ?_
    rintro e wz ⟨rfl, hb⟩
    replace HBB := Lib.hid (HBB.out.trans (hb.mono HBB.out.size))
    clear hb
    go_wp2_with fail
    go_ret
    exact ⟨rfl, HBB.out⟩

theorem walk (M : Fr) (a1 : ByteArray) (w : World) (w0 : M.Wf) (w1 : a1.size ≤ maxLen) :
    Calls Try.prog 4 #[.agg M.cl, .string a1] w fun e w' => e = .returned (.bool true) ∧ Below w.heap.size w w' := by
  obtain ⟨p, m0, u0, v0, x0⟩ := slice_facts M.s 1100
  obtain ⟨A, m1, u1, v1, x1⟩ := slice_facts a1 1100
  exact walkN M ⟨M.id, M.ix, M.ct, p⟩ _ _ a1 A _ _ w ⟨w0.id, w0.ix, w0.ct, Nat.le_trans u0 w0.s⟩ (fun u => lcut_f _ _ _ _ p u w0.s m0 u0 x0) m1 u1 v1 x1 w1 rfl rfl rfl

set_option maxRecDepth 100000 in
theorem lifted (os : Os) (started : os.Started) (H : Type) (enc : TypeId × Value → H) :
    ReturnsInHanded {} Try.checked os 4 .any (Rows.splitBytesSpec.pre6 enc Try.prog Try.f4 Rows.splitBytesRow.domain false) (Rows.splitBytesSpec.post enc Try.prog Try.f4 false true false false) := by
  refine returnsInHanded_of_change (C := Try.checked) own started (by kernel_rfl) Try.func4
    (ChangeSpec.witness6 (enc := enc) (C := Try.checked) false ⟨#[], #[.agg #[.int .u64 0, .int .i64 0, .int .i64 0, .string ByteArray.empty], .string ByteArray.empty], []⟩ 8 (by kernel_rfl) (by kernel_rfl) (by kernel_rfl) (by kernel_rfl)) ?_
  intro W base args ds gs before hval0 hW hcnd _
  have hval : ∀ (j : Nat) t v, Try.f4.params[j]? = some t → args[j]? = some v → Value.okWide Try.prog W .any base t v := hval0
  have hW' := hW
  obtain ⟨p, q, hA0, hV, rfl, hfz, hnd⟩ := hW
  have hA : DataW.TrodAll enc Try.prog W 0 (fun _ => true) true Try.f4.params.toList args.toList ds p := hA0
  rw [Try.params4] at hA hval
  obtain ⟨v0, vs0, d0, ds0, p0, q0, hargs, rfl, rfl, h0, r0⟩ := trodAll_cons hA
  obtain ⟨v1, vs1, d1, ds1, p1, q1, rfl, rfl, rfl, h1, r1⟩ := trodAll_cons r0
  obtain ⟨rfl, rfl, rfl⟩ := trodAll_nil r1
  obtain rfl : args = #[v0, v1] := by cases args; simp_all
  obtain ⟨rfl, rfl⟩ := trodVars_none hV
  obtain ⟨cs0, rfl, hsz0⟩ : ∃ cs, v0 = .agg cs ∧ cs.size = Try.prog.cellsOf 26 := by
    have h := hval 0 26 v0 rfl rfl
    simp only [Value.okWide, Try.underlying26] at h
    obtain ⟨cs, e1, e2, _⟩ := h
    exact ⟨cs, e1, e2⟩
  have k0 := h0
  have lt0 : ∀ x ∈ p0, x.block < W.heap.size := by obtain ⟨m, hm⟩ := k0; exact DataW.trod_lt m _ _ _ hm
  obtain ⟨M0, rfl, w0⟩ : ∃ M : Fr, cs0 = M.cl ∧ M.Wf := by
    obtain ⟨fuel, hf⟩ := h0
    exact open_frag hf
  obtain ⟨a1, rfl, rfl, rfl, w1⟩ := open_string Try.underlying9 (hval 1 9 v1 rfl rfl) h1
  clear hA0 hval0
  refine (walk M0 a1 W w0 w1).mono fun e W' ⟨he, bel⟩ => ?_
  subst he
  exact ⟨_, rfl, _, _, _, [], _, [], hW', trodAll_mk1 (shut_bool Try.underlying4 _), (trodAll_cons_mk (Below.trod laidOut (by kernel_rfl) (of_decide_eq_true (by kernel_rfl)) k0 bel lt0) (trodAll_cons_mk (shut_string Try.underlying9 w1) trodAll_mk0)), rfl, bel.frame _, fun h => by cases h⟩

theorem over : Rows.splitBytesRow.holds Try.pinned (OpenSpec.ofChange Rows.splitBytesSpec) :=
  OpenClaim.holds_of_wide 4 Try.f4 rfl rfl rfl rfl rfl rfl rfl ⟨rfl, rfl, rfl, rfl, rfl⟩ rfl rfl rfl rfl rfl (by kernel_rfl) Try.func4 (by kernel_rfl)
    (of_decide_eq_true (by kernel_rfl)) (by unfold Func.isWrapper; first | (rw [if_pos (by decide +kernel)]; kernel_rfl) | (rw [if_neg (by decide +kernel)]; exact ⟨rfl, rfl⟩))
    (fun os started H enc _ => lifted os started H enc)

theorem proved : Rows.SplitBytesSaid := over
#print axioms proved
end Go.Proofs.Ytjimkkakcgdgfaa.splitBytes
