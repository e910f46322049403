/- SplitApart: two parts that may be have the same bytes just if they are the same. No condition. -/
import Derived.Test.YtjimkkakcgdgfaaRows
import Derived.Test.YtjimkkakcgdgfaaFragV
import Derived.WalkKit
import Derived.ProofKit
import Derived.OpenShut
import Derived.ShutString
import Derived.ChangeOld
import Derived.Below
namespace Go.Proofs.Ytjimkkakcgdgfaa.splitApart
open Go.ChangeShapes Go.WideShapes Go.ChangeAt Go.RowKit
open Go.ChangeMaps (open_string shut_string)
open Go.Proofs.Ytjimkkakcgdgfaa
set_option linter.unusedVariables false
set_option linter.unusedSimpArgs false
set_option maxRecDepth 20000

theorem own : ownKnob Try.prog.godebug = none := by kernel_rfl
theorem laidOut : laidOutB Try.prog = true := by kernel_rfl
set_option maxHeartbeats 16000000 in
set_option maxRecDepth 100000 in
theorem walkN (M N X Y : Fr) (s t : ByteArray) (w : World) (hN : N.Wf) (hY : Y.Wf) (hC : (∀ u, Calls Try.prog 9 #[.agg #[.int .u64 M.id, .int .i64 M.ix, .int .i64 M.ct, .string M.s]] u fun e w' => e = .returned (.agg #[.int .u64 N.id, .int .i64 N.ix, .int .i64 N.ct, .string N.s]) ∧ Below u.heap.size u w')) (hC2 : (∀ u, Calls Try.prog 9 #[.agg #[.int .u64 X.id, .int .i64 X.ix, .int .i64 X.ct, .string X.s]] u fun e w' => e = .returned (.agg #[.int .u64 Y.id, .int .i64 Y.ix, .int .i64 Y.ct, .string Y.s]) ∧ Below u.heap.size u w')) (hs : encF N = s) (ht : encF Y = t) :
    Calls Try.prog 8 #[.agg #[.int .u64 M.id, .int .i64 M.ix, .int .i64 M.ct, .string M.s], .agg #[.int .u64 X.id, .int .i64 X.ix, .int .i64 X.ct, .string X.s]] w fun e w' => e = .returned (.bool true) ∧ Below w.heap.size w w' := by
  have HN := Lib.hid hN
  have HY := Lib.hid hY
  have HC := Lib.hid hC
  have HC2 := Lib.hid hC2
  have HS := Lib.hid hs
  have HT := Lib.hid ht
  clear hN hY hC hC2 hs ht
  have HBB : Hid (Below w.heap.size w w) := Lib.hid (Below.refl _ _)
  go_enter Try.func8, Try.ntmps8
  go_wp2_with fail
  obtain ⟨u0, hu0⟩ : ∃ wx, wx = (w.alloc (.cells #[.int .u64 M.id, .int .i64 M.ix, .int .i64 M.ct, .string M.s] 26)).alloc (.cells #[.int .u64 X.id, .int .i64 X.ix, .int .i64 X.ct, .string X.s] 26) := ⟨_, rfl⟩
  obtain ⟨qm, hqm⟩ : ∃ q, q = w.heap.size := ⟨_, rfl⟩
  obtain ⟨qx, hqx⟩ : ∃ q, q = w.heap.size + 1 := ⟨_, rfl⟩
  have Hm : Hid (FrAt 26 u0 qm M) := Lib.hid (by
    rw [hu0, hqm]
    exact FrAt.below (show FrAt 26 (w.alloc _) w.heap.size M from heap_alloc_new w _) (below_alloc _ _))
  have Hx : Hid (FrAt 26 u0 qx X) := Lib.hid (by
    rw [hu0, hqx]
    have := heap_alloc_new (w.alloc (.cells #[.int .u64 M.id, .int .i64 M.ix, .int .i64 M.ct, .string M.s] 26)) (.cells #[.int .u64 X.id, .int .i64 X.ix, .int .i64 X.ct, .string X.s] 26)
    rw [size_alloc] at this
    exact this)
  replace HBB : Hid (Below w.heap.size w u0) := Lib.hid (by rw [hu0]; exact ((Below.refl _ _).alloc (Nat.le_refl _) _).alloc (by simp) _)
  have HQm : Hid (w.heap.size ≤ qm) := Lib.hid (by omega)
  have HQx : Hid (w.heap.size ≤ qx) := Lib.hid (by omega)
  have HNmx : Hid (qm ≠ qx) := Lib.hid (by omega)
  have HNxm : Hid (qx ≠ qm) := Lib.hid (by omega)
  rw [← hu0, ← hqx, ← hqm]
  clear hu0 hqm hqx
  refine (HC.out _).mono ?_
  rintro e w1 ⟨rfl, hb⟩
  replace Hm := Lib.hid (Hm.out.below hb)
  replace Hx := Lib.hid (Hx.out.below hb)
  replace HBB := Lib.hid (HBB.out.trans (hb.mono HBB.out.size))
  clear hb
  obtain ⟨km0, km1, km2, km3⟩ := Hm.out.cells
  have gm0 := frz_of_row 0 Hm.out
  have gm1 := frz_of_row 1 Hm.out
  have gm2 := frz_of_row 2 Hm.out
  have gm3 := frz_of_row 3 Hm.out
  obtain ⟨kx0, kx1, kx2, kx3⟩ := (show FrAt 26 ((((w1.setCell ⟨qm, 0, none⟩ (.int .u64 N.id)).setCell ⟨qm, 1, none⟩ (.int .i64 N.ix)).setCell ⟨qm, 2, none⟩ (.int .i64 N.ct)).setCell ⟨qm, 3, none⟩ (.string N.s)) qx X from Hx.out.chg (chg4 _ _ _ _ _ _) HNxm.out).cells
  go_wp2_with fail
  clear km0 km1 km2 km3
  clear kx0 kx1 kx2 kx3
  clear gm0 gm1 gm2 gm3
  obtain ⟨u2, hu2⟩ : ∃ wx, wx = ((((w1.setCell ⟨qm, 0, none⟩ (.int .u64 N.id)).setCell ⟨qm, 1, none⟩ (.int .i64 N.ix)).setCell ⟨qm, 2, none⟩ (.int .i64 N.ct)).setCell ⟨qm, 3, none⟩ (.string N.s)) := ⟨_, rfl⟩
  have hc : Chg (fun k => k = qm) w1 u2 := by rw [hu2]; exact chg4 _ _ _ _ _ _
  replace Hm : Hid (FrAt 26 u2 qm N) := Lib.hid (by rw [hu2]; exact row4 rfl _ _ _ _ Hm.out)
  replace Hx := Lib.hid (Hx.out.chg hc HNxm.out)
  replace HBB := Lib.hid (Chg.out HBB.out hc HQm.out HBB.out.size)
  rw [← hu2]
  clear hc hu2
  refine (HC2.out _).mono ?_
  rintro e w3 ⟨rfl, hb⟩
  replace Hm := Lib.hid (Hm.out.below hb)
  replace Hx := Lib.hid (Hx.out.below hb)
  replace HBB := Lib.hid (HBB.out.trans (hb.mono HBB.out.size))
  clear hb
  obtain ⟨kx0, kx1, kx2, kx3⟩ := Hx.out.cells
  have gx0 := frz_of_row 0 Hx.out
  have gx1 := frz_of_row 1 Hx.out
  have gx2 := frz_of_row 2 Hx.out
  have gx3 := frz_of_row 3 Hx.out
  obtain ⟨km0, km1, km2, km3⟩ := (show FrAt 26 ((((w3.setCell ⟨qx, 0, none⟩ (.int .u64 Y.id)).setCell ⟨qx, 1, none⟩ (.int .i64 Y.ix)).setCell ⟨qx, 2, none⟩ (.int .i64 Y.ct)).setCell ⟨qx, 3, none⟩ (.string Y.s)) qm N from Hm.out.chg (chg4 _ _ _ _ _ _) HNmx.out).cells
  go_wp2_with fail
  clear kx0 kx1 kx2 kx3
  clear km0 km1 km2 km3
  clear gx0 gx1 gx2 gx3
  obtain ⟨u4, hu4⟩ : ∃ wx, wx = ((((w3.setCell ⟨qx, 0, none⟩ (.int .u64 Y.id)).setCell ⟨qx, 1, none⟩ (.int .i64 Y.ix)).setCell ⟨qx, 2, none⟩ (.int .i64 Y.ct)).setCell ⟨qx, 3, none⟩ (.string Y.s)) := ⟨_, rfl⟩
  have hc : Chg (fun k => k = qx) w3 u4 := by rw [hu4]; exact chg4 _ _ _ _ _ _
  replace Hx : Hid (FrAt 26 u4 qx Y) := Lib.hid (by rw [hu4]; exact row4 rfl _ _ _ _ Hx.out)
  replace Hm := Lib.hid (Hm.out.chg hc HNmx.out)
  replace HBB := Lib.hid (Chg.out HBB.out hc HQx.out HBB.out.size)
  rw [← hu4]
  clear hc hu4
  refine wp_region_held_drew (S := fun w' => FrAt 26 w' qm N ∧ FrAt 26 w' qx Y) (by kernel_rfl) ⟨Hm.out.drewn, Hx.out.drewn⟩ (fun hHeld => ?_)
  replace HBB := Lib.hid (below_drewn HBB.out)
  clear Hm Hx
  refine wpAnyH_take (i := 0) (oi := ?o1) (v := ?v1) ?i1 (by kernel_rfl) (by kernel_rfl) (by kernel_rfl) ?q1 (Or.inl ⟨?w1, ?y1⟩) (by assumption) ?r1
  case' i1 => simp only [List.getElem?_toArray, List.getElem?_cons_succ, List.getElem?_cons_zero]
  case i1 => rfl
  case q1 => exact fun _ _ _ h => h
  case w1 => rfl
  case y1 => (intro w hSw; obtain ⟨k0, k1, k2, k3⟩ := hSw.1.cells; go_simp) <;> with_reducible rfl
  try simp only [Act.put, List.setIfInBounds_toArray, List.set_cons_zero, List.set_cons_succ]
  refine wpAnyH_take (i := 2) (oi := ?o2) (v := ?v2) ?i2 (by kernel_rfl) (by kernel_rfl) (by kernel_rfl) ?q2 (Or.inl ⟨?w2, ?y2⟩) (by assumption) ?r2
  case' i2 => simp only [List.getElem?_toArray, List.getElem?_cons_succ, List.getElem?_cons_zero]
  case i2 => rfl
  case q2 => exact fun _ _ _ h => h
  case w2 => rfl
  case y2 => (intro w hSw; obtain ⟨k0, k1, k2, k3⟩ := hSw.2.cells; go_simp) <;> with_reducible rfl
  try simp only [Act.put, List.setIfInBounds_toArray, List.set_cons_zero, List.set_cons_succ]
  refine wpAnyH_ready (rs := [1]) (by kernel_rfl) (by simp) ?_
  refine AllReadyH.cons (o := ?o3) ?i3 (fun K' hK => ?_) AllReadyH.nil
  case' i3 => simp only [List.getElem?_toArray, List.getElem?_cons_succ, List.getElem?_cons_zero]
  case i3 => rfl
  go_simp
  go_at_call 19
  refine (enc_f N _ HN.out s HS).mono ?_
  rintro e w' ⟨rfl, hb⟩
  have HBB' := Lib.hid (HBB.out.trans (hb.mono HBB.out.size))
  have hHeld' : FrAt 26 w' qm N ∧ FrAt 26 w' qx Y := ⟨hHeld.1.below hb, hHeld.2.below hb⟩
  clear HBB hb
  have HBB := HBB'
  clear HBB'
  go_wp2_with fail
  refine hK.out _ _ hHeld' (fun _ => ?_)
  clear hK K' hHeld
  have hHeld := hHeld'
  clear hHeld'
  try simp only [Act.put, List.setIfInBounds_toArray, List.set_cons_zero, List.set_cons_succ]
  refine wpAnyH_ready (rs := [3]) (by kernel_rfl) (by simp) ?_
  refine AllReadyH.cons (o := ?o4) ?i4 (fun K' hK => ?_) AllReadyH.nil
  case' i4 => simp only [List.getElem?_toArray, List.getElem?_cons_succ, List.getElem?_cons_zero]
  case i4 => rfl
  go_simp
  go_at_call 19
  refine (enc_f Y _ HY.out t HT).mono ?_
  rintro e w' ⟨rfl, hb⟩
  have HBB' := Lib.hid (HBB.out.trans (hb.mono HBB.out.size))
  have hHeld' : FrAt 26 w' qm N ∧ FrAt 26 w' qx Y := ⟨hHeld.1.below hb, hHeld.2.below hb⟩
  clear HBB hb
  have HBB := HBB'
  clear HBB'
  go_wp2_with fail
  refine hK.out _ _ hHeld' (fun _ => ?_)
  clear hK K' hHeld
  have hHeld := hHeld'
  clear hHeld'
  try simp only [Act.put, List.setIfInBounds_toArray, List.set_cons_zero, List.set_cons_succ]
  refine wpAnyH_take (i := 4) (oi := ?o5) (v := ?v5) ?i5 (by kernel_rfl) (by kernel_rfl) (by kernel_rfl) ?q5 (Or.inl ⟨?w5, ?y5⟩) (by assumption) ?r5
  case' i5 => simp only [List.getElem?_toArray, List.getElem?_cons_succ, List.getElem?_cons_zero]
  case i5 => rfl
  case q5 => exact fun _ _ _ h => h
  case w5 => rfl
  case y5 => (intro w hSw; go_simp) <;> with_reducible rfl
  try simp only [Act.put, List.setIfInBounds_toArray, List.set_cons_zero, List.set_cons_succ]
  refine wpAnyH_take (i := 5) (oi := ?o6) (v := ?v6) ?i6 (by kernel_rfl) (by kernel_rfl) (by kernel_rfl) ?q6 (Or.inl ⟨?w6, ?y6⟩) (by assumption) ?r6
  case' i6 => simp only [List.getElem?_toArray, List.getElem?_cons_succ, List.getElem?_cons_zero]
  case i6 => rfl
  case q6 => exact fun _ _ _ h => h
  case w6 => rfl
  case y6 => (intro w hSw; go_simp) <;> with_reducible rfl
  try simp only [Act.put, List.setIfInBounds_toArray, List.set_cons_zero, List.set_cons_succ]
  refine wpAnyH_done (by kernel_rfl) ?_ _
  have Hm := Lib.hid hHeld.1
  have Hx := Lib.hid hHeld.2
  clear hHeld
  rename World => wr
  cases ha : rightF N with
  | false =>
    cases hy : rightF Y with
    | false =>
      have zs0 : s = ⟨#[]⟩ := by rw [← HS.out]; exact enc_no ha
      subst zs0
      have zt0 : t = ⟨#[]⟩ := by rw [← HT.out]; exact enc_no hy
      subst zt0
      have HRN := Lib.hid ha
      have HRY := Lib.hid hy
      clear ha hy
      obtain ⟨km0, km1, km2, km3⟩ := Hm.out.cells
      go_wp2_with fail
      clear km0 km1 km2 km3
      refine (right_f N.id N.ix N.ct N.s _ HN.out.s false HRN).mono ?_
      rintro e w5 ⟨rfl, hb⟩
      replace Hm := Lib.hid (Hm.out.below hb)
      replace Hx := Lib.hid (Hx.out.below hb)
      replace HBB := Lib.hid (HBB.out.trans (hb.mono HBB.out.size))
      clear hb
      obtain ⟨kx0, kx1, kx2, kx3⟩ := Hx.out.cells
      go_wp2_with fail
      clear kx0 kx1 kx2 kx3
      refine (right_f Y.id Y.ix Y.ct Y.s _ HY.out.s false HRY).mono ?_
      rintro e w6 ⟨rfl, hb⟩
      replace Hm := Lib.hid (Hm.out.below hb)
      replace Hx := Lib.hid (Hx.out.below hb)
      replace HBB := Lib.hid (HBB.out.trans (hb.mono HBB.out.size))
      clear hb
      go_wp2_with fail
      refine (fixed_any _).mono ?_
      rintro e w7 ⟨rfl, hb⟩
      replace Hm := Lib.hid (Hm.out.below hb)
      replace Hx := Lib.hid (Hx.out.below hb)
      replace HBB := Lib.hid (HBB.out.trans (hb.mono HBB.out.size))
      clear hb
      go_wp2_with fail
      go_ret
      exact ⟨rfl, HBB.out⟩
    | true =>
      have zs0 : s = ⟨#[]⟩ := by rw [← HS.out]; exact enc_no ha
      subst zs0
      have zte : t.toList.isEmpty = false := by rw [← HT.out]; exact enc_full hy
      have HRN := Lib.hid ha
      have HRY := Lib.hid hy
      clear ha hy
      obtain ⟨km0, km1, km2, km3⟩ := Hm.out.cells
      go_wp2_with fail
      clear km0 km1 km2 km3
      refine (right_f N.id N.ix N.ct N.s _ HN.out.s false HRN).mono ?_
      rintro e w5 ⟨rfl, hb⟩
      replace Hm := Lib.hid (Hm.out.below hb)
      replace Hx := Lib.hid (Hx.out.below hb)
      replace HBB := Lib.hid (HBB.out.trans (hb.mono HBB.out.size))
      clear hb
      obtain ⟨kx0, kx1, kx2, kx3⟩ := Hx.out.cells
      go_wp2_with fail
      clear kx0 kx1 kx2 kx3
      refine (right_f Y.id Y.ix Y.ct Y.s _ HY.out.s true HRY).mono ?_
      rintro e w6 ⟨rfl, hb⟩
      replace Hm := Lib.hid (Hm.out.below hb)
      replace Hx := Lib.hid (Hx.out.below hb)
      replace HBB := Lib.hid (HBB.out.trans (hb.mono HBB.out.size))
      clear hb
      go_wp2_with fail
      refine (fixed_any _).mono ?_
      rintro e w7 ⟨rfl, hb⟩
      replace Hm := Lib.hid (Hm.out.below hb)
      replace Hx := Lib.hid (Hx.out.below hb)
      replace HBB := Lib.hid (HBB.out.trans (hb.mono HBB.out.size))
      clear hb
      go_wp2_with fail
      go_ret
      exact ⟨rfl, HBB.out⟩
  | true =>
    cases hy : rightF Y with
    | false =>
      have zse : s.toList.isEmpty = false := by rw [← HS.out]; exact enc_full ha
      have zt0 : t = ⟨#[]⟩ := by rw [← HT.out]; exact enc_no hy
      subst zt0
      have HRN := Lib.hid ha
      have HRY := Lib.hid hy
      clear ha hy
      obtain ⟨km0, km1, km2, km3⟩ := Hm.out.cells
      go_wp2_with fail
      clear km0 km1 km2 km3
      refine (right_f N.id N.ix N.ct N.s _ HN.out.s true HRN).mono ?_
      rintro e w5 ⟨rfl, hb⟩
      replace Hm := Lib.hid (Hm.out.below hb)
      replace Hx := Lib.hid (Hx.out.below hb)
      replace HBB := Lib.hid (HBB.out.trans (hb.mono HBB.out.size))
      clear hb
      obtain ⟨kx0, kx1, kx2, kx3⟩ := Hx.out.cells
      go_wp2_with fail
      clear kx0 kx1 kx2 kx3
      refine (right_f Y.id Y.ix Y.ct Y.s _ HY.out.s false HRY).mono ?_
      rintro e w6 ⟨rfl, hb⟩
      replace Hm := Lib.hid (Hm.out.below hb)
      replace Hx := Lib.hid (Hx.out.below hb)
      replace HBB := Lib.hid (HBB.out.trans (hb.mono HBB.out.size))
      clear hb
      go_wp2_with fail
      refine (fixed_any _).mono ?_
      rintro e w7 ⟨rfl, hb⟩
      replace Hm := Lib.hid (Hm.out.below hb)
      replace Hx := Lib.hid (Hx.out.below hb)
      replace HBB := Lib.hid (HBB.out.trans (hb.mono HBB.out.size))
      clear hb
      go_wp2_with fail
      go_ret
      exact ⟨rfl, HBB.out⟩
    | true =>
      have zse : s.toList.isEmpty = false := by rw [← HS.out]; exact enc_full ha
      have zte : t.toList.isEmpty = false := by rw [← HT.out]; exact enc_full hy
      have HRN := Lib.hid ha
      have HRY := Lib.hid hy
      have HLS : Hid (s.size ≤ 1000000) := Lib.hid (by have := (enc_len ha).2; rw [HS.out] at this; omega)
      have HLT : Hid (t.size ≤ 1000000) := Lib.hid (by have := (enc_len hy).2; rw [HT.out] at this; omega)
      have HDS : Hid (decF s = (N, 0)) := Lib.hid (by rw [← HS.out]; exact dec_enc ha)
      have HDT : Hid (decF t = (Y, 0)) := Lib.hid (by rw [← HT.out]; exact dec_enc hy)
      obtain ⟨bb, hbb⟩ : ∃ bb, eqF N Y = bb := ⟨_, rfl⟩
      have HST : Hid ((s.toList == t.toList) = bb) := Lib.hid (by
        rw [← hbb]
        cases hq : eqF N Y with
        | true => have := (eqF_iff _ _).1 hq; rw [← HS.out, ← HT.out, this]; simp
        | false =>
          simp only [beq_eq_false_iff_ne, ne_eq, toList_iff]
          intro e
          have h1 := enc_inj ha hy (by rw [HS.out, HT.out, e])
          rw [h1, eqF_self] at hq
          cases hq)
      have HBQ := Lib.hid hbb
      clear ha hy hbb
      go_wp2_with fail
      refine (dec_l s _ HLS.out N 0 0 #[.int .u64 N.id, .int .i64 N.ix, .int .i64 N.ct, .string N.s] HDS.out rfl rfl).mono ?_
      rintro e w5 ⟨rfl, hb⟩
      replace Hm := Lib.hid (Hm.out.below hb)
      replace Hx := Lib.hid (Hx.out.below hb)
      replace HBB := Lib.hid (HBB.out.trans (hb.mono HBB.out.size))
      clear hb
      go_wp2_with fail
      obtain ⟨u6, hu6⟩ : ∃ wx, wx = w5.alloc (.cells #[.int .u64 N.id, .int .i64 N.ix, .int .i64 N.ct, .string N.s] 26) := ⟨_, rfl⟩
      obtain ⟨qc, hqc⟩ : ∃ q, q = w5.heap.size := ⟨_, rfl⟩
      have Hc : Hid (FrAt 26 u6 qc N) := Lib.hid (by rw [hu6, hqc]; exact heap_alloc_new w5 _)
      have HNmc : Hid (qm ≠ qc) := Lib.hid (by have := Hm.out.lt; omega)
      replace Hm := Lib.hid (Hm.out.below (show Below w5.heap.size w5 u6 by rw [hu6]; exact below_alloc _ _))
      have HNxc : Hid (qx ≠ qc) := Lib.hid (by have := Hx.out.lt; omega)
      replace Hx := Lib.hid (Hx.out.below (show Below w5.heap.size w5 u6 by rw [hu6]; exact below_alloc _ _))
      have HQc : Hid (w.heap.size ≤ qc) := Lib.hid (by rw [hqc]; exact HBB.out.size)
      replace HBB := Lib.hid (HBB.out.trans ((show Below w5.heap.size w5 u6 by rw [hu6]; exact below_alloc _ _).mono HBB.out.size))
      rw [← hu6]
      clear hu6
      rw [← hqc]
      clear hqc
      refine (dec_l t _ HLT.out Y 0 0 #[.int .u64 Y.id, .int .i64 Y.ix, .int .i64 Y.ct, .string Y.s] HDT.out rfl rfl).mono ?_
      rintro e w7 ⟨rfl, hb⟩
      replace Hm := Lib.hid (Hm.out.below hb)
      replace Hx := Lib.hid (Hx.out.below hb)
      replace Hc := Lib.hid (Hc.out.below hb)
      replace HBB := Lib.hid (HBB.out.trans (hb.mono HBB.out.size))
      clear hb
      obtain ⟨kd0, kd1, kd2, kd3⟩ := (show FrAt 26 (w7.alloc (.cells #[.int .u64 Y.id, .int .i64 Y.ix, .int .i64 Y.ct, .string Y.s] 26)) w7.heap.size Y from heap_alloc_new _ _).cells
      obtain ⟨km0, km1, km2, km3⟩ := (show FrAt 26 (w7.alloc (.cells #[.int .u64 Y.id, .int .i64 Y.ix, .int .i64 Y.ct, .string Y.s] 26)) qm N from Hm.out.below (below_alloc _ _)).cells
      obtain ⟨kx0, kx1, kx2, kx3⟩ := (show FrAt 26 (w7.alloc (.cells #[.int .u64 Y.id, .int .i64 Y.ix, .int .i64 Y.ct, .string Y.s] 26)) qx Y from Hx.out.below (below_alloc _ _)).cells
      obtain ⟨kc0, kc1, kc2, kc3⟩ := (show FrAt 26 (w7.alloc (.cells #[.int .u64 Y.id, .int .i64 Y.ix, .int .i64 Y.ct, .string Y.s] 26)) qc N from Hc.out.below (below_alloc _ _)).cells
      have t5 := HST.out
      have t7 := guardP
      have t8 : (bb == bb) = true := by simp
      have t6 := fun u => (show (binOp .eql 26 (.agg #[.int .u64 N.id, .int .i64 N.ix, .int .i64 N.ct, .string N.s]) (.agg #[.int .u64 Y.id, .int .i64 Y.ix, .int .i64 Y.ct, .string Y.s])).run Try.prog u = .ok (.bool bb) u by have := eqlP N Y u; rw [HBQ.out] at this; exact this)
      have t9 := fun u => (show (binOp .eql 26 (.agg #[.int .u64 N.id, .int .i64 N.ix, .int .i64 N.ct, .string N.s]) (.agg #[.int .u64 N.id, .int .i64 N.ix, .int .i64 N.ct, .string N.s])).run Try.prog u = .ok (.bool true) u by have := eqlP N N u; rw [eqF_self] at this; exact this)
      have t10 := fun u => (show (binOp .eql 26 (.agg #[.int .u64 Y.id, .int .i64 Y.ix, .int .i64 Y.ct, .string Y.s]) (.agg #[.int .u64 Y.id, .int .i64 Y.ix, .int .i64 Y.ct, .string Y.s])).run Try.prog u = .ok (.bool true) u by have := eqlP Y Y u; rw [eqF_self] at this; exact this)
      go_wp2_with fail
      clear kd0 kd1 kd2 kd3
      clear km0 km1 km2 km3
      clear kx0 kx1 kx2 kx3
      clear kc0 kc1 kc2 kc3
      clear t5 t6 t7 t8 t9 t10
      obtain ⟨u8, hu8⟩ : ∃ wx, wx = w7.alloc (.cells #[.int .u64 Y.id, .int .i64 Y.ix, .int .i64 Y.ct, .string Y.s] 26) := ⟨_, rfl⟩
      obtain ⟨qd, hqd⟩ : ∃ q, q = w7.heap.size := ⟨_, rfl⟩
      have Hd : Hid (FrAt 26 u8 qd Y) := Lib.hid (by rw [hu8, hqd]; exact heap_alloc_new w7 _)
      have HNmd : Hid (qm ≠ qd) := Lib.hid (by have := Hm.out.lt; omega)
      replace Hm := Lib.hid (Hm.out.below (show Below w7.heap.size w7 u8 by rw [hu8]; exact below_alloc _ _))
      have HNxd : Hid (qx ≠ qd) := Lib.hid (by have := Hx.out.lt; omega)
      replace Hx := Lib.hid (Hx.out.below (show Below w7.heap.size w7 u8 by rw [hu8]; exact below_alloc _ _))
      have HNcd : Hid (qc ≠ qd) := Lib.hid (by have := Hc.out.lt; omega)
      replace Hc := Lib.hid (Hc.out.below (show Below w7.heap.size w7 u8 by rw [hu8]; exact below_alloc _ _))
      have HQd : Hid (w.heap.size ≤ qd) := Lib.hid (by rw [hqd]; exact HBB.out.size)
      replace HBB := Lib.hid (HBB.out.trans ((show Below w7.heap.size w7 u8 by rw [hu8]; exact below_alloc _ _).mono HBB.out.size))
      rw [← hu8]
      clear hu8
      rw [← hqd]
      clear hqd
      refine (fixed_any _).mono ?_
      rintro e w9 ⟨rfl, hb⟩
      replace Hm := Lib.hid (Hm.out.below hb)
      replace Hx := Lib.hid (Hx.out.below hb)
      replace Hc := Lib.hid (Hc.out.below hb)
      replace Hd := Lib.hid (Hd.out.below hb)
      replace HBB := Lib.hid (HBB.out.trans (hb.mono HBB.out.size))
      clear hb
      go_wp2_with fail
      go_ret
      exact ⟨rfl, HBB.out⟩

theorem walk (M X : Fr) (w : World) (w0 : M.Wf) (w1 : X.Wf) :
    Calls Try.prog 8 #[.agg M.cl, .agg X.cl] w fun e w' => e = .returned (.bool true) ∧ Below w.heap.size w w' := by
  obtain ⟨p, m0, u0, v0, x0⟩ := slice_facts M.s 1100
  obtain ⟨q, m1, u1, v1, x1⟩ := slice_facts X.s 1100
  exact walkN M ⟨M.id, M.ix, M.ct, p⟩ X ⟨X.id, X.ix, X.ct, q⟩ _ _ w ⟨w0.id, w0.ix, w0.ct, Nat.le_trans u0 w0.s⟩ ⟨w1.id, w1.ix, w1.ct, Nat.le_trans u1 w1.s⟩ (fun u => lcut_f _ _ _ _ p u w0.s m0 u0 x0) (fun u => lcut_f _ _ _ _ q u w1.s m1 u1 x1) rfl rfl

set_option maxRecDepth 100000 in
theorem lifted (os : Os) (started : os.Started) (H : Type) (enc : TypeId × Value → H) :
    ReturnsInHanded {} Try.checked os 8 .any (Rows.splitApartSpec.pre6 enc Try.prog Try.f8 Rows.splitApartRow.domain false) (Rows.splitApartSpec.post enc Try.prog Try.f8 false true false false) := by
  refine returnsInHanded_of_change (C := Try.checked) own started (by kernel_rfl) Try.func8
    (ChangeSpec.witness6 (enc := enc) (C := Try.checked) false ⟨#[], #[.agg #[.int .u64 0, .int .i64 0, .int .i64 0, .string ByteArray.empty], .agg #[.int .u64 0, .int .i64 0, .int .i64 0, .string ByteArray.empty]], []⟩ 8 (by kernel_rfl) (by kernel_rfl) (by kernel_rfl) (by kernel_rfl)) ?_
  intro W base args ds gs before hval0 hW hcnd _
  have hval : ∀ (j : Nat) t v, Try.f8.params[j]? = some t → args[j]? = some v → Value.okWide Try.prog W .any base t v := hval0
  have hW' := hW
  obtain ⟨p, q, hA0, hV, rfl, hfz, hnd⟩ := hW
  have hA : DataW.TrodAll enc Try.prog W 0 (fun _ => true) true Try.f8.params.toList args.toList ds p := hA0
  rw [Try.params8] at hA hval
  obtain ⟨v0, vs0, d0, ds0, p0, q0, hargs, rfl, rfl, h0, r0⟩ := trodAll_cons hA
  obtain ⟨v1, vs1, d1, ds1, p1, q1, rfl, rfl, rfl, h1, r1⟩ := trodAll_cons r0
  obtain ⟨rfl, rfl, rfl⟩ := trodAll_nil r1
  obtain rfl : args = #[v0, v1] := by cases args; simp_all
  obtain ⟨rfl, rfl⟩ := trodVars_none hV
  obtain ⟨cs0, rfl, hsz0⟩ : ∃ cs, v0 = .agg cs ∧ cs.size = Try.prog.cellsOf 26 := by
    have h := hval 0 26 v0 rfl rfl
    simp only [Value.okWide, Try.underlying26] at h
    obtain ⟨cs, e1, e2, _⟩ := h
    exact ⟨cs, e1, e2⟩
  have k0 := h0
  have lt0 : ∀ x ∈ p0, x.block < W.heap.size := by obtain ⟨m, hm⟩ := k0; exact DataW.trod_lt m _ _ _ hm
  obtain ⟨M0, rfl, w0⟩ : ∃ M : Fr, cs0 = M.cl ∧ M.Wf := by
    obtain ⟨fuel, hf⟩ := h0
    exact open_frag hf
  obtain ⟨cs1, rfl, hsz1⟩ : ∃ cs, v1 = .agg cs ∧ cs.size = Try.prog.cellsOf 26 := by
    have h := hval 1 26 v1 rfl rfl
    simp only [Value.okWide, Try.underlying26] at h
    obtain ⟨cs, e1, e2, _⟩ := h
    exact ⟨cs, e1, e2⟩
  have k1 := h1
  have lt1 : ∀ x ∈ p1, x.block < W.heap.size := by obtain ⟨m, hm⟩ := k1; exact DataW.trod_lt m _ _ _ hm
  obtain ⟨M1, rfl, w1⟩ : ∃ M : Fr, cs1 = M.cl ∧ M.Wf := by
    obtain ⟨fuel, hf⟩ := h1
    exact open_frag hf
  clear hA0 hval0
  refine (walk M0 M1 W w0 w1).mono fun e W' ⟨he, bel⟩ => ?_
  subst he
  exact ⟨_, rfl, _, _, _, [], _, [], hW', trodAll_mk1 (shut_bool Try.underlying4 _), (trodAll_cons_mk (Below.trod laidOut (by kernel_rfl) (of_decide_eq_true (by kernel_rfl)) k0 bel lt0) (trodAll_cons_mk (Below.trod laidOut (by kernel_rfl) (of_decide_eq_true (by kernel_rfl)) k1 bel lt1) trodAll_mk0)), rfl, bel.frame _, fun h => by cases h⟩

theorem over : Rows.splitApartRow.holds Try.pinned (OpenSpec.ofChange Rows.splitApartSpec) :=
  OpenClaim.holds_of_wide 8 Try.f8 rfl rfl rfl rfl rfl rfl rfl ⟨rfl, rfl, rfl, rfl, rfl⟩ rfl rfl rfl rfl rfl (by kernel_rfl) Try.func8 (by kernel_rfl)
    (of_decide_eq_true (by kernel_rfl)) (by unfold Func.isWrapper; first | (rw [if_pos (by decide +kernel)]; kernel_rfl) | (rw [if_neg (by decide +kernel)]; exact ⟨rfl, rfl⟩))
    (fun os started H enc _ => lifted os started H enc)

theorem proved : Rows.SplitApartSaid := over
#print axioms proved
end Go.Proofs.Ytjimkkakcgdgfaa.splitApart
