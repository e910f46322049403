/- MsgShort: cut off, or with a byte more, it is none. No condition. -/
import Derived.Test.YtifpahjlmnimnaaRows
import Derived.Test.YtifpahjlmnimnaaMsgV
import Derived.WalkKit
import Derived.ProofKit
import Derived.OpenShut
import Derived.ShutString
import Derived.ChangeOld
import Derived.Below
namespace Go.Proofs.Ytifpahjlmnimnaa.msgShort
open Go.ChangeShapes Go.WideShapes Go.ChangeAt Go.RowKit
open Go.ChangeMaps (open_string shut_string)
open Go.Proofs.Ytifpahjlmnimnaa
set_option linter.unusedVariables false
set_option linter.unusedSimpArgs false
set_option maxRecDepth 20000

theorem own : ownKnob Try.prog.godebug = none := by kernel_rfl
theorem laidOut : laidOutB Try.prog = true := by kernel_rfl
set_option maxHeartbeats 16000000 in
set_option maxRecDepth 100000 in
theorem walkN (M N : Ms) (t : ByteArray) (c k : Nat) (x : Int) (w : World) (hN : N.Wf) (hn : Norm N) (hC : ∀ u, Calls Try.prog 9 #[.agg #[.int .i64 (M.i 0), .int .u64 (M.i 1), .int .u64 (M.i 2), .string M.s, .int .i64 (M.i 4), .int .i64 (M.i 5), .int .i64 (M.i 6), .int .i64 (M.i 7), .int .i64 (M.i 8), .int .i64 (M.i 9), .int .i64 (M.i 10), .int .u64 (M.i 11), .int .u64 (M.i 12)]] u fun e w' => e = .returned (.agg #[.int .i64 (N.i 0), .int .u64 (N.i 1), .int .u64 (N.i 2), .string N.s, .int .i64 (N.i 4), .int .i64 (N.i 5), .int .i64 (N.i 6), .int .i64 (N.i 7), .int .i64 (N.i 8), .int .i64 (N.i 9), .int .i64 (N.i 10), .int .u64 (N.i 11), .int .u64 (N.i 12)]) ∧ Below u.heap.size u w')
    (ht : encM N = t) (hc : (c : Int) ≤ 255) (hx0 : 0 ≤ x) (hx1 : x < 256) (hk : rightM N = true → (c : Int) % (t.size : Int) = (k : Int) ∧ k < t.size) :
    Calls Try.prog 5 #[.agg #[.int .i64 (M.i 0), .int .u64 (M.i 1), .int .u64 (M.i 2), .string M.s, .int .i64 (M.i 4), .int .i64 (M.i 5), .int .i64 (M.i 6), .int .i64 (M.i 7), .int .i64 (M.i 8), .int .i64 (M.i 9), .int .i64 (M.i 10), .int .u64 (M.i 11), .int .u64 (M.i 12)], .int .u8 c, .int .u8 x] w fun e w' => e = .returned (.bool true) ∧ Below w.heap.size w w' := by
  have HN := Lib.hid hN
  have HC := Lib.hid hC
  have HT := Lib.hid ht
  clear hC ht
  have HBB : Hid (Below w.heap.size w w) := Lib.hid (Below.refl _ _)
  go_enter Try.func5, Try.ntmps5
  go_wp2_with fail
  obtain ⟨u1, hu1⟩ : ∃ wx, wx = w.alloc (.cells #[.int .i64 (M.i 0), .int .u64 (M.i 1), .int .u64 (M.i 2), .string M.s, .int .i64 (M.i 4), .int .i64 (M.i 5), .int .i64 (M.i 6), .int .i64 (M.i 7), .int .i64 (M.i 8), .int .i64 (M.i 9), .int .i64 (M.i 10), .int .u64 (M.i 11), .int .u64 (M.i 12)] 24) := ⟨_, rfl⟩
  obtain ⟨qm, hqm⟩ : ∃ q, q = w.heap.size := ⟨_, rfl⟩
  have Hm : Hid (MsgAt u1 qm M) := Lib.hid (by rw [hu1, hqm]; exact heap_alloc_new w _)
  have HQm : Hid (w.heap.size ≤ qm) := Lib.hid (by rw [hqm]; exact HBB.out.size)
  replace HBB := Lib.hid (HBB.out.trans ((show Below w.heap.size w u1 by rw [hu1]; exact below_alloc _ _).mono HBB.out.size))
  rw [← hu1]
  clear hu1
  rw [← hqm]
  clear hqm
  refine (HC.out _).mono ?_
  rintro e w2 ⟨rfl, hb⟩
  replace Hm := Lib.hid (Hm.out.below hb)
  replace HBB := Lib.hid (HBB.out.trans (hb.mono HBB.out.size))
  clear hb
  obtain ⟨km0, km1, km2, km3, km4, km5, km6, km7, km8, km9, km10, km11, km12⟩ := Hm.out.cells
  have gm0 := frz_of_row 0 Hm.out
  have gm1 := frz_of_row 1 Hm.out
  have gm2 := frz_of_row 2 Hm.out
  have gm3 := frz_of_row 3 Hm.out
  have gm4 := frz_of_row 4 Hm.out
  have gm5 := frz_of_row 5 Hm.out
  have gm6 := frz_of_row 6 Hm.out
  have gm7 := frz_of_row 7 Hm.out
  have gm8 := frz_of_row 8 Hm.out
  have gm9 := frz_of_row 9 Hm.out
  have gm10 := frz_of_row 10 Hm.out
  have gm11 := frz_of_row 11 Hm.out
  have gm12 := frz_of_row 12 Hm.out
  go_wp2_with fail
  clear km0 km1 km2 km3 km4 km5 km6 km7 km8 km9 km10 km11 km12
  clear gm0 gm1 gm2 gm3 gm4 gm5 gm6 gm7 gm8 gm9 gm10 gm11 gm12
  obtain ⟨u3, hu3⟩ : ∃ wx, wx = (((((((((((((w2.setCell ⟨qm, 0, none⟩ (.int .i64 (N.i 0))).setCell ⟨qm, 1, none⟩ (.int .u64 (N.i 1))).setCell ⟨qm, 2, none⟩ (.int .u64 (N.i 2))).setCell ⟨qm, 3, none⟩ (.string N.s)).setCell ⟨qm, 4, none⟩ (.int .i64 (N.i 4))).setCell ⟨qm, 5, none⟩ (.int .i64 (N.i 5))).setCell ⟨qm, 6, none⟩ (.int .i64 (N.i 6))).setCell ⟨qm, 7, none⟩ (.int .i64 (N.i 7))).setCell ⟨qm, 8, none⟩ (.int .i64 (N.i 8))).setCell ⟨qm, 9, none⟩ (.int .i64 (N.i 9))).setCell ⟨qm, 10, none⟩ (.int .i64 (N.i 10))).setCell ⟨qm, 11, none⟩ (.int .u64 (N.i 11))).setCell ⟨qm, 12, none⟩ (.int .u64 (N.i 12))) := ⟨_, rfl⟩
  have hc : Chg (fun k => k = qm) w2 u3 := by rw [hu3]; exact chg13 _ _ _ _ _ _ _ _ _ _ _ _ _ _ _
  replace Hm : Hid (MsgAt u3 qm N) := Lib.hid (by rw [hu3]; exact row13 rfl _ _ _ _ _ _ _ _ _ _ _ _ _ Hm.out)
  replace HBB := Lib.hid (Chg.out HBB.out hc HQm.out HBB.out.size)
  rw [← hu3]
  clear hc hu3
  refine (enc_k N _ HN.out t HT).mono ?_
  rintro e w4 ⟨rfl, hb⟩
  replace Hm := Lib.hid (Hm.out.below hb)
  replace HBB := Lib.hid (HBB.out.trans (hb.mono HBB.out.size))
  clear hb
  cases hr : rightM N with
  | false =>
    have ht0 : t = ⟨#[]⟩ := by rw [← HT.out]; exact enc_no hr
    subst ht0
    have HR := Lib.hid hr
    clear hr hk hn
    obtain ⟨km0, km1, km2, km3, km4, km5, km6, km7, km8, km9, km10, km11, km12⟩ := Hm.out.cells
    go_wp2_with fail
    clear km0 km1 km2 km3 km4 km5 km6 km7 km8 km9 km10 km11 km12
    refine (right_k N _ HN.out false HR).mono ?_
    rintro e w5 ⟨rfl, hb⟩
    replace Hm := Lib.hid (Hm.out.below hb)
    replace HBB := Lib.hid (HBB.out.trans (hb.mono HBB.out.size))
    clear hb
    go_wp2_with fail
    refine (fixed_any _).mono ?_
    rintro e w6 ⟨rfl, hb⟩
    replace Hm := Lib.hid (Hm.out.below hb)
    replace HBB := Lib.hid (HBB.out.trans (hb.mono HBB.out.size))
    clear hb
    go_wp2_with fail
    go_ret
    exact ⟨rfl, HBB.out⟩
  | true =>
    obtain ⟨hk1, hk2⟩ := hk hr
    have hne : t.toList.isEmpty = false := by rw [← HT.out]; exact enc_full hr
    have hl := enc_len hr
    rw [HT.out] at hl
    have ha1 : (1 : Int) ≤ t.size := by omega
    have q1 : ((t.size : Int) == 0) = false := beq_eq_false_iff_ne.2 (by omega)
    have hk3 : (k : Int) ≤ t.size := by omega
    have HD1 : Hid (decM (t.extract 0 k) = (zeroM 0, 2)) := Lib.hid (dec_cut hr _ k (by rw [HT.out]; exact hk2) (by rw [HT.out]; simp))
    have HL1 : Hid ((t.extract 0 k).size ≤ 1000000) := Lib.hid (by simp only [ByteArray.size_extract]; omega)
    have HD2 : Hid (decM (t ++ ⟨[UInt8.ofNat x.toNat].toArray⟩) = (zeroM 0, 3)) := Lib.hid (dec_more hn hr _ (UInt8.ofNat x.toNat) (by rw [HT.out, app_list]))
    have HL2 : Hid ((t ++ ⟨[UInt8.ofNat x.toNat].toArray⟩).size ≤ 1000000) := Lib.hid (by rw [ByteArray.size_append]; show t.size + 1 ≤ _; omega)
    obtain ⟨T, hT⟩ : ∃ T, T = t ++ ⟨[UInt8.ofNat x.toNat].toArray⟩ := ⟨_, rfl⟩
    rw [← hT] at HD2 HL2
    have HTT := Lib.hid hT
    clear hT
    have hs1 : (9223372036854775807 < t.size + 1) = False := by simp; omega
    clear hr hk hn hl hk2
    go_wp2_with fail
    refine (decode_l (t.extract 0 k) _ HL1.out (zeroM 0) 2 2 #[.int .i64 0, .int .u64 0, .int .u64 0, .string ⟨#[]⟩, .int .i64 0, .int .i64 0, .int .i64 0, .int .i64 0, .int .i64 0, .int .i64 0, .int .i64 0, .int .u64 0, .int .u64 0] HD1.out rfl rfl).mono ?_
    rintro e w5 ⟨rfl, hb⟩
    replace Hm := Lib.hid (Hm.out.below hb)
    replace HBB := Lib.hid (HBB.out.trans (hb.mono HBB.out.size))
    clear hb
    have hcv := conv_one (w5.alloc (.cells #[.int .i64 0, .int .u64 0, .int .u64 0, .string ⟨#[]⟩, .int .i64 0, .int .i64 0, .int .i64 0, .int .i64 0, .int .i64 0, .int .i64 0, .int .i64 0, .int .u64 0, .int .u64 0] 24)) x hx0 hx1
    rw [size_alloc] at hcv
    go_wp2_with fail
    clear hcv
    obtain ⟨u6, hu6⟩ : ∃ wx, wx = w5.alloc (.cells #[.int .i64 0, .int .u64 0, .int .u64 0, .string ⟨#[]⟩, .int .i64 0, .int .i64 0, .int .i64 0, .int .i64 0, .int .i64 0, .int .i64 0, .int .i64 0, .int .u64 0, .int .u64 0] 24) := ⟨_, rfl⟩
    obtain ⟨qc, hqc⟩ : ∃ q, q = w5.heap.size := ⟨_, rfl⟩
    have Hc : Hid (MsgAt u6 qc (zeroM 0)) := Lib.hid (by rw [hu6, hqc]; exact heap_alloc_new w5 _)
    have HNmc : Hid (qm ≠ qc) := Lib.hid (by have := Hm.out.lt; omega)
    replace Hm := Lib.hid (Hm.out.below (show Below w5.heap.size w5 u6 by rw [hu6]; exact below_alloc _ _))
    have HQc : Hid (w.heap.size ≤ qc) := Lib.hid (by rw [hqc]; exact HBB.out.size)
    replace HBB := Lib.hid (HBB.out.trans ((show Below w5.heap.size w5 u6 by rw [hu6]; exact below_alloc _ _).mono HBB.out.size))
    rw [← hu6]
    clear hu6
    rw [← hqc]
    clear hqc
    obtain ⟨u7, hu7⟩ : ∃ wx, wx = u6.alloc (.cells #[.int .u8 x] 5) := ⟨_, rfl⟩
    have hb : Below u6.heap.size u6 u7 := by rw [hu7]; exact below_alloc _ _
    rw [← hu7]
    clear hu7
    replace Hm := Lib.hid (Hm.out.below hb)
    replace Hc := Lib.hid (Hc.out.below hb)
    replace HBB := Lib.hid (HBB.out.trans (hb.mono HBB.out.size))
    clear hb
    rw [← HTT.out]
    clear HTT
    refine (decode_l T _ HL2.out (zeroM 0) 3 3 #[.int .i64 0, .int .u64 0, .int .u64 0, .string ⟨#[]⟩, .int .i64 0, .int .i64 0, .int .i64 0, .int .i64 0, .int .i64 0, .int .i64 0, .int .i64 0, .int .u64 0, .int .u64 0] HD2.out rfl rfl).mono ?_
    rintro e w8 ⟨rfl, hb⟩
    replace Hm := Lib.hid (Hm.out.below hb)
    replace Hc := Lib.hid (Hc.out.below hb)
    replace HBB := Lib.hid (HBB.out.trans (hb.mono HBB.out.size))
    clear hb
    obtain ⟨kd0, kd1, kd2, kd3, kd4, kd5, kd6, kd7, kd8, kd9, kd10, kd11, kd12⟩ := (show MsgAt (w8.alloc (.cells #[.int .i64 0, .int .u64 0, .int .u64 0, .string ⟨#[]⟩, .int .i64 0, .int .i64 0, .int .i64 0, .int .i64 0, .int .i64 0, .int .i64 0, .int .i64 0, .int .u64 0, .int .u64 0] 24)) w8.heap.size (zeroM 0) from heap_alloc_new _ _).cells
    obtain ⟨kc0, kc1, kc2, kc3, kc4, kc5, kc6, kc7, kc8, kc9, kc10, kc11, kc12⟩ := (show MsgAt (w8.alloc (.cells #[.int .i64 0, .int .u64 0, .int .u64 0, .string ⟨#[]⟩, .int .i64 0, .int .i64 0, .int .i64 0, .int .i64 0, .int .i64 0, .int .i64 0, .int .i64 0, .int .u64 0, .int .u64 0] 24)) qc (zeroM 0) from Hc.out.below (below_alloc _ _)).cells
    have t6 := fun u => (show (binOp .eql 24 (.agg #[.int .i64 ((zeroM 0).i 0), .int .u64 ((zeroM 0).i 1), .int .u64 ((zeroM 0).i 2), .string (zeroM 0).s, .int .i64 ((zeroM 0).i 4), .int .i64 ((zeroM 0).i 5), .int .i64 ((zeroM 0).i 6), .int .i64 ((zeroM 0).i 7), .int .i64 ((zeroM 0).i 8), .int .i64 ((zeroM 0).i 9), .int .i64 ((zeroM 0).i 10), .int .u64 ((zeroM 0).i 11), .int .u64 ((zeroM 0).i 12)]) (.agg #[.int .i64 0, .int .u64 0, .int .u64 0, .string ⟨#[]⟩, .int .i64 0, .int .i64 0, .int .i64 0, .int .i64 0, .int .i64 0, .int .i64 0, .int .i64 0, .int .u64 0, .int .u64 0])).run Try.prog u = .ok (.bool true) u by have := eqlP (zeroM 0) (zeroM 0) u; rw [eqM_self] at this; exact this)
    have t7 := guardP
    go_wp2_with fail
    clear kd0 kd1 kd2 kd3 kd4 kd5 kd6 kd7 kd8 kd9 kd10 kd11 kd12
    clear kc0 kc1 kc2 kc3 kc4 kc5 kc6 kc7 kc8 kc9 kc10 kc11 kc12
    clear t6 t7
    obtain ⟨u9, hu9⟩ : ∃ wx, wx = w8.alloc (.cells #[.int .i64 0, .int .u64 0, .int .u64 0, .string ⟨#[]⟩, .int .i64 0, .int .i64 0, .int .i64 0, .int .i64 0, .int .i64 0, .int .i64 0, .int .i64 0, .int .u64 0, .int .u64 0] 24) := ⟨_, rfl⟩
    obtain ⟨qd, hqd⟩ : ∃ q, q = w8.heap.size := ⟨_, rfl⟩
    have Hd : Hid (MsgAt u9 qd (zeroM 0)) := Lib.hid (by rw [hu9, hqd]; exact heap_alloc_new w8 _)
    have HNmd : Hid (qm ≠ qd) := Lib.hid (by have := Hm.out.lt; omega)
    replace Hm := Lib.hid (Hm.out.below (show Below w8.heap.size w8 u9 by rw [hu9]; exact below_alloc _ _))
    have HNcd : Hid (qc ≠ qd) := Lib.hid (by have := Hc.out.lt; omega)
    replace Hc := Lib.hid (Hc.out.below (show Below w8.heap.size w8 u9 by rw [hu9]; exact below_alloc _ _))
    have HQd : Hid (w.heap.size ≤ qd) := Lib.hid (by rw [hqd]; exact HBB.out.size)
    replace HBB := Lib.hid (HBB.out.trans ((show Below w8.heap.size w8 u9 by rw [hu9]; exact below_alloc _ _).mono HBB.out.size))
    rw [← hu9]
    clear hu9
    rw [← hqd]
    clear hqd
    refine (fixed_any _).mono ?_
    rintro e w10 ⟨rfl, hb⟩
    replace Hm := Lib.hid (Hm.out.below hb)
    replace Hc := Lib.hid (Hc.out.below hb)
    replace Hd := Lib.hid (Hd.out.below hb)
    replace HBB := Lib.hid (HBB.out.trans (hb.mono HBB.out.size))
    clear hb
    go_wp2_with fail
    go_ret
    exact ⟨rfl, HBB.out⟩

theorem walk (M : Ms) (a1 a2 : Int) (w : World) (w0 : M.Wf) (n0 : Norm M) (w1 : (Lit.int .u8 a1).wf = true) (w2 : (Lit.int .u8 a2).wf = true) :
    Calls Try.prog 5 #[.agg M.cl, .int .u8 a1, .int .u8 a2] w fun e w' => e = .returned (.bool true) ∧ Below w.heap.size w w' := by
  obtain ⟨p, m0, u0, v0, x0⟩ := slice_facts M.s 30
  have b1 := bounds_u8 w1
  have b2 := bounds_u8 w2
  obtain ⟨c, rfl⟩ := Int.eq_ofNat_of_zero_le b1.1
  exact walkN M (M.setS p) _ c (c % (encM (M.setS p)).size) a2 w (w0.setS (Nat.le_trans u0 w0.s)) (n0.setS p) (fun u => cut_k M u w0 p m0 u0 x0) rfl b1.2 b2.1 (by have := b2.2; omega) (fun h => ⟨(Int.natCast_emod c _).symm, Nat.mod_lt c (enc_len h).1⟩)

set_option maxRecDepth 100000 in
theorem lifted (os : Os) (started : os.Started) (H : Type) (enc : TypeId × Value → H) :
    ReturnsInHanded {} Try.checked os 5 .any (Rows.msgShortSpec.pre6 enc Try.prog Try.f5 Rows.msgShortRow.domain false) (Rows.msgShortSpec.post enc Try.prog Try.f5 false true false false) := by
  refine returnsInHanded_of_change (C := Try.checked) own started (by kernel_rfl) Try.func5
    (ChangeSpec.witness6 (enc := enc) (C := Try.checked) false ⟨#[], #[.agg #[.int .i64 0, .int .u64 0, .int .u64 0, .string ByteArray.empty, .int .i64 0, .int .i64 0, .int .i64 0, .int .i64 0, .int .i64 0, .int .i64 0, .int .i64 0, .int .u64 0, .int .u64 0], .int .u8 0, .int .u8 0], []⟩ 8 (by kernel_rfl) (by kernel_rfl) (by kernel_rfl) (by kernel_rfl)) ?_
  intro W base args ds gs before hval0 hW hcnd _
  have hval : ∀ (j : Nat) t v, Try.f5.params[j]? = some t → args[j]? = some v → Value.okWide Try.prog W .any base t v := hval0
  have hW' := hW
  obtain ⟨p, q, hA0, hV, rfl, hfz, hnd⟩ := hW
  have hA : DataW.TrodAll enc Try.prog W 0 (fun _ => true) true Try.f5.params.toList args.toList ds p := hA0
  rw [Try.params5] at hA hval
  obtain ⟨v0, vs0, d0, ds0, p0, q0, hargs, rfl, rfl, h0, r0⟩ := trodAll_cons hA
  obtain ⟨v1, vs1, d1, ds1, p1, q1, rfl, rfl, rfl, h1, r1⟩ := trodAll_cons r0
  obtain ⟨v2, vs2, d2, ds2, p2, q2, rfl, rfl, rfl, h2, r2⟩ := trodAll_cons r1
  obtain ⟨rfl, rfl, rfl⟩ := trodAll_nil r2
  obtain rfl : args = #[v0, v1, v2] := by cases args; simp_all
  obtain ⟨rfl, rfl⟩ := trodVars_none hV
  obtain ⟨cs0, rfl, hsz0⟩ : ∃ cs, v0 = .agg cs ∧ cs.size = Try.prog.cellsOf 24 := by
    have h := hval 0 24 v0 rfl rfl
    simp only [Value.okWide, Try.underlying24] at h
    obtain ⟨cs, e1, e2, _⟩ := h
    exact ⟨cs, e1, e2⟩
  have k0 := h0
  have lt0 : ∀ x ∈ p0, x.block < W.heap.size := by obtain ⟨m, hm⟩ := k0; exact DataW.trod_lt m _ _ _ hm
  obtain ⟨M0, rfl, w0, n0⟩ : ∃ M : Ms, cs0 = M.cl ∧ M.Wf ∧ Norm M := by
    obtain ⟨fuel, hf⟩ := h0
    exact open_msg hf
  obtain ⟨a1, rfl, rfl, rfl, w1⟩ := open_int Try.underlying5 (hval 1 5 v1 rfl rfl) h1
  obtain ⟨a2, rfl, rfl, rfl, w2⟩ := open_int Try.underlying5 (hval 2 5 v2 rfl rfl) h2
  clear hA0 hval0
  refine (walk M0 a1 a2 W w0 n0 w1 w2).mono fun e W' ⟨he, bel⟩ => ?_
  subst he
  exact ⟨_, rfl, _, _, _, [], _, [], hW', trodAll_mk1 (shut_bool Try.underlying4 _), (trodAll_cons_mk (Below.trod laidOut (by kernel_rfl) (of_decide_eq_true (by kernel_rfl)) k0 bel lt0) (trodAll_cons_mk (shut_int Try.underlying5 w1) (trodAll_cons_mk (shut_int Try.underlying5 w2) trodAll_mk0))), rfl, bel.frame _, fun h => by cases h⟩

theorem over : Rows.msgShortRow.holds Try.pinned (OpenSpec.ofChange Rows.msgShortSpec) :=
  OpenClaim.holds_of_wide 5 Try.f5 rfl rfl rfl rfl rfl rfl rfl ⟨rfl, rfl, rfl, rfl, rfl⟩ rfl rfl rfl rfl rfl (by kernel_rfl) Try.func5 (by kernel_rfl)
    (of_decide_eq_true (by kernel_rfl)) (by unfold Func.isWrapper; first | (rw [if_pos (by decide +kernel)]; kernel_rfl) | (rw [if_neg (by decide +kernel)]; exact ⟨rfl, rfl⟩))
    (fun os started H enc _ => lifted os started H enc)

theorem proved : Rows.MsgShortSaid := over
#print axioms proved
end Go.Proofs.Ytifpahjlmnimnaa.msgShort
