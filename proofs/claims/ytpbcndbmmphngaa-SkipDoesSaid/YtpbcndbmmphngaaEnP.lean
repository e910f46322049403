/- Entries: the document's Put. -/
import Derived.Test.YtpbcndbmmphngaaEnD
namespace Go.Proofs.Ytpbcndbmmphngaa
open Go.RowKit
set_option linter.unusedVariables false
set_option linter.unusedSimpArgs false
set_option maxRecDepth 20000
theorem drewN_b (w : World) (n : Nat) : Below w.heap.size w (w.drewN n) := ⟨rfl, rfl, rfl, Nat.le_refl _, fun _ _ => rfl⟩
theorem Chg.setC (w : World) (b i : Nat) (v : Value) : Chg (fun k => k = b) w (w.setCell ⟨b, i, none⟩ v) := ⟨rfl, rfl, rfl, by simp, fun k hk hs => heap_setCell_other _ _ _ _ (by exact hs)⟩
theorem four_chg (w : World) (b : Nat) (v0 v1 v2 v3 : Value) : Chg (fun k => k = b) w ((((w.setCell ⟨b, 0, none⟩ v0).setCell ⟨b, 1, none⟩ v1).setCell ⟨b, 2, none⟩ v2).setCell ⟨b, 3, none⟩ v3) :=
  (((Chg.setC w b 0 v0).trans (Chg.setC _ b 1 v1)).trans (Chg.setC _ b 2 v2)).trans (Chg.setC _ b 3 v3)
theorem drew_b (w : World) : Below w.heap.size w w.drew := ⟨rfl, rfl, rfl, Nat.le_refl _, fun _ _ => rfl⟩
theorem under_take (R : List En) (k : Int) : R.take (underE R k).length = underE R k := by
  conv => lhs; arg 2; rw [← under_over R k]
  rw [List.take_left']
  rfl
theorem under_drop (R : List En) (k : Int) : R.drop (underE R k).length = overE R k := by
  conv => lhs; arg 2; rw [← under_over R k]
  rw [List.drop_left']
  rfl
theorem under_len (R : List En) (k : Int) : (underE R k).length ≤ R.length := by
  have := congrArg List.length (under_over R k)
  rw [List.length_append] at this
  omega
theorem under_at {R : List En} {k : Int} {i : Nat} (h : i < (underE R k).length) : (R.getD i zeroE).ep < k ∧ (underE R k).take (i + 1) = (underE R k).take i ++ [R.getD i zeroE] := by
  have hl := under_len R k
  have hg : (underE R k).getD i zeroE = R.getD i zeroE := by
    have := under_take R k
    have h2 : (R.take (underE R k).length).getD i zeroE = R.getD i zeroE := by simp [List.getD, List.getElem?_take, h]
    rw [this] at h2
    exact h2
  refine ⟨?_, ?_⟩
  · rw [← hg]
    exact under_lt (l := R) (by simp [List.getD, h])
  · rw [← hg]
    exact take_getE h
theorem over_at {R : List En} {k : Int} (h : (underE R k).length < R.length) : ¬ (R.getD (underE R k).length zeroE).ep < k := by
  have hd := under_drop R k
  have h2 : overE R k = R.getD (underE R k).length zeroE :: R.drop ((underE R k).length + 1) := by
    rw [← hd, List.drop_eq_getElem_cons h]
    simp [List.getD, h]
  intro hlt
  have h3 : ∀ (l : List En), (∀ x r, overE l k = x :: r → ¬ x.ep < k) := by
    intro l
    induction l with
    | nil => intro x r hq; simp [overE] at hq
    | cons y l ih =>
      intro x r hq
      unfold overE at hq
      by_cases hy : y.ep < k
      · rw [List.dropWhile_cons_of_pos (by simpa using hy)] at hq
        exact ih x r hq
      · rw [List.dropWhile_cons_of_neg (by simpa using hy)] at hq
        injection hq with h4 _
        rw [← h4]; exact hy
  exact h3 R _ _ h2 hlt
set_option maxHeartbeats 8000000 in
set_option maxRecDepth 100000 in
theorem rput_e (a : Option Addr) (n cap : Nat) (fs : List En) (ep key nx bt : Int) (w : World) (hn : n = fs.length) (h : RowE w a cap fs) (hm : n ≤ 1000) :
    Calls Try.prog 11 #[.slice a n cap, .agg #[.int .i64 ep, .int .i64 key, .int .u64 nx, .int .u64 bt]] w fun e w' => ∃ v, e = .returned (.tuple #[v, (putE fs ⟨ep, key, nx, bt⟩).2.1.v, .bool (putE fs ⟨ep, key, nx, bt⟩).2.2]) ∧ NewE 40 w.heap.size v (putE fs ⟨ep, key, nx, bt⟩).1 w' ∧ Below w.heap.size w w' := by
  obtain ⟨R, hR⟩ : ∃ R, dropE fs ep = R := ⟨_, rfl⟩
  obtain ⟨U, hU⟩ : ∃ U, underE R ep = U := ⟨_, rfl⟩
  obtain ⟨V, hV⟩ : ∃ V, overE R ep = V := ⟨_, rfl⟩
  obtain ⟨m, hmm⟩ : ∃ m, U.length = m := ⟨_, rfl⟩
  obtain ⟨rn, hrn⟩ : ∃ rn, R.length = rn := ⟨_, rfl⟩
  have HW : Hid (withE fs ⟨ep, key, nx, bt⟩ = U ++ ⟨ep, key, nx, bt⟩ :: V) := Lib.hid (by unfold withE; show underE (dropE fs ep) ep ++ _ :: overE (dropE fs ep) ep = _; rw [hR, hU, hV])
  have HLE : Hid (rn ≤ 1000 ∧ m ≤ rn) := Lib.hid ⟨by rw [← hrn, ← hR]; have := drop_len (l := fs) ep; omega, by rw [← hmm, ← hrn, ← hU]; exact under_len R ep⟩
  have HU : Hid (∀ i, i < m → (R.getD i zeroE).ep < ep ∧ U.take (i + 1) = U.take i ++ [R.getD i zeroE]) := Lib.hid (fun i hi => by rw [← hU]; exact under_at (by rw [hU, hmm]; exact hi))
  have HV : Hid (m < rn → ¬ (R.getD m zeroE).ep < ep) := Lib.hid (fun hi => by rw [← hmm, ← hU]; exact over_at (by rw [hU, hmm, hrn]; exact hi))
  have HDR : Hid (R.drop m = V ∧ V.length = rn - m) := Lib.hid (by
    have h1 : R.drop m = V := by rw [← hmm, ← hU, under_drop, hV]
    exact ⟨h1, by rw [← h1, List.length_drop, hrn]⟩)
  have HMM := Lib.hid (And.intro hmm hrn)
  have HR1 := Lib.hid h
  have HN := Lib.hid hn
  have HRR := Lib.hid hR
  clear h hn hU hV hmm hrn hR
  obtain ⟨B3, hB3⟩ : ∃ B3, B3 = w.heap.size := ⟨_, rfl⟩
  obtain ⟨o0, ho0⟩ : ∃ o0, o0 = w.alloc (.cells #[.int .i64 ep, .int .i64 key, .int .u64 nx, .int .u64 bt] 40 : Obj) := ⟨_, rfl⟩
  obtain ⟨o1, ho1⟩ : ∃ o1, o1 = o0.alloc (.cells #[.int .i64 0, .int .i64 0, .int .u64 0, .int .u64 0] 40 : Obj) := ⟨_, rfl⟩
  obtain ⟨B5, hB5⟩ : ∃ B5, B5 = o0.heap.size := ⟨_, rfl⟩
  have hb35 : B3 + 1 = B5 := by rw [hB5, ho0, hB3]; simp
  have HO := Lib.hid (And.intro ho0 (And.intro ho1 (And.intro hB3 hb35)))
  have HBL : Hid (Below w.heap.size w o1) := Lib.hid (by rw [ho1, ho0]; exact (below_alloc w _).trans ((below_alloc _ _).mono (below_alloc w _).size))
  have k0 : o0.heap[B3]? = some (.cells #[.int .i64 ep, .int .i64 key, .int .u64 nx, .int .u64 bt] 40 (0, 0)) := by rw [ho0, hB3]; exact heap_alloc_new w _
  have HK3 : Hid (o1.heap[B3]? = some (.cells #[.int .i64 ep, .int .i64 key, .int .u64 nx, .int .u64 bt] 40 (0, 0))) := Lib.hid (by rw [ho1]; exact ((below_alloc o0 _).block _ (blk_lt k0)).trans k0)
  have HK5 : Hid (o1.heap[B5]? = some (.cells #[.int .i64 0, .int .i64 0, .int .u64 0, .int .u64 0] 40 (0, 0))) := Lib.hid (by rw [ho1, hB5]; exact heap_alloc_new o0 _)
  have HB5 : Hid (w.heap.size ≤ B5) := Lib.hid (by omega)
  have HR2 : Hid (RowE o1 a cap fs) := Lib.hid (HR1.out.below HBL.out)
  clear ho0 ho1 hB3 hB5 hb35 k0
  go_enter Try.func11, Try.ntmps11
  go_upto_region 1 with fail
  rw [← HO.out.1, ← HO.out.2.1, ← HO.out.2.2.1, HO.out.2.2.2]
  obtain ⟨r0, r1, r2, r3, _, _, _, _⟩ := cells4 HK3.out
  go_wp2_with fail
  refine (rdrop_e a n cap fs ep o1 HN.out HR2.out hm).mono ?_
  rintro e w1 ⟨v, rfl, hO, hb, g, gc, rfl⟩
  rw [HRR.out, HMM.out.2] at hO
  rw [HRR.out, HMM.out.2]
  obtain ⟨a1, c1, hv1, hrow⟩ := hO.at
  injection hv1 with e1 e2 e3
  subst e1 e3
  have HRW := Lib.hid hrow
  have HB1 : Hid (Below w.heap.size w w1) := Lib.hid (HBL.out.trans (hb.mono HBL.out.size))
  have HK3 : Hid (w1.heap[B3]? = some (.cells #[.int .i64 ep, .int .i64 key, .int .u64 nx, .int .u64 bt] 40 (0, 0))) := Lib.hid ((hb.block _ (blk_lt HK3.out)).trans HK3.out)
  have HK5 : Hid (w1.heap[B5]? = some (.cells #[.int .i64 0, .int .i64 0, .int .u64 0, .int .u64 0] 40 (0, 0))) := Lib.hid ((hb.block _ (blk_lt HK5.out)).trans HK5.out)
  have HO0 : Hid (OwnE 40 w1.heap.size (.slice (some ⟨w1.heap.size, 0, none⟩) 0 0) (U.take 0) (w1.alloc (.cells #[] 40))) := Lib.hid (OwnE.new _ _ (Nat.le_refl _))
  have HB0 : Hid (Below w1.heap.size w1 (w1.alloc (.cells #[] 40))) := Lib.hid (below_alloc _ _)
  have HGC : Hid (rn ≤ gc ∧ gc ≤ maxLen) := Lib.hid (by have := hrow.1; rw [HMM.out.2] at this; exact ⟨this, hrow.2.1⟩)
  clear hO hb hrow e2 r0 r1 r2 r3
  go_wp2_with fail
  go_loopw [8, 9] (fun v i wr => ∃ (k : Nat), k ≤ m ∧ i = .int .i64 k ∧ Hid (OwnE 40 w1.heap.size v (U.take k) wr) ∧ Hid (Below w1.heap.size w1 wr)) (fun _ i _ => m - (intOf i).toNat)
  case atStart => exact ⟨0, Nat.zero_le _, rfl, HO0, HB0⟩
  case round =>
    clear HO0 HB0
    obtain ⟨k, hk, rfl, HO1, HB⟩ := hrel
    have HKW3 : Hid (wr.heap[B3]? = some (.cells #[.int .i64 ep, .int .i64 key, .int .u64 nx, .int .u64 bt] 40 (0, 0))) := Lib.hid ((HB.out.block _ (blk_lt HK3.out)).trans HK3.out)
    obtain ⟨r0, r1, r2, r3, _, _, _, _⟩ := cells4 HKW3.out
    by_cases hlt : k < m
    · have hlt' : (k : Int) < (rn : Int) := by have := HLE.out; omega
      have hk9 : (k : Int) ≤ 1000 := by have := HLE.out; omega
      have hk0 : (0 : Int) ≤ (k : Int) := by omega
      obtain ⟨b1, f1, hq, c0, c1, c2, c3⟩ := erow_cell HRW.out (j := k) (by rw [HMM.out.2]; omega)
      injection hq with hq
      injection hq with q1 q2
      subst q1 q2
      rw [Nat.zero_add] at c0 c1 c2 c3
      replace c0 := (HB.out.cell (block_lt_of_cell c0)).trans c0
      replace c1 := (HB.out.cell (block_lt_of_cell c1)).trans c1
      replace c2 := (HB.out.cell (block_lt_of_cell c2)).trans c2
      replace c3 := (HB.out.cell (block_lt_of_cell c3)).trans c3
      have HT := Lib.hid (HU.out k hlt)
      generalize R.getD k zeroE = z at c0 c1 c2 c3 HT
      obtain ⟨zp, zk, zn, zb⟩ := z
      dsimp only at c0 c1 c2 c3 HT
      have hz := HT.out.1
      have HK := Lib.hid hlt
      have HL : Hid ((U.take k).length + 1 < 100000) := Lib.hid (by have := HLE.out; rw [List.length_take]; omega)
      clear hlt hk
      go_wp2_with fail
      go_quiet (fail)
      go_wp2_with (at_builtin; refine wpList_appE rfl (.tmp 32) (.tmp 37) 27 40 Try.underlying27 infoQ rfl w1.heap.size _ (U.take k) [⟨zp, zk, zn, zb⟩] _ rfl ((HO1.out.below (drewN_b wr _)).below (below_alloc _ _)) wr.heap.size 0 1 1 rfl rfl (news_one (wr.drewN _) ⟨zp, zk, zn, zb⟩ _) (by decide) HL.out (by have := HB.out.size; simp; omega) ?_; intro v' w2 hA; have HA := Lib.hid hA; clear hA)
      go_roundw
      case rel => exact ⟨k + 1, by have := HK.out; omega, by go_num, Lib.hid (by rw [HT.out.2]; exact HA.out.own), Lib.hid ((HB.out.trans ((drewN_b wr _).mono HB.out.size)).trans ((below_alloc (wr.drewN _) _).mono HB.out.size |>.trans HA.out.low))⟩
      case measure => have := HK.out; simp [intOf]; omega
    · obtain rfl : k = m := by omega
      have HE : Hid (U.take k = U) := Lib.hid (by rw [List.take_of_length_le (by rw [HMM.out.1]; exact Nat.le_refl _)])
      have HOU : Hid (OwnE 40 w1.heap.size u8 U wr) := Lib.hid (by have := HO1.out; rw [HE.out] at this; exact this)
      clear HO1 hlt hk
      obtain ⟨ua, uc, hu8, _⟩ := HOU.out.at
      rw [HMM.out.1] at hu8
      subst hu8
      have hk9 : (k : Int) ≤ 1000 := by have := HLE.out; omega
      have hk0 : (0 : Int) ≤ (k : Int) := by omega
      have hkr : (k : Int) ≤ (rn : Int) := by have := HLE.out; omega
      have hrg : (rn : Int) ≤ (gc : Int) := by have := HGC.out; omega
      have hr9 : (rn : Int) ≤ 1000 := by have := HLE.out; omega
      by_cases hkn : k < rn
      · have hlt' : (k : Int) < (rn : Int) := by omega
        obtain ⟨b1, f1, hq, c0, c1, c2, c3⟩ := erow_cell HRW.out (j := k) (by rw [HMM.out.2]; omega)
        injection hq with hq
        injection hq with q1 q2
        subst q1 q2
        rw [Nat.zero_add] at c0 c1 c2 c3
        replace c0 := (HB.out.cell (block_lt_of_cell c0)).trans c0
        have hz := HV.out hkn
        generalize R.getD k zeroE = z at c0 hz
        obtain ⟨zp, zk, zn, zb⟩ := z
        dsimp only at c0 hz
        have hzb : decide (zp < ep) = false := decide_eq_false (by omega)
        clear hkn c1 c2 c3 hz
        go_wp2_with fail
        go_quiet (fail)
        go_upto_region 6 with fail
        generalize hwx : wr.drewN nq = wx
        have hbx : Below wr.heap.size wr wx := by rw [← hwx]; exact drewN_b wr _
        have HOX : Hid (OwnE 40 w1.heap.size (.slice ua k uc) U wx) := Lib.hid (HOU.out.below hbx)
        have HBX : Hid (Below w1.heap.size w1 wx) := Lib.hid (HB.out.trans (hbx.mono HB.out.size))
        have HKX3 : Hid (wx.heap[B3]? = some (.cells #[.int .i64 ep, .int .i64 key, .int .u64 nx, .int .u64 bt] 40 (0, 0))) := Lib.hid ((hbx.block _ (blk_lt HKW3.out)).trans HKW3.out)
        have HL1 : Hid (U.length + 1 < 100000) := Lib.hid (by rw [HMM.out.1]; omega)
        clear hwx hbx r0 r1 r2 r3 c0 hzb hlt'
        obtain ⟨r0, r1, r2, r3, _, _, _, _⟩ := cells4 HKX3.out
        go_upto_region 8 with (at_builtin; refine wpList_appE rfl (.tmp 41) (.tmp 43) 27 40 Try.underlying27 infoQ rfl w1.heap.size _ U [⟨ep, key, nx, bt⟩] _ rfl (HOX.out.below (below_alloc _ _)) wx.heap.size 0 1 1 rfl rfl (news_one wx ⟨ep, key, nx, bt⟩ _) (by decide) HL1.out (by have := HBX.out.size; simp; omega) ?_; intro v' w2 hA; obtain ⟨g2, c2, hv2⟩ := hA.form; rw [List.length_append, HMM.out.1] at hv2; subst hv2; have HA := Lib.hid hA; clear hA)
        have HA2 : Hid (OwnE 40 w1.heap.size (.slice (some ⟨g2, 0, none⟩) (k + 1) c2) (U ++ [⟨ep, key, nx, bt⟩]) w2) := Lib.hid HA.out.own
        have HB2 : Hid (Below w1.heap.size w1 w2) := Lib.hid (HBX.out.trans ((below_alloc wx (.cells #[.int .i64 ep, .int .i64 key, .int .u64 nx, .int .u64 bt] 40)).mono HBX.out.size |>.trans HA.out.low))
        have HRW2 := Lib.hid (HRW.out.below HB2.out)
        clear HA r0 r1 r2 r3
        by_cases hgk : gc = k
        · have hrk : rn = k := by omega
          have HV0 : Hid (V.length = 0) := Lib.hid (by rw [HDR.out.2]; omega)
          have hs0 : rn - k = 0 := by omega
          clear hrk
          go_upto_region 9 with (at_builtin; refine wpList_appE0 rfl (.tmp 45) (.tmp 48) 27 40 Try.underlying27 infoQ rfl w1.heap.size _ (U ++ [(⟨ep, key, nx, bt⟩ : En)]) V w2 rfl HA2.out g 0 0 0 HV0.out rfl (fun j u hu => by rw [List.eq_nil_of_length_eq_zero HV0.out] at hu; simp [cellsE] at hu) (by simp) (by rw [List.length_append, HMM.out.1]; simp; omega) (by have := HB2.out.size; omega) ?_; intro v' w3 hA; obtain ⟨g3, c3, hv3⟩ := hA.form; rw [show ((U ++ [(⟨ep, key, nx, bt⟩ : En)]) ++ V).length = rn + 1 by rw [List.length_append, List.length_append, HMM.out.1, HDR.out.2]; simp; omega] at hv3; subst hv3; have HA := Lib.hid hA; clear hA)
          have HA3 : Hid (OwnE 40 w1.heap.size (.slice (some ⟨g3, 0, none⟩) (rn + 1) c3) (withE fs ⟨ep, key, nx, bt⟩) w3) := Lib.hid (by have := HA.out.own; rw [List.append_assoc] at this; rw [HW.out]; exact this)
          have HB3 : Hid (Below w1.heap.size w1 w3) := Lib.hid (HB2.out.trans HA.out.low)
          have HK53 : Hid (w3.heap[B5]? = some (.cells #[.int .i64 0, .int .i64 0, .int .u64 0, .int .u64 0] 40 (0, 0))) := Lib.hid ((HB3.out.block _ (blk_lt HK5.out)).trans HK5.out)
          have HWL : Hid ((withE fs ⟨ep, key, nx, bt⟩).length = rn + 1) := Lib.hid (by rw [HW.out, List.length_append, List.length_cons, HMM.out.1, HDR.out.2]; omega)
          clear HA
          obtain ⟨s0, s1, s2, s3, t0, t1, t2, t3⟩ := cells4 HK53.out
          have HNE : Hid (∀ j, (Value.slice (some ⟨g3, 0, none⟩) (rn + 1) c3).ownBlock = some j → j ≠ B5) := Lib.hid (fun j hj e => by
            have h1 := (World.ownsRow.lt HA3.out j hj).1
            have h2 := blk_lt HK5.out
            omega)
          by_cases hbig : 4 < rn + 1
          · have hb4 : decide ((4 : Int) < ((rn : Int) + 1)) = true := decide_eq_true (by omega)
            have hb5 : decide (4 < rn + 1) = true := decide_eq_true hbig
            obtain ⟨h, tl, hwt, hput⟩ := put_many (l := fs) (e := ⟨ep, key, nx, bt⟩) (by rw [HWL.out]; omega)
            have HTL : Hid (tl.length = rn) := Lib.hid (by have := HWL.out; rw [hwt] at this; simpa using this)
            have HPU := Lib.hid hput
            rw [hwt] at HA3
            obtain ⟨hp1, hk1, hn1, hb1⟩ := h
            obtain ⟨a5, c5, hv5, hr5⟩ := HA3.out.at
            injection hv5 with x1 x2 x3
            subst x1 x3
            obtain ⟨b6, f6, hq6, d0, d1, d2, d3⟩ := erow_cell hr5 (j := 0) (by simp)
            injection hq6 with hq6
            injection hq6 with y1 y2
            subst y1 y2
            simp only [Nat.zero_mul, Nat.zero_add, List.getD_cons_zero] at d0 d1 d2 d3
            have hc5 : rn + 1 ≤ c3 := by have := hr5.1; rw [List.length_cons, HTL.out] at this; exact this
            have hc31 : ¬ c3 = 1 := by omega
            have hi1 : (1 : Int) ≤ (rn : Int) + 1 := by omega
            have hi2 : (rn : Int) + 1 ≤ (c3 : Int) := by omega
            have hr4 := four_set (a := .int .i64 hp1) (b := .int .i64 hk1) (c := .int .u64 hn1) (d := .int .u64 hb1) HK53.out
            have HF : Hid (Below w.heap.size w ((((w3.setCell ⟨B5, 0, none⟩ (.int .i64 hp1)).setCell ⟨B5, 1, none⟩ (.int .i64 hk1)).setCell ⟨B5, 2, none⟩ (.int .u64 hn1)).setCell ⟨B5, 3, none⟩ (.int .u64 hb1))) := Lib.hid (four_below (HB1.out.trans (HB3.out.mono HB1.out.size)) HB5.out _ _ _ _)
            have HRF := Lib.hid (HA3.out.chg (four_chg w3 B5 (.int .i64 hp1) (.int .i64 hk1) (.int .u64 hn1) (.int .u64 hb1)) (fun j hj => HNE.out j hj))
            obtain ⟨r0, r1, r2, r3, _, _, _, _⟩ := cells4 hr4
            clear hbig hr4 hwt hput x2 hr5
            go_wp2_with fail
            go_region
            go_wp2_with fail
            refine bodyPost_ret (v := .tuple #[.slice (some ⟨g3, 4, none⟩) rn (c3 - 1), .agg #[.int .i64 hp1, .int .i64 hk1, .int .u64 hn1, .int .u64 hb1], .bool true]) (by simp [results, Try.results11, go_sem, r0, r1, r2, r3]) rfl ?_
            rw [HPU.out]
            have hnt := ((HRF.out.newE.mono HB1.out.size).tail).below (drew_b _)
            rw [HTL.out] at hnt
            exact ⟨_, rfl, hnt, HF.out.trans ((drew_b _).mono HF.out.size)⟩
          · have hb4 : decide ((4 : Int) < ((rn : Int) + 1)) = false := decide_eq_false (by omega)
            have hb5 : decide (4 < rn + 1) = false := decide_eq_false hbig
            have HP : Hid (putE fs ⟨ep, key, nx, bt⟩ = (withE fs ⟨ep, key, nx, bt⟩, zeroE, false)) := Lib.hid (put_few (by rw [HWL.out]; omega))
            have hr4 := four_set (a := .int .i64 0) (b := .int .i64 0) (c := .int .u64 0) (d := .int .u64 0) HK53.out
            have HF : Hid (Below w.heap.size w ((((w3.setCell ⟨B5, 0, none⟩ (.int .i64 0)).setCell ⟨B5, 1, none⟩ (.int .i64 0)).setCell ⟨B5, 2, none⟩ (.int .u64 0)).setCell ⟨B5, 3, none⟩ (.int .u64 0))) := Lib.hid (four_below (HB1.out.trans (HB3.out.mono HB1.out.size)) HB5.out _ _ _ _)
            have HRF := Lib.hid (HA3.out.chg (four_chg w3 B5 (.int .i64 0) (.int .i64 0) (.int .u64 0) (.int .u64 0)) (fun j hj => HNE.out j hj))
            obtain ⟨r0, r1, r2, r3, _, _, _, _⟩ := cells4 hr4
            clear hbig hr4
            go_wp2_with fail
            refine bodyPost_ret (v := .tuple #[.slice (some ⟨g3, 0, none⟩) (rn + 1) c3, .agg #[.int .i64 0, .int .i64 0, .int .u64 0, .int .u64 0], .bool false]) (by simp [results, Try.results11, go_sem, r0, r1, r2, r3]) rfl ?_
            exact ⟨_, by rw [HP.out]; rfl, by rw [HP.out]; exact HRF.out.newE.mono HB1.out.size, HF.out⟩
        · skip
          go_upto_region 9 with (at_builtin; refine wpList_appE0 rfl (.tmp 45) (.tmp 48) 27 40 Try.underlying27 infoQ rfl w1.heap.size _ (U ++ [(⟨ep, key, nx, bt⟩ : En)]) V w2 rfl HA2.out g (k * 4) (rn - k) (gc - k) HDR.out.2 rfl (fun j u hu => by have := news_row HRW2.out k j u (by rw [HDR.out.1]; exact hu); rwa [Nat.zero_add] at this) (by simp) (by rw [List.length_append, HMM.out.1]; simp; omega) (by have := HB2.out.size; omega) ?_; intro v' w3 hA; obtain ⟨g3, c3, hv3⟩ := hA.form; rw [show ((U ++ [(⟨ep, key, nx, bt⟩ : En)]) ++ V).length = rn + 1 by rw [List.length_append, List.length_append, HMM.out.1, HDR.out.2]; simp; omega] at hv3; subst hv3; have HA := Lib.hid hA; clear hA)
          have HA3 : Hid (OwnE 40 w1.heap.size (.slice (some ⟨g3, 0, none⟩) (rn + 1) c3) (withE fs ⟨ep, key, nx, bt⟩) w3) := Lib.hid (by have := HA.out.own; rw [List.append_assoc] at this; rw [HW.out]; exact this)
          have HB3 : Hid (Below w1.heap.size w1 w3) := Lib.hid (HB2.out.trans HA.out.low)
          have HK53 : Hid (w3.heap[B5]? = some (.cells #[.int .i64 0, .int .i64 0, .int .u64 0, .int .u64 0] 40 (0, 0))) := Lib.hid ((HB3.out.block _ (blk_lt HK5.out)).trans HK5.out)
          have HWL : Hid ((withE fs ⟨ep, key, nx, bt⟩).length = rn + 1) := Lib.hid (by rw [HW.out, List.length_append, List.length_cons, HMM.out.1, HDR.out.2]; omega)
          clear HA
          obtain ⟨s0, s1, s2, s3, t0, t1, t2, t3⟩ := cells4 HK53.out
          have HNE : Hid (∀ j, (Value.slice (some ⟨g3, 0, none⟩) (rn + 1) c3).ownBlock = some j → j ≠ B5) := Lib.hid (fun j hj e => by
            have h1 := (World.ownsRow.lt HA3.out j hj).1
            have h2 := blk_lt HK5.out
            omega)
          by_cases hbig : 4 < rn + 1
          · have hb4 : decide ((4 : Int) < ((rn : Int) + 1)) = true := decide_eq_true (by omega)
            have hb5 : decide (4 < rn + 1) = true := decide_eq_true hbig
            obtain ⟨h, tl, hwt, hput⟩ := put_many (l := fs) (e := ⟨ep, key, nx, bt⟩) (by rw [HWL.out]; omega)
            have HTL : Hid (tl.length = rn) := Lib.hid (by have := HWL.out; rw [hwt] at this; simpa using this)
            have HPU := Lib.hid hput
            rw [hwt] at HA3
            obtain ⟨hp1, hk1, hn1, hb1⟩ := h
            obtain ⟨a5, c5, hv5, hr5⟩ := HA3.out.at
            injection hv5 with x1 x2 x3
            subst x1 x3
            obtain ⟨b6, f6, hq6, d0, d1, d2, d3⟩ := erow_cell hr5 (j := 0) (by simp)
            injection hq6 with hq6
            injection hq6 with y1 y2
            subst y1 y2
            simp only [Nat.zero_mul, Nat.zero_add, List.getD_cons_zero] at d0 d1 d2 d3
            have hc5 : rn + 1 ≤ c3 := by have := hr5.1; rw [List.length_cons, HTL.out] at this; exact this
            have hc31 : ¬ c3 = 1 := by omega
            have hi1 : (1 : Int) ≤ (rn : Int) + 1 := by omega
            have hi2 : (rn : Int) + 1 ≤ (c3 : Int) := by omega
            have hr4 := four_set (a := .int .i64 hp1) (b := .int .i64 hk1) (c := .int .u64 hn1) (d := .int .u64 hb1) HK53.out
            have HF : Hid (Below w.heap.size w ((((w3.setCell ⟨B5, 0, none⟩ (.int .i64 hp1)).setCell ⟨B5, 1, none⟩ (.int .i64 hk1)).setCell ⟨B5, 2, none⟩ (.int .u64 hn1)).setCell ⟨B5, 3, none⟩ (.int .u64 hb1))) := Lib.hid (four_below (HB1.out.trans (HB3.out.mono HB1.out.size)) HB5.out _ _ _ _)
            have HRF := Lib.hid (HA3.out.chg (four_chg w3 B5 (.int .i64 hp1) (.int .i64 hk1) (.int .u64 hn1) (.int .u64 hb1)) (fun j hj => HNE.out j hj))
            obtain ⟨r0, r1, r2, r3, _, _, _, _⟩ := cells4 hr4
            clear hbig hr4 hwt hput x2 hr5
            go_wp2_with fail
            go_region
            go_wp2_with fail
            refine bodyPost_ret (v := .tuple #[.slice (some ⟨g3, 4, none⟩) rn (c3 - 1), .agg #[.int .i64 hp1, .int .i64 hk1, .int .u64 hn1, .int .u64 hb1], .bool true]) (by simp [results, Try.results11, go_sem, r0, r1, r2, r3]) rfl ?_
            rw [HPU.out]
            have hnt := ((HRF.out.newE.mono HB1.out.size).tail).below (drew_b _)
            rw [HTL.out] at hnt
            exact ⟨_, rfl, hnt, HF.out.trans ((drew_b _).mono HF.out.size)⟩
          · have hb4 : decide ((4 : Int) < ((rn : Int) + 1)) = false := decide_eq_false (by omega)
            have hb5 : decide (4 < rn + 1) = false := decide_eq_false hbig
            have HP : Hid (putE fs ⟨ep, key, nx, bt⟩ = (withE fs ⟨ep, key, nx, bt⟩, zeroE, false)) := Lib.hid (put_few (by rw [HWL.out]; omega))
            have hr4 := four_set (a := .int .i64 0) (b := .int .i64 0) (c := .int .u64 0) (d := .int .u64 0) HK53.out
            have HF : Hid (Below w.heap.size w ((((w3.setCell ⟨B5, 0, none⟩ (.int .i64 0)).setCell ⟨B5, 1, none⟩ (.int .i64 0)).setCell ⟨B5, 2, none⟩ (.int .u64 0)).setCell ⟨B5, 3, none⟩ (.int .u64 0))) := Lib.hid (four_below (HB1.out.trans (HB3.out.mono HB1.out.size)) HB5.out _ _ _ _)
            have HRF := Lib.hid (HA3.out.chg (four_chg w3 B5 (.int .i64 0) (.int .i64 0) (.int .u64 0) (.int .u64 0)) (fun j hj => HNE.out j hj))
            obtain ⟨r0, r1, r2, r3, _, _, _, _⟩ := cells4 hr4
            clear hbig hr4
            go_wp2_with fail
            refine bodyPost_ret (v := .tuple #[.slice (some ⟨g3, 0, none⟩) (rn + 1) c3, .agg #[.int .i64 0, .int .i64 0, .int .u64 0, .int .u64 0], .bool false]) (by simp [results, Try.results11, go_sem, r0, r1, r2, r3]) rfl ?_
            exact ⟨_, by rw [HP.out]; rfl, by rw [HP.out]; exact HRF.out.newE.mono HB1.out.size, HF.out⟩
      · have hlt' : decide ((k : Int) < (rn : Int)) = false := decide_eq_false (by omega)
        have hlt2 : decide (k < rn) = false := decide_eq_false hkn
        clear hkn
        go_wp2_with fail
        go_quiet (fail)
        go_upto_region 6 with fail
        generalize hwx : wr.drewN nq = wx
        have hbx : Below wr.heap.size wr wx := by rw [← hwx]; exact drewN_b wr _
        have HOX : Hid (OwnE 40 w1.heap.size (.slice ua k uc) U wx) := Lib.hid (HOU.out.below hbx)
        have HBX : Hid (Below w1.heap.size w1 wx) := Lib.hid (HB.out.trans (hbx.mono HB.out.size))
        have HKX3 : Hid (wx.heap[B3]? = some (.cells #[.int .i64 ep, .int .i64 key, .int .u64 nx, .int .u64 bt] 40 (0, 0))) := Lib.hid ((hbx.block _ (blk_lt HKW3.out)).trans HKW3.out)
        have HL1 : Hid (U.length + 1 < 100000) := Lib.hid (by rw [HMM.out.1]; omega)
        clear hwx hbx r0 r1 r2 r3 hlt' hlt2
        obtain ⟨r0, r1, r2, r3, _, _, _, _⟩ := cells4 HKX3.out
        go_upto_region 8 with (at_builtin; refine wpList_appE rfl (.tmp 41) (.tmp 43) 27 40 Try.underlying27 infoQ rfl w1.heap.size _ U [⟨ep, key, nx, bt⟩] _ rfl (HOX.out.below (below_alloc _ _)) wx.heap.size 0 1 1 rfl rfl (news_one wx ⟨ep, key, nx, bt⟩ _) (by decide) HL1.out (by have := HBX.out.size; simp; omega) ?_; intro v' w2 hA; obtain ⟨g2, c2, hv2⟩ := hA.form; rw [List.length_append, HMM.out.1] at hv2; subst hv2; have HA := Lib.hid hA; clear hA)
        have HA2 : Hid (OwnE 40 w1.heap.size (.slice (some ⟨g2, 0, none⟩) (k + 1) c2) (U ++ [⟨ep, key, nx, bt⟩]) w2) := Lib.hid HA.out.own
        have HB2 : Hid (Below w1.heap.size w1 w2) := Lib.hid (HBX.out.trans ((below_alloc wx (.cells #[.int .i64 ep, .int .i64 key, .int .u64 nx, .int .u64 bt] 40)).mono HBX.out.size |>.trans HA.out.low))
        have HRW2 := Lib.hid (HRW.out.below HB2.out)
        clear HA r0 r1 r2 r3
        by_cases hgk : gc = k
        · have hrk : rn = k := by omega
          have HV0 : Hid (V.length = 0) := Lib.hid (by rw [HDR.out.2]; omega)
          have hs0 : rn - k = 0 := by omega
          clear hrk
          go_upto_region 9 with (at_builtin; refine wpList_appE0 rfl (.tmp 45) (.tmp 48) 27 40 Try.underlying27 infoQ rfl w1.heap.size _ (U ++ [(⟨ep, key, nx, bt⟩ : En)]) V w2 rfl HA2.out g 0 0 0 HV0.out rfl (fun j u hu => by rw [List.eq_nil_of_length_eq_zero HV0.out] at hu; simp [cellsE] at hu) (by simp) (by rw [List.length_append, HMM.out.1]; simp; omega) (by have := HB2.out.size; omega) ?_; intro v' w3 hA; obtain ⟨g3, c3, hv3⟩ := hA.form; rw [show ((U ++ [(⟨ep, key, nx, bt⟩ : En)]) ++ V).length = rn + 1 by rw [List.length_append, List.length_append, HMM.out.1, HDR.out.2]; simp; omega] at hv3; subst hv3; have HA := Lib.hid hA; clear hA)
          have HA3 : Hid (OwnE 40 w1.heap.size (.slice (some ⟨g3, 0, none⟩) (rn + 1) c3) (withE fs ⟨ep, key, nx, bt⟩) w3) := Lib.hid (by have := HA.out.own; rw [List.append_assoc] at this; rw [HW.out]; exact this)
          have HB3 : Hid (Below w1.heap.size w1 w3) := Lib.hid (HB2.out.trans HA.out.low)
          have HK53 : Hid (w3.heap[B5]? = some (.cells #[.int .i64 0, .int .i64 0, .int .u64 0, .int .u64 0] 40 (0, 0))) := Lib.hid ((HB3.out.block _ (blk_lt HK5.out)).trans HK5.out)
          have HWL : Hid ((withE fs ⟨ep, key, nx, bt⟩).length = rn + 1) := Lib.hid (by rw [HW.out, List.length_append, List.length_cons, HMM.out.1, HDR.out.2]; omega)
          clear HA
          obtain ⟨s0, s1, s2, s3, t0, t1, t2, t3⟩ := cells4 HK53.out
          have HNE : Hid (∀ j, (Value.slice (some ⟨g3, 0, none⟩) (rn + 1) c3).ownBlock = some j → j ≠ B5) := Lib.hid (fun j hj e => by
            have h1 := (World.ownsRow.lt HA3.out j hj).1
            have h2 := blk_lt HK5.out
            omega)
          by_cases hbig : 4 < rn + 1
          · have hb4 : decide ((4 : Int) < ((rn : Int) + 1)) = true := decide_eq_true (by omega)
            have hb5 : decide (4 < rn + 1) = true := decide_eq_true hbig
            obtain ⟨h, tl, hwt, hput⟩ := put_many (l := fs) (e := ⟨ep, key, nx, bt⟩) (by rw [HWL.out]; omega)
            have HTL : Hid (tl.length = rn) := Lib.hid (by have := HWL.out; rw [hwt] at this; simpa using this)
            have HPU := Lib.hid hput
            rw [hwt] at HA3
            obtain ⟨hp1, hk1, hn1, hb1⟩ := h
            obtain ⟨a5, c5, hv5, hr5⟩ := HA3.out.at
            injection hv5 with x1 x2 x3
            subst x1 x3
            obtain ⟨b6, f6, hq6, d0, d1, d2, d3⟩ := erow_cell hr5 (j := 0) (by simp)
            injection hq6 with hq6
            injection hq6 with y1 y2
            subst y1 y2
            simp only [Nat.zero_mul, Nat.zero_add, List.getD_cons_zero] at d0 d1 d2 d3
            have hc5 : rn + 1 ≤ c3 := by have := hr5.1; rw [List.length_cons, HTL.out] at this; exact this
            have hc31 : ¬ c3 = 1 := by omega
            have hi1 : (1 : Int) ≤ (rn : Int) + 1 := by omega
            have hi2 : (rn : Int) + 1 ≤ (c3 : Int) := by omega
            have hr4 := four_set (a := .int .i64 hp1) (b := .int .i64 hk1) (c := .int .u64 hn1) (d := .int .u64 hb1) HK53.out
            have HF : Hid (Below w.heap.size w ((((w3.setCell ⟨B5, 0, none⟩ (.int .i64 hp1)).setCell ⟨B5, 1, none⟩ (.int .i64 hk1)).setCell ⟨B5, 2, none⟩ (.int .u64 hn1)).setCell ⟨B5, 3, none⟩ (.int .u64 hb1))) := Lib.hid (four_below (HB1.out.trans (HB3.out.mono HB1.out.size)) HB5.out _ _ _ _)
            have HRF := Lib.hid (HA3.out.chg (four_chg w3 B5 (.int .i64 hp1) (.int .i64 hk1) (.int .u64 hn1) (.int .u64 hb1)) (fun j hj => HNE.out j hj))
            obtain ⟨r0, r1, r2, r3, _, _, _, _⟩ := cells4 hr4
            clear hbig hr4 hwt hput x2 hr5
            go_wp2_with fail
            go_region
            go_wp2_with fail
            refine bodyPost_ret (v := .tuple #[.slice (some ⟨g3, 4, none⟩) rn (c3 - 1), .agg #[.int .i64 hp1, .int .i64 hk1, .int .u64 hn1, .int .u64 hb1], .bool true]) (by simp [results, Try.results11, go_sem, r0, r1, r2, r3]) rfl ?_
            rw [HPU.out]
            have hnt := ((HRF.out.newE.mono HB1.out.size).tail).below (drew_b _)
            rw [HTL.out] at hnt
            exact ⟨_, rfl, hnt, HF.out.trans ((drew_b _).mono HF.out.size)⟩
          · have hb4 : decide ((4 : Int) < ((rn : Int) + 1)) = false := decide_eq_false (by omega)
            have hb5 : decide (4 < rn + 1) = false := decide_eq_false hbig
            have HP : Hid (putE fs ⟨ep, key, nx, bt⟩ = (withE fs ⟨ep, key, nx, bt⟩, zeroE, false)) := Lib.hid (put_few (by rw [HWL.out]; omega))
            have hr4 := four_set (a := .int .i64 0) (b := .int .i64 0) (c := .int .u64 0) (d := .int .u64 0) HK53.out
            have HF : Hid (Below w.heap.size w ((((w3.setCell ⟨B5, 0, none⟩ (.int .i64 0)).setCell ⟨B5, 1, none⟩ (.int .i64 0)).setCell ⟨B5, 2, none⟩ (.int .u64 0)).setCell ⟨B5, 3, none⟩ (.int .u64 0))) := Lib.hid (four_below (HB1.out.trans (HB3.out.mono HB1.out.size)) HB5.out _ _ _ _)
            have HRF := Lib.hid (HA3.out.chg (four_chg w3 B5 (.int .i64 0) (.int .i64 0) (.int .u64 0) (.int .u64 0)) (fun j hj => HNE.out j hj))
            obtain ⟨r0, r1, r2, r3, _, _, _, _⟩ := cells4 hr4
            clear hbig hr4
            go_wp2_with fail
            refine bodyPost_ret (v := .tuple #[.slice (some ⟨g3, 0, none⟩) (rn + 1) c3, .agg #[.int .i64 0, .int .i64 0, .int .u64 0, .int .u64 0], .bool false]) (by simp [results, Try.results11, go_sem, r0, r1, r2, r3]) rfl ?_
            exact ⟨_, by rw [HP.out]; rfl, by rw [HP.out]; exact HRF.out.newE.mono HB1.out.size, HF.out⟩
        · skip
          go_upto_region 9 with (at_builtin; refine wpList_appE0 rfl (.tmp 45) (.tmp 48) 27 40 Try.underlying27 infoQ rfl w1.heap.size _ (U ++ [(⟨ep, key, nx, bt⟩ : En)]) V w2 rfl HA2.out g (k * 4) (rn - k) (gc - k) HDR.out.2 rfl (fun j u hu => by have := news_row HRW2.out k j u (by rw [HDR.out.1]; exact hu); rwa [Nat.zero_add] at this) (by simp) (by rw [List.length_append, HMM.out.1]; simp; omega) (by have := HB2.out.size; omega) ?_; intro v' w3 hA; obtain ⟨g3, c3, hv3⟩ := hA.form; rw [show ((U ++ [(⟨ep, key, nx, bt⟩ : En)]) ++ V).length = rn + 1 by rw [List.length_append, List.length_append, HMM.out.1, HDR.out.2]; simp; omega] at hv3; subst hv3; have HA := Lib.hid hA; clear hA)
          have HA3 : Hid (OwnE 40 w1.heap.size (.slice (some ⟨g3, 0, none⟩) (rn + 1) c3) (withE fs ⟨ep, key, nx, bt⟩) w3) := Lib.hid (by have := HA.out.own; rw [List.append_assoc] at this; rw [HW.out]; exact this)
          have HB3 : Hid (Below w1.heap.size w1 w3) := Lib.hid (HB2.out.trans HA.out.low)
          have HK53 : Hid (w3.heap[B5]? = some (.cells #[.int .i64 0, .int .i64 0, .int .u64 0, .int .u64 0] 40 (0, 0))) := Lib.hid ((HB3.out.block _ (blk_lt HK5.out)).trans HK5.out)
          have HWL : Hid ((withE fs ⟨ep, key, nx, bt⟩).length = rn + 1) := Lib.hid (by rw [HW.out, List.length_append, List.length_cons, HMM.out.1, HDR.out.2]; omega)
          clear HA
          obtain ⟨s0, s1, s2, s3, t0, t1, t2, t3⟩ := cells4 HK53.out
          have HNE : Hid (∀ j, (Value.slice (some ⟨g3, 0, none⟩) (rn + 1) c3).ownBlock = some j → j ≠ B5) := Lib.hid (fun j hj e => by
            have h1 := (World.ownsRow.lt HA3.out j hj).1
            have h2 := blk_lt HK5.out
            omega)
          by_cases hbig : 4 < rn + 1
          · have hb4 : decide ((4 : Int) < ((rn : Int) + 1)) = true := decide_eq_true (by omega)
            have hb5 : decide (4 < rn + 1) = true := decide_eq_true hbig
            obtain ⟨h, tl, hwt, hput⟩ := put_many (l := fs) (e := ⟨ep, key, nx, bt⟩) (by rw [HWL.out]; omega)
            have HTL : Hid (tl.length = rn) := Lib.hid (by have := HWL.out; rw [hwt] at this; simpa using this)
            have HPU := Lib.hid hput
            rw [hwt] at HA3
            obtain ⟨hp1, hk1, hn1, hb1⟩ := h
            obtain ⟨a5, c5, hv5, hr5⟩ := HA3.out.at
            injection hv5 with x1 x2 x3
            subst x1 x3
            obtain ⟨b6, f6, hq6, d0, d1, d2, d3⟩ := erow_cell hr5 (j := 0) (by simp)
            injection hq6 with hq6
            injection hq6 with y1 y2
            subst y1 y2
            simp only [Nat.zero_mul, Nat.zero_add, List.getD_cons_zero] at d0 d1 d2 d3
            have hc5 : rn + 1 ≤ c3 := by have := hr5.1; rw [List.length_cons, HTL.out] at this; exact this
            have hc31 : ¬ c3 = 1 := by omega
            have hi1 : (1 : Int) ≤ (rn : Int) + 1 := by omega
            have hi2 : (rn : Int) + 1 ≤ (c3 : Int) := by omega
            have hr4 := four_set (a := .int .i64 hp1) (b := .int .i64 hk1) (c := .int .u64 hn1) (d := .int .u64 hb1) HK53.out
            have HF : Hid (Below w.heap.size w ((((w3.setCell ⟨B5, 0, none⟩ (.int .i64 hp1)).setCell ⟨B5, 1, none⟩ (.int .i64 hk1)).setCell ⟨B5, 2, none⟩ (.int .u64 hn1)).setCell ⟨B5, 3, none⟩ (.int .u64 hb1))) := Lib.hid (four_below (HB1.out.trans (HB3.out.mono HB1.out.size)) HB5.out _ _ _ _)
            have HRF := Lib.hid (HA3.out.chg (four_chg w3 B5 (.int .i64 hp1) (.int .i64 hk1) (.int .u64 hn1) (.int .u64 hb1)) (fun j hj => HNE.out j hj))
            obtain ⟨r0, r1, r2, r3, _, _, _, _⟩ := cells4 hr4
            clear hbig hr4 hwt hput x2 hr5
            go_wp2_with fail
            go_region
            go_wp2_with fail
            refine bodyPost_ret (v := .tuple #[.slice (some ⟨g3, 4, none⟩) rn (c3 - 1), .agg #[.int .i64 hp1, .int .i64 hk1, .int .u64 hn1, .int .u64 hb1], .bool true]) (by simp [results, Try.results11, go_sem, r0, r1, r2, r3]) rfl ?_
            rw [HPU.out]
            have hnt := ((HRF.out.newE.mono HB1.out.size).tail).below (drew_b _)
            rw [HTL.out] at hnt
            exact ⟨_, rfl, hnt, HF.out.trans ((drew_b _).mono HF.out.size)⟩
          · have hb4 : decide ((4 : Int) < ((rn : Int) + 1)) = false := decide_eq_false (by omega)
            have hb5 : decide (4 < rn + 1) = false := decide_eq_false hbig
            have HP : Hid (putE fs ⟨ep, key, nx, bt⟩ = (withE fs ⟨ep, key, nx, bt⟩, zeroE, false)) := Lib.hid (put_few (by rw [HWL.out]; omega))
            have hr4 := four_set (a := .int .i64 0) (b := .int .i64 0) (c := .int .u64 0) (d := .int .u64 0) HK53.out
            have HF : Hid (Below w.heap.size w ((((w3.setCell ⟨B5, 0, none⟩ (.int .i64 0)).setCell ⟨B5, 1, none⟩ (.int .i64 0)).setCell ⟨B5, 2, none⟩ (.int .u64 0)).setCell ⟨B5, 3, none⟩ (.int .u64 0))) := Lib.hid (four_below (HB1.out.trans (HB3.out.mono HB1.out.size)) HB5.out _ _ _ _)
            have HRF := Lib.hid (HA3.out.chg (four_chg w3 B5 (.int .i64 0) (.int .i64 0) (.int .u64 0) (.int .u64 0)) (fun j hj => HNE.out j hj))
            obtain ⟨r0, r1, r2, r3, _, _, _, _⟩ := cells4 hr4
            clear hbig hr4
            go_wp2_with fail
            refine bodyPost_ret (v := .tuple #[.slice (some ⟨g3, 0, none⟩) (rn + 1) c3, .agg #[.int .i64 0, .int .i64 0, .int .u64 0, .int .u64 0], .bool false]) (by simp [results, Try.results11, go_sem, r0, r1, r2, r3]) rfl ?_
            exact ⟨_, by rw [HP.out]; rfl, by rw [HP.out]; exact HRF.out.newE.mono HB1.out.size, HF.out⟩
end Go.Proofs.Ytpbcndbmmphngaa
