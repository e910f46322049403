/- The document's Decode, of kind 4. -/
import Derived.Test.YtifpahjlmnimnaaMsgDf
namespace Go.Proofs.Ytifpahjlmnimnaa
open Go.RowKit
set_option linter.unusedVariables false
set_option linter.unusedSimpArgs false
set_option maxRecDepth 20000

set_option maxHeartbeats 16000000 in
set_option maxRecDepth 100000 in
theorem rdecode_4 (s : ByteArray) (w : World) (hs : s.size ≤ 1000000) (h : ¬ 4096 < s.size) {p0 : Nat} (hg : Hid (getA s.data.toList 0 = (4, p0, 0))) (M : Ms) (E : Nat) (hd : Hid (decM s = (M, E))) :
    Calls Try.prog 11 #[.string s] w fun e w' => e = .returned (.tuple #[M.v, .int .i64 E]) ∧ Below w.heap.size w w' := by
  have hd1 : decide (4096 < (s.size : Int)) = false := by simp; omega
  have HD : Hid (decEnd s (toEnd (runD s (fds 4) (p0, 0, zeroM 4))) = (M, E)) := Lib.hid (by rw [run_end]; exact (dec_ok h hg.out).symm.trans hd.out)
  have hm : s.size ≤ maxLen := by unfold maxLen; omega
  have HG := Lib.hid (fun u => rget_at u hm hg.out)
  have HPS := Lib.hid (getA_bounds s 0 hg.out).2
  have HS := Lib.hid hs
  have HSM := Lib.hid hm
  clear hd hm hg hs h
  obtain ⟨R, hR⟩ : ∃ q, q = w.heap.size := ⟨_, rfl⟩
  obtain ⟨w0, hw0⟩ : ∃ wa, wa = w.alloc (.cells #[.int .i64 0, .int .u64 0, .int .u64 0, .string ⟨#[]⟩, .int .i64 0, .int .i64 0, .int .i64 0, .int .i64 0, .int .i64 0, .int .i64 0, .int .i64 0, .int .u64 0, .int .u64 0] 29) := ⟨_, rfl⟩
  have HZ0 : Hid (ZAt w0 R 29) := Lib.hid (by rw [hw0, hR]; exact heap_alloc_new w _)
  have HB0 : Hid (Below w.heap.size w w0) := Lib.hid (by rw [hw0]; exact below_alloc _ _)
  have HRW := Lib.hid hR
  go_enter Try.func11, Try.ntmps11
  go_wp2_with fail
  rw [← hw0, ← hR]
  clear hw0 hR
  refine (HG.out _).mono ?_
  rintro e' w1 ⟨rfl, rfl⟩
  clear HG
  go_wp2_with fail
  obtain ⟨N0, hN0⟩ : ∃ N, N = zeroM 4 := ⟨_, rfl⟩
  obtain ⟨r, hr⟩ : ∃ q, q = w0.heap.size := ⟨_, rfl⟩
  obtain ⟨wb, hwb⟩ : ∃ wb, wb = w0.alloc (.cells #[.string s, .int .i64 p0, .int .i64 0] 64) := ⟨_, rfl⟩
  obtain ⟨wa, hwa⟩ : ∃ wa, wa = wb.alloc (.cells #[.int .i64 4, .int .u64 0, .int .u64 0, .string ⟨#[]⟩, .int .i64 0, .int .i64 0, .int .i64 0, .int .i64 0, .int .i64 0, .int .i64 0, .int .i64 0, .int .u64 0, .int .u64 0] 29) := ⟨_, rfl⟩
  obtain ⟨q, hq⟩ : ∃ q, q = r + 1 := ⟨_, rfl⟩
  have hs1 : wb.heap.size = q := by rw [hwb, size_alloc, hq, hr]
  have HRb : RdAt wb r s p0 0 := by rw [hwb, hr]; exact heap_alloc_new w0 _
  have HRD : Hid (RdAt wa r s p0 0) := Lib.hid (by rw [hwa]; exact HRb.below (below_alloc _ _))
  have HM : Hid (RAt wa q N0) := Lib.hid (by rw [hwa, ← hs1, hN0]; exact heap_alloc_new wb _)
  have HBb : Below w.heap.size w wb := by rw [hwb]; exact HB0.out.trans ((below_alloc _ _).mono HB0.out.size)
  have HBB : Hid (Below w.heap.size w wa) := Lib.hid (by rw [hwa]; exact HBb.trans ((below_alloc _ _).mono HBb.size))
  have HZb : ZAt wb R 29 := by rw [hwb]; exact HZ0.out.below (below_alloc _ _)
  have HZ : Hid (ZAt wa R 29) := Lib.hid (by rw [hwa]; exact HZb.below (below_alloc _ _))
  have HQ : Hid (q ≠ r ∧ R ≠ r ∧ R ≠ q ∧ w.heap.size ≤ r ∧ w.heap.size ≤ q ∧ w.heap.size ≤ R) := Lib.hid (by
    have h1 := blk_lt HZ0.out
    have h2 := HB0.out.size
    have h3 := HRW.out
    omega)
  have HW : Hid N0.Wf := Lib.hid (by rw [hN0]; exact zeroM_wf 4 (by decide))
  have HD0 : Hid (decEnd s (toEnd (runD s [.ses 2 1 4294967296, .ses 11 0 1000, .ses 12 0 255, .nam 9] (p0, 0, N0))) = (M, E)) := Lib.hid (by rw [hN0]; exact HD.out)
  clear HD
  have HD := HD0
  rw [hwb] at hwa
  rw [← hwa, ← hr, ← hq]
  clear HD0 HRb HBb HZb hs1 hN0 hr hq hwa hwb HZ0 HB0
  obtain ⟨n1, p1, e1, h1⟩ : ∃ a b c, rdN s p0 0 = (a, b, c) := ⟨_, _, _, rfl⟩
  have HT1 : Hid (n1 ≤ 4294967296) := Lib.hid (by have := rdN_le s p0 0; rw [h1] at this; exact this)
  replace HPS : Hid (p1 ≤ s.size) := Lib.hid (by have := rdN_place s p0 0 HPS.out; rw [h1] at this; exact this)
  replace HD : Hid (decEnd s (toEnd (runD s [.ses 11 0 1000, .ses 12 0 255, .nam 9] (p1, e1, N0.set 2 n1))) = (M, E)) := Lib.hid (by have hx := HD.out; rw [run_num (j := 2) (.inr (.inl ⟨_, _, rfl⟩)) h1] at hx; exact hx)
  refine (rnumber_c s r p0 0 _ HSM.out HRD.out n1 p1 e1 h1).mono ?_
  rintro x w1 ⟨rfl, hc, hrd⟩
  clear h1
  have HM1 := Lib.hid (HM.out.chg hc HQ.out.1)
  replace HZ := Lib.hid (HZ.out.chg hc HQ.out.2.1)
  replace HBB := Lib.hid (Chg.out HBB.out hc HQ.out.2.2.2.1 HBB.out.size)
  replace HW : Hid (N0.set 2 n1).Wf := Lib.hid (HW.out.set (j := 2) (wf_num HT1.out))
  obtain ⟨v1, za, fa⟩ := HM1.out.any (j := 2) (by omega)
  obtain ⟨u1, hu⟩ : ∃ u, u = w1.setCell ⟨q, 2, none⟩ (.int .u64 n1) := ⟨_, rfl⟩
  have hcu : Chg (fun k => k = q) w1 u1 := by rw [hu]; exact Chg.setCell _ _ _ _
  replace HM : Hid (RAt u1 q (N0.set 2 n1)) := Lib.hid (by rw [hu]; exact HM1.out.set (by decide) (by decide) n1)
  replace HRD := Lib.hid (RdAt.chg hrd hcu (fun e => HQ.out.1 e.symm))
  have HZw := HZ
  replace HZ := Lib.hid (HZ.out.chg hcu HQ.out.2.2.1)
  replace HBB := Lib.hid (Chg.out HBB.out hcu HQ.out.2.2.2.2.1 HBB.out.size)
  obtain ⟨N1, hN⟩ : ∃ N, N = N0.set 2 n1 := ⟨_, rfl⟩
  rw [← hN] at HM HW HD
  clear hN hcu hc hrd HM1
  go_wp2_with fail
  rw [← hu]
  clear hu za fa
  obtain ⟨n2, p2, e2, h2⟩ : ∃ a b c, rdN s p1 e1 = (a, b, c) := ⟨_, _, _, rfl⟩
  have HT2 : Hid (n2 ≤ 4294967296) := Lib.hid (by have := rdN_le s p1 e1; rw [h2] at this; exact this)
  replace HPS : Hid (p2 ≤ s.size) := Lib.hid (by have := rdN_place s p1 e1 HPS.out; rw [h2] at this; exact this)
  replace HD : Hid (decEnd s (toEnd (runD s [.ses 12 0 255, .nam 9] (p2, e2, N1.set 11 n2))) = (M, E)) := Lib.hid (by have hx := HD.out; rw [run_num (j := 11) (.inr (.inl ⟨_, _, rfl⟩)) h2] at hx; exact hx)
  refine (rnumber_c s r p1 e1 _ HSM.out HRD.out n2 p2 e2 h2).mono ?_
  rintro x w2 ⟨rfl, hc, hrd⟩
  clear h2
  have HM1 := Lib.hid (HM.out.chg hc HQ.out.1)
  replace HZ := Lib.hid (HZ.out.chg hc HQ.out.2.1)
  replace HBB := Lib.hid (Chg.out HBB.out hc HQ.out.2.2.2.1 HBB.out.size)
  replace HW : Hid (N1.set 11 n2).Wf := Lib.hid (HW.out.set (j := 11) (wf_num HT2.out))
  obtain ⟨v2, za, fa⟩ := HM1.out.any (j := 11) (by omega)
  obtain ⟨u2, hu⟩ : ∃ u, u = w2.setCell ⟨q, 11, none⟩ (.int .u64 n2) := ⟨_, rfl⟩
  have hcu : Chg (fun k => k = q) w2 u2 := by rw [hu]; exact Chg.setCell _ _ _ _
  replace HM : Hid (RAt u2 q (N1.set 11 n2)) := Lib.hid (by rw [hu]; exact HM1.out.set (by decide) (by decide) n2)
  replace HRD := Lib.hid (RdAt.chg hrd hcu (fun e => HQ.out.1 e.symm))
  have HZw := HZ
  replace HZ := Lib.hid (HZ.out.chg hcu HQ.out.2.2.1)
  replace HBB := Lib.hid (Chg.out HBB.out hcu HQ.out.2.2.2.2.1 HBB.out.size)
  obtain ⟨N2, hN⟩ : ∃ N, N = N1.set 11 n2 := ⟨_, rfl⟩
  rw [← hN] at HM HW HD
  clear hN hcu hc hrd HM1
  go_wp2_with fail
  rw [← hu]
  clear hu za fa
  obtain ⟨n3, p3, e3, h3⟩ : ∃ a b c, rdN s p2 e2 = (a, b, c) := ⟨_, _, _, rfl⟩
  have HT3 : Hid (n3 ≤ 4294967296) := Lib.hid (by have := rdN_le s p2 e2; rw [h3] at this; exact this)
  replace HPS : Hid (p3 ≤ s.size) := Lib.hid (by have := rdN_place s p2 e2 HPS.out; rw [h3] at this; exact this)
  replace HD : Hid (decEnd s (toEnd (runD s [.nam 9] (p3, e3, N2.set 12 n3))) = (M, E)) := Lib.hid (by have hx := HD.out; rw [run_num (j := 12) (.inr (.inl ⟨_, _, rfl⟩)) h3] at hx; exact hx)
  refine (rnumber_c s r p2 e2 _ HSM.out HRD.out n3 p3 e3 h3).mono ?_
  rintro x w3 ⟨rfl, hc, hrd⟩
  clear h3
  have HM1 := Lib.hid (HM.out.chg hc HQ.out.1)
  replace HZ := Lib.hid (HZ.out.chg hc HQ.out.2.1)
  replace HBB := Lib.hid (Chg.out HBB.out hc HQ.out.2.2.2.1 HBB.out.size)
  replace HW : Hid (N2.set 12 n3).Wf := Lib.hid (HW.out.set (j := 12) (wf_num HT3.out))
  obtain ⟨v3, za, fa⟩ := HM1.out.any (j := 12) (by omega)
  obtain ⟨u3, hu⟩ : ∃ u, u = w3.setCell ⟨q, 12, none⟩ (.int .u64 n3) := ⟨_, rfl⟩
  have hcu : Chg (fun k => k = q) w3 u3 := by rw [hu]; exact Chg.setCell _ _ _ _
  replace HM : Hid (RAt u3 q (N2.set 12 n3)) := Lib.hid (by rw [hu]; exact HM1.out.set (by decide) (by decide) n3)
  replace HRD := Lib.hid (RdAt.chg hrd hcu (fun e => HQ.out.1 e.symm))
  have HZw := HZ
  replace HZ := Lib.hid (HZ.out.chg hcu HQ.out.2.2.1)
  replace HBB := Lib.hid (Chg.out HBB.out hcu HQ.out.2.2.2.2.1 HBB.out.size)
  obtain ⟨N3, hN⟩ : ∃ N, N = N2.set 12 n3 := ⟨_, rfl⟩
  rw [← hN] at HM HW HD
  clear hN hcu hc hrd HM1
  go_wp2_with fail
  rw [← hu]
  clear hu za fa
  obtain ⟨n4, p4, e4, h4⟩ : ∃ a b c, rdN s p3 e3 = (a, b, c) := ⟨_, _, _, rfl⟩
  have HT4 : Hid (n4 ≤ 4294967296) := Lib.hid (by have := rdN_le s p3 e3; rw [h4] at this; exact this)
  replace HPS : Hid (p4 ≤ s.size) := Lib.hid (by have := rdN_place s p3 e3 HPS.out; rw [h4] at this; exact this)
  replace HD : Hid (decEnd s (toEnd (runD s [] (p4, e4, N3.set 9 n4))) = (M, E)) := Lib.hid (by have hx := HD.out; rw [run_num (j := 9) (.inr (.inr rfl)) h4] at hx; exact hx)
  refine (rnumber_c s r p3 e3 _ HSM.out HRD.out n4 p4 e4 h4).mono ?_
  rintro x w4 ⟨rfl, hc, hrd⟩
  clear h4
  have HM1 := Lib.hid (HM.out.chg hc HQ.out.1)
  replace HZ := Lib.hid (HZ.out.chg hc HQ.out.2.1)
  replace HBB := Lib.hid (Chg.out HBB.out hc HQ.out.2.2.2.1 HBB.out.size)
  replace HW : Hid (N3.set 9 n4).Wf := Lib.hid (HW.out.set (j := 9) (wf_num HT4.out))
  obtain ⟨v4, za, fa⟩ := HM1.out.any (j := 9) (by omega)
  obtain ⟨u4, hu⟩ : ∃ u, u = w4.setCell ⟨q, 9, none⟩ (.int .i64 n4) := ⟨_, rfl⟩
  have hcu : Chg (fun k => k = q) w4 u4 := by rw [hu]; exact Chg.setCell _ _ _ _
  replace HM : Hid (RAt u4 q (N3.set 9 n4)) := Lib.hid (by rw [hu]; exact HM1.out.set (by decide) (by decide) n4)
  replace HRD := Lib.hid (RdAt.chg hrd hcu (fun e => HQ.out.1 e.symm))
  have HZw := HZ
  replace HZ := Lib.hid (HZ.out.chg hcu HQ.out.2.2.1)
  replace HBB := Lib.hid (Chg.out HBB.out hcu HQ.out.2.2.2.2.1 HBB.out.size)
  obtain ⟨N4, hN⟩ : ∃ N, N = N3.set 9 n4 := ⟨_, rfl⟩
  rw [← hN] at HM HW HD
  clear hN hcu hc hrd HM1
  have hwr4 : IntKind.i64.wrap (n4 : Int) = n4 := by
    have := HT4.out
    rw [wrap_i64_u (by omega) (by omega), if_pos (by omega)]
  obtain ⟨q0, q1, q2, q3, q4⟩ := HRD.out.cells
  rw [hu] at q0 q1 q2
  by_cases he : e4 = 0
  · subst he
    have HE1 : Hid (decEnd s (p4, N4, 0) = (M, E)) := HD
    have hps := HPS.out
    have hsz := HS.out
    by_cases hlt : p4 < s.size
    · have hne1 : ((p4 : Int) != (s.size : Int)) = true := by simp; omega
      have hne2 : (p4 != s.size) = true := by simp; omega
      have hres : M.cl = #[.int .i64 0, .int .u64 0, .int .u64 0, .string ⟨#[]⟩, .int .i64 0, .int .i64 0, .int .i64 0, .int .i64 0, .int .i64 0, .int .i64 0, .int .i64 0, .int .u64 0, .int .u64 0] ∧ E = 3 := by
        have h1 := HE1.out
        have hdp' : decide (p4 < s.size) = true := by simpa using hlt
        simp only [decEnd, hdp', Bool.true_or, if_true] at h1
        injection h1 with h1 h2
        subst h1 h2
        exact ⟨rfl, rfl⟩
      have HRES := Lib.hid hres
      obtain ⟨c0, c1, c2, c3, c4, c5, c6, c7, c8, c9, c10, c11, c12⟩ := HZ.out.cells
      obtain ⟨f0, f1, f2, f3, f4, f5, f6, f7, f8, f9, f10, f11, f12⟩ := HZw.out.frz
      rw [hu] at c0 c1 c2 c3 c4 c5 c6 c7 c8 c9 c10 c11 c12
      clear HE1 hres HD hlt
      go_wp2_with fail
      rw [← hu] at c0 c1 c2 c3 c4 c5 c6 c7 c8 c9 c10 c11 c12 ⊢
      exact bodyPost_ret (v := .tuple #[.agg #[.int .i64 0, .int .u64 0, .int .u64 0, .string ⟨#[]⟩, .int .i64 0, .int .i64 0, .int .i64 0, .int .i64 0, .int .i64 0, .int .i64 0, .int .i64 0, .int .u64 0, .int .u64 0], .int .i64 3]) (by simp [results, Try.results11, go_sem, c0, c1, c2, c3, c4, c5, c6, c7, c8, c9, c10, c11, c12]) rfl
        ⟨retME HRES.out.1 (by rw [HRES.out.2]; rfl), Chg.out HBB.out (chg13 _ _ _ _ _ _ _ _ _ _ _ _ _ _ _) HQ.out.2.2.2.2.2 HBB.out.size⟩
    · have hpe : p4 = s.size := by omega
      have hne1 : ((p4 : Int) != (s.size : Int)) = false := by simp; omega
      have hne2 : (p4 != s.size) = false := by simp; omega
      have hdp' : decide (p4 < s.size) = false := by simpa using hlt
      obtain ⟨k0, k1, k2, k3, k4, k5, k6, k7, k8, k9, k10, k11, k12⟩ := HM.out.cells
      rw [hu] at k0 k1 k2 k3 k4 k5 k6 k7 k8 k9 k10 k11 k12
      clear hpe hlt
      cases hrt : rightM N4 with
      | false =>
        have HRK := Lib.hid (fun u => rright_k N4 u HW.out false (Lib.hid hrt))
        have hres : M.cl = #[.int .i64 0, .int .u64 0, .int .u64 0, .string ⟨#[]⟩, .int .i64 0, .int .i64 0, .int .i64 0, .int .i64 0, .int .i64 0, .int .i64 0, .int .i64 0, .int .u64 0, .int .u64 0] ∧ E = 3 := by
          have h1 := HE1.out
          simp only [decEnd, hdp', hrt, Bool.not_false, Bool.or_true, if_true] at h1
          injection h1 with h1 h2
          subst h1 h2
          exact ⟨rfl, rfl⟩
        have HRES := Lib.hid hres
        clear HE1 hres hrt HD
        unfold Ms.v Ms.cl at HRK
        go_wp2_with fail
        rw [← hu]
        refine (HRK.out _).mono ?_
        rintro e wz ⟨rfl, hb4⟩
        have HZ4 := Lib.hid (HZ.out.below hb4)
        have HB4 := Lib.hid (HBB.out.trans (hb4.mono HBB.out.size))
        obtain ⟨c0, c1, c2, c3, c4, c5, c6, c7, c8, c9, c10, c11, c12⟩ := HZ4.out.cells
        obtain ⟨f0, f1, f2, f3, f4, f5, f6, f7, f8, f9, f10, f11, f12⟩ := HZ4.out.frz
        clear hb4 HRK k0 k1 k2 k3 k4 k5 k6 k7 k8 k9 k10 k11 k12 q0 q1 q2 q3 q4 za fa hu
        go_wp2
        exact bodyPost_ret (v := .tuple #[.agg #[.int .i64 0, .int .u64 0, .int .u64 0, .string ⟨#[]⟩, .int .i64 0, .int .i64 0, .int .i64 0, .int .i64 0, .int .i64 0, .int .i64 0, .int .i64 0, .int .u64 0, .int .u64 0], .int .i64 3]) (by simp [results, Try.results11, go_sem, c0, c1, c2, c3, c4, c5, c6, c7, c8, c9, c10, c11, c12]) rfl
          ⟨retME HRES.out.1 (by rw [HRES.out.2]; rfl), Chg.out HB4.out (chg13 _ _ _ _ _ _ _ _ _ _ _ _ _ _ _) HQ.out.2.2.2.2.2 HB4.out.size⟩
      | true =>
        have HRK := Lib.hid (fun u => rright_k N4 u HW.out true (Lib.hid hrt))
        have hres : M = N4 ∧ E = 0 := by
          have h1 := HE1.out
          simp only [decEnd, hdp', hrt, Bool.not_true, Bool.or_false, Bool.false_eq_true, if_false] at h1
          injection h1 with h1 h2
          exact ⟨h1.symm, h2.symm⟩
        have HRES := Lib.hid hres
        clear HE1 hres hrt HD
        unfold Ms.v Ms.cl at HRK
        go_wp2_with fail
        rw [← hu]
        refine (HRK.out _).mono ?_
        rintro e wz ⟨rfl, hb4⟩
        have HZ4 := Lib.hid (HZ.out.below hb4)
        have HM4 := Lib.hid (HM.out.below hb4)
        have HB4 := Lib.hid (HBB.out.trans (hb4.mono HBB.out.size))
        clear k0 k1 k2 k3 k4 k5 k6 k7 k8 k9 k10 k11 k12 q0 q1 q2 q3 q4 za fa hu
        obtain ⟨c0, c1, c2, c3, c4, c5, c6, c7, c8, c9, c10, c11, c12⟩ := HZ4.out.cells
        obtain ⟨f0, f1, f2, f3, f4, f5, f6, f7, f8, f9, f10, f11, f12⟩ := HZ4.out.frz
        obtain ⟨k0, k1, k2, k3, k4, k5, k6, k7, k8, k9, k10, k11, k12⟩ := HM4.out.cells
        clear hb4 HRK
        go_wp2
        exact bodyPost_ret (v := .tuple #[.agg #[.int .i64 (N4.i 0), .int .u64 (N4.i 1), .int .u64 (N4.i 2), .string N4.s, .int .i64 (N4.i 4), .int .i64 (N4.i 5), .int .i64 (N4.i 6), .int .i64 (N4.i 7), .int .i64 (N4.i 8), .int .i64 (N4.i 9), .int .i64 (N4.i 10), .int .u64 (N4.i 11), .int .u64 (N4.i 12)], .int .i64 0]) (by simp [results, Try.results11, go_sem, c0, c1, c2, c3, c4, c5, c6, c7, c8, c9, c10, c11, c12]) rfl
          ⟨retME (by rw [HRES.out.1]; rfl) (by rw [HRES.out.2]; rfl), Chg.out HB4.out (chg13 _ _ _ _ _ _ _ _ _ _ _ _ _ _ _) HQ.out.2.2.2.2.2 HB4.out.size⟩
  · have hne : ((e4 : Int) != 0) = true := by simp [he]
    have hres : M.cl = #[.int .i64 0, .int .u64 0, .int .u64 0, .string ⟨#[]⟩, .int .i64 0, .int .i64 0, .int .i64 0, .int .i64 0, .int .i64 0, .int .i64 0, .int .i64 0, .int .u64 0, .int .u64 0] ∧ E = e4 := by
      have h1 : decEnd s (p4, N4, e4) = (M, E) := HD.out
      rw [decEnd_err he] at h1
      injection h1 with h1 h2
      subst h1
      exact ⟨rfl, h2.symm⟩
    have HRES := Lib.hid hres
    clear he hres HD
    go_wp2_with fail
    rw [← hu]
    clear hu q0 q1 q2 q3 q4 za fa
    refine wp_region_held_drew (S := fun u => RdAt u r s p4 e4) (by kernel_rfl) HRD.out (fun hHeld => ?_)
    refine wpAnyH_take (i := 0) (oi := ?o37) (v := ?v37) ?i37 (by kernel_rfl) (by kernel_rfl) (by kernel_rfl) ?q37 (Or.inl ⟨?w37, ?y37⟩) (by assumption) ?r37
    case' i37 => simp only [List.getElem?_toArray, List.getElem?_cons_succ, List.getElem?_cons_zero]
    case i37 => rfl
    case q37 => exact fun _ _ _ h => h
    case w37 => rfl
    case y37 => (intro w hSw; go_simp) <;> with_reducible rfl
    try simp only [Act.put, List.setIfInBounds_toArray, List.set_cons_zero, List.set_cons_succ]
    refine wpAnyH_take (i := 1) (oi := ?o38) (v := ?v38) ?i38 (by kernel_rfl) (by kernel_rfl) (by kernel_rfl) ?q38 (Or.inl ⟨?w38, ?y38⟩) (by assumption) ?r38
    case' i38 => simp only [List.getElem?_toArray, List.getElem?_cons_succ, List.getElem?_cons_zero]
    case i38 => rfl
    case q38 => exact fun _ _ _ h => h
    case w38 => rfl
    case y38 => (intro w hSw; go_simp) <;> with_reducible rfl
    try simp only [Act.put, List.setIfInBounds_toArray, List.set_cons_zero, List.set_cons_succ]
    refine wpAnyH_take (i := 2) (oi := ?o39) (v := ?v39) ?i39 (by kernel_rfl) (by kernel_rfl) (by kernel_rfl) ?q39 (Or.inl ⟨?w39, ?y39⟩) (by assumption) ?r39
    case' i39 => simp only [List.getElem?_toArray, List.getElem?_cons_succ, List.getElem?_cons_zero]
    case i39 => rfl
    case q39 => exact fun _ _ _ h => h
    case w39 => rfl
    case y39 => (intro w hSw; go_simp) <;> with_reducible rfl
    try simp only [Act.put, List.setIfInBounds_toArray, List.set_cons_zero, List.set_cons_succ]
    refine wpAnyH_take (i := 3) (oi := ?o40) (v := ?v40) ?i40 (by kernel_rfl) (by kernel_rfl) (by kernel_rfl) ?q40 (Or.inl ⟨?w40, ?y40⟩) (by assumption) ?r40
    case' i40 => simp only [List.getElem?_toArray, List.getElem?_cons_succ, List.getElem?_cons_zero]
    case i40 => rfl
    case q40 => exact fun _ _ _ h => h
    case w40 => rfl
    case y40 => (intro w hSw; go_simp) <;> with_reducible rfl
    try simp only [Act.put, List.setIfInBounds_toArray, List.set_cons_zero, List.set_cons_succ]
    refine wpAnyH_take (i := 4) (oi := ?o41) (v := ?v41) ?i41 (by kernel_rfl) (by kernel_rfl) (by kernel_rfl) ?q41 (Or.inl ⟨?w41, ?y41⟩) (by assumption) ?r41
    case' i41 => simp only [List.getElem?_toArray, List.getElem?_cons_succ, List.getElem?_cons_zero]
    case i41 => rfl
    case q41 => exact fun _ _ _ h => h
    case w41 => rfl
    case y41 => (intro w hSw; obtain ⟨q0, q1, q2, q3, q4⟩ := hSw.cells; go_simp) <;> with_reducible rfl
    try simp only [Act.put, List.setIfInBounds_toArray, List.set_cons_zero, List.set_cons_succ]
    obtain ⟨c0, c1, c2, c3, c4, c5, c6, c7, c8, c9, c10, c11, c12⟩ := HZ.out.cells
    obtain ⟨f0, f1, f2, f3, f4, f5, f6, f7, f8, f9, f10, f11, f12⟩ := HZ.out.frz
    refine wpAnyH_ready (rs := [5]) (by kernel_rfl) (by simp) ?_
    refine AllReadyH.cons (o := ?o42) ?i42 (fun K' hK => ?_) AllReadyH.nil
    case' i42 => simp only [List.getElem?_toArray, List.getElem?_cons_succ, List.getElem?_cons_zero]
    case i42 => rfl
    go_simp
    refine hK.out _ _ (RdAt.drewn (RdAt.chg HRD.out (chg13 _ _ _ _ _ _ _ _ _ _ _ _ _ _ _) (fun e => HQ.out.2.1 e.symm))) (fun hHeld => ?_)
    clear hK K'
    try simp only [Act.put, List.setIfInBounds_toArray, List.set_cons_zero, List.set_cons_succ]
    refine wpAnyH_take (i := 6) (oi := ?o43) (v := ?v43) ?i43 (by kernel_rfl) (by kernel_rfl) (by kernel_rfl) ?q43 (Or.inl ⟨?w43, ?y43⟩) (by assumption) ?r43
    case' i43 => simp only [List.getElem?_toArray, List.getElem?_cons_succ, List.getElem?_cons_zero]
    case i43 => rfl
    case q43 => exact fun _ _ _ h => h
    case w43 => rfl
    case y43 => (intro w hSw; go_simp) <;> with_reducible rfl
    try simp only [Act.put, List.setIfInBounds_toArray, List.set_cons_zero, List.set_cons_succ]
    refine wpAnyH_done (by kernel_rfl) ?_ _
    go_wp2
    exact bodyPost_ret (v := .tuple #[.agg #[.int .i64 0, .int .u64 0, .int .u64 0, .string ⟨#[]⟩, .int .i64 0, .int .i64 0, .int .i64 0, .int .i64 0, .int .i64 0, .int .i64 0, .int .i64 0, .int .u64 0, .int .u64 0], .int .i64 e4]) (by simp [results, Try.results11, go_sem, c0, c1, c2, c3, c4, c5, c6, c7, c8, c9, c10, c11, c12]) rfl
      ⟨retME HRES.out.1 (by rw [HRES.out.2]), below_drewn (Chg.out HBB.out (chg13 _ _ _ _ _ _ _ _ _ _ _ _ _ _ _) HQ.out.2.2.2.2.2 HBB.out.size)⟩
end Go.Proofs.Ytifpahjlmnimnaa
