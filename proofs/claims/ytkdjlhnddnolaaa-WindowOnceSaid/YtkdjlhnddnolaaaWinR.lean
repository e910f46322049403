/- Windows: the landed program's calls: Can, Take, Has. -/
import Derived.Test.YtkdjlhnddnolaaaWinQ
namespace Go.Proofs.Ytkdjlhnddnolaaa
open Go.RowKit
set_option linter.unusedVariables false
set_option linter.unusedSimpArgs false
set_option maxRecDepth 20000
set_option maxHeartbeats 1000000 in
theorem can_p (N B n : Nat) (hN : N ≤ 18446744073709551615) (hB : B ≤ 18446744073709551615) (hn : n ≤ 18446744073709551615) (b : Bool) (hb : canW ⟨N, B⟩ n = b) (w : World) :
    Calls Try.prog 12 #[.agg #[.int .u64 (N : Int), .int .u64 (B : Int)], .int .u64 (n : Int)] w fun e w' => e = .returned (.bool b) ∧ Below w.heap.size w w' := by
  by_cases ht : n = topN
  · have hbb : b = false := by rw [← hb]; unfold canW; rw [decide_eq_true ht]; rfl
    subst hbb
    have ht1 : ((n : Int) == 18446744073709551615) = true := by rw [ht]; rfl
    have ht2 : ((n : Int) != 18446744073709551615) = false := by rw [bne, ht1]; rfl
    have b1 : (N : Int) ≤ 18446744073709551615 := by omega
    clear hb ht hN hB hn
    go_enter Try.func12, Try.ntmps12
    go_upto_region 1 with fail
    go_quiet (fail)
    go_wp2_with fail
    go_ret
    exact ⟨rfl, (below_alloc w _).trans (drew_belowW (below_alloc w _).size _)⟩
  · obtain ⟨c, d, hr⟩ : ∃ c d, withW ⟨N, B⟩ n = ⟨c, d⟩ := ⟨_, _, rfl⟩
    have hn2 : n < 18446744073709551615 := by unfold topN at ht; omega
    have hbb : (!((c : Int) == (N : Int) && (d : Int) == (B : Int))) = b := by
      have h1 := can_with (w := ⟨N, B⟩) ht
      rw [hr] at h1
      simp only at h1
      rw [← hb]
      cases hc : canW ⟨N, B⟩ n with
      | false =>
        obtain ⟨q1, q2⟩ := h1.2 hc
        subst q1 q2
        simp
      | true =>
        have : ¬ (N = c ∧ B = d) := fun hq => by rw [h1.1 hq] at hc; cases hc
        simp only [Bool.not_eq_true', Bool.and_eq_false_iff, beq_eq_false_iff_ne]
        by_cases e : N = c
        · right; intro h9; exact this ⟨e, by omega⟩
        · left; intro h9; exact e (by omega)
    have ht1 : ((n : Int) == 18446744073709551615) = false := by simp; omega
    have ht2 : ((n : Int) != 18446744073709551615) = true := by rw [bne, ht1]; rfl
    have HC : Hid (∀ w, Calls Try.prog 17 #[.agg #[.int .u64 (N : Int), .int .u64 (B : Int)], .int .u64 (n : Int)] w fun e w' => e = .returned (.agg #[.int .u64 (c : Int), .int .u64 (d : Int)]) ∧ Below w.heap.size w w') := Lib.hid (fun w => with_p N B n c d hN hB hn2 hr w)
    have hq : ∀ u, (binOp .neq 24 (.agg #[.int .u64 (c : Int), .int .u64 (d : Int)]) (.agg #[.int .u64 (N : Int), .int .u64 (B : Int)])).run Try.prog u = .ok (.bool b) u := fun u => by rw [neqW, hbb]
    obtain ⟨o0, ho0⟩ : ∃ o0, o0 = w.alloc (.cells #[.int .u64 (N : Int), .int .u64 (B : Int)] 24 : Obj) := ⟨_, rfl⟩
    obtain ⟨Bw, hBw⟩ : ∃ Bw, Bw = w.heap.size := ⟨_, rfl⟩
    have HBB : Hid (o0.heap[Bw]? = some (.cells #[.int .u64 (N : Int), .int .u64 (B : Int)] 24 (0, 0))) := Lib.hid (by rw [ho0, hBw]; exact heap_alloc_new w _)
    have HL : Hid (Below w.heap.size w o0) := Lib.hid (by rw [ho0]; exact below_alloc w _)
    clear hb ht hN hB hn hr hn2 hbb
    go_enter Try.func12, Try.ntmps12
    go_upto_region 1 with fail
    rw [← ho0, ← hBw]
    clear ho0 hBw
    obtain ⟨r0, r1, q0, q1⟩ := cells2 HBB.out
    go_region_with (go_at_call 17; refine (HC.out _).mono ?_; rintro e w2 ⟨rfl, hb⟩; replace hb := undrew hb; have HB2 := Lib.hid hb; have hk2 := (hb.block _ (blk_lt HBB.out)).trans HBB.out; obtain ⟨r02, r12, q02, q12⟩ := cells2 hk2; clear hb hk2)
    all_goals
      go_wp2_with fail
      go_ret
      exact ⟨rfl, HL.out.trans (HB2.out.mono HL.out.size)⟩
set_option maxHeartbeats 1000000 in
theorem has_p (N B n : Nat) (hN : N ≤ 18446744073709551615) (hB : B ≤ 18446744073709551615) (hn : n ≤ 18446744073709551615) (b : Bool) (hb : hasW ⟨N, B⟩ n = b) (w : World) :
    Calls Try.prog 14 #[.agg #[.int .u64 (N : Int), .int .u64 (B : Int)], .int .u64 (n : Int)] w fun e w' => e = .returned (.bool b) ∧ Below w.heap.size w w' := by
  obtain ⟨o0, ho0⟩ : ∃ o0, o0 = w.alloc (.cells #[.int .u64 (N : Int), .int .u64 (B : Int)] 24 : Obj) := ⟨_, rfl⟩
  obtain ⟨Bw, hBw⟩ : ∃ Bw, Bw = w.heap.size := ⟨_, rfl⟩
  have HBB : Hid (o0.heap[Bw]? = some (.cells #[.int .u64 (N : Int), .int .u64 (B : Int)] 24 (0, 0))) := Lib.hid (by rw [ho0, hBw]; exact heap_alloc_new w _)
  have HL : Hid (Below w.heap.size w o0) := Lib.hid (by rw [ho0]; exact below_alloc w _)
  by_cases hlt : n < N
  · obtain ⟨P, hP⟩ : ∃ P, digW N n = P := ⟨_, rfl⟩
    obtain ⟨R, hR⟩ : ∃ R, B &&& P = R := ⟨_, rfl⟩
    have e6 : bits .and .u64 (B : Int) (P : Int) = (R : Int) := by
      rw [← hR]
      exact bits_and_u64_nat B P (by omega) (by rw [← hP]; exact digW_lt _ _)
    have hz : ((R : Int) != 0) = b := by
      have h1 := and_dig B N n (by omega)
      rw [hP, hR] at h1
      rw [← hb]
      unfold hasW
      simp only
      rw [decide_eq_true hlt]
      by_cases h0 : R = 0
      · have h2 := h1.1 h0
        subst h0
        by_cases h63 : N - 1 - n ≤ 63
        · have : B.testBit (N - 1 - n) = false := by
            cases hx : B.testBit (N - 1 - n) with
            | false => rfl
            | true => exact absurd ⟨h63, hx⟩ h2
          simp [this]
        · simp [h63]
      · have h2 : N - 1 - n ≤ 63 ∧ B.testBit (N - 1 - n) = true := by
          rcases Classical.em (N - 1 - n ≤ 63 ∧ B.testBit (N - 1 - n) = true) with q | q
          · exact q
          · exact absurd (h1.2 q) h0
        rw [decide_eq_true h2.1, h2.2]
        simp
        omega
    have hz2 : ((R : Int) == 0) = !b := by rw [← hz]; simp [bne]
    have HC : Hid (∀ w, Calls Try.prog 19 #[.agg #[.int .u64 (N : Int), .int .u64 (B : Int)], .int .u64 (n : Int)] w fun e w' => e = .returned (.int .u64 (P : Int)) ∧ Below w.heap.size w w') := Lib.hid (fun w => digit_p N B n P hN hB hlt hP w)
    have b4 : (n : Int) < (N : Int) := by omega
    have b1 : (N : Int) ≤ 18446744073709551615 := by omega
    clear hb hN hB hn hP hR hlt
    go_enter Try.func14, Try.ntmps14
    go_upto_region 1 with fail
    rw [← ho0, ← hBw]
    clear ho0 hBw
    obtain ⟨r0, r1, q0, q1⟩ := cells2 HBB.out
    go_region_with (go_at_call 19; refine (HC.out _).mono ?_; rintro e w2 ⟨rfl, hb⟩; replace hb := undrew hb; have HB2 := Lib.hid hb; have hk2 := (hb.block _ (blk_lt HBB.out)).trans HBB.out; obtain ⟨r02, r12, q02, q12⟩ := cells2 hk2; clear hb hk2)
    all_goals
      go_wp2_with fail
      go_ret
      exact ⟨rfl, HL.out.trans (HB2.out.mono HL.out.size)⟩
  · have hbb : b = false := by rw [← hb]; unfold hasW; rw [decide_eq_false hlt]; rfl
    subst hbb
    have b4 : decide ((n : Int) < (N : Int)) = false := decide_eq_false (by omega)
    have b4n : decide (n < N) = false := decide_eq_false hlt
    have b1 : (N : Int) ≤ 18446744073709551615 := by omega
    clear hb hN hB hn hlt
    go_enter Try.func14, Try.ntmps14
    go_upto_region 1 with fail
    rw [← ho0, ← hBw]
    clear ho0 hBw
    obtain ⟨r0, r1, q0, q1⟩ := cells2 HBB.out
    go_quiet (fail)
    go_wp2_with fail
    go_ret
    exact ⟨rfl, HL.out.trans (drew_belowW HL.out.size _)⟩
set_option maxHeartbeats 1000000 in
theorem takes_p (N B n : Nat) (hN : N ≤ 18446744073709551615) (hB : B ≤ 18446744073709551615) (hn : n ≤ 18446744073709551615) (a b e : Nat) (hr : takeW ⟨N, B⟩ n = (⟨a, b⟩, e)) (w : World) :
    Calls Try.prog 9 #[.agg #[.int .u64 (N : Int), .int .u64 (B : Int)], .int .u64 (n : Int)] w fun x w' => x = .returned (.tuple #[.agg #[.int .u64 (a : Int), .int .u64 (b : Int)], .int .i64 (e : Int)]) ∧ Below w.heap.size w w' := by
  obtain ⟨o0, ho0⟩ : ∃ o0, o0 = w.alloc (.cells #[.int .u64 (N : Int), .int .u64 (B : Int)] 24 : Obj) := ⟨_, rfl⟩
  obtain ⟨o1, ho1⟩ : ∃ o1, o1 = o0.alloc (.cells #[.int .u64 0, .int .u64 0] 24 : Obj) := ⟨_, rfl⟩
  obtain ⟨Bw, hBw⟩ : ∃ Bw, Bw = w.heap.size := ⟨_, rfl⟩
  obtain ⟨Rw, hRw⟩ : ∃ Rw, Rw = o0.heap.size := ⟨_, rfl⟩
  have hb0 : o0.heap[Bw]? = some (.cells #[.int .u64 (N : Int), .int .u64 (B : Int)] 24 (0, 0)) := by rw [ho0, hBw]; exact heap_alloc_new w _
  have hbb : o1.heap[Bw]? = some (.cells #[.int .u64 (N : Int), .int .u64 (B : Int)] 24 (0, 0)) := by
    rw [ho1]
    exact ((below_alloc o0 _).block _ (blk_lt hb0)).trans hb0
  have hbr : o1.heap[Rw]? = some (.cells #[.int .u64 0, .int .u64 0] 24 (0, 0)) := by rw [ho1, hRw]; exact heap_alloc_new o0 _
  have HBB := Lib.hid hbb
  have HBR := Lib.hid hbr
  have HL : Hid (Below w.heap.size w o1) := Lib.hid (by rw [ho1, ho0]; exact (below_alloc w _).trans ((below_alloc _ _).mono (below_alloc w _).size))
  have HRL : Hid (w.heap.size ≤ Rw) := Lib.hid (by rw [hRw, ho0]; exact (below_alloc w _).size)
  have b1 : (N : Int) ≤ 18446744073709551615 := by omega
  have hRw1 : Bw + 1 = Rw := by rw [hRw, ho0, hBw]; simp
  have HO := Lib.hid (And.intro ho0 (And.intro hBw (And.intro ho1 hRw1)))
  clear hbb hbr hb0 ho0 hBw ho1 hRw hRw1
  by_cases ht : n = topN
  · have ht1 : ((n : Int) == 18446744073709551615) = true := by rw [ht]; rfl
    unfold takeW at hr
    rw [if_pos ht] at hr
    injection hr with h1 h2
    injection h1 with h3 h4
    subst h2 h3 h4
    clear ht hN hB hn
    go_enter Try.func9, Try.ntmps9
    go_upto_region 1 with fail
    rw [← HO.out.1, ← HO.out.2.1, ← HO.out.2.2.1, HO.out.2.2.2]
    obtain ⟨r0, r1, q0, q1⟩ := cells2 HBB.out
    obtain ⟨s0, s1, t0, t1⟩ := cells2 HBR.out
    have hk := fill2 (u := o1) (x := .int .u64 0) (y := .int .u64 0) Rw (.int .u64 0) (.int .u64 0) HBR.out
    have HF : Hid (Below w.heap.size w ((o1.setCell ⟨Rw, 0, none⟩ (.int .u64 0)).setCell ⟨Rw, 1, none⟩ (.int .u64 0))) := Lib.hid (HL.out.trans (fill2_below _ _ _ HL.out.size HRL.out))
    obtain ⟨c0, c1, _, _⟩ := cells2 hk
    clear hk
    go_wp2_with fail
    exact bodyPost_ret (v := .tuple #[.agg #[.int .u64 ((0 : Nat) : Int), .int .u64 ((0 : Nat) : Int)], .int .i64 ((1 : Nat) : Int)]) (by simp [results, Try.results9, go_sem, c0, c1]) rfl ⟨rfl, HF.out⟩
  · have ht1 : ((n : Int) == 18446744073709551615) = false := by unfold topN at ht; simp; omega
    have hn2 : n < 18446744073709551615 := by unfold topN at ht; omega
    unfold takeW at hr
    rw [if_neg ht] at hr
    cases hc : canW ⟨N, B⟩ n with
    | false =>
      rw [if_pos hc] at hr
      injection hr with h1 h2
      injection h1 with h3 h4
      subst h2 h3 h4
      have HC : Hid (∀ w, Calls Try.prog 12 #[.agg #[.int .u64 (N : Int), .int .u64 (B : Int)], .int .u64 (n : Int)] w fun e w' => e = .returned (.bool false) ∧ Below w.heap.size w w') := Lib.hid (fun w => can_p N B n hN hB hn false hc w)
      clear ht hN hB hn hn2 hc
      go_enter Try.func9, Try.ntmps9
      go_upto_region 1 with fail
      rw [← HO.out.1, ← HO.out.2.1, ← HO.out.2.2.1, HO.out.2.2.2]
      obtain ⟨r0, r1, q0, q1⟩ := cells2 HBB.out
      go_wp2_with fail
      refine (HC.out _).mono ?_
      rintro e w2 ⟨rfl, hb⟩
      have HB2 := Lib.hid hb
      have HR2 := Lib.hid ((hb.block _ (blk_lt HBR.out)).trans HBR.out)
      clear hb
      obtain ⟨s0, s1, t0, t1⟩ := cells2 HR2.out
      have hk := fill2 (u := w2) (x := .int .u64 0) (y := .int .u64 0) Rw (.int .u64 0) (.int .u64 0) HR2.out
      have HF : Hid (Below w.heap.size w ((w2.setCell ⟨Rw, 0, none⟩ (.int .u64 0)).setCell ⟨Rw, 1, none⟩ (.int .u64 0))) := Lib.hid ((HL.out.trans (HB2.out.mono HL.out.size)).trans (fill2_below _ _ _ (Nat.le_trans HL.out.size HB2.out.size) HRL.out))
      obtain ⟨c0, c1, _, _⟩ := cells2 hk
      clear hk
      go_wp2_with fail
      exact bodyPost_ret (v := .tuple #[.agg #[.int .u64 ((0 : Nat) : Int), .int .u64 ((0 : Nat) : Int)], .int .i64 ((12 : Nat) : Int)]) (by simp [results, Try.results9, go_sem, c0, c1]) rfl ⟨rfl, HF.out⟩
    | true =>
      rw [if_neg (by rw [hc]; decide)] at hr
      injection hr with h1 h2
      subst h2
      rw [← with_put hc] at h1
      have HC : Hid (∀ w, Calls Try.prog 12 #[.agg #[.int .u64 (N : Int), .int .u64 (B : Int)], .int .u64 (n : Int)] w fun e w' => e = .returned (.bool true) ∧ Below w.heap.size w w') := Lib.hid (fun w => can_p N B n hN hB hn true hc w)
      have HW : Hid (∀ w, Calls Try.prog 17 #[.agg #[.int .u64 (N : Int), .int .u64 (B : Int)], .int .u64 (n : Int)] w fun e w' => e = .returned (.agg #[.int .u64 (a : Int), .int .u64 (b : Int)]) ∧ Below w.heap.size w w') := Lib.hid (fun w => with_p N B n a b hN hB hn2 h1 w)
      clear ht hN hB hn hn2 hc h1
      go_enter Try.func9, Try.ntmps9
      go_upto_region 1 with fail
      rw [← HO.out.1, ← HO.out.2.1, ← HO.out.2.2.1, HO.out.2.2.2]
      obtain ⟨r0, r1, q0, q1⟩ := cells2 HBB.out
      go_wp2_with fail
      refine (HC.out _).mono ?_
      rintro e w2 ⟨rfl, hb⟩
      have HB2 := Lib.hid hb
      have HR2 := Lib.hid ((hb.block _ (blk_lt HBR.out)).trans HBR.out)
      have HK2 := Lib.hid ((hb.block _ (blk_lt HBB.out)).trans HBB.out)
      clear hb
      obtain ⟨r02, r12, q02, q12⟩ := cells2 HK2.out
      go_wp2_with fail
      refine (HW.out _).mono ?_
      rintro e w3 ⟨rfl, hb⟩
      have HB3 := Lib.hid (HB2.out.trans (hb.mono HB2.out.size))
      have HR3 := Lib.hid ((hb.block _ (blk_lt HR2.out)).trans HR2.out)
      clear hb
      obtain ⟨s0, s1, t0, t1⟩ := cells2 HR3.out
      have hk := fill2 (u := w3) (x := .int .u64 0) (y := .int .u64 0) Rw (.int .u64 (a : Int)) (.int .u64 (b : Int)) HR3.out
      have HF : Hid (Below w.heap.size w ((w3.setCell ⟨Rw, 0, none⟩ (.int .u64 (a : Int))).setCell ⟨Rw, 1, none⟩ (.int .u64 (b : Int)))) := Lib.hid ((HL.out.trans (HB3.out.mono HL.out.size)).trans (fill2_below _ _ _ (Nat.le_trans HL.out.size HB3.out.size) HRL.out))
      obtain ⟨c0, c1, _, _⟩ := cells2 hk
      clear hk
      go_wp2_with fail
      exact bodyPost_ret (v := .tuple #[.agg #[.int .u64 (a : Int), .int .u64 (b : Int)], .int .i64 ((0 : Nat) : Int)]) (by simp [results, Try.results9, go_sem, c0, c1]) rfl ⟨rfl, HF.out⟩
end Go.Proofs.Ytkdjlhnddnolaaa
