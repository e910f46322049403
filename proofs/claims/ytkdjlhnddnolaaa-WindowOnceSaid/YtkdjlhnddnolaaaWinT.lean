/- Windows: the document's Take. -/
import Derived.Test.YtkdjlhnddnolaaaWinD
namespace Go.Proofs.Ytkdjlhnddnolaaa
open Go.RowKit
set_option linter.unusedVariables false
set_option linter.unusedSimpArgs false
set_option maxRecDepth 20000
theorem cells2 {u : World} {B : Nat} {x y : Value} {T : TypeId} (h : u.heap[B]? = some (.cells #[x, y] T (0, 0))) : u.cell? ⟨B, 0, none⟩ = some x ∧ u.cell? ⟨B, 1, none⟩ = some y ∧ u.frozen? ⟨B, 0, none⟩ = false ∧ u.frozen? ⟨B, 1, none⟩ = false := by
  refine ⟨?_, ?_, ?_, ?_⟩
  · simp [World.cell?, h]
  · simp [World.cell?, h]
  · simp [World.frozen?, h]
  · simp [World.frozen?, h]
set_option maxHeartbeats 1000000 in
theorem take_top (N B n : Nat) (hN : N ≤ 18446744073709551615) (hB : B ≤ 18446744073709551615) (hn : n ≤ 18446744073709551615) (ht : n = topN) (w : World) :
    Calls Try.prog 10 #[.agg #[.int .u64 (N : Int), .int .u64 (B : Int)], .int .u64 (n : Int)] w fun e w' => e = .returned (.tuple #[.agg #[.int .u64 0, .int .u64 0], .int .i64 1]) ∧ Below w.heap.size w w' := by
  obtain ⟨ua, hu1⟩ : ∃ ua, ua = w.alloc (.cells #[.int .u64 (N : Int), .int .u64 (B : Int)] 28 : Obj) := ⟨_, rfl⟩
  obtain ⟨ub, hu2⟩ : ∃ ub, ub = ua.alloc (.cells #[.int .u64 0, .int .u64 0] 28 : Obj) := ⟨_, rfl⟩
  obtain ⟨B2, hB2⟩ : ∃ B2, B2 = w.heap.size := ⟨_, rfl⟩
  obtain ⟨B4, hB4⟩ : ∃ B4, B4 = B2 + 1 := ⟨_, rfl⟩
  have hs1 : ua.heap.size = B2 + 1 := by rw [hu1, hB2]; simp
  have hb1 : Below w.heap.size w ua := by rw [hu1]; exact below_alloc _ _
  have hb2 : Below w.heap.size w ub := hb1.trans (by rw [hu2]; exact (below_alloc ua _).mono hb1.size)
  have hx2 : ub.heap[B2]? = some (.cells #[.int .u64 (N : Int), .int .u64 (B : Int)] 28 (0, 0)) := by
    have h9 : ua.heap[B2]? = some (.cells #[.int .u64 (N : Int), .int .u64 (B : Int)] 28 (0, 0)) := by rw [hu1, hB2]; exact heap_alloc_new w _
    rw [hu2]
    exact ((below_alloc ua _).block _ (blk_lt h9)).trans h9
  have hx4 : ub.heap[B4]? = some (.cells #[.int .u64 0, .int .u64 0] 28 (0, 0)) := by rw [hu2, hB4, ← hs1]; exact heap_alloc_new ua _
  have HL2 := Lib.hid (show w.heap.size ≤ B2 by omega)
  have HL4 := Lib.hid (show w.heap.size ≤ B4 by omega)
  have HNE : Hid (B2 ≠ B4) := Lib.hid (by omega)
  have HU := Lib.hid hb2
  have HX2 := Lib.hid hx2
  have HX4 := Lib.hid hx4
  have b1 : (N : Int) ≤ 18446744073709551615 := by omega
  have b2 : (B : Int) ≤ 18446744073709551615 := by omega
  have b3 : (n : Int) ≤ 18446744073709551615 := by omega
  have HN0 := Lib.hid hN
  have HB0 := Lib.hid hB
  have HN1 := Lib.hid hn
  clear hb1 hb2 hx2 hx4 hN hB hn
  go_enter Try.func10, Try.ntmps10
  go_upto_region 1 with fail
  rw [← hu1, ← hB2, ← hB4, ← hu2]
  clear hu1 hu2 hB2 hB4 hs1
  have ht1 : (n : Int) = 18446744073709551615 := by rw [ht]; rfl
  rw [ht1]
  clear ht ht1 b3
  obtain ⟨k0, k1, f0, f1⟩ := cells2 HX4.out
  go_wp2_with fail
  have hz1 := heap_setCell_same ub B4 0 _ _ (.int .u64 0) HX4.out
  have hz := heap_setCell_same _ B4 1 _ _ (.int .u64 0) hz1
  simp at hz
  obtain ⟨c0, c1, _, _⟩ := cells2 hz
  exact bodyPost_ret (v := .tuple #[.agg #[.int .u64 0, .int .u64 0], .int .i64 1]) (by simp [results, Try.results10, go_sem, c0, c1]) rfl ⟨rfl, HU.out.trans ((((Chg.setCell ub B4 0 (.int .u64 0)).trans (Chg.setCell _ B4 1 (.int .u64 0))).below (fun k e => by rw [e]; exact HL4.out) HU.out.size))⟩
set_option maxHeartbeats 1000000 in
theorem take_old (N B n : Nat) (hN : N ≤ 18446744073709551615) (hB : B ≤ 18446744073709551615) (hn : n ≤ 18446744073709551615) (ht : n ≠ topN) (hc : canW ⟨N, B⟩ n = false) (w : World) :
    Calls Try.prog 10 #[.agg #[.int .u64 (N : Int), .int .u64 (B : Int)], .int .u64 (n : Int)] w fun e w' => e = .returned (.tuple #[.agg #[.int .u64 0, .int .u64 0], .int .i64 12]) ∧ Below w.heap.size w w' := by
  obtain ⟨ua, hu1⟩ : ∃ ua, ua = w.alloc (.cells #[.int .u64 (N : Int), .int .u64 (B : Int)] 28 : Obj) := ⟨_, rfl⟩
  obtain ⟨ub, hu2⟩ : ∃ ub, ub = ua.alloc (.cells #[.int .u64 0, .int .u64 0] 28 : Obj) := ⟨_, rfl⟩
  obtain ⟨B2, hB2⟩ : ∃ B2, B2 = w.heap.size := ⟨_, rfl⟩
  obtain ⟨B4, hB4⟩ : ∃ B4, B4 = B2 + 1 := ⟨_, rfl⟩
  have hs1 : ua.heap.size = B2 + 1 := by rw [hu1, hB2]; simp
  have hb1 : Below w.heap.size w ua := by rw [hu1]; exact below_alloc _ _
  have hb2 : Below w.heap.size w ub := hb1.trans (by rw [hu2]; exact (below_alloc ua _).mono hb1.size)
  have hx2 : ub.heap[B2]? = some (.cells #[.int .u64 (N : Int), .int .u64 (B : Int)] 28 (0, 0)) := by
    have h9 : ua.heap[B2]? = some (.cells #[.int .u64 (N : Int), .int .u64 (B : Int)] 28 (0, 0)) := by rw [hu1, hB2]; exact heap_alloc_new w _
    rw [hu2]
    exact ((below_alloc ua _).block _ (blk_lt h9)).trans h9
  have hx4 : ub.heap[B4]? = some (.cells #[.int .u64 0, .int .u64 0] 28 (0, 0)) := by rw [hu2, hB4, ← hs1]; exact heap_alloc_new ua _
  have HL2 := Lib.hid (show w.heap.size ≤ B2 by omega)
  have HL4 := Lib.hid (show w.heap.size ≤ B4 by omega)
  have HNE : Hid (B2 ≠ B4) := Lib.hid (by omega)
  have HU := Lib.hid hb2
  have HX2 := Lib.hid hx2
  have HX4 := Lib.hid hx4
  have b1 : (N : Int) ≤ 18446744073709551615 := by omega
  have b2 : (B : Int) ≤ 18446744073709551615 := by omega
  have b3 : (n : Int) ≤ 18446744073709551615 := by omega
  have HN0 := Lib.hid hN
  have HB0 := Lib.hid hB
  have HN1 := Lib.hid hn
  clear hb1 hb2 hx2 hx4 hN hB hn
  go_enter Try.func10, Try.ntmps10
  go_upto_region 1 with fail
  rw [← hu1, ← hB2, ← hB4, ← hu2]
  clear hu1 hu2 hB2 hB4 hs1
  have ht1 : ((n : Int) == 18446744073709551615) = false := by unfold topN at ht; simp; omega
  clear ht
  have HCC := Lib.hid hc
  clear hc
  obtain ⟨k0, k1, f0, f1⟩ := cells2 HX2.out
  go_wp2_with fail
  refine (can_d N B n false HN0.out HB0.out HN1.out HCC.out ub).mono ?_
  rintro e w1 ⟨rfl, hb⟩
  have HX2a := Lib.hid ((hb.block _ (blk_lt HX2.out)).trans HX2.out)
  have HX4a := Lib.hid ((hb.block _ (blk_lt HX4.out)).trans HX4.out)
  have HU1 := Lib.hid (HU.out.trans (hb.mono HU.out.size))
  clear hb k0 k1 f0 f1
  obtain ⟨k0, k1, f0, f1⟩ := cells2 HX4a.out
  go_wp2_with fail
  have hz1 := heap_setCell_same w1 B4 0 _ _ (.int .u64 0) HX4a.out
  have hz := heap_setCell_same _ B4 1 _ _ (.int .u64 0) hz1
  simp at hz
  obtain ⟨c0, c1, _, _⟩ := cells2 hz
  exact bodyPost_ret (v := .tuple #[.agg #[.int .u64 0, .int .u64 0], .int .i64 12]) (by simp [results, Try.results10, go_sem, c0, c1]) rfl ⟨rfl, HU1.out.trans ((((Chg.setCell w1 B4 0 (.int .u64 0)).trans (Chg.setCell _ B4 1 (.int .u64 0))).below (fun k e => by rw [e]; exact HL4.out) HU1.out.size))⟩
set_option maxHeartbeats 1000000 in
theorem take_put (N B n : Nat) (hN : N ≤ 18446744073709551615) (hB : B ≤ 18446744073709551615) (hn : n ≤ 18446744073709551615) (ht : n ≠ topN) (hc : canW ⟨N, B⟩ n = true) (hcl : (⟨N, B⟩ : Wn).Clean) (N2 T : Nat) (hN2 : (putW ⟨N, B⟩ n).next = N2) (hT : (putW ⟨N, B⟩ n).bits = T) (w : World) :
    Calls Try.prog 10 #[.agg #[.int .u64 (N : Int), .int .u64 (B : Int)], .int .u64 (n : Int)] w fun e w' => e = .returned (.tuple #[.agg #[.int .u64 (N2 : Int), .int .u64 (T : Int)], .int .i64 0]) ∧ Below w.heap.size w w' := by
  obtain ⟨ua, hu1⟩ : ∃ ua, ua = w.alloc (.cells #[.int .u64 (N : Int), .int .u64 (B : Int)] 28 : Obj) := ⟨_, rfl⟩
  obtain ⟨ub, hu2⟩ : ∃ ub, ub = ua.alloc (.cells #[.int .u64 0, .int .u64 0] 28 : Obj) := ⟨_, rfl⟩
  obtain ⟨B2, hB2⟩ : ∃ B2, B2 = w.heap.size := ⟨_, rfl⟩
  obtain ⟨B4, hB4⟩ : ∃ B4, B4 = B2 + 1 := ⟨_, rfl⟩
  have hs1 : ua.heap.size = B2 + 1 := by rw [hu1, hB2]; simp
  have hb1 : Below w.heap.size w ua := by rw [hu1]; exact below_alloc _ _
  have hb2 : Below w.heap.size w ub := hb1.trans (by rw [hu2]; exact (below_alloc ua _).mono hb1.size)
  have hx2 : ub.heap[B2]? = some (.cells #[.int .u64 (N : Int), .int .u64 (B : Int)] 28 (0, 0)) := by
    have h9 : ua.heap[B2]? = some (.cells #[.int .u64 (N : Int), .int .u64 (B : Int)] 28 (0, 0)) := by rw [hu1, hB2]; exact heap_alloc_new w _
    rw [hu2]
    exact ((below_alloc ua _).block _ (blk_lt h9)).trans h9
  have hx4 : ub.heap[B4]? = some (.cells #[.int .u64 0, .int .u64 0] 28 (0, 0)) := by rw [hu2, hB4, ← hs1]; exact heap_alloc_new ua _
  have HL2 := Lib.hid (show w.heap.size ≤ B2 by omega)
  have HL4 := Lib.hid (show w.heap.size ≤ B4 by omega)
  have HNE : Hid (B2 ≠ B4) := Lib.hid (by omega)
  have HU := Lib.hid hb2
  have HX2 := Lib.hid hx2
  have HX4 := Lib.hid hx4
  have b1 : (N : Int) ≤ 18446744073709551615 := by omega
  have b2 : (B : Int) ≤ 18446744073709551615 := by omega
  have b3 : (n : Int) ≤ 18446744073709551615 := by omega
  have HN0 := Lib.hid hN
  have HB0 := Lib.hid hB
  have HN1 := Lib.hid hn
  clear hb1 hb2 hx2 hx4 hN hB hn
  go_enter Try.func10, Try.ntmps10
  go_upto_region 1 with fail
  rw [← hu1, ← hB2, ← hB4, ← hu2]
  clear hu1 hu2 hB2 hB4 hs1
  have HC2 := Lib.hid hc
  have HCL := Lib.hid hcl
  have HT := Lib.hid hT
  have HTN := Lib.hid ht
  clear hcl hT
  rw [put_next] at hN2
  have hN2' : max N (n + 1) = N2 := hN2
  have hn9 : n + 1 ≤ 18446744073709551615 := by unfold topN at ht; omega
  have e0 : (n : Int) + 1 ≤ 18446744073709551615 := by omega
  clear hN2
  have ht1 : ((n : Int) == 18446744073709551615) = false := by unfold topN at ht; simp; omega
  clear ht
  have HCC := Lib.hid hc
  clear hc
  obtain ⟨k0, k1, f0, f1⟩ := cells2 HX2.out
  go_wp2_with fail
  refine (can_d N B n true HN0.out HB0.out HN1.out HCC.out ub).mono ?_
  rintro e w1 ⟨rfl, hb⟩
  have HX2a := Lib.hid ((hb.block _ (blk_lt HX2.out)).trans HX2.out)
  have HX4a := Lib.hid ((hb.block _ (blk_lt HX4.out)).trans HX4.out)
  have HU1 := Lib.hid (HU.out.trans (hb.mono HU.out.size))
  clear hb k0 k1 f0 f1
  have e9 : (if (N : Int) < (n : Int) + 1 then (n : Int) + 1 else (N : Int)) = (N2 : Int) := by split <;> omega
  obtain ⟨k0, k1, f0, f1⟩ := cells2 HX2a.out
  go_upto_region 6 with fail
  obtain ⟨B6, hB6⟩ : ∃ B6, B6 = w1.heap.size := ⟨_, rfl⟩
  obtain ⟨uf, hu6⟩ : ∃ uf, uf = w1.alloc (.cells #[.int .u64 (N2 : Int), .int .u64 0] 28) := ⟨_, rfl⟩
  have hb6 : Below w1.heap.size w1 uf := by rw [hu6]; exact below_alloc _ _
  have HX6 : Hid (uf.heap[B6]? = some (.cells #[.int .u64 (N2 : Int), .int .u64 0] 28 (0, 0))) := Lib.hid (by rw [hu6, hB6]; exact heap_alloc_new w1 _)
  have HX2b := Lib.hid ((hb6.block _ (blk_lt HX2a.out)).trans HX2a.out)
  have HX4b := Lib.hid ((hb6.block _ (blk_lt HX4a.out)).trans HX4a.out)
  have HU6 := Lib.hid (HU1.out.trans (hb6.mono HU1.out.size))
  have HN26 : Hid (B2 ≠ B6) := Lib.hid (by have := blk_lt HX2a.out; omega)
  have HN46 : Hid (B4 ≠ B6) := Lib.hid (by have := blk_lt HX4a.out; omega)
  have HL6 : Hid (w.heap.size ≤ B6) := Lib.hid (by have := HU1.out.size; omega)
  have HOK : Hid ((⟨N, B⟩ : Wn).Ok) := Lib.hid ⟨by have := HN0.out; unfold topN; simpa using this, by have := HB0.out; simp only; omega⟩
  have HTB : Hid (T < 2 ^ 64) := Lib.hid (by rw [← HT.out]; exact (put_ok HOK.out (by have := HN1.out; have := HTN.out; unfold topN at *; omega) HC2.out).bits)
  have bN : (N2 : Int) ≤ 18446744073709551615 := by omega
  rw [← hB6, ← hu6]
  clear k0 k1 f0 f1 hB6 hu6 hb6 e9
  have HNM := Lib.hid hN2'
  clear hN2' hn9
  go_wp2_with fail
  go_loopw [7] (fun x7 wr => ∃ (j : Nat) (y : Int) (q : Nat), j ≤ 64 ∧ x7 = .int .i64 y ∧ y = (j : Int) - 1 ∧ Hid (q = T / 2 ^ j) ∧ Hid (wr.heap[B6]? = some (.cells #[.int .u64 (N2 : Int), .int .u64 (q : Int)] 28 (0, 0))) ∧ Hid (Chg (fun k => k = B6) uf wr)) (fun x7 _ => (intG x7 + 1).toNat)
  case atStart => exact ⟨64, 63, 0, Nat.le_refl _, rfl, rfl, Lib.hid (half_top HTB.out).symm, HX6, Lib.hid (Chg.of_below (Below.refl _ _))⟩
  case round =>
    obtain ⟨j, y, q, hj, rfl, hy, HQ, HX, HC⟩ := hrel
    cases j with
    | zero =>
      obtain rfl : y = -1 := by omega
      have hqT : q = T := by rw [HQ.out]; simp
      subst hqT
      have HX4r := Lib.hid (HC.out.blk HX4b.out (fun e => HN46.out e))
      have HUr : Hid (Below w.heap.size w wr) := Lib.hid (HU6.out.trans (HC.out.below (fun k e => by rw [e]; exact HL6.out) HU6.out.size))
      obtain ⟨k0, k1, f0, f1⟩ := cells2 HX.out
      obtain ⟨m0, m1, g0, g1⟩ := cells2 HX4r.out
      clear hy hj
      go_wp2_with fail
      have hz1 := heap_setCell_same wr B4 0 _ _ (.int .u64 (N2 : Int)) HX4r.out
      have hz := heap_setCell_same _ B4 1 _ _ (.int .u64 (q : Int)) hz1
      simp at hz
      obtain ⟨c0, c1, _, _⟩ := cells2 hz
      exact bodyPost_ret (v := .tuple #[.agg #[.int .u64 (N2 : Int), .int .u64 (q : Int)], .int .i64 0]) (by simp [results, Try.results10, go_sem, c0, c1]) rfl ⟨rfl, HUr.out.trans ((((Chg.setCell wr B4 0 (.int .u64 (N2 : Int))).trans (Chg.setCell _ B4 1 (.int .u64 (q : Int)))).below (fun k e => by rw [e]; exact HL4.out) HUr.out.size))⟩
    | succ i =>
      obtain rfl : y = (i : Int) := by omega
      have HI : Hid (i ≤ 63) := Lib.hid (by omega)
      have bi : (i : Int) ≤ 63 := by omega
      clear hy hj
      obtain ⟨p, hp⟩ : ∃ p, q * 2 = p := ⟨_, rfl⟩
      have e1 : (q : Int) * 2 = (p : Int) := by omega
      have hp64 : p < 18446744073709551616 := by
        rw [← hp, HQ.out]
        exact half_le HTB.out i
      have bp : (p : Int) ≤ 18446744073709551615 := by omega
      have HP : Hid (T / 2 ^ i = p + (if T.testBit i = true then 1 else 0)) := Lib.hid (by rw [← hp, HQ.out]; exact half_digit T i)
      have HDG : Hid (T.testBit i = (decide (i < N2) && (decide (N2 - 1 - i = n) || hasW ⟨N, B⟩ (N2 - 1 - i)))) := Lib.hid (by rw [← HT.out]; exact doc_digit HOK.out HC2.out HCL.out HNM.out HI.out)
      have iK : IntKind.u64.wrap (i : Int) = (i : Int) := wrap_u64 (by omega) (by omega)
      clear hp hp64
      obtain ⟨z60, z61, f60, f61⟩ := cells2 HX.out
      go_upto_region 10 with fail
      obtain ⟨wq, hwq⟩ : ∃ wq, wq = wr.setCell ⟨B6, 1, none⟩ (.int .u64 (p : Int)) := ⟨_, rfl⟩
      have HXq : Hid (wq.heap[B6]? = some (.cells #[.int .u64 (N2 : Int), .int .u64 (p : Int)] 28 (0, 0))) := Lib.hid (by
        have h9 := heap_setCell_same wr B6 1 _ _ (.int .u64 (p : Int)) HX.out
        rw [hwq]
        simpa using h9)
      have HCq : Hid (Chg (fun k => k = B6) uf wq) := Lib.hid (by rw [hwq]; exact HC.out.trans (Chg.setCell _ _ _ _))
      rw [← hwq]
      clear hwq
      clear z60 z61 f60 f61 e1
      obtain ⟨z60, z61, f60, f61⟩ := cells2 HXq.out
      have HX2q := Lib.hid (HCq.out.blk HX2b.out (fun e => HN26.out e))
      obtain ⟨z20, z21, f20, f21⟩ := cells2 HX2q.out
      by_cases hiN : i < N2
      · have hiN1 : (i : Int) < (N2 : Int) := by omega
        have hge : decide (N2 ≤ i) = false := decide_eq_false (by omega)
        obtain ⟨M, hM⟩ : ∃ M, N2 - 1 = M := ⟨_, rfl⟩
        obtain ⟨x, hx⟩ : ∃ x, M - i = x := ⟨_, rfl⟩
        have e2 : (N2 : Int) - 1 = (M : Int) := by omega
        have e3 : (M : Int) - (i : Int) = (x : Int) := by omega
        have bM : (M : Int) ≤ 18446744073709551615 := by omega
        have bx : (x : Int) ≤ 18446744073709551615 := by omega
        have HXB : Hid (x ≤ 18446744073709551615) := Lib.hid (by omega)
        have HD2 : Hid (T.testBit i = (decide (x = n) || hasW ⟨N, B⟩ x)) := Lib.hid (by rw [HDG.out, decide_eq_true hiN, hM, hx]; rfl)
        clear hM hx hiN
        by_cases hxn : x = n
        · have HT1 : Hid (T.testBit i = true) := Lib.hid (by rw [HD2.out, decide_eq_true hxn]; rfl)
          have exn : ((x : Int) == (n : Int)) = true := by rw [hxn]; simp
          obtain ⟨p1, hp1⟩ : ∃ p1, p + 1 = p1 := ⟨_, rfl⟩
          have e4 : (p : Int) + 1 = (p1 : Int) := by omega
          have HQ1 : Hid (p1 = T / 2 ^ i) := Lib.hid (by rw [HP.out, if_pos HT1.out, hp1])
          have bp1 : (p1 : Int) ≤ 18446744073709551615 := by
            have h9 : p1 ≤ T := by rw [HQ1.out]; exact Nat.div_le_self _ _
            have := HTB.out
            omega
          clear hp1 hxn
          go_upto_region 13 with fail
          obtain ⟨wt, hwt⟩ : ∃ wt, wt = wq.setCell ⟨B6, 1, none⟩ (.int .u64 (p1 : Int)) := ⟨_, rfl⟩
          have HXt : Hid (wt.heap[B6]? = some (.cells #[.int .u64 (N2 : Int), .int .u64 (p1 : Int)] 28 (0, 0))) := Lib.hid (by
            have h9 := heap_setCell_same wq B6 1 _ _ (.int .u64 (p1 : Int)) HXq.out
            rw [hwt]
            simpa using h9)
          have HCt : Hid (Chg (fun k => k = B6) uf wt) := Lib.hid (by rw [hwt]; exact HCq.out.trans (Chg.setCell _ _ _ _))
          rw [← hwt]
          clear hwt
          clear z60 z61 f60 f61
          obtain ⟨z60, z61, f60, f61⟩ := cells2 HXt.out
          go_wp2_with fail
          go_roundw
          case rel => exact ⟨i, (i : Int) - 1, p1, by have := HI.out; omega, by first | rfl | go_num, rfl, HQ1, HXt, HCt⟩
          case measure => simp [intG] <;> omega
        · have exn : ((x : Int) == (n : Int)) = false := by simp; omega
          obtain ⟨c, hc⟩ : ∃ c, hasW ⟨N, B⟩ x = c := ⟨_, rfl⟩
          have HCX := Lib.hid hc
          have HT1 : Hid (T.testBit i = c) := Lib.hid (by rw [HD2.out, decide_eq_false hxn, hc]; rfl)
          clear hc hxn
          go_wp2_with fail
          refine (has_d N B x c HN0.out HB0.out HXB.out HCX.out wq).mono ?_
          rintro e w3 ⟨rfl, hb⟩
          have HX3 := Lib.hid ((hb.block _ (blk_lt HXq.out)).trans HXq.out)
          have HC3 : Hid (Chg (fun k => k = B6) uf w3) := Lib.hid (HCq.out.trans (Chg.of_below hb))
          clear hb z60 z61 f60 f61 z20 z21 f20 f21
          obtain ⟨z60, z61, f60, f61⟩ := cells2 HX3.out
          cases c with
          | true =>
            obtain ⟨p1, hp1⟩ : ∃ p1, p + 1 = p1 := ⟨_, rfl⟩
            have e4 : (p : Int) + 1 = (p1 : Int) := by omega
            have HQ1 : Hid (p1 = T / 2 ^ i) := Lib.hid (by rw [HP.out, if_pos HT1.out, hp1])
            have bp1 : (p1 : Int) ≤ 18446744073709551615 := by
              have h9 : p1 ≤ T := by rw [HQ1.out]; exact Nat.div_le_self _ _
              have := HTB.out
              omega
            clear hp1
            go_upto_region 13 with fail
            obtain ⟨wt, hwt⟩ : ∃ wt, wt = w3.setCell ⟨B6, 1, none⟩ (.int .u64 (p1 : Int)) := ⟨_, rfl⟩
            have HXt : Hid (wt.heap[B6]? = some (.cells #[.int .u64 (N2 : Int), .int .u64 (p1 : Int)] 28 (0, 0))) := Lib.hid (by
              have h9 := heap_setCell_same w3 B6 1 _ _ (.int .u64 (p1 : Int)) HX3.out
              rw [hwt]
              simpa using h9)
            have HCt : Hid (Chg (fun k => k = B6) uf wt) := Lib.hid (by rw [hwt]; exact HC3.out.trans (Chg.setCell _ _ _ _))
            rw [← hwt]
            clear hwt
            clear z60 z61 f60 f61
            obtain ⟨z60, z61, f60, f61⟩ := cells2 HXt.out
            go_wp2_with fail
            go_roundw
            case rel => exact ⟨i, (i : Int) - 1, p1, by have := HI.out; omega, by first | rfl | go_num, rfl, HQ1, HXt, HCt⟩
            case measure => simp [intG] <;> omega
          | false =>
            have HQ1 : Hid (p = T / 2 ^ i) := Lib.hid (by rw [HP.out, if_neg (by rw [HT1.out]; decide)]; rfl)
            go_wp2_with fail
            go_roundw
            case rel => exact ⟨i, (i : Int) - 1, p, by have := HI.out; omega, by first | rfl | go_num, rfl, HQ1, HX3, HC3⟩
            case measure => simp [intG] <;> omega
      · have hiN1 : decide (i < N2) = false := decide_eq_false hiN
        have hge : (N2 : Int) ≤ (i : Int) := by omega
        have HT1 : Hid (T.testBit i = false) := Lib.hid (by rw [HDG.out, hiN1]; rfl)
        have HQ1 : Hid (p = T / 2 ^ i) := Lib.hid (by rw [HP.out, if_neg (by rw [HT1.out]; decide)]; rfl)
        by_cases hNN : N = N2
        · have HBF : Hid (B.testBit i = false) := Lib.hid (HCL.out i (by simp only; omega))
          have HIB : Hid (i ≤ 64) := Lib.hid (by have := HI.out; omega)
          have eNN : ((N : Int) == (N2 : Int)) = true := by rw [hNN]; simp
          clear hNN hiN
          go_wp2_with fail
          refine (bit_d B i false (by have := HB0.out; omega) HIB.out HBF.out wq).mono ?_
          rintro e w3 ⟨rfl, hb⟩
          have HX3 := Lib.hid ((hb.block _ (blk_lt HXq.out)).trans HXq.out)
          have HC3 : Hid (Chg (fun k => k = B6) uf w3) := Lib.hid (HCq.out.trans (Chg.of_below hb))
          clear hb z60 z61 f60 f61 z20 z21 f20 f21
          go_wp2_with fail
          go_roundw
          case rel => exact ⟨i, (i : Int) - 1, p, by have := HI.out; omega, by first | rfl | go_num, rfl, HQ1, HX3, HC3⟩
          case measure => simp [intG] <;> omega
        · have eNN : ((N : Int) == (N2 : Int)) = false := by simp; omega
          clear hNN hiN
          go_wp2_with fail
          go_roundw
          case rel => exact ⟨i, (i : Int) - 1, p, by have := HI.out; omega, by first | rfl | go_num, rfl, HQ1, HXq, HCq⟩
          case measure => simp [intG] <;> omega
end Go.Proofs.Ytkdjlhnddnolaaa
