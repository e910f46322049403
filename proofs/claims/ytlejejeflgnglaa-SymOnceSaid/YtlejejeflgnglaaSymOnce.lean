/- SymOnce: for every row of terms and three numbers, what is sealed is opened in its order, not ahead of its turn, and not once more. No condition. -/
import Derived.Test.YtlejejeflgnglaaRows
import Derived.Test.YtlejejeflgnglaaSymN
import Derived.Test.YtlejejeflgnglaaOpens
import Derived.WalkKit
import Derived.ProofKit
import Derived.OpenShut
import Derived.ShutString
import Derived.ChangeOld
import Derived.Below
namespace Go.Proofs.Ytlejejeflgnglaa.symOnce
open Go.ChangeShapes Go.WideShapes Go.ChangeAt Go.RowKit
open Go.ChangeMaps (open_string shut_string)
open Go.Proofs.Ytlejejeflgnglaa
set_option linter.unusedVariables false
set_option linter.unusedSimpArgs false

theorem own : ownKnob Try.prog.godebug = none := by kernel_rfl
theorem laidOut : laidOutB Try.prog = true := by kernel_rfl

theorem math (L : List Tm) (k p q : Int) (hf : Fit L) (hL : L.length ≤ 20) (bk : 1 ≤ k ∧ k ≤ (L.length : Int)) (bp : 1 ≤ p ∧ p ≤ (L.length : Int)) (bq : 1 ≤ q ∧ q ≤ (L.length : Int)) :
    ∃ a c1 k1 h1 h2 x y L1 L2 L3 L4, beginF L 1000 nmS = (⟨a, 0, a, 0⟩, 0, L1) ∧ turnF L1 1000 ⟨a, 0, a, 0⟩ k = (⟨c1, k1, a, 0⟩, 0, L2) ∧ sealF L2 1000 ⟨c1, k1, a, 0⟩ p = (⟨c1, k1, h1, 1⟩, x, 0, L3) ∧ sealF L3 1000 ⟨c1, k1, h1, 1⟩ q = (⟨c1, k1, h2, 2⟩, y, 0, L4) ∧
      unsealF L4 1000 ⟨c1, k1, a, 0⟩ y = (zeroY, 0, 9, L4) ∧ unsealF L4 1000 ⟨c1, k1, a, 0⟩ x = (⟨c1, k1, h1, 1⟩, p, 0, L4) ∧ unsealF L4 1000 ⟨c1, k1, h1, 1⟩ x = (zeroY, 0, 9, L4) ∧ unsealF L4 1000 ⟨c1, k1, h1, 1⟩ y = (⟨c1, k1, h2, 2⟩, q, 0, L4) ∧ unsealF L4 1000 ⟨c1, k1, h2, 2⟩ y = (zeroY, 0, 9, L4) ∧
      Sy.Wf ⟨a, 0, a, 0⟩ ∧ Sy.Wf ⟨c1, k1, a, 0⟩ ∧ Sy.Wf ⟨c1, k1, h1, 1⟩ ∧ Sy.Wf ⟨c1, k1, h2, 2⟩ ∧ I64 x ∧ I64 y ∧ x ≠ y := by
  obtain ⟨a, L1, e1, n1, x1, l1, f1⟩ := begin_step (most := 1000) nmS hf nm_le (by omega)
  obtain ⟨c1, k1, L2, e2, m2, x2, l2, f2⟩ := turn_step (most := 1000) (y := ⟨a, 0, a, 0⟩) f1 n1.in (x1.in bk) (by omega)
  have x12 := x1.trans x2
  have na := (n1.ext x2).in
  obtain ⟨x, h1, L3, e3, s3, g3, x3, l3, f3⟩ := seal_step (most := 1000) (y := ⟨c1, k1, a, 0⟩) f2 m2.in.2 na (x12.in bp) (by simp [lastN]) (by omega)
  have x13 := x12.trans x3
  have mk3 := (m2.ext x3).in
  obtain ⟨y, h2, L4, e4, s4, g4, x4, l4, f4⟩ := seal_step (most := 1000) (y := ⟨c1, k1, h1, 1⟩) f3 mk3.2 g3.in (x13.in bq) (by simp [lastN]) (by omega)
  have mk4 := ((m2.ext x3).ext x4).in
  have na4 := (x3.trans x4).in na
  have h14 := (g3.ext x4).in
  have h24 := g4.in
  have t3 := s3.ext x4
  have xi := t3.in
  have yi := s4.in
  have kk := mk4.2
  have cc := mk4.1
  refine ⟨a, c1, k1, h1, h2, x, y, L1, L2, L3, L4, e1, e2, e3, e4, ?_, ?_, ?_, ?_, ?_, wf_in (by omega) (by omega) (by omega) (by omega), wf_in (by omega) (by omega) (by omega) (by omega), wf_in (by omega) (by omega) (by omega) (by omega), wf_in (by omega) (by omega) (by omega) (by omega), i64_small (by omega) (by omega), i64_small (by omega) (by omega), ?_⟩
  · exact unseal_bad (y := ⟨c1, k1, a, 0⟩) kk na4 (by simp [lastN]) s4 (by simp)
  · exact unseal_at (y := ⟨c1, k1, a, 0⟩) kk na4 (by simp [lastN]) t3 (g3.ext x4)
  · exact unseal_bad (y := ⟨c1, k1, h1, 1⟩) kk h14 (by simp [lastN]) t3 (by simp)
  · exact unseal_at (y := ⟨c1, k1, h1, 1⟩) kk h14 (by simp [lastN]) s4 g4
  · exact unseal_bad (y := ⟨c1, k1, h2, 2⟩) kk h24 (by simp [lastN]) s4 (by simp)
  · rw [Ne, t3.inj s4, seal_eq]; simp

set_option maxHeartbeats 4000000 in
set_option maxRecDepth 100000 in
theorem walk (a0 : Option Addr) (len0 cap0 : Nat) (T0 : Nat → Tm) (x0 x1 x2 : Int) (w : World) (w0 : Terms w a0 len0 cap0 T0) (h0 : (Lit.int .u8 x0).wf = true) (h1 : (Lit.int .u8 x1).wf = true) (h2 : (Lit.int .u8 x2).wf = true) :
    Calls Try.prog 7 #[.slice a0 len0 cap0, .agg #[.int .u8 x0, .int .u8 x1, .int .u8 x2]] w fun e w' => e = .returned (.bool true) ∧ Below w.heap.size w w' := by
  have hB0 : Below w.heap.size w (w.alloc (.cells #[.int .u8 x0, .int .u8 x1, .int .u8 x2] 58)) := (Below.refl _ _).alloc (Nat.le_refl _) _
  have HT := Lib.hid (w0.below hB0)
  have HB0 := Lib.hid hB0
  have H0 := Lib.hid h0
  have H1 := Lib.hid h1
  have H2 := Lib.hid h2
  clear w0 hB0 h0 h1 h2
  go_enter Try.func7, Try.ntmps7
  go_wp2_with fail
  refine (stores_any 20 a0 len0 cap0 T0 _ (by omega) HT.out).mono ?_
  rintro e w1 ⟨g1, g2, L, rfl, hL, hp⟩
  have HP0 := Lib.hid hp
  have HLn := Lib.hid hL
  have HFit := Lib.hid hp.facts.1
  have gR := RSq.good (w.alloc (.cells #[.int .u8 x0, .int .u8 x1, .int .u8 x2] 58)).heap.size g2 1000
  have gP := PSq.good (w.alloc (.cells #[.int .u8 x0, .int .u8 x1, .int .u8 x2] 58)).heap.size g1 1000
  have hbl := hp.belowW
  have hlt : w.heap.size < (w.alloc (.cells #[.int .u8 x0, .int .u8 x1, .int .u8 x2] 58)).heap.size := by simp
  have c : ∀ j, w1.cell? ⟨w.heap.size, j, none⟩ = #[Value.int .u8 x0, .int .u8 x1, .int .u8 x2][j]? := fun j => by rw [hbl.cell (by exact hlt)]; exact cell_of_row _ _ j _ _ _ (heap_alloc_new w _)
  have c0 := c 0
  have c1 := c 1
  have c2 := c 2
  simp at c0 c1 c2
  clear c hbl hlt hp hL HT
  by_cases hn : L.length = 0
  · have hl0 : ((L.length : Int) == 0) = true := by simp [hn]
    clear hn
    go_wp2_with fail
    refine (HP0.out.lenP).mono ?_
    rintro e w2 ⟨rfl, rfl⟩
    go_wp2_with fail
    refine (fixed_any _).mono ?_
    rintro e w3 ⟨rfl, hb3⟩
    have hb4 := HB0.out.trans ((HP0.out.belowW.trans (hb3.mono HP0.out.base_le)).mono HB0.out.size)
    clear hb3 c0 c1 c2
    go_wp2
    go_ret
    exact ⟨rfl, hb4⟩
  · have hl0 : ((L.length : Int) == 0) = false := by simpa using hn
    have hn1 : (0 : Int) < L.length := by omega
    have hn2 : (L.length : Int) ≤ 20 := by have := HLn.out; omega
    have HL : Hid (∀ n, Calls Try.prog 26 #[.pointer (some ⟨g1, 0, none⟩)] (w1.drewN n) fun e w' => e = .returned (.int .i64 L.length) ∧ ∃ m, w' = w1.drewN m) := Lib.hid (fun n => quiet_of ((HP0.out.below gP gR (drewN_below _ _)).lenP))
    clear hn
    go_wp2_with fail
    refine (HP0.out.lenP).mono ?_
    rintro e w2 ⟨rfl, rfl⟩
    go_wp2_with fail
    go_quiet (first | (go_at_call 26; exact HL.out _))
    obtain ⟨k, hk⟩ : ∃ k, k = wrap64 (1 + (wrap64 x0).tmod ↑L.length) := ⟨_, rfl⟩
    have bdk : 1 ≤ k ∧ k ≤ (L.length : Int) := by rw [hk]; exact pick_in x0 _ H0.out hn1 (by omega)
    obtain ⟨p, hp⟩ : ∃ p, p = wrap64 (1 + (wrap64 x1).tmod ↑L.length) := ⟨_, rfl⟩
    have bdp : 1 ≤ p ∧ p ≤ (L.length : Int) := by rw [hp]; exact pick_in x1 _ H1.out hn1 (by omega)
    obtain ⟨q, hq⟩ : ∃ q, q = wrap64 (1 + (wrap64 x2).tmod ↑L.length) := ⟨_, rfl⟩
    have bdq : 1 ≤ q ∧ q ≤ (L.length : Int) := by rw [hq]; exact pick_in x2 _ H2.out hn1 (by omega)
    rw [← hk, ← hp, ← hq]
    have HIk : Hid (I64 k) := Lib.hid (i64_small (by omega) (by omega))
    have Bk := Lib.hid bdk
    have HIp : Hid (I64 p) := Lib.hid (i64_small (by omega) (by omega))
    have Bp := Lib.hid bdp
    have HIq : Hid (I64 q) := Lib.hid (i64_small (by omega) (by omega))
    have Bq := Lib.hid bdq
    have HPA := Lib.hid (HP0.out.below gP gR (drewN_below w1 nq))
    clear hk bdk hp bdp hq bdq HP0 HL c0 c1 c2 hl0 hn1 hn2
    generalize w1.drewN nq = w2 at HPA ⊢
    obtain ⟨a, c1, k1, h1, h2, x, y, L1, L2, L3, L4, e1, e2, e3, e4, e5, e6, e7, e8, e9, v1, v2, v3, v4, ix, iy, nxy⟩ := math L k p q HFit.out HLn.out Bk.out Bp.out Bq.out
    have E1 := Lib.hid e1
    have E2 := Lib.hid e2
    have E3 := Lib.hid e3
    have E4 := Lib.hid e4
    have E5 := Lib.hid e5
    have E6 := Lib.hid e6
    have E7 := Lib.hid e7
    have E8 := Lib.hid e8
    have E9 := Lib.hid e9
    have V1 := Lib.hid v1
    have V2 := Lib.hid v2
    have V3 := Lib.hid v3
    have V4 := Lib.hid v4
    have IX := Lib.hid ix
    have IY := Lib.hid iy
    have b1 : (x == y) = false := by simpa using nxy
    clear e1 e2 e3 e4 e5 e6 e7 e8 e9 v1 v2 v3 v4 ix iy nxy Bk Bp Bq
    go_wp2_with fail
    refine (HPA.out.beginP gR nm_wf E1.out).mono ?_
    rintro e w3 ⟨rfl, hp, hk⟩
    simp only [Sy.v, zeroY]
    have HP3 := Lib.hid (Pair.box gP gR hp (.cells #[.int .i64 a, .int .i64 0, .int .i64 a, .int .u64 0] 25))
    clear hp hk HPA 
    go_wp2_with fail
    refine (HP3.out.turnP gR V1.out HIk.out E2.out).mono ?_
    rintro e w4 ⟨rfl, hp, hk⟩
    simp only [Sy.v, zeroY]
    have hx0 : w4.heap[w3.heap.size]? = some (.cells #[.int .i64 a, .int .i64 0, .int .i64 a, .int .u64 0] 25 (0, 0)) := (hk _ (.inr rfl)).trans (heap_alloc_new w3 _)
    have HX0 := Lib.hid hx0
    have HP4 := Lib.hid (Pair.box gP gR hp (.cells #[.int .i64 c1, .int .i64 k1, .int .i64 a, .int .u64 0] 25))
    clear hp hk HP3 hx0
    go_wp2_with fail
    refine (HP4.out.ysealP gR V2.out HIp.out E3.out).mono ?_
    rintro e w5 ⟨rfl, hp, hk⟩
    simp only [Sy.v, zeroY]
    have hx1 : w5.heap[w4.heap.size]? = some (.cells #[.int .i64 c1, .int .i64 k1, .int .i64 a, .int .u64 0] 25 (0, 0)) := (hk _ (.inr rfl)).trans (heap_alloc_new w4 _)
    clear HX0
    have HX1 := Lib.hid hx1
    have HP5 := Lib.hid (Pair.box gP gR hp (.cells #[.int .i64 c1, .int .i64 k1, .int .i64 h1, .int .u64 1] 25))
    clear hp hk HP4 hx1
    go_wp2_with fail
    refine (HP5.out.ysealP gR V3.out HIq.out E4.out).mono ?_
    rintro e w6 ⟨rfl, hp, hk⟩
    simp only [Sy.v, zeroY]
    have hx1 : w6.heap[w4.heap.size]? = some (.cells #[.int .i64 c1, .int .i64 k1, .int .i64 a, .int .u64 0] 25 (0, 0)) := (hk _ ((.inl (.inr rfl)))).trans ((heap_alloc_old _ _ (lt_of_block HX1.out)).trans HX1.out)
    have hx2 : w6.heap[w5.heap.size]? = some (.cells #[.int .i64 c1, .int .i64 k1, .int .i64 h1, .int .u64 1] 25 (0, 0)) := (hk _ (.inr rfl)).trans (heap_alloc_new w5 _)
    clear HX1
    have HX1 := Lib.hid hx1
    have HX2 := Lib.hid hx2
    have HP6 := Lib.hid (Pair.box gP gR hp (.cells #[.int .i64 c1, .int .i64 k1, .int .i64 h2, .int .u64 2] 25))
    clear hp hk HP5 hx1 hx2
    have c1_0 := cell_of_row w6 _ 0 _ _ _ HX1.out
    have c1_1 := cell_of_row w6 _ 1 _ _ _ HX1.out
    have c1_2 := cell_of_row w6 _ 2 _ _ _ HX1.out
    have c1_3 := cell_of_row w6 _ 3 _ _ _ HX1.out
    have lt1 := lt_of_block HX1.out
    simp at c1_0 c1_1 c1_2 c1_3
    go_wp2_with fail
    refine (HP6.out.yopenP gR V2.out IY.out E5.out).mono ?_
    rintro e w7 ⟨rfl, hp, hk⟩
    simp only [Sy.v, zeroY]
    have hx1 : w7.heap[w4.heap.size]? = some (.cells #[.int .i64 c1, .int .i64 k1, .int .i64 a, .int .u64 0] 25 (0, 0)) := (hk _ ((.inl (.inl (.inr rfl))))).trans ((heap_alloc_old _ _ (lt_of_block HX1.out)).trans HX1.out)
    have hx2 : w7.heap[w5.heap.size]? = some (.cells #[.int .i64 c1, .int .i64 k1, .int .i64 h1, .int .u64 1] 25 (0, 0)) := (hk _ ((.inl (.inr rfl)))).trans ((heap_alloc_old _ _ (lt_of_block HX2.out)).trans HX2.out)
    have hx3 : w7.heap[w6.heap.size]? = some (.cells #[.int .i64 c1, .int .i64 k1, .int .i64 h2, .int .u64 2] 25 (0, 0)) := (hk _ (.inr rfl)).trans (heap_alloc_new w6 _)
    clear HX1 HX2
    have HX1 := Lib.hid hx1
    have HX2 := Lib.hid hx2
    have HX3 := Lib.hid hx3
    have HP7 := Lib.hid (Pair.box gP gR hp (.cells #[.int .i64 0, .int .i64 0, .int .i64 0, .int .u64 0] 25))
    clear hp hk HP6 hx1 hx2 hx3 c1_0 c1_1 c1_2 c1_3 lt1
    have c1_0 := cell_of_row w7 _ 0 _ _ _ HX1.out
    have c1_1 := cell_of_row w7 _ 1 _ _ _ HX1.out
    have c1_2 := cell_of_row w7 _ 2 _ _ _ HX1.out
    have c1_3 := cell_of_row w7 _ 3 _ _ _ HX1.out
    have lt1 := lt_of_block HX1.out
    simp at c1_0 c1_1 c1_2 c1_3
    go_wp2_with fail
    refine (HP7.out.yopenP gR V2.out IX.out E6.out).mono ?_
    rintro e w8 ⟨rfl, hp, hk⟩
    simp only [Sy.v, zeroY]
    have hx1 : w8.heap[w4.heap.size]? = some (.cells #[.int .i64 c1, .int .i64 k1, .int .i64 a, .int .u64 0] 25 (0, 0)) := (hk _ ((.inl (.inl (.inl (.inr rfl)))))).trans ((heap_alloc_old _ _ (lt_of_block HX1.out)).trans HX1.out)
    have hx2 : w8.heap[w5.heap.size]? = some (.cells #[.int .i64 c1, .int .i64 k1, .int .i64 h1, .int .u64 1] 25 (0, 0)) := (hk _ ((.inl (.inl (.inr rfl))))).trans ((heap_alloc_old _ _ (lt_of_block HX2.out)).trans HX2.out)
    have hx3 : w8.heap[w6.heap.size]? = some (.cells #[.int .i64 c1, .int .i64 k1, .int .i64 h2, .int .u64 2] 25 (0, 0)) := (hk _ ((.inl (.inr rfl)))).trans ((heap_alloc_old _ _ (lt_of_block HX3.out)).trans HX3.out)
    clear HX1 HX2 HX3
    have HX1 := Lib.hid hx1
    have HX2 := Lib.hid hx2
    have HX3 := Lib.hid hx3
    have HP8 := Lib.hid (Pair.box gP gR hp (.cells #[.int .i64 c1, .int .i64 k1, .int .i64 h1, .int .u64 1] 25))
    clear hp hk HP7 hx1 hx2 hx3 c1_0 c1_1 c1_2 c1_3 lt1
    go_wp2_with fail
    refine (HP8.out.yopenP gR V3.out IX.out E7.out).mono ?_
    rintro e w9 ⟨rfl, hp, hk⟩
    simp only [Sy.v, zeroY]
    have hx2 : w9.heap[w5.heap.size]? = some (.cells #[.int .i64 c1, .int .i64 k1, .int .i64 h1, .int .u64 1] 25 (0, 0)) := (hk _ ((.inl (.inl (.inl (.inr rfl)))))).trans ((heap_alloc_old _ _ (lt_of_block HX2.out)).trans HX2.out)
    have hx3 : w9.heap[w6.heap.size]? = some (.cells #[.int .i64 c1, .int .i64 k1, .int .i64 h2, .int .u64 2] 25 (0, 0)) := (hk _ ((.inl (.inl (.inr rfl))))).trans ((heap_alloc_old _ _ (lt_of_block HX3.out)).trans HX3.out)
    have hx5 : w9.heap[w8.heap.size]? = some (.cells #[.int .i64 c1, .int .i64 k1, .int .i64 h1, .int .u64 1] 25 (0, 0)) := (hk _ (.inr rfl)).trans (heap_alloc_new w8 _)
    clear HX2 HX3 HX1
    have HX2 := Lib.hid hx2
    have HX3 := Lib.hid hx3
    have HX5 := Lib.hid hx5
    have HP9 := Lib.hid (Pair.box gP gR hp (.cells #[.int .i64 0, .int .i64 0, .int .i64 0, .int .u64 0] 25))
    clear hp hk HP8 hx2 hx3 hx5
    have c5_0 := cell_of_row w9 _ 0 _ _ _ HX5.out
    have c5_1 := cell_of_row w9 _ 1 _ _ _ HX5.out
    have c5_2 := cell_of_row w9 _ 2 _ _ _ HX5.out
    have c5_3 := cell_of_row w9 _ 3 _ _ _ HX5.out
    have lt5 := lt_of_block HX5.out
    simp at c5_0 c5_1 c5_2 c5_3
    go_wp2_with fail
    refine (HP9.out.yopenP gR V3.out IY.out E8.out).mono ?_
    rintro e w10 ⟨rfl, hp, hk⟩
    simp only [Sy.v, zeroY]
    have hx2 : w10.heap[w5.heap.size]? = some (.cells #[.int .i64 c1, .int .i64 k1, .int .i64 h1, .int .u64 1] 25 (0, 0)) := (hk _ ((.inl (.inl (.inl (.inl (.inr rfl))))))).trans ((heap_alloc_old _ _ (lt_of_block HX2.out)).trans HX2.out)
    have hx3 : w10.heap[w6.heap.size]? = some (.cells #[.int .i64 c1, .int .i64 k1, .int .i64 h2, .int .u64 2] 25 (0, 0)) := (hk _ ((.inl (.inl (.inl (.inr rfl)))))).trans ((heap_alloc_old _ _ (lt_of_block HX3.out)).trans HX3.out)
    have hx5 : w10.heap[w8.heap.size]? = some (.cells #[.int .i64 c1, .int .i64 k1, .int .i64 h1, .int .u64 1] 25 (0, 0)) := (hk _ ((.inl (.inr rfl)))).trans ((heap_alloc_old _ _ (lt_of_block HX5.out)).trans HX5.out)
    clear HX2 HX3 HX5
    have HX2 := Lib.hid hx2
    have HX3 := Lib.hid hx3
    have HX5 := Lib.hid hx5
    have HP10 := Lib.hid (Pair.box gP gR hp (.cells #[.int .i64 c1, .int .i64 k1, .int .i64 h2, .int .u64 2] 25))
    clear hp hk HP9 hx2 hx3 hx5 c5_0 c5_1 c5_2 c5_3 lt5
    go_wp2_with fail
    refine (HP10.out.yopenP gR V4.out IY.out E9.out).mono ?_
    rintro e w11 ⟨rfl, hp, hk⟩
    simp only [Sy.v, zeroY]
    have hx2 : w11.heap[w5.heap.size]? = some (.cells #[.int .i64 c1, .int .i64 k1, .int .i64 h1, .int .u64 1] 25 (0, 0)) := (hk _ ((.inl (.inl (.inl (.inl (.inl (.inr rfl)))))))).trans ((heap_alloc_old _ _ (lt_of_block HX2.out)).trans HX2.out)
    have hx3 : w11.heap[w6.heap.size]? = some (.cells #[.int .i64 c1, .int .i64 k1, .int .i64 h2, .int .u64 2] 25 (0, 0)) := (hk _ ((.inl (.inl (.inl (.inl (.inr rfl))))))).trans ((heap_alloc_old _ _ (lt_of_block HX3.out)).trans HX3.out)
    have hx5 : w11.heap[w8.heap.size]? = some (.cells #[.int .i64 c1, .int .i64 k1, .int .i64 h1, .int .u64 1] 25 (0, 0)) := (hk _ ((.inl (.inl (.inr rfl))))).trans ((heap_alloc_old _ _ (lt_of_block HX5.out)).trans HX5.out)
    have hx7 : w11.heap[w10.heap.size]? = some (.cells #[.int .i64 c1, .int .i64 k1, .int .i64 h2, .int .u64 2] 25 (0, 0)) := (hk _ (.inr rfl)).trans (heap_alloc_new w10 _)
    clear HX2 HX3 HX5
    have HX2 := Lib.hid hx2
    have HX3 := Lib.hid hx3
    have HX5 := Lib.hid hx5
    have HX7 := Lib.hid hx7
    have HP11 := Lib.hid (Pair.box gP gR hp (.cells #[.int .i64 0, .int .i64 0, .int .i64 0, .int .u64 0] 25))
    clear hp hk HP10 hx2 hx3 hx5 hx7
    have c5_0 := cell_of_row w11 _ 0 _ _ _ HX5.out
    have c5_1 := cell_of_row w11 _ 1 _ _ _ HX5.out
    have c5_2 := cell_of_row w11 _ 2 _ _ _ HX5.out
    have c5_3 := cell_of_row w11 _ 3 _ _ _ HX5.out
    have lt5 := lt_of_block HX5.out
    have c2_0 := cell_of_row w11 _ 0 _ _ _ HX2.out
    have c2_1 := cell_of_row w11 _ 1 _ _ _ HX2.out
    have c2_2 := cell_of_row w11 _ 2 _ _ _ HX2.out
    have c2_3 := cell_of_row w11 _ 3 _ _ _ HX2.out
    have lt2 := lt_of_block HX2.out
    have c7_0 := cell_of_row w11 _ 0 _ _ _ HX7.out
    have c7_1 := cell_of_row w11 _ 1 _ _ _ HX7.out
    have c7_2 := cell_of_row w11 _ 2 _ _ _ HX7.out
    have c7_3 := cell_of_row w11 _ 3 _ _ _ HX7.out
    have lt7 := lt_of_block HX7.out
    have c3_0 := cell_of_row w11 _ 0 _ _ _ HX3.out
    have c3_1 := cell_of_row w11 _ 1 _ _ _ HX3.out
    have c3_2 := cell_of_row w11 _ 2 _ _ _ HX3.out
    have c3_3 := cell_of_row w11 _ 3 _ _ _ HX3.out
    have lt3 := lt_of_block HX3.out
    simp at c5_0 c5_1 c5_2 c5_3 c2_0 c2_1 c2_2 c2_3 c7_0 c7_1 c7_2 c7_3 c3_0 c3_1 c3_2 c3_3
    have hE1 := eql_Y ⟨c1, k1, h1, 1⟩ ⟨c1, k1, h1, 1⟩
    rw [(eqY_iff _ _).2 rfl] at hE1
    unfold Sy.v at hE1
    simp only [] at hE1
    have hE2 := eql_Y ⟨c1, k1, h2, 2⟩ ⟨c1, k1, h2, 2⟩
    rw [(eqY_iff _ _).2 rfl] at hE2
    unfold Sy.v at hE2
    simp only [] at hE2
    have hgd := guardY
    have s1 := beq_self_eq_true p
    have s2 := beq_self_eq_true q
    go_wp2_with fail
    refine (fixed_any _).mono ?_
    rintro e w99 ⟨rfl, hb9⟩
    have hb := HB0.out.trans ((HP11.out.belowW.trans (hb9.mono HP11.out.base_le)).mono HB0.out.size)
    clear hb9
    go_wp2
    go_ret
    exact ⟨rfl, hb⟩

set_option maxRecDepth 100000 in
theorem lifted (os : Os) (started : os.Started) (H : Type) (enc : TypeId × Value → H) :
    ReturnsInHanded {} Try.checked os 7 .any (Rows.symOnceSpec.pre6 enc Try.prog Try.f7 Rows.symOnceRow.domain false) (Rows.symOnceSpec.post enc Try.prog Try.f7 false true false false) := by
  refine returnsInHanded_of_change (C := Try.checked) own started (by kernel_rfl) Try.func7
    (ChangeSpec.witness6 (enc := enc) (C := Try.checked) false ⟨#[], #[.slice none 0 0, .agg #[.int .u8 0, .int .u8 0, .int .u8 0]], []⟩ 8 (by kernel_rfl) (by kernel_rfl) (by kernel_rfl) (by kernel_rfl)) ?_
  intro W base args ds gs before hval0 hW hcnd _
  have hval : ∀ (j : Nat) t v, Try.f7.params[j]? = some t → args[j]? = some v → Value.okWide Try.prog W .any base t v := hval0
  have hW' := hW
  obtain ⟨p, q, hA0, hV, rfl, hfz, hnd⟩ := hW
  have hA : DataW.TrodAll enc Try.prog W 0 (fun _ => true) true Try.f7.params.toList args.toList ds p := hA0
  rw [Try.params7] at hA hval
  obtain ⟨v0, vs0, d0, ds0, p0, q0, hargs, rfl, rfl, h0, r0⟩ := trodAll_cons hA
  obtain ⟨v1, vs1, d1, ds1, p1, q1, rfl, rfl, rfl, h1, r1⟩ := trodAll_cons r0
  obtain ⟨rfl, rfl, rfl⟩ := trodAll_nil r1
  obtain rfl : args = #[v0, v1] := by cases args; simp_all
  obtain ⟨rfl, rfl⟩ := trodVars_none hV
  obtain ⟨a0, len0, cap0, rfl⟩ := okWide_slice Try.underlying22 (hval 0 22 v0 rfl rfl)
  have k0 := h0
  have lt0 : ∀ x ∈ p0, x.block < W.heap.size := by obtain ⟨m, hm⟩ := k0; exact DataW.trod_lt m _ _ _ hm
  obtain ⟨T0, w0⟩ : ∃ T, Terms W a0 len0 cap0 T := by
    obtain ⟨fuel, hf⟩ := h0
    exact open_terms (by simpa [Value.cells] using hf)
  obtain ⟨cs1, rfl, hsz1⟩ : ∃ cs, v1 = .agg cs ∧ cs.size = Try.prog.cellsOf 58 := by
    have h := hval 1 58 v1 rfl rfl
    simp only [Value.okWide, Try.underlying58] at h
    obtain ⟨cs, e1, e2, _⟩ := h
    exact ⟨cs, e1, e2⟩
  have k1 := h1
  have lt1 : ∀ x ∈ p1, x.block < W.heap.size := by obtain ⟨m, hm⟩ := k1; exact DataW.trod_lt m _ _ _ hm
  obtain ⟨Z1, rfl, w1⟩ : ∃ Z : Nat → Int, cs1 = ((List.range 3).map fun j => Value.int .u8 (Z j)).toArray ∧ ∀ j, j < 3 → (Lit.int .u8 (Z j)).wf = true := by
    obtain ⟨fuel, hf⟩ := h1
    exact open_arrV Try.underlying58 Try.underlying5 (by kernel_rfl) (by kernel_rfl) hf
  clear hA0 hval0
  refine (walk a0 len0 cap0 T0 (Z1 0) (Z1 1) (Z1 2) W w0 (w1 0 (by omega)) (w1 1 (by omega)) (w1 2 (by omega))).mono fun e W' ⟨he, bel⟩ => ?_
  subst he
  exact ⟨_, rfl, _, _, _, [], _, [], hW', trodAll_mk1 (shut_bool Try.underlying4 _), (trodAll_cons_mk (Below.trod laidOut (by kernel_rfl) (of_decide_eq_true (by kernel_rfl)) k0 bel lt0) (trodAll_cons_mk (Below.trod laidOut (by kernel_rfl) (of_decide_eq_true (by kernel_rfl)) k1 bel lt1) trodAll_mk0)), rfl, bel.frame _, fun h => by cases h⟩

theorem over : Rows.symOnceRow.holds Try.pinned (OpenSpec.ofChange Rows.symOnceSpec) :=
  OpenClaim.holds_of_wide 7 Try.f7 rfl rfl rfl rfl rfl rfl rfl ⟨rfl, rfl, rfl, rfl, rfl⟩ rfl rfl rfl rfl rfl (by kernel_rfl) Try.func7 (by kernel_rfl)
    (of_decide_eq_true (by kernel_rfl)) (by unfold Func.isWrapper; first | (rw [if_pos (by decide +kernel)]; kernel_rfl) | (rw [if_neg (by decide +kernel)]; exact ⟨rfl, rfl⟩))
    (fun os started H enc _ => lifted os started H enc)

theorem proved : Rows.SymOnceSaid := over
#print axioms proved
end Go.Proofs.Ytlejejeflgnglaa.symOnce
