/- SymApart: for every row of terms and four numbers, a side that was told something else, or mixed in something else, opens nothing of the other one's. No condition. -/
import Derived.Test.YtlejejeflgnglaaRows
import Derived.Test.YtlejejeflgnglaaSymN
import Derived.Test.YtlejejeflgnglaaOpens
import Derived.WalkKit
import Derived.ProofKit
import Derived.OpenShut
import Derived.ShutString
import Derived.ChangeOld
import Derived.Below
namespace Go.Proofs.Ytlejejeflgnglaa.symApart
open Go.ChangeShapes Go.WideShapes Go.ChangeAt Go.RowKit
open Go.ChangeMaps (open_string shut_string)
open Go.Proofs.Ytlejejeflgnglaa
set_option linter.unusedVariables false
set_option linter.unusedSimpArgs false

theorem own : ownKnob Try.prog.godebug = none := by kernel_rfl
theorem laidOut : laidOutB Try.prog = true := by kernel_rfl

theorem math (L : List Tm) (k x y p : Int) (hf : Fit L) (hL : L.length ≤ 20) (bk : 1 ≤ k ∧ k ≤ (L.length : Int)) (bx : 1 ≤ x ∧ x ≤ (L.length : Int)) (ey : 1 ≤ y ∧ y ≤ (L.length : Int)) (bp : 1 ≤ p ∧ p ≤ (L.length : Int)) :
    ∃ a c1 k1 hx hy uc uk vc vk h6 h8 m w z1 z2 z3 z4 o1 o2 o3 o4 q r z aa L1 L2 L3 L4 L5 L6 L7 L8, beginF L 1000 nmS = (⟨a, 0, a, 0⟩, 0, L1) ∧ turnF L1 1000 ⟨a, 0, a, 0⟩ k = (⟨c1, k1, a, 0⟩, 0, L2) ∧ sayF L2 1000 ⟨c1, k1, a, 0⟩ x = (⟨c1, k1, hx, 0⟩, 0, L3) ∧ sayF L3 1000 ⟨c1, k1, a, 0⟩ y = (⟨c1, k1, hy, 0⟩, 0, L4) ∧
      turnF L4 1000 ⟨c1, k1, a, 0⟩ x = (⟨uc, uk, a, 0⟩, 0, L5) ∧ turnF L5 1000 ⟨c1, k1, a, 0⟩ y = (⟨vc, vk, a, 0⟩, 0, L6) ∧ sealF L6 1000 ⟨c1, k1, hx, 0⟩ p = (⟨c1, k1, h6, 1⟩, m, 0, L7) ∧ unsealF L7 1000 ⟨c1, k1, hy, 0⟩ m = (⟨z1, z2, z3, z4⟩, q, r, L7) ∧
      sealF L7 1000 ⟨uc, uk, a, 0⟩ p = (⟨uc, uk, h8, 1⟩, w, 0, L8) ∧ unsealF L8 1000 ⟨vc, vk, a, 0⟩ w = (⟨o1, o2, o3, o4⟩, z, aa, L8) ∧
      Sy.Wf ⟨a, 0, a, 0⟩ ∧ Sy.Wf ⟨c1, k1, a, 0⟩ ∧ Sy.Wf ⟨c1, k1, hx, 0⟩ ∧ Sy.Wf ⟨c1, k1, hy, 0⟩ ∧ Sy.Wf ⟨uc, uk, a, 0⟩ ∧ Sy.Wf ⟨vc, vk, a, 0⟩ ∧ I64 m ∧ I64 w ∧ (x = y → r = 0 ∧ q = p ∧ aa = 0 ∧ z = p) ∧ (x ≠ y → r = 9 ∧ q = 0 ∧ aa = 9 ∧ z = 0) := by
  obtain ⟨a, L1, e1, n1, x1, l1, f1⟩ := begin_step (most := 1000) nmS hf nm_le (by omega)
  obtain ⟨c1, k1, L2, e2, m2, x2, l2, f2⟩ := turn_step (most := 1000) (y := ⟨a, 0, a, 0⟩) f1 n1.in (x1.in bk) (by omega)
  have x12 := x1.trans x2
  have na2 := n1.ext x2
  obtain ⟨hx, L3, e3, n3, x3, l3, f3⟩ := say_step (most := 1000) (y := ⟨c1, k1, a, 0⟩) f2 na2.in (x12.in bx) (by omega)
  have x13 := x12.trans x3
  obtain ⟨hy, L4, e4, n4, x4, l4, f4⟩ := say_step (most := 1000) (y := ⟨c1, k1, a, 0⟩) f3 (na2.ext x3).in (x13.in ey) (by omega)
  have x14 := x13.trans x4
  have m4 := m2.ext (x3.trans x4)
  obtain ⟨uc, uk, L5, e5, m5, x5, l5, f5⟩ := turn_step (most := 1000) (y := ⟨c1, k1, a, 0⟩) f4 m4.in.1 (x14.in bx) (by omega)
  have x15 := x14.trans x5
  obtain ⟨vc, vk, L6, e6, m6, x6, l6, f6⟩ := turn_step (most := 1000) (y := ⟨c1, k1, a, 0⟩) f5 (m4.ext x5).in.1 (x15.in ey) (by omega)
  have x16 := x15.trans x6
  have x36 := x4.trans (x5.trans x6)
  have m26 := m4.ext (x5.trans x6)
  have hx6 := n3.ext x36
  have hy6 := n4.ext (x5.trans x6)
  obtain ⟨m, h6, L7, e7, s7, g7, x7, l7, f7⟩ := seal_step (most := 1000) (y := ⟨c1, k1, hx, 0⟩) f6 m26.in.2 hx6.in (x16.in bp) (by simp [lastN]) (by omega)
  have x17 := x16.trans x7
  have m57 := m5.ext (x6.trans x7)
  have m67 := m6.ext x7
  have na7 := na2.ext (x3.trans (x36.trans x7))
  obtain ⟨w, h8, L8, e8, s8, g8, x8, l8, f8⟩ := seal_step (most := 1000) (y := ⟨uc, uk, a, 0⟩) f7 m57.in.2 na7.in (x17.in bp) (by simp [lastN]) (by omega)
  have hx8 := (hx6.ext x7).ext x8
  have hy8 := (hy6.ext x7).ext x8
  have m28 := (m26.ext x7).ext x8
  have m58 := m57.ext x8
  have m68 := m67.ext x8
  have na8 := na7.ext x8
  have s78 := s7.ext x8
  have i1 := hx8.in
  have i2 := hy8.in
  have i3 := m28.in
  have i4 := m58.in
  have i5 := m68.in
  have i6 := na8.in
  have i7 := s78.in
  have i8 := s8.in
  have hxy : hx = hy ↔ x = y := by rw [hx8.inj hy8, hash_eq]; simp
  have huv : uk = vk ↔ x = y := by rw [m58.inj2 m68]; simp
  have huc : uc = vc ↔ x = y := by rw [m58.inj1 m68]; simp
  by_cases hq : x = y
  · obtain rfl := hxy.2 hq
    obtain rfl := huv.2 hq
    obtain rfl := huc.2 hq
    have o7 := unseal_at (most := 1000) (y := ⟨c1, k1, hx, 0⟩) (m26.ext x7).in.2 (hx6.ext x7).in (by simp [lastN]) s7 g7
    have o8 := unseal_at (most := 1000) (y := ⟨uc, uk, a, 0⟩) m58.in.2 na8.in (by simp [lastN]) s8 g8
    exact ⟨a, c1, k1, hx, hx, uc, uk, uc, uk, h6, h8, m, w, c1, k1, h6, 1, uc, uk, h8, 1, p, 0, p, 0, L1, L2, L3, L4, L5, L6, L7, L8, e1, e2, e3, e4, e5, e6, e7, o7, e8, o8, wf_in (by omega) (by omega) (by omega) (by omega), wf_in (by omega) (by omega) (by omega) (by omega), wf_in (by omega) (by omega) (by omega) (by omega), wf_in (by omega) (by omega) (by omega) (by omega), wf_in (by omega) (by omega) (by omega) (by omega), wf_in (by omega) (by omega) (by omega) (by omega), i64_small (by omega) (by omega), i64_small (by omega) (by omega), fun _ => ⟨rfl, rfl, rfl, rfl⟩, fun g => absurd hq g⟩
  · have d1 : hx ≠ hy := fun e => hq (hxy.1 e)
    have d2 : uk ≠ vk := fun e => hq (huv.1 e)
    have o7 := unseal_bad (most := 1000) (y := ⟨c1, k1, hy, 0⟩) (m26.ext x7).in.2 (hy6.ext x7).in (by simp [lastN]) s7 (by simp; exact fun e => d1 e.symm)
    have o8 := unseal_bad (most := 1000) (y := ⟨vc, vk, a, 0⟩) m68.in.2 na8.in (by simp [lastN]) s8 (by simp; exact fun e => d2 e.symm)
    exact ⟨a, c1, k1, hx, hy, uc, uk, vc, vk, h6, h8, m, w, 0, 0, 0, 0, 0, 0, 0, 0, 0, 9, 0, 9, L1, L2, L3, L4, L5, L6, L7, L8, e1, e2, e3, e4, e5, e6, e7, o7, e8, o8, wf_in (by omega) (by omega) (by omega) (by omega), wf_in (by omega) (by omega) (by omega) (by omega), wf_in (by omega) (by omega) (by omega) (by omega), wf_in (by omega) (by omega) (by omega) (by omega), wf_in (by omega) (by omega) (by omega) (by omega), wf_in (by omega) (by omega) (by omega) (by omega), i64_small (by omega) (by omega), i64_small (by omega) (by omega), fun g => absurd g hq, fun _ => ⟨rfl, rfl, rfl, rfl⟩⟩

set_option maxHeartbeats 4000000 in
set_option maxRecDepth 100000 in
theorem walk (a0 : Option Addr) (len0 cap0 : Nat) (T0 : Nat → Tm) (x0 x1 x2 x3 : Int) (w : World) (w0 : Terms w a0 len0 cap0 T0) (h0 : (Lit.int .u8 x0).wf = true) (h1 : (Lit.int .u8 x1).wf = true) (h2 : (Lit.int .u8 x2).wf = true) (h3 : (Lit.int .u8 x3).wf = true) :
    Calls Try.prog 5 #[.slice a0 len0 cap0, .agg #[.int .u8 x0, .int .u8 x1, .int .u8 x2, .int .u8 x3]] w fun e w' => e = .returned (.bool true) ∧ Below w.heap.size w w' := by
  have hB0 : Below w.heap.size w (w.alloc (.cells #[.int .u8 x0, .int .u8 x1, .int .u8 x2, .int .u8 x3] 56)) := (Below.refl _ _).alloc (Nat.le_refl _) _
  have HT := Lib.hid (w0.below hB0)
  have HB0 := Lib.hid hB0
  have H0 := Lib.hid h0
  have H1 := Lib.hid h1
  have H2 := Lib.hid h2
  have H3 := Lib.hid h3
  clear w0 hB0 h0 h1 h2 h3
  go_enter Try.func5, Try.ntmps5
  go_wp2_with fail
  refine (stores_any 20 a0 len0 cap0 T0 _ (by omega) HT.out).mono ?_
  rintro e w1 ⟨g1, g2, L, rfl, hL, hp⟩
  have HP0 := Lib.hid hp
  have HLn := Lib.hid hL
  have HFit := Lib.hid hp.facts.1
  have gR := RSq.good (w.alloc (.cells #[.int .u8 x0, .int .u8 x1, .int .u8 x2, .int .u8 x3] 56)).heap.size g2 1000
  have gP := PSq.good (w.alloc (.cells #[.int .u8 x0, .int .u8 x1, .int .u8 x2, .int .u8 x3] 56)).heap.size g1 1000
  have hbl := hp.belowW
  have hlt : w.heap.size < (w.alloc (.cells #[.int .u8 x0, .int .u8 x1, .int .u8 x2, .int .u8 x3] 56)).heap.size := by simp
  have c : ∀ j, w1.cell? ⟨w.heap.size, j, none⟩ = #[Value.int .u8 x0, .int .u8 x1, .int .u8 x2, .int .u8 x3][j]? := fun j => by rw [hbl.cell (by exact hlt)]; exact cell_of_row _ _ j _ _ _ (heap_alloc_new w _)
  have c0 := c 0
  have c1 := c 1
  have c2 := c 2
  have c3 := c 3
  simp at c0 c1 c2 c3
  clear c hbl hlt hp hL HT
  by_cases hn : L.length = 0
  · have hl0 : ((L.length : Int) == 0) = true := by simp [hn]
    clear hn
    go_wp2_with fail
    refine (HP0.out.lenP).mono ?_
    rintro e w2 ⟨rfl, rfl⟩
    go_wp2_with fail
    refine (fixed_any _).mono ?_
    rintro e w3 ⟨rfl, hb3⟩
    have hb4 := HB0.out.trans ((HP0.out.belowW.trans (hb3.mono HP0.out.base_le)).mono HB0.out.size)
    clear hb3 c0 c1 c2 c3
    go_wp2
    go_ret
    exact ⟨rfl, hb4⟩
  · have hl0 : ((L.length : Int) == 0) = false := by simpa using hn
    have hn1 : (0 : Int) < L.length := by omega
    have hn2 : (L.length : Int) ≤ 20 := by have := HLn.out; omega
    have HL : Hid (∀ n, Calls Try.prog 26 #[.pointer (some ⟨g1, 0, none⟩)] (w1.drewN n) fun e w' => e = .returned (.int .i64 L.length) ∧ ∃ m, w' = w1.drewN m) := Lib.hid (fun n => quiet_of ((HP0.out.below gP gR (drewN_below _ _)).lenP))
    clear hn
    go_wp2_with fail
    refine (HP0.out.lenP).mono ?_
    rintro e w2 ⟨rfl, rfl⟩
    go_wp2_with fail
    go_quiet (first | (go_at_call 26; exact HL.out _))
    obtain ⟨k, hk⟩ : ∃ k, k = wrap64 (1 + (wrap64 x0).tmod ↑L.length) := ⟨_, rfl⟩
    have bdk : 1 ≤ k ∧ k ≤ (L.length : Int) := by rw [hk]; exact pick_in x0 _ H0.out hn1 (by omega)
    obtain ⟨x, hx⟩ : ∃ x, x = wrap64 (1 + (wrap64 x1).tmod ↑L.length) := ⟨_, rfl⟩
    have bdx : 1 ≤ x ∧ x ≤ (L.length : Int) := by rw [hx]; exact pick_in x1 _ H1.out hn1 (by omega)
    obtain ⟨y, hy⟩ : ∃ y, y = wrap64 (1 + (wrap64 x2).tmod ↑L.length) := ⟨_, rfl⟩
    have bdy : 1 ≤ y ∧ y ≤ (L.length : Int) := by rw [hy]; exact pick_in x2 _ H2.out hn1 (by omega)
    obtain ⟨p, hp⟩ : ∃ p, p = wrap64 (1 + (wrap64 x3).tmod ↑L.length) := ⟨_, rfl⟩
    have bdp : 1 ≤ p ∧ p ≤ (L.length : Int) := by rw [hp]; exact pick_in x3 _ H3.out hn1 (by omega)
    rw [← hk, ← hx, ← hy, ← hp]
    have HIk : Hid (I64 k) := Lib.hid (i64_small (by omega) (by omega))
    have Bk := Lib.hid bdk
    have HIx : Hid (I64 x) := Lib.hid (i64_small (by omega) (by omega))
    have Bx := Lib.hid bdx
    have HIy : Hid (I64 y) := Lib.hid (i64_small (by omega) (by omega))
    have By := Lib.hid bdy
    have HIp : Hid (I64 p) := Lib.hid (i64_small (by omega) (by omega))
    have Bp := Lib.hid bdp
    have HPA := Lib.hid (HP0.out.below gP gR (drewN_below w1 nq))
    clear hk bdk hx bdx hy bdy hp bdp HP0 HL c0 c1 c2 c3 hl0 hn1 hn2
    generalize w1.drewN nq = w2 at HPA ⊢
    obtain ⟨a, c1, k1, hx, hy, uc, uk, vc, vk, h6, h8, m, w', z1, z2, z3, z4, o1, o2, o3, o4, q, r, z, aa, L1, L2, L3, L4, L5, L6, L7, L8, e1, e2, e3, e4, e5, e6, e7, e8, e9, e10, v1, v2, v3, v4, v5, v6, im, iw, hyes, hno⟩ := math L k x y p HFit.out HLn.out Bk.out Bx.out By.out Bp.out
    have E1 := Lib.hid e1
    have E2 := Lib.hid e2
    have E3 := Lib.hid e3
    have E4 := Lib.hid e4
    have E5 := Lib.hid e5
    have E6 := Lib.hid e6
    have E7 := Lib.hid e7
    have E8 := Lib.hid e8
    have E9 := Lib.hid e9
    have E10 := Lib.hid e10
    have V1 := Lib.hid v1
    have V2 := Lib.hid v2
    have V3 := Lib.hid v3
    have V4 := Lib.hid v4
    have V5 := Lib.hid v5
    have V6 := Lib.hid v6
    have IM := Lib.hid im
    have IW := Lib.hid iw
    have HYes := Lib.hid hyes
    have HNo := Lib.hid hno
    clear e1 e2 e3 e4 e5 e6 e7 e8 e9 e10 v1 v2 v3 v4 v5 v6 im iw hyes hno Bk Bx By Bp
    go_wp2_with fail
    refine (HPA.out.beginP gR nm_wf E1.out).mono ?_
    rintro e w3 ⟨rfl, hp, hk⟩
    simp only [Sy.v, zeroY]
    have HP3 := Lib.hid (Pair.box gP gR hp (.cells #[.int .i64 a, .int .i64 0, .int .i64 a, .int .u64 0] 25))
    clear hp hk HPA 
    go_wp2_with fail
    refine (HP3.out.turnP gR V1.out HIk.out E2.out).mono ?_
    rintro e w4 ⟨rfl, hp, hk⟩
    simp only [Sy.v, zeroY]
    have hx0 : w4.heap[w3.heap.size]? = some (.cells #[.int .i64 a, .int .i64 0, .int .i64 a, .int .u64 0] 25 (0, 0)) := (hk _ (.inr rfl)).trans (heap_alloc_new w3 _)
    have HX0 := Lib.hid hx0
    have HP4 := Lib.hid (Pair.box gP gR hp (.cells #[.int .i64 c1, .int .i64 k1, .int .i64 a, .int .u64 0] 25))
    clear hp hk HP3 hx0
    go_wp2_with fail
    refine (HP4.out.sayP gR V2.out HIx.out E3.out).mono ?_
    rintro e w5 ⟨rfl, hp, hk⟩
    simp only [Sy.v, zeroY]
    have hx1 : w5.heap[w4.heap.size]? = some (.cells #[.int .i64 c1, .int .i64 k1, .int .i64 a, .int .u64 0] 25 (0, 0)) := (hk _ (.inr rfl)).trans (heap_alloc_new w4 _)
    clear HX0
    have HX1 := Lib.hid hx1
    have HP5 := Lib.hid (Pair.box gP gR hp (.cells #[.int .i64 c1, .int .i64 k1, .int .i64 hx, .int .u64 0] 25))
    clear hp hk HP4 hx1
    have c1_0 := cell_of_row w5 _ 0 _ _ _ HX1.out
    have c1_1 := cell_of_row w5 _ 1 _ _ _ HX1.out
    have c1_2 := cell_of_row w5 _ 2 _ _ _ HX1.out
    have c1_3 := cell_of_row w5 _ 3 _ _ _ HX1.out
    have lt1 := lt_of_block HX1.out
    simp at c1_0 c1_1 c1_2 c1_3
    go_wp2_with fail
    refine (HP5.out.sayP gR V2.out HIy.out E4.out).mono ?_
    rintro e w6 ⟨rfl, hp, hk⟩
    simp only [Sy.v, zeroY]
    have hx1 : w6.heap[w4.heap.size]? = some (.cells #[.int .i64 c1, .int .i64 k1, .int .i64 a, .int .u64 0] 25 (0, 0)) := (hk _ ((.inl (.inr rfl)))).trans ((heap_alloc_old _ _ (lt_of_block HX1.out)).trans HX1.out)
    have hx2 : w6.heap[w5.heap.size]? = some (.cells #[.int .i64 c1, .int .i64 k1, .int .i64 hx, .int .u64 0] 25 (0, 0)) := (hk _ (.inr rfl)).trans (heap_alloc_new w5 _)
    clear HX1
    have HX1 := Lib.hid hx1
    have HX2 := Lib.hid hx2
    have HP6 := Lib.hid (Pair.box gP gR hp (.cells #[.int .i64 c1, .int .i64 k1, .int .i64 hy, .int .u64 0] 25))
    clear hp hk HP5 hx1 hx2 c1_0 c1_1 c1_2 c1_3 lt1
    have c1_0 := cell_of_row w6 _ 0 _ _ _ HX1.out
    have c1_1 := cell_of_row w6 _ 1 _ _ _ HX1.out
    have c1_2 := cell_of_row w6 _ 2 _ _ _ HX1.out
    have c1_3 := cell_of_row w6 _ 3 _ _ _ HX1.out
    have lt1 := lt_of_block HX1.out
    simp at c1_0 c1_1 c1_2 c1_3
    go_wp2_with fail
    refine (HP6.out.turnP gR V2.out HIx.out E5.out).mono ?_
    rintro e w7 ⟨rfl, hp, hk⟩
    simp only [Sy.v, zeroY]
    have hx1 : w7.heap[w4.heap.size]? = some (.cells #[.int .i64 c1, .int .i64 k1, .int .i64 a, .int .u64 0] 25 (0, 0)) := (hk _ ((.inl (.inl (.inr rfl))))).trans ((heap_alloc_old _ _ (lt_of_block HX1.out)).trans HX1.out)
    have hx2 : w7.heap[w5.heap.size]? = some (.cells #[.int .i64 c1, .int .i64 k1, .int .i64 hx, .int .u64 0] 25 (0, 0)) := (hk _ ((.inl (.inr rfl)))).trans ((heap_alloc_old _ _ (lt_of_block HX2.out)).trans HX2.out)
    have hx3 : w7.heap[w6.heap.size]? = some (.cells #[.int .i64 c1, .int .i64 k1, .int .i64 hy, .int .u64 0] 25 (0, 0)) := (hk _ (.inr rfl)).trans (heap_alloc_new w6 _)
    clear HX1 HX2
    have HX1 := Lib.hid hx1
    have HX2 := Lib.hid hx2
    have HX3 := Lib.hid hx3
    have HP7 := Lib.hid (Pair.box gP gR hp (.cells #[.int .i64 uc, .int .i64 uk, .int .i64 a, .int .u64 0] 25))
    clear hp hk HP6 hx1 hx2 hx3 c1_0 c1_1 c1_2 c1_3 lt1
    have c1_0 := cell_of_row w7 _ 0 _ _ _ HX1.out
    have c1_1 := cell_of_row w7 _ 1 _ _ _ HX1.out
    have c1_2 := cell_of_row w7 _ 2 _ _ _ HX1.out
    have c1_3 := cell_of_row w7 _ 3 _ _ _ HX1.out
    have lt1 := lt_of_block HX1.out
    simp at c1_0 c1_1 c1_2 c1_3
    go_wp2_with fail
    refine (HP7.out.turnP gR V2.out HIy.out E6.out).mono ?_
    rintro e w8 ⟨rfl, hp, hk⟩
    simp only [Sy.v, zeroY]
    have hx1 : w8.heap[w4.heap.size]? = some (.cells #[.int .i64 c1, .int .i64 k1, .int .i64 a, .int .u64 0] 25 (0, 0)) := (hk _ ((.inl (.inl (.inl (.inr rfl)))))).trans ((heap_alloc_old _ _ (lt_of_block HX1.out)).trans HX1.out)
    have hx2 : w8.heap[w5.heap.size]? = some (.cells #[.int .i64 c1, .int .i64 k1, .int .i64 hx, .int .u64 0] 25 (0, 0)) := (hk _ ((.inl (.inl (.inr rfl))))).trans ((heap_alloc_old _ _ (lt_of_block HX2.out)).trans HX2.out)
    have hx3 : w8.heap[w6.heap.size]? = some (.cells #[.int .i64 c1, .int .i64 k1, .int .i64 hy, .int .u64 0] 25 (0, 0)) := (hk _ ((.inl (.inr rfl)))).trans ((heap_alloc_old _ _ (lt_of_block HX3.out)).trans HX3.out)
    have hx4 : w8.heap[w7.heap.size]? = some (.cells #[.int .i64 uc, .int .i64 uk, .int .i64 a, .int .u64 0] 25 (0, 0)) := (hk _ (.inr rfl)).trans (heap_alloc_new w7 _)
    clear HX1 HX2 HX3
    have HX1 := Lib.hid hx1
    have HX2 := Lib.hid hx2
    have HX3 := Lib.hid hx3
    have HX4 := Lib.hid hx4
    have HP8 := Lib.hid (Pair.box gP gR hp (.cells #[.int .i64 vc, .int .i64 vk, .int .i64 a, .int .u64 0] 25))
    clear hp hk HP7 hx1 hx2 hx3 hx4 c1_0 c1_1 c1_2 c1_3 lt1
    have c2_0 := cell_of_row w8 _ 0 _ _ _ HX2.out
    have c2_1 := cell_of_row w8 _ 1 _ _ _ HX2.out
    have c2_2 := cell_of_row w8 _ 2 _ _ _ HX2.out
    have c2_3 := cell_of_row w8 _ 3 _ _ _ HX2.out
    have lt2 := lt_of_block HX2.out
    simp at c2_0 c2_1 c2_2 c2_3
    go_wp2_with fail
    refine (HP8.out.ysealP gR V3.out HIp.out E7.out).mono ?_
    rintro e w9 ⟨rfl, hp, hk⟩
    simp only [Sy.v, zeroY]
    have hx2 : w9.heap[w5.heap.size]? = some (.cells #[.int .i64 c1, .int .i64 k1, .int .i64 hx, .int .u64 0] 25 (0, 0)) := (hk _ ((.inl (.inl (.inl (.inr rfl)))))).trans ((heap_alloc_old _ _ (lt_of_block HX2.out)).trans HX2.out)
    have hx3 : w9.heap[w6.heap.size]? = some (.cells #[.int .i64 c1, .int .i64 k1, .int .i64 hy, .int .u64 0] 25 (0, 0)) := (hk _ ((.inl (.inl (.inr rfl))))).trans ((heap_alloc_old _ _ (lt_of_block HX3.out)).trans HX3.out)
    have hx4 : w9.heap[w7.heap.size]? = some (.cells #[.int .i64 uc, .int .i64 uk, .int .i64 a, .int .u64 0] 25 (0, 0)) := (hk _ ((.inl (.inr rfl)))).trans ((heap_alloc_old _ _ (lt_of_block HX4.out)).trans HX4.out)
    have hx5 : w9.heap[w8.heap.size]? = some (.cells #[.int .i64 vc, .int .i64 vk, .int .i64 a, .int .u64 0] 25 (0, 0)) := (hk _ (.inr rfl)).trans (heap_alloc_new w8 _)
    clear HX2 HX3 HX4 HX1
    have HX2 := Lib.hid hx2
    have HX3 := Lib.hid hx3
    have HX4 := Lib.hid hx4
    have HX5 := Lib.hid hx5
    have HP9 := Lib.hid (Pair.box gP gR hp (.cells #[.int .i64 c1, .int .i64 k1, .int .i64 h6, .int .u64 1] 25))
    clear hp hk HP8 hx2 hx3 hx4 hx5 c2_0 c2_1 c2_2 c2_3 lt2
    have c3_0 := cell_of_row w9 _ 0 _ _ _ HX3.out
    have c3_1 := cell_of_row w9 _ 1 _ _ _ HX3.out
    have c3_2 := cell_of_row w9 _ 2 _ _ _ HX3.out
    have c3_3 := cell_of_row w9 _ 3 _ _ _ HX3.out
    have lt3 := lt_of_block HX3.out
    simp at c3_0 c3_1 c3_2 c3_3
    go_wp2_with fail
    refine (HP9.out.yopenP gR V4.out IM.out E8.out).mono ?_
    rintro e w10 ⟨rfl, hp, hk⟩
    simp only [Sy.v, zeroY]
    have hx3 : w10.heap[w6.heap.size]? = some (.cells #[.int .i64 c1, .int .i64 k1, .int .i64 hy, .int .u64 0] 25 (0, 0)) := (hk _ ((.inl (.inl (.inl (.inr rfl)))))).trans ((heap_alloc_old _ _ (lt_of_block HX3.out)).trans HX3.out)
    have hx4 : w10.heap[w7.heap.size]? = some (.cells #[.int .i64 uc, .int .i64 uk, .int .i64 a, .int .u64 0] 25 (0, 0)) := (hk _ ((.inl (.inl (.inr rfl))))).trans ((heap_alloc_old _ _ (lt_of_block HX4.out)).trans HX4.out)
    have hx5 : w10.heap[w8.heap.size]? = some (.cells #[.int .i64 vc, .int .i64 vk, .int .i64 a, .int .u64 0] 25 (0, 0)) := (hk _ ((.inl (.inr rfl)))).trans ((heap_alloc_old _ _ (lt_of_block HX5.out)).trans HX5.out)
    clear HX3 HX4 HX5 HX2
    have HX3 := Lib.hid hx3
    have HX4 := Lib.hid hx4
    have HX5 := Lib.hid hx5
    have HP10 := Lib.hid (Pair.box gP gR hp (.cells #[.int .i64 z1, .int .i64 z2, .int .i64 z3, .int .u64 z4] 25))
    clear hp hk HP9 hx3 hx4 hx5 c3_0 c3_1 c3_2 c3_3 lt3
    have c4_0 := cell_of_row w10 _ 0 _ _ _ HX4.out
    have c4_1 := cell_of_row w10 _ 1 _ _ _ HX4.out
    have c4_2 := cell_of_row w10 _ 2 _ _ _ HX4.out
    have c4_3 := cell_of_row w10 _ 3 _ _ _ HX4.out
    have lt4 := lt_of_block HX4.out
    simp at c4_0 c4_1 c4_2 c4_3
    go_wp2_with fail
    refine (HP10.out.ysealP gR V5.out HIp.out E9.out).mono ?_
    rintro e w11 ⟨rfl, hp, hk⟩
    simp only [Sy.v, zeroY]
    have hx4 : w11.heap[w7.heap.size]? = some (.cells #[.int .i64 uc, .int .i64 uk, .int .i64 a, .int .u64 0] 25 (0, 0)) := (hk _ ((.inl (.inl (.inl (.inr rfl)))))).trans ((heap_alloc_old _ _ (lt_of_block HX4.out)).trans HX4.out)
    have hx5 : w11.heap[w8.heap.size]? = some (.cells #[.int .i64 vc, .int .i64 vk, .int .i64 a, .int .u64 0] 25 (0, 0)) := (hk _ ((.inl (.inl (.inr rfl))))).trans ((heap_alloc_old _ _ (lt_of_block HX5.out)).trans HX5.out)
    clear HX4 HX5 HX3
    have HX4 := Lib.hid hx4
    have HX5 := Lib.hid hx5
    have HP11 := Lib.hid (Pair.box gP gR hp (.cells #[.int .i64 uc, .int .i64 uk, .int .i64 h8, .int .u64 1] 25))
    clear hp hk HP10 hx4 hx5 c4_0 c4_1 c4_2 c4_3 lt4
    have c5_0 := cell_of_row w11 _ 0 _ _ _ HX5.out
    have c5_1 := cell_of_row w11 _ 1 _ _ _ HX5.out
    have c5_2 := cell_of_row w11 _ 2 _ _ _ HX5.out
    have c5_3 := cell_of_row w11 _ 3 _ _ _ HX5.out
    have lt5 := lt_of_block HX5.out
    simp at c5_0 c5_1 c5_2 c5_3
    go_wp2_with fail
    refine (HP11.out.yopenP gR V6.out IW.out E10.out).mono ?_
    rintro e w12 ⟨rfl, hp, hk⟩
    simp only [Sy.v, zeroY]
    have hx5 : w12.heap[w8.heap.size]? = some (.cells #[.int .i64 vc, .int .i64 vk, .int .i64 a, .int .u64 0] 25 (0, 0)) := (hk _ ((.inl (.inl (.inl (.inr rfl)))))).trans ((heap_alloc_old _ _ (lt_of_block HX5.out)).trans HX5.out)
    clear HX5 HX4
    have HX5 := Lib.hid hx5
    have HP12 := Lib.hid (Pair.box gP gR hp (.cells #[.int .i64 o1, .int .i64 o2, .int .i64 o3, .int .u64 o4] 25))
    clear hp hk HP11 hx5 c5_0 c5_1 c5_2 c5_3 lt5
    by_cases hq : x = y
    · obtain ⟨r1, r2, r3, r4⟩ := HYes.out hq
      subst r1 r3
      have g1 : (q == p) = true := by simpa using r2
      have g2' : (z == p) = true := by simpa using r4
      clear r2 r4
      have hxy : (x == y) = true := by simpa using hq
      clear HYes HNo hq
      go_wp2_with fail
      refine (fixed_any _).mono ?_
      rintro e w99 ⟨rfl, hb9⟩
      have hb := HB0.out.trans ((HP12.out.belowW.trans (hb9.mono HP12.out.base_le)).mono HB0.out.size)
      clear hb9
      go_wp2
      go_ret
      exact ⟨rfl, hb⟩
    · obtain ⟨rfl, rfl, rfl, rfl⟩ := HNo.out hq
      have hxy : (x == y) = false := by simpa using hq
      clear HYes HNo hq
      go_wp2_with fail
      refine (fixed_any _).mono ?_
      rintro e w99 ⟨rfl, hb9⟩
      have hb := HB0.out.trans ((HP12.out.belowW.trans (hb9.mono HP12.out.base_le)).mono HB0.out.size)
      clear hb9
      go_wp2
      go_ret
      exact ⟨rfl, hb⟩

set_option maxRecDepth 100000 in
theorem lifted (os : Os) (started : os.Started) (H : Type) (enc : TypeId × Value → H) :
    ReturnsInHanded {} Try.checked os 5 .any (Rows.symApartSpec.pre6 enc Try.prog Try.f5 Rows.symApartRow.domain false) (Rows.symApartSpec.post enc Try.prog Try.f5 false true false false) := by
  refine returnsInHanded_of_change (C := Try.checked) own started (by kernel_rfl) Try.func5
    (ChangeSpec.witness6 (enc := enc) (C := Try.checked) false ⟨#[], #[.slice none 0 0, .agg #[.int .u8 0, .int .u8 0, .int .u8 0, .int .u8 0]], []⟩ 8 (by kernel_rfl) (by kernel_rfl) (by kernel_rfl) (by kernel_rfl)) ?_
  intro W base args ds gs before hval0 hW hcnd _
  have hval : ∀ (j : Nat) t v, Try.f5.params[j]? = some t → args[j]? = some v → Value.okWide Try.prog W .any base t v := hval0
  have hW' := hW
  obtain ⟨p, q, hA0, hV, rfl, hfz, hnd⟩ := hW
  have hA : DataW.TrodAll enc Try.prog W 0 (fun _ => true) true Try.f5.params.toList args.toList ds p := hA0
  rw [Try.params5] at hA hval
  obtain ⟨v0, vs0, d0, ds0, p0, q0, hargs, rfl, rfl, h0, r0⟩ := trodAll_cons hA
  obtain ⟨v1, vs1, d1, ds1, p1, q1, rfl, rfl, rfl, h1, r1⟩ := trodAll_cons r0
  obtain ⟨rfl, rfl, rfl⟩ := trodAll_nil r1
  obtain rfl : args = #[v0, v1] := by cases args; simp_all
  obtain ⟨rfl, rfl⟩ := trodVars_none hV
  obtain ⟨a0, len0, cap0, rfl⟩ := okWide_slice Try.underlying22 (hval 0 22 v0 rfl rfl)
  have k0 := h0
  have lt0 : ∀ x ∈ p0, x.block < W.heap.size := by obtain ⟨m, hm⟩ := k0; exact DataW.trod_lt m _ _ _ hm
  obtain ⟨T0, w0⟩ : ∃ T, Terms W a0 len0 cap0 T := by
    obtain ⟨fuel, hf⟩ := h0
    exact open_terms (by simpa [Value.cells] using hf)
  obtain ⟨cs1, rfl, hsz1⟩ : ∃ cs, v1 = .agg cs ∧ cs.size = Try.prog.cellsOf 56 := by
    have h := hval 1 56 v1 rfl rfl
    simp only [Value.okWide, Try.underlying56] at h
    obtain ⟨cs, e1, e2, _⟩ := h
    exact ⟨cs, e1, e2⟩
  have k1 := h1
  have lt1 : ∀ x ∈ p1, x.block < W.heap.size := by obtain ⟨m, hm⟩ := k1; exact DataW.trod_lt m _ _ _ hm
  obtain ⟨Z1, rfl, w1⟩ : ∃ Z : Nat → Int, cs1 = ((List.range 4).map fun j => Value.int .u8 (Z j)).toArray ∧ ∀ j, j < 4 → (Lit.int .u8 (Z j)).wf = true := by
    obtain ⟨fuel, hf⟩ := h1
    exact open_arrV Try.underlying56 Try.underlying5 (by kernel_rfl) (by kernel_rfl) hf
  clear hA0 hval0
  refine (walk a0 len0 cap0 T0 (Z1 0) (Z1 1) (Z1 2) (Z1 3) W w0 (w1 0 (by omega)) (w1 1 (by omega)) (w1 2 (by omega)) (w1 3 (by omega))).mono fun e W' ⟨he, bel⟩ => ?_
  subst he
  exact ⟨_, rfl, _, _, _, [], _, [], hW', trodAll_mk1 (shut_bool Try.underlying4 _), (trodAll_cons_mk (Below.trod laidOut (by kernel_rfl) (of_decide_eq_true (by kernel_rfl)) k0 bel lt0) (trodAll_cons_mk (Below.trod laidOut (by kernel_rfl) (of_decide_eq_true (by kernel_rfl)) k1 bel lt1) trodAll_mk0)), rfl, bel.frame _, fun h => by cases h⟩

theorem over : Rows.symApartRow.holds Try.pinned (OpenSpec.ofChange Rows.symApartSpec) :=
  OpenClaim.holds_of_wide 5 Try.f5 rfl rfl rfl rfl rfl rfl rfl ⟨rfl, rfl, rfl, rfl, rfl⟩ rfl rfl rfl rfl rfl (by kernel_rfl) Try.func5 (by kernel_rfl)
    (of_decide_eq_true (by kernel_rfl)) (by unfold Func.isWrapper; first | (rw [if_pos (by decide +kernel)]; kernel_rfl) | (rw [if_neg (by decide +kernel)]; exact ⟨rfl, rfl⟩))
    (fun os started H enc _ => lifted os started H enc)

theorem proved : Rows.SymApartSaid := over
#print axioms proved
end Go.Proofs.Ytlejejeflgnglaa.symApart
