/- WindowStays: with a number more, the others that came did, as far as they are within, and those that did not did not. No condition. -/
import Derived.Test.YtkdjlhnddnolaaaRows
import Derived.Test.YtkdjlhnddnolaaaWinL
import Derived.WalkKit
import Derived.ProofKit
import Derived.OpenShut
import Derived.ShutString
import Derived.ChangeOld
import Derived.Below
namespace Go.Proofs.Ytkdjlhnddnolaaa.windowStays
open Go.ChangeShapes Go.WideShapes Go.ChangeAt Go.RowKit
open Go.ChangeMaps (open_string shut_string)
open Go.Proofs.Ytkdjlhnddnolaaa
set_option linter.unusedVariables false
set_option linter.unusedSimpArgs false
set_option maxRecDepth 20000

theorem own : ownKnob Try.prog.godebug = none := by kernel_rfl
theorem laidOut : laidOutB Try.prog = true := by kernel_rfl

set_option maxHeartbeats 4000000 in
set_option maxRecDepth 100000 in
theorem walk (a0 : Option Addr) (len0 cap0 : Nat) (zs0 : List Int) (x1 x2 : Int) (w : World) (w0 : IsRow .u8 w a0 len0 cap0 zs0) (w1 : (Lit.int .u8 x1).wf = true) (w2 : (Lit.int .u8 x2).wf = true) :
    Calls Try.prog 5 #[.slice a0 len0 cap0, .int .u8 x1, .int .u8 x2] w fun e w' => e = .returned (.bool true) ∧ Below w.heap.size w w' := by
  obtain ⟨ks, hln, hr, hw, _⟩ := w0.row
  have HLN := Lib.hid hln
  have HR := Lib.hid hr
  have HW := Lib.hid hw
  have hm0 : len0 ≤ 9223372036854775807 := by have := hr.len; omega
  clear hln hr hw w0
  obtain ⟨y0, y1⟩ := Go.bounds_u8 w1
  obtain ⟨n, rfl⟩ := Int.eq_ofNat_of_zero_le y0
  have Hn : Hid (n ≤ 255) := Lib.hid (by omega)
  obtain ⟨y2, y3⟩ := Go.bounds_u8 w2
  obtain ⟨K, rfl⟩ := Int.eq_ofNat_of_zero_le y2
  have HK255 : Hid (K ≤ 255) := Lib.hid (by omega)
  obtain ⟨Bw, hBw⟩ : ∃ Bw, Bw = w.heap.size := ⟨_, rfl⟩
  have HS : Hid (St w Bw ⟨0, 0⟩ (w.alloc (.cells #[.int .u64 0, .int .u64 0] 24 : Obj))) := Lib.hid (by rw [hBw]; exact St.new w w (Below.refl _ _) 0 0)
  clear w1 y0 y1 w2 y2 y3
  go_enter Try.func5, Try.ntmps5
  go_wp2_with fail
  rw [← hBw]
  clear hBw
  go_loopw [8] (fun j wr => ∃ (k : Nat) (L : List Nat) (v : Wn), (k ≤ 40 ∧ k ≤ len0) ∧ j = .int .i64 k ∧ Hid (Inv L v ∧ (∀ x, x ∈ L → x ≤ 255) ∧ (0 < k → L ≠ []) ∧ (k = 0 → L = [])) ∧ Hid (St w Bw v wr)) (fun j _ => 40 - (intG j).toNat)
  case atStart => exact ⟨0, [], ⟨0, 0⟩, ⟨Nat.zero_le _, Nat.zero_le _⟩, rfl, Lib.hid ⟨Inv.nil, by simp, fun h => absurd h (Nat.lt_irrefl _), fun _ => rfl⟩, HS⟩
  case round =>
    clear HS
    obtain ⟨k, L, v, hk, rfl, HI, HS⟩ := hrel
    by_cases hlt : k < len0 ∧ k < 40
    · obtain ⟨h1, h2⟩ := hlt
      obtain ⟨q1, q2, bk, off, q3⟩ := HR.out
      obtain ⟨hqa, hc⟩ := q3 k (by rw [HLN.out]; exact h1)
      subst hqa
      have hzw := Go.bounds_u8 (HW.out _ (getD_mem (ks := ks) (k := k) (by rw [HLN.out]; exact h1)))
      obtain ⟨z0, z1⟩ := hzw
      obtain ⟨Z, hZ⟩ := Int.eq_ofNat_of_zero_le z0
      have HGZ := Lib.hid hZ
      rw [hZ] at hc z1
      have HZ : Hid (Z ≤ 255) := Lib.hid (by omega)
      have BZ : (Z : Int) ≤ 255 := z1
      clear z0 z1 hZ q1 q2 q3
      have e1 : decide (k < len0) = true := by simpa using h1
      have e2 : decide (k < 40) = true := by simpa using h2
      have e3 : decide ((k : Int) < 40) = true := decide_eq_true (by omega)
      have h3 : (k : Int) < (len0 : Int) := by omega
      have eW : IntKind.u64.wrap (Z : Int) = (Z : Int) := wrap_u64 (by omega) (by omega)
      have HK := Lib.hid (And.intro h1 h2)
      have HBL : Hid (bk < w.heap.size) := Lib.hid (block_lt_of_cell hc)
      have hcr : wr.cell? ⟨bk, off + k, none⟩ = some (.int .u8 (Z : Int)) := (HS.out.low.cell HBL.out).trans hc
      obtain ⟨N, B⟩ := v
      obtain ⟨bN, bB⟩ := HI.out.1.ok
      simp only at bN bB
      unfold topN at bN
      have HOK : Hid (N ≤ 18446744073709551615 ∧ B ≤ 18446744073709551615) := Lib.hid ⟨bN, by omega⟩
      obtain ⟨r0, r1, q0, q1⟩ := cells2 HS.out.blk
      simp only at r0 r1
      have c1 : (N : Int) ≤ 18446744073709551615 := by omega
      have c2 : (B : Int) ≤ 18446744073709551615 := by omega
      have hZt : Z < topN := by have := HZ.out; unfold topN; omega
      clear h1 h2 hk bN bB
      cases hcan : canW ⟨N, B⟩ Z with
      | true =>
        obtain ⟨a, b, hab⟩ : ∃ a b, putW ⟨N, B⟩ Z = ⟨a, b⟩ := ⟨_, _, rfl⟩
        have htk : takeW ⟨N, B⟩ Z = (⟨a, b⟩, 0) := by unfold takeW; rw [if_neg (by omega), if_neg (by rw [hcan]; decide), hab]
        have HI2 : Hid (Inv (Z :: L) ⟨a, b⟩ ∧ (∀ x, x ∈ Z :: L → x ≤ 255) ∧ (0 < k + 1 → Z :: L ≠ []) ∧ (k + 1 = 0 → Z :: L = [])) := Lib.hid ⟨by rw [← hab]; exact HI.out.1.put hZt hcan, fun x hx => by
          rcases List.mem_cons.1 hx with q | q
          · have := HZ.out; omega
          · exact HI.out.2.1 x q, fun _ => by simp, fun h => absurd h (Nat.succ_ne_zero _)⟩
        have HC : Hid (∀ W, Calls Try.prog 9 #[.agg #[.int .u64 (N : Int), .int .u64 (B : Int)], .int .u64 (Z : Int)] W fun x w' => x = .returned (.tuple #[.agg #[.int .u64 (a : Int), .int .u64 (b : Int)], .int .i64 0]) ∧ Below W.heap.size W w') := Lib.hid (fun W => takes_p N B Z HOK.out.1 HOK.out.2 (by have := HZ.out; omega) a b 0 htk W)
        clear hcan hab htk hZt HI
        go_wp2_with fail
        have HSA : Hid (St w Bw ⟨N, B⟩ (wr.alloc (.cells #[.int .u64 0, .int .u64 0] 24 : Obj))) := Lib.hid (HS.out.below (below_alloc _ _))
        have HXA : Hid ((wr.alloc (.cells #[.int .u64 0, .int .u64 0] 24 : Obj)).heap[wr.heap.size]? = some (.cells #[.int .u64 0, .int .u64 0] 24 (0, 0))) := Lib.hid (heap_alloc_new _ _)
        have HXN : Hid (w.heap.size ≤ wr.heap.size ∧ Bw ≠ wr.heap.size) := Lib.hid ⟨HS.out.low.size, Nat.ne_of_lt (blk_lt HS.out.blk)⟩
        obtain ⟨ra0, ra1, qa0, qa1⟩ := cells2 HSA.out.blk
        simp only at ra0 ra1
        have hca : (wr.alloc (.cells #[.int .u64 0, .int .u64 0] 24 : Obj)).cell? ⟨bk, off + k, none⟩ = some (.int .u8 (Z : Int)) := (HSA.out.low.cell HBL.out).trans hc
        go_region_with (go_at_call 9; refine (HC.out _).mono ?_; rintro e w2 ⟨rfl, hb⟩; replace hb := undrew hb; (first | have HS2 := Lib.hid (HS.out.below hb) | (have HS2 := Lib.hid (HSA.out.below hb); have HX2 := Lib.hid ((hb.block _ (blk_lt HXA.out)).trans HXA.out); obtain ⟨xa, xb, xc, xd⟩ := cells2 HX2.out)); clear hb)
        all_goals
          first
          | (have HS3 := Lib.hid (HS2.out.other HXN.out.1 HXN.out.2 (.int .u64 (a : Int)) (.int .u64 (b : Int)))
             have HX3 := Lib.hid (fill2 wr.heap.size (.int .u64 (a : Int)) (.int .u64 (b : Int)) HX2.out)
             obtain ⟨x0, x1, x2, x3⟩ := cells2 HX3.out)
          | have HS3 := Lib.hid (HS2.out.below (below_alloc w2 (.cells #[.int .u64 (a : Int), .int .u64 (b : Int)] 24 : Obj)))
          obtain ⟨s0, s1, t0, t1⟩ := cells2 HS3.out.blk
          have HS4 := Lib.hid (HS3.out.put a b)
          go_wp2_with fail
          go_roundw
          case rel => exact ⟨k + 1, Z :: L, ⟨a, b⟩, by have := HK.out; omega, by go_num, HI2, HS4⟩
          case measure => have := HK.out; simp [intG]; omega
      | false =>
        have htk : takeW ⟨N, B⟩ Z = (⟨0, 0⟩, 12) := by unfold takeW; rw [if_neg (by omega), if_pos hcan]
        have hne : L ≠ [] := fun e => by
          have := HI.out.1.none e
          have h9 := this ▸ hcan
          unfold canW at h9
          rw [decide_eq_false (show ¬ Z = topN by omega)] at h9
          simp at h9
        have HI2 : Hid (Inv L ⟨N, B⟩ ∧ (∀ x, x ∈ L → x ≤ 255) ∧ (0 < k + 1 → L ≠ []) ∧ (k + 1 = 0 → L = [])) := Lib.hid ⟨HI.out.1, HI.out.2.1, fun _ => hne, fun h => absurd h (Nat.succ_ne_zero _)⟩
        have HC : Hid (∀ W, Calls Try.prog 9 #[.agg #[.int .u64 (N : Int), .int .u64 (B : Int)], .int .u64 (Z : Int)] W fun x w' => x = .returned (.tuple #[.agg #[.int .u64 0, .int .u64 0], .int .i64 12]) ∧ Below W.heap.size W w') := Lib.hid (fun W => takes_p N B Z HOK.out.1 HOK.out.2 (by have := HZ.out; omega) 0 0 12 htk W)
        clear hcan htk hZt hne HI
        go_wp2_with fail
        have HSA : Hid (St w Bw ⟨N, B⟩ (wr.alloc (.cells #[.int .u64 0, .int .u64 0] 24 : Obj))) := Lib.hid (HS.out.below (below_alloc _ _))
        have HXA : Hid ((wr.alloc (.cells #[.int .u64 0, .int .u64 0] 24 : Obj)).heap[wr.heap.size]? = some (.cells #[.int .u64 0, .int .u64 0] 24 (0, 0))) := Lib.hid (heap_alloc_new _ _)
        have HXN : Hid (w.heap.size ≤ wr.heap.size ∧ Bw ≠ wr.heap.size) := Lib.hid ⟨HS.out.low.size, Nat.ne_of_lt (blk_lt HS.out.blk)⟩
        obtain ⟨ra0, ra1, qa0, qa1⟩ := cells2 HSA.out.blk
        simp only at ra0 ra1
        have hca : (wr.alloc (.cells #[.int .u64 0, .int .u64 0] 24 : Obj)).cell? ⟨bk, off + k, none⟩ = some (.int .u8 (Z : Int)) := (HSA.out.low.cell HBL.out).trans hc
        go_region_with (go_at_call 9; refine (HC.out _).mono ?_; rintro e w2 ⟨rfl, hb⟩; replace hb := undrew hb; (first | have HS2 := Lib.hid (HS.out.below hb) | (have HS2 := Lib.hid (HSA.out.below hb); have HX2 := Lib.hid ((hb.block _ (blk_lt HXA.out)).trans HXA.out); obtain ⟨xa, xb, xc, xd⟩ := cells2 HX2.out)); clear hb)
        all_goals
          first
          | have HS3 := Lib.hid (HS2.out.other HXN.out.1 (by have := HX2.out; exact HXN.out.2) (.int .u64 0) (.int .u64 0))
          | have HS3 := Lib.hid (HS2.out.below (below_alloc w2 (.cells #[.int .u64 0, .int .u64 0] 24 : Obj)))
          go_wp2_with fail
          go_roundw
          case rel => exact ⟨k + 1, L, ⟨N, B⟩, by have := HK.out; omega, by go_num, HI2, HS3⟩
          case measure => have := HK.out; simp [intG]; omega
    · have e12 : decide (k < len0) = false ∨ (decide (k < len0) = true ∧ decide ((k : Int) < 40) = false) := by
        simp only [decide_eq_false_iff_not, decide_eq_true_eq]
        omega
      have HK : Hid (k = 0 ↔ len0 = 0) := Lib.hid (by omega)
      clear hlt hk
      rcases e12 with e1 | ⟨e1, e2⟩
      all_goals
        obtain ⟨N, B⟩ := v
        have HI9 := Lib.hid (And.intro HI.out.1 HI.out.2.1)
        have hok := HI9.out.1.ok
        have h1 := hok.next
        have h2 := hok.bits
        simp only at h1 h2
        unfold topN at h1
        have HOK : Hid (N ≤ 18446744073709551615 ∧ B ≤ 18446744073709551615) := Lib.hid ⟨h1, by omega⟩
        have bn : (n : Int) ≤ 255 := by have := Hn.out; omega
        have bk : (K : Int) ≤ 255 := by have := HK255.out; omega
        have eN : IntKind.u64.wrap (n : Int) = (n : Int) := wrap_u64 (by omega) (by omega)
        have eK : IntKind.u64.wrap (K : Int) = (K : Int) := wrap_u64 (by omega) (by omega)
        clear h1 h2 hok HI HK
        cases hcan : canW ⟨N, B⟩ n with
        | false =>
          have HC := Lib.hid hcan
          have HT : Hid (takeW ⟨N, B⟩ n = (⟨0, 0⟩, 12)) := Lib.hid (by unfold takeW; rw [if_neg (by have := Hn.out; unfold topN; omega), if_pos hcan])
          clear hcan
          obtain ⟨r0, r1, q0, q1⟩ := cells2 HS.out.blk
          simp only at r0 r1
          go_wp2_with fail
          refine (takes_p N B n HOK.out.1 HOK.out.2 (by have := Hn.out; omega) 0 0 12 HT.out _).mono ?_
          rintro e wt ⟨rfl, hb⟩
          replace HS := Lib.hid (HS.out.below hb)
          clear hb r0 r1 q0 q1
          have hba := below_alloc wt (.cells #[.int .u64 0, .int .u64 0] 24 : Obj)
          have HX : Hid (St w wt.heap.size ⟨0, 0⟩ (wt.alloc (.cells #[.int .u64 0, .int .u64 0] 24 : Obj))) := Lib.hid (St.new w wt HS.out.low 0 0)
          replace HS := Lib.hid (HS.out.below hba)
          obtain ⟨r0, r1, _, _⟩ := cells2 HS.out.blk
          obtain ⟨s0, s1, _, _⟩ := cells2 HX.out.blk
          simp only at r0 r1 s0 s1
          clear hba
          replace s0 : (wt.alloc (.cells #[.int .u64 0, .int .u64 0] 24 : Obj)).cell? ⟨wt.heap.size, 0, none⟩ = some (.int .u64 0) := s0
          replace s1 : (wt.alloc (.cells #[.int .u64 0, .int .u64 0] 24 : Obj)).cell? ⟨wt.heap.size, 1, none⟩ = some (.int .u64 0) := s1
          go_wp2_with fail
          clear r0 r1 s0 s1
          refine (can_p N B n HOK.out.1 HOK.out.2 (by have := Hn.out; omega) false HC.out _).mono ?_
          rintro e w1 ⟨rfl, hb⟩
          replace HS := Lib.hid (HS.out.below hb)
          replace HX := Lib.hid (HX.out.below hb)
          clear hb
          obtain ⟨r0, r1, _, _⟩ := cells2 HS.out.blk
          obtain ⟨s0, s1, _, _⟩ := cells2 HX.out.blk
          simp only at r0 r1 s0 s1
          go_wp2_with fail
          clear r0 r1 s0 s1
          refine (fixed_any _).mono ?_
          rintro e w1 ⟨rfl, hb⟩
          replace HS := Lib.hid (HS.out.below hb)
          replace HX := Lib.hid (HX.out.below hb)
          clear hb
          obtain ⟨r0, r1, _, _⟩ := cells2 HS.out.blk
          obtain ⟨s0, s1, _, _⟩ := cells2 HX.out.blk
          simp only at r0 r1 s0 s1
          go_wp2_with fail
          go_ret
          exact ⟨rfl, HS.out.low⟩
        | true =>
          obtain ⟨a, b, hab⟩ : ∃ a b, putW ⟨N, B⟩ n = ⟨a, b⟩ := ⟨_, _, rfl⟩
          have HT : Hid (takeW ⟨N, B⟩ n = (⟨a, b⟩, 0)) := Lib.hid (by unfold takeW; rw [if_neg (by have := Hn.out; unfold topN; omega), if_neg (by rw [hcan]; decide), hab])
          have hp := put_ok HI9.out.1.ok (by have := Hn.out; unfold topN; omega : n < topN) hcan
          rw [hab] at hp
          have h1 := hp.next
          have h2 := hp.bits
          simp only at h1 h2
          unfold topN at h1
          have HAB : Hid (a ≤ 18446744073709551615 ∧ b ≤ 18446744073709551615) := Lib.hid ⟨h1, by omega⟩
          have hnx : max N (n + 1) = a := by have := put_next ⟨N, B⟩ n; rw [hab] at this; exact this.symm
          have HNX := Lib.hid hnx
          have HPH : Hid (∀ x, hasW ⟨a, b⟩ x = (decide (x = n) || (hasW ⟨N, B⟩ x && decide (a - 1 - x ≤ 63)))) := Lib.hid (fun x => by have := put_has HI9.out.1.ok hcan x; rw [hab] at this; simp only at this; rw [hnx] at this; exact this)
          have ba : (a : Int) ≤ 18446744073709551615 := by omega
          clear hcan hp h1 h2 hab hnx
          by_cases hkn : K = n
          · have ekn : ((K : Int) == (n : Int)) = true := by rw [hkn]; simp
            have HH : Hid (hasW ⟨a, b⟩ K = true) := Lib.hid (by rw [HPH.out, hkn]; simp)
            clear hkn
            obtain ⟨r0, r1, q0, q1⟩ := cells2 HS.out.blk
            simp only at r0 r1
            go_wp2_with fail
            refine (takes_p N B n HOK.out.1 HOK.out.2 (by have := Hn.out; omega) a b 0 HT.out _).mono ?_
            rintro e wt ⟨rfl, hb⟩
            replace HS := Lib.hid (HS.out.below hb)
            clear hb r0 r1 q0 q1
            have hba := below_alloc wt (.cells #[.int .u64 (a : Int), .int .u64 (b : Int)] 24 : Obj)
            have HX : Hid (St w wt.heap.size ⟨a, b⟩ (wt.alloc (.cells #[.int .u64 (a : Int), .int .u64 (b : Int)] 24 : Obj))) := Lib.hid (St.new w wt HS.out.low a b)
            replace HS := Lib.hid (HS.out.below hba)
            obtain ⟨r0, r1, _, _⟩ := cells2 HS.out.blk
            obtain ⟨s0, s1, _, _⟩ := cells2 HX.out.blk
            simp only at r0 r1 s0 s1
            clear hba
            go_wp2_with fail
            clear r0 r1 s0 s1
            refine (has_p a b K HAB.out.1 HAB.out.2 (by have := HK255.out; omega) true HH.out _).mono ?_
            rintro e w1 ⟨rfl, hb⟩
            replace HS := Lib.hid (HS.out.below hb)
            replace HX := Lib.hid (HX.out.below hb)
            clear hb
            obtain ⟨r0, r1, _, _⟩ := cells2 HS.out.blk
            obtain ⟨s0, s1, _, _⟩ := cells2 HX.out.blk
            simp only at r0 r1 s0 s1
            go_wp2_with fail
            clear r0 r1 s0 s1
            refine (fixed_any _).mono ?_
            rintro e w1 ⟨rfl, hb⟩
            replace HS := Lib.hid (HS.out.below hb)
            replace HX := Lib.hid (HX.out.below hb)
            clear hb
            obtain ⟨r0, r1, _, _⟩ := cells2 HS.out.blk
            obtain ⟨s0, s1, _, _⟩ := cells2 HX.out.blk
            simp only at r0 r1 s0 s1
            go_wp2_with fail
            go_ret
            exact ⟨rfl, HS.out.low⟩
          · have ekn : ((K : Int) == (n : Int)) = false := by simp; omega
            have HKN := Lib.hid hkn
            obtain ⟨K2, hK2⟩ : ∃ K2, K + 64 = K2 := ⟨_, rfl⟩
            have eK2 : (K : Int) + 64 = (K2 : Int) := by omega
            have bK2 : (K2 : Int) ≤ 400 := by omega
            clear hkn
            by_cases hfar : K2 < a
            · have f1 : decide ((K2 : Int) < (a : Int)) = true := decide_eq_true (by omega)
              have f2 : decide (K2 < a) = true := decide_eq_true hfar
              have f3 : (K2 : Int) < (a : Int) := by omega
              have HH : Hid (hasW ⟨a, b⟩ K = false) := Lib.hid (by unfold hasW; simp only; rw [decide_eq_false (show ¬ a - 1 - K ≤ 63 by omega)]; simp)
              have HCn : Hid (canW ⟨a, b⟩ K = false) := Lib.hid (by unfold canW; simp only; rw [decide_eq_false (show ¬ a - 1 - K ≤ 63 by omega), decide_eq_false (show ¬ a ≤ K by omega)]; simp)
              clear hfar hK2
              obtain ⟨r0, r1, q0, q1⟩ := cells2 HS.out.blk
              simp only at r0 r1
              go_wp2_with fail
              refine (takes_p N B n HOK.out.1 HOK.out.2 (by have := Hn.out; omega) a b 0 HT.out _).mono ?_
              rintro e wt ⟨rfl, hb⟩
              replace HS := Lib.hid (HS.out.below hb)
              clear hb r0 r1 q0 q1
              have hba := below_alloc wt (.cells #[.int .u64 (a : Int), .int .u64 (b : Int)] 24 : Obj)
              have HX : Hid (St w wt.heap.size ⟨a, b⟩ (wt.alloc (.cells #[.int .u64 (a : Int), .int .u64 (b : Int)] 24 : Obj))) := Lib.hid (St.new w wt HS.out.low a b)
              replace HS := Lib.hid (HS.out.below hba)
              obtain ⟨r0, r1, _, _⟩ := cells2 HS.out.blk
              obtain ⟨s0, s1, _, _⟩ := cells2 HX.out.blk
              simp only at r0 r1 s0 s1
              clear hba
              go_wp2_with fail
              clear r0 r1 s0 s1
              refine (has_p a b K HAB.out.1 HAB.out.2 (by have := HK255.out; omega) false HH.out _).mono ?_
              rintro e w1 ⟨rfl, hb⟩
              replace HS := Lib.hid (HS.out.below hb)
              replace HX := Lib.hid (HX.out.below hb)
              clear hb
              obtain ⟨r0, r1, _, _⟩ := cells2 HS.out.blk
              obtain ⟨s0, s1, _, _⟩ := cells2 HX.out.blk
              simp only at r0 r1 s0 s1
              go_wp2_with fail
              clear r0 r1 s0 s1
              refine (can_p a b K HAB.out.1 HAB.out.2 (by have := HK255.out; omega) false HCn.out _).mono ?_
              rintro e w1 ⟨rfl, hb⟩
              replace HS := Lib.hid (HS.out.below hb)
              replace HX := Lib.hid (HX.out.below hb)
              clear hb
              obtain ⟨r0, r1, _, _⟩ := cells2 HS.out.blk
              obtain ⟨s0, s1, _, _⟩ := cells2 HX.out.blk
              simp only at r0 r1 s0 s1
              go_wp2_with fail
              clear r0 r1 s0 s1
              refine (fixed_any _).mono ?_
              rintro e w1 ⟨rfl, hb⟩
              replace HS := Lib.hid (HS.out.below hb)
              replace HX := Lib.hid (HX.out.below hb)
              clear hb
              obtain ⟨r0, r1, _, _⟩ := cells2 HS.out.blk
              obtain ⟨s0, s1, _, _⟩ := cells2 HX.out.blk
              simp only at r0 r1 s0 s1
              go_wp2_with fail
              go_ret
              exact ⟨rfl, HS.out.low⟩
            · have f1 : decide ((K2 : Int) < (a : Int)) = false := decide_eq_false (by omega)
              have f2 : decide (K2 < a) = false := decide_eq_false hfar
              have hEQ : hasW ⟨a, b⟩ K = hasW ⟨N, B⟩ K := by
                rw [HPH.out, decide_eq_false HKN.out, decide_eq_true (show a - 1 - K ≤ 63 by omega)]
                simp
              have hNE : canW ⟨a, b⟩ K = !hasW ⟨a, b⟩ K := by
                rw [can_has, decide_eq_false (show ¬ K = topN by unfold topN; omega)]
                by_cases q : a ≤ K
                · have : hasW ⟨a, b⟩ K = false := by unfold hasW; simp only; rw [decide_eq_false (show ¬ K < a by omega)]; rfl
                  rw [this]
                  simp [q]
                · simp [q]
                  intro _
                  omega
              have HHX := Lib.hid hEQ
              have HNE := Lib.hid hNE
              clear hfar hK2 hEQ hNE
              cases hv : hasW ⟨a, b⟩ K with
              | true =>
                have HH : Hid (hasW ⟨a, b⟩ K = true) := Lib.hid hv
                have HHW : Hid (hasW ⟨N, B⟩ K = true) := Lib.hid (HHX.out ▸ hv)
                have HCn : Hid (canW ⟨a, b⟩ K = false) := Lib.hid (by rw [HNE.out, hv]; rfl)
                clear hv
                obtain ⟨r0, r1, q0, q1⟩ := cells2 HS.out.blk
                simp only at r0 r1
                go_wp2_with fail
                refine (takes_p N B n HOK.out.1 HOK.out.2 (by have := Hn.out; omega) a b 0 HT.out _).mono ?_
                rintro e wt ⟨rfl, hb⟩
                replace HS := Lib.hid (HS.out.below hb)
                clear hb r0 r1 q0 q1
                have hba := below_alloc wt (.cells #[.int .u64 (a : Int), .int .u64 (b : Int)] 24 : Obj)
                have HX : Hid (St w wt.heap.size ⟨a, b⟩ (wt.alloc (.cells #[.int .u64 (a : Int), .int .u64 (b : Int)] 24 : Obj))) := Lib.hid (St.new w wt HS.out.low a b)
                replace HS := Lib.hid (HS.out.below hba)
                obtain ⟨r0, r1, _, _⟩ := cells2 HS.out.blk
                obtain ⟨s0, s1, _, _⟩ := cells2 HX.out.blk
                simp only at r0 r1 s0 s1
                clear hba
                go_wp2_with fail
                have HSS : Hid (∀ u, St w Bw ⟨N, B⟩ u → St w wt.heap.size ⟨a, b⟩ u → u.cell? ⟨Bw, 0, none⟩ = some (.int .u64 (N : Int)) ∧ u.cell? ⟨Bw, 1, none⟩ = some (.int .u64 (B : Int)) ∧ u.cell? ⟨wt.heap.size, 0, none⟩ = some (.int .u64 (a : Int)) ∧ u.cell? ⟨wt.heap.size, 1, none⟩ = some (.int .u64 (b : Int))) := Lib.hid (fun u h k => ⟨(cells2 h.blk).1, (cells2 h.blk).2.1, (cells2 k.blk).1, (cells2 k.blk).2.1⟩)
                have HCX : Hid (∀ (P Q : Nat) (W : World), (P = a ∧ Q = b ∨ P = N ∧ Q = B) → Calls Try.prog 14 #[.agg #[.int .u64 (P : Int), .int .u64 (Q : Int)], .int .u64 (K : Int)] W fun e w' => e = .returned (.bool true) ∧ Below W.heap.size W w') := Lib.hid (fun P Q W h => by
                  rcases h with ⟨rfl, rfl⟩ | ⟨rfl, rfl⟩
                  · exact has_p P Q K HAB.out.1 HAB.out.2 (by have := HK255.out; omega) true HH.out W
                  · exact has_p P Q K HOK.out.1 HOK.out.2 (by have := HK255.out; omega) true HHW.out W)
                have HCC : Hid (∀ W, Calls Try.prog 12 #[.agg #[.int .u64 (a : Int), .int .u64 (b : Int)], .int .u64 (K : Int)] W fun e w' => e = .returned (.bool false) ∧ Below W.heap.size W w') := Lib.hid (fun W => can_p a b K HAB.out.1 HAB.out.2 (by have := HK255.out; omega) false HCn.out W)
                replace HS := Lib.hid (HS.out.below ((Below.refl _ _).drew))
                replace HX := Lib.hid (HX.out.below ((Below.refl _ _).drew))
                have hS := HSS.out _ HS.out HX.out
                have hS' := hS
                clear r0 r1 s0 s1
                go_region_held3 (fun w' => w'.cell? ⟨Bw, 0, none⟩ = some (.int .u64 (N : Int)) ∧ w'.cell? ⟨Bw, 1, none⟩ = some (.int .u64 (B : Int)) ∧ w'.cell? ⟨wt.heap.size, 0, none⟩ = some (.int .u64 (a : Int)) ∧ w'.cell? ⟨wt.heap.size, 1, none⟩ = some (.int .u64 (b : Int))) (first | assumption | go_keep) ((first | (go_at_call 14; refine (HCX.out _ _ _ (by first | exact .inl ⟨rfl, rfl⟩ | exact .inr ⟨rfl, rfl⟩)).mono ?_; rintro e w5 ⟨rfl, hb⟩; replace HS := Lib.hid (HS.out.below hb); replace HX := Lib.hid (HX.out.below hb); have hS5 := HSS.out _ HS.out HX.out; clear hb) | (go_at_call 12; refine (HCC.out _).mono ?_; rintro e w5 ⟨rfl, hb⟩; replace HS := Lib.hid (HS.out.below hb); replace HX := Lib.hid (HX.out.below hb); have hS5 := HSS.out _ HS.out HX.out; clear hb) | (go_at_call 16; refine (fixed_any _).mono ?_; rintro e w5 ⟨rfl, hb⟩; replace HS := Lib.hid (HS.out.below hb); replace HX := Lib.hid (HX.out.below hb); have hS5 := HSS.out _ HS.out HX.out; clear hb)))
                go_wp2_with fail
                go_ret
                exact ⟨rfl, HS.out.low⟩
              | false =>
                have HH : Hid (hasW ⟨a, b⟩ K = false) := Lib.hid hv
                have HHW : Hid (hasW ⟨N, B⟩ K = false) := Lib.hid (HHX.out ▸ hv)
                have HCn : Hid (canW ⟨a, b⟩ K = true) := Lib.hid (by rw [HNE.out, hv]; rfl)
                clear hv
                obtain ⟨r0, r1, q0, q1⟩ := cells2 HS.out.blk
                simp only at r0 r1
                go_wp2_with fail
                refine (takes_p N B n HOK.out.1 HOK.out.2 (by have := Hn.out; omega) a b 0 HT.out _).mono ?_
                rintro e wt ⟨rfl, hb⟩
                replace HS := Lib.hid (HS.out.below hb)
                clear hb r0 r1 q0 q1
                have hba := below_alloc wt (.cells #[.int .u64 (a : Int), .int .u64 (b : Int)] 24 : Obj)
                have HX : Hid (St w wt.heap.size ⟨a, b⟩ (wt.alloc (.cells #[.int .u64 (a : Int), .int .u64 (b : Int)] 24 : Obj))) := Lib.hid (St.new w wt HS.out.low a b)
                replace HS := Lib.hid (HS.out.below hba)
                obtain ⟨r0, r1, _, _⟩ := cells2 HS.out.blk
                obtain ⟨s0, s1, _, _⟩ := cells2 HX.out.blk
                simp only at r0 r1 s0 s1
                clear hba
                go_wp2_with fail
                have HSS : Hid (∀ u, St w Bw ⟨N, B⟩ u → St w wt.heap.size ⟨a, b⟩ u → u.cell? ⟨Bw, 0, none⟩ = some (.int .u64 (N : Int)) ∧ u.cell? ⟨Bw, 1, none⟩ = some (.int .u64 (B : Int)) ∧ u.cell? ⟨wt.heap.size, 0, none⟩ = some (.int .u64 (a : Int)) ∧ u.cell? ⟨wt.heap.size, 1, none⟩ = some (.int .u64 (b : Int))) := Lib.hid (fun u h k => ⟨(cells2 h.blk).1, (cells2 h.blk).2.1, (cells2 k.blk).1, (cells2 k.blk).2.1⟩)
                have HCX : Hid (∀ (P Q : Nat) (W : World), (P = a ∧ Q = b ∨ P = N ∧ Q = B) → Calls Try.prog 14 #[.agg #[.int .u64 (P : Int), .int .u64 (Q : Int)], .int .u64 (K : Int)] W fun e w' => e = .returned (.bool false) ∧ Below W.heap.size W w') := Lib.hid (fun P Q W h => by
                  rcases h with ⟨rfl, rfl⟩ | ⟨rfl, rfl⟩
                  · exact has_p P Q K HAB.out.1 HAB.out.2 (by have := HK255.out; omega) false HH.out W
                  · exact has_p P Q K HOK.out.1 HOK.out.2 (by have := HK255.out; omega) false HHW.out W)
                have HCC : Hid (∀ W, Calls Try.prog 12 #[.agg #[.int .u64 (a : Int), .int .u64 (b : Int)], .int .u64 (K : Int)] W fun e w' => e = .returned (.bool true) ∧ Below W.heap.size W w') := Lib.hid (fun W => can_p a b K HAB.out.1 HAB.out.2 (by have := HK255.out; omega) true HCn.out W)
                replace HS := Lib.hid (HS.out.below ((Below.refl _ _).drew))
                replace HX := Lib.hid (HX.out.below ((Below.refl _ _).drew))
                have hS := HSS.out _ HS.out HX.out
                have hS' := hS
                clear r0 r1 s0 s1
                go_region_held3 (fun w' => w'.cell? ⟨Bw, 0, none⟩ = some (.int .u64 (N : Int)) ∧ w'.cell? ⟨Bw, 1, none⟩ = some (.int .u64 (B : Int)) ∧ w'.cell? ⟨wt.heap.size, 0, none⟩ = some (.int .u64 (a : Int)) ∧ w'.cell? ⟨wt.heap.size, 1, none⟩ = some (.int .u64 (b : Int))) (first | assumption | go_keep) ((first | (go_at_call 14; refine (HCX.out _ _ _ (by first | exact .inl ⟨rfl, rfl⟩ | exact .inr ⟨rfl, rfl⟩)).mono ?_; rintro e w5 ⟨rfl, hb⟩; replace HS := Lib.hid (HS.out.below hb); replace HX := Lib.hid (HX.out.below hb); have hS5 := HSS.out _ HS.out HX.out; clear hb) | (go_at_call 12; refine (HCC.out _).mono ?_; rintro e w5 ⟨rfl, hb⟩; replace HS := Lib.hid (HS.out.below hb); replace HX := Lib.hid (HX.out.below hb); have hS5 := HSS.out _ HS.out HX.out; clear hb) | (go_at_call 16; refine (fixed_any _).mono ?_; rintro e w5 ⟨rfl, hb⟩; replace HS := Lib.hid (HS.out.below hb); replace HX := Lib.hid (HX.out.below hb); have hS5 := HSS.out _ HS.out HX.out; clear hb)))
                go_wp2_with fail
                go_ret
                exact ⟨rfl, HS.out.low⟩
set_option maxRecDepth 100000 in
theorem lifted (os : Os) (started : os.Started) (H : Type) (enc : TypeId × Value → H) :
    ReturnsInHanded {} Try.checked os 5 .any (Rows.windowStaysSpec.pre6 enc Try.prog Try.f5 Rows.windowStaysRow.domain false) (Rows.windowStaysSpec.post enc Try.prog Try.f5 false true false false) := by
  refine returnsInHanded_of_change (C := Try.checked) own started (by kernel_rfl) Try.func5
    (ChangeSpec.witness6 (enc := enc) (C := Try.checked) false ⟨#[], #[.slice none 0 0, .int .u8 0, .int .u8 0], []⟩ 8 (by kernel_rfl) (by kernel_rfl) (by kernel_rfl) (by kernel_rfl)) ?_
  intro W base args ds gs before hval0 hW hcnd _
  have hval : ∀ (j : Nat) t v, Try.f5.params[j]? = some t → args[j]? = some v → Value.okWide Try.prog W .any base t v := hval0
  have hW' := hW
  obtain ⟨p, q, hA0, hV, rfl, hfz, hnd⟩ := hW
  have hA : DataW.TrodAll enc Try.prog W 0 (fun _ => true) true Try.f5.params.toList args.toList ds p := hA0
  rw [Try.params5] at hA hval
  obtain ⟨v0, vs0, d0, ds0, p0, q0, hargs, rfl, rfl, h0, r0⟩ := trodAll_cons hA
  obtain ⟨v1, vs1, d1, ds1, p1, q1, rfl, rfl, rfl, h1, r1⟩ := trodAll_cons r0
  obtain ⟨v2, vs2, d2, ds2, p2, q2, rfl, rfl, rfl, h2, r2⟩ := trodAll_cons r1
  obtain ⟨rfl, rfl, rfl⟩ := trodAll_nil r2
  obtain rfl : args = #[v0, v1, v2] := by cases args; simp_all
  obtain ⟨rfl, rfl⟩ := trodVars_none hV
  obtain ⟨a0, len0, cap0, rfl⟩ := okWide_slice Try.underlying36 (hval 0 36 v0 rfl rfl)
  have k0 := h0
  have lt0 : ∀ x ∈ p0, x.block < W.heap.size := by obtain ⟨m, hm⟩ := k0; exact DataW.trod_lt m _ _ _ hm
  obtain ⟨z0, w0⟩ : ∃ zs, IsRow .u8 W a0 len0 cap0 zs := by
    obtain ⟨fuel, hf⟩ := h0
    rcases open_ints Try.underlying36 Try.underlying5 (by kernel_rfl) hf with ⟨hcs, _⟩ | ⟨x, l, c, zs, hcs, _, hl, hm, hz, _, hcell, hwz⟩
    · simp [Value.cells] at hcs
      obtain ⟨rfl, rfl, rfl⟩ := hcs
      exact ⟨[], .inl ⟨rfl, rfl, rfl, rfl⟩⟩
    · simp [Value.cells] at hcs
      obtain ⟨rfl, rfl, rfl⟩ := hcs
      exact ⟨zs, .inr ⟨_, rfl, hl, hm, by simpa using hz, hcell, hwz⟩⟩
  obtain ⟨a1, rfl, rfl, rfl, w1⟩ := open_int Try.underlying5 (hval 1 5 v1 rfl rfl) h1
  obtain ⟨a2, rfl, rfl, rfl, w2⟩ := open_int Try.underlying5 (hval 2 5 v2 rfl rfl) h2
  clear hA0 hval0
  refine (walk a0 len0 cap0 z0 a1 a2 W w0 w1 w2).mono fun e W' ⟨he, bel⟩ => ?_
  subst he
  exact ⟨_, rfl, _, _, _, [], _, [], hW', trodAll_mk1 (shut_bool Try.underlying4 _), (trodAll_cons_mk (Below.trod laidOut (by kernel_rfl) (of_decide_eq_true (by kernel_rfl)) k0 bel lt0) (trodAll_cons_mk (shut_int Try.underlying5 w1) (trodAll_cons_mk (shut_int Try.underlying5 w2) trodAll_mk0))), rfl, bel.frame _, fun h => by cases h⟩

theorem over : Rows.windowStaysRow.holds Try.pinned (OpenSpec.ofChange Rows.windowStaysSpec) :=
  OpenClaim.holds_of_wide 5 Try.f5 rfl rfl rfl rfl rfl rfl rfl ⟨rfl, rfl, rfl, rfl, rfl⟩ rfl rfl rfl rfl rfl (by kernel_rfl) Try.func5 (by kernel_rfl)
    (of_decide_eq_true (by kernel_rfl)) (by unfold Func.isWrapper; first | (rw [if_pos (by decide +kernel)]; kernel_rfl) | (rw [if_neg (by decide +kernel)]; exact ⟨rfl, rfl⟩))
    (fun os started H enc _ => lifted os started H enc)

theorem proved : Rows.WindowStaysSaid := over
#print axioms proved
end Go.Proofs.Ytkdjlhnddnolaaa.windowStays
