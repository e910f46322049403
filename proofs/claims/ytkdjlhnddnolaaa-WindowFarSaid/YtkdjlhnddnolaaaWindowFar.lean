/- WindowFar: a number that is 64 or more above the greatest one leaves nothing of those that came; one that is 63 above it leaves that one alone. No condition. -/
import Derived.Test.YtkdjlhnddnolaaaRows
import Derived.Test.YtkdjlhnddnolaaaWinL
import Derived.WalkKit
import Derived.ProofKit
import Derived.OpenShut
import Derived.ShutString
import Derived.ChangeOld
import Derived.Below
namespace Go.Proofs.Ytkdjlhnddnolaaa.windowFar
open Go.ChangeShapes Go.WideShapes Go.ChangeAt Go.RowKit
open Go.ChangeMaps (open_string shut_string)
open Go.Proofs.Ytkdjlhnddnolaaa
set_option linter.unusedVariables false
set_option linter.unusedSimpArgs false
set_option maxRecDepth 20000

theorem own : ownKnob Try.prog.godebug = none := by kernel_rfl
theorem laidOut : laidOutB Try.prog = true := by kernel_rfl

set_option maxHeartbeats 2000000 in
set_option maxRecDepth 100000 in
theorem walk (a0 : Option Addr) (len0 cap0 : Nat) (zs0 : List Int) (x1 : Int) (w : World) (w0 : IsRow .u8 w a0 len0 cap0 zs0) (w1 : (Lit.int .u32 x1).wf = true) :
    Calls Try.prog 7 #[.slice a0 len0 cap0, .int .u32 x1] w fun e w' => e = .returned (.bool true) ∧ Below w.heap.size w w' := by
  obtain ⟨ks, hln, hr, hw, _⟩ := w0.row
  have HLN := Lib.hid hln
  have HR := Lib.hid hr
  have HW := Lib.hid hw
  have hm0 : len0 ≤ 9223372036854775807 := by have := hr.len; omega
  clear hln hr hw w0
  obtain ⟨y0, y1⟩ := Go.bounds_u32 w1
  obtain ⟨F, rfl⟩ := Int.eq_ofNat_of_zero_le y0
  have HF : Hid (F ≤ 4294967295) := Lib.hid (by omega)
  have bF : (F : Int) ≤ 4294967295 := by omega
  obtain ⟨Bw, hBw⟩ : ∃ Bw, Bw = w.heap.size := ⟨_, rfl⟩
  have HS : Hid (St w Bw ⟨0, 0⟩ (w.alloc (.cells #[.int .u64 0, .int .u64 0] 24 : Obj))) := Lib.hid (by rw [hBw]; exact St.new w w (Below.refl _ _) 0 0)
  clear w1 y0 y1
  go_enter Try.func7, Try.ntmps7
  go_wp2_with fail
  rw [← hBw]
  clear hBw
  go_loopw [6] (fun j wr => ∃ (k : Nat) (L : List Nat) (v : Wn), (k ≤ 40 ∧ k ≤ len0) ∧ j = .int .i64 k ∧ Hid (Inv L v ∧ (∀ x, x ∈ L → x ≤ 255) ∧ (0 < k → L ≠ []) ∧ (k = 0 → L = [])) ∧ Hid (St w Bw v wr)) (fun j _ => 40 - (intG j).toNat)
  case atStart => exact ⟨0, [], ⟨0, 0⟩, ⟨Nat.zero_le _, Nat.zero_le _⟩, rfl, Lib.hid ⟨Inv.nil, by simp, fun h => absurd h (Nat.lt_irrefl _), fun _ => rfl⟩, HS⟩
  case round =>
    clear HS
    obtain ⟨k, L, v, hk, rfl, HI, HS⟩ := hrel
    by_cases hlt : k < len0 ∧ k < 40
    · obtain ⟨h1, h2⟩ := hlt
      obtain ⟨q1, q2, bk, off, q3⟩ := HR.out
      obtain ⟨hqa, hc⟩ := q3 k (by rw [HLN.out]; exact h1)
      subst hqa
      have hzw := Go.bounds_u8 (HW.out _ (getD_mem (ks := ks) (k := k) (by rw [HLN.out]; exact h1)))
      obtain ⟨z0, z1⟩ := hzw
      obtain ⟨Z, hZ⟩ := Int.eq_ofNat_of_zero_le z0
      have HGZ := Lib.hid hZ
      rw [hZ] at hc z1
      have HZ : Hid (Z ≤ 255) := Lib.hid (by omega)
      have BZ : (Z : Int) ≤ 255 := z1
      clear z0 z1 hZ q1 q2 q3
      have e1 : decide (k < len0) = true := by simpa using h1
      have e2 : decide (k < 40) = true := by simpa using h2
      have e3 : decide ((k : Int) < 40) = true := decide_eq_true (by omega)
      have h3 : (k : Int) < (len0 : Int) := by omega
      have eW : IntKind.u64.wrap (Z : Int) = (Z : Int) := wrap_u64 (by omega) (by omega)
      have HK := Lib.hid (And.intro h1 h2)
      have HBL : Hid (bk < w.heap.size) := Lib.hid (block_lt_of_cell hc)
      have hcr : wr.cell? ⟨bk, off + k, none⟩ = some (.int .u8 (Z : Int)) := (HS.out.low.cell HBL.out).trans hc
      obtain ⟨N, B⟩ := v
      obtain ⟨bN, bB⟩ := HI.out.1.ok
      simp only at bN bB
      unfold topN at bN
      have HOK : Hid (N ≤ 18446744073709551615 ∧ B ≤ 18446744073709551615) := Lib.hid ⟨bN, by omega⟩
      obtain ⟨r0, r1, q0, q1⟩ := cells2 HS.out.blk
      simp only at r0 r1
      have c1 : (N : Int) ≤ 18446744073709551615 := by omega
      have c2 : (B : Int) ≤ 18446744073709551615 := by omega
      have hZt : Z < topN := by have := HZ.out; unfold topN; omega
      clear h1 h2 hk bN bB
      cases hcan : canW ⟨N, B⟩ Z with
      | true =>
        obtain ⟨a, b, hab⟩ : ∃ a b, putW ⟨N, B⟩ Z = ⟨a, b⟩ := ⟨_, _, rfl⟩
        have htk : takeW ⟨N, B⟩ Z = (⟨a, b⟩, 0) := by unfold takeW; rw [if_neg (by omega), if_neg (by rw [hcan]; decide), hab]
        have HI2 : Hid (Inv (Z :: L) ⟨a, b⟩ ∧ (∀ x, x ∈ Z :: L → x ≤ 255) ∧ (0 < k + 1 → Z :: L ≠ []) ∧ (k + 1 = 0 → Z :: L = [])) := Lib.hid ⟨by rw [← hab]; exact HI.out.1.put hZt hcan, fun x hx => by
          rcases List.mem_cons.1 hx with q | q
          · have := HZ.out; omega
          · exact HI.out.2.1 x q, fun _ => by simp, fun h => absurd h (Nat.succ_ne_zero _)⟩
        have HC : Hid (∀ W, Calls Try.prog 9 #[.agg #[.int .u64 (N : Int), .int .u64 (B : Int)], .int .u64 (Z : Int)] W fun x w' => x = .returned (.tuple #[.agg #[.int .u64 (a : Int), .int .u64 (b : Int)], .int .i64 0]) ∧ Below W.heap.size W w') := Lib.hid (fun W => takes_p N B Z HOK.out.1 HOK.out.2 (by have := HZ.out; omega) a b 0 htk W)
        clear hcan hab htk hZt HI
        go_wp2_with fail
        have HSA : Hid (St w Bw ⟨N, B⟩ (wr.alloc (.cells #[.int .u64 0, .int .u64 0] 24 : Obj))) := Lib.hid (HS.out.below (below_alloc _ _))
        have HXA : Hid ((wr.alloc (.cells #[.int .u64 0, .int .u64 0] 24 : Obj)).heap[wr.heap.size]? = some (.cells #[.int .u64 0, .int .u64 0] 24 (0, 0))) := Lib.hid (heap_alloc_new _ _)
        have HXN : Hid (w.heap.size ≤ wr.heap.size ∧ Bw ≠ wr.heap.size) := Lib.hid ⟨HS.out.low.size, Nat.ne_of_lt (blk_lt HS.out.blk)⟩
        obtain ⟨ra0, ra1, qa0, qa1⟩ := cells2 HSA.out.blk
        simp only at ra0 ra1
        have hca : (wr.alloc (.cells #[.int .u64 0, .int .u64 0] 24 : Obj)).cell? ⟨bk, off + k, none⟩ = some (.int .u8 (Z : Int)) := (HSA.out.low.cell HBL.out).trans hc
        go_region_with (go_at_call 9; refine (HC.out _).mono ?_; rintro e w2 ⟨rfl, hb⟩; replace hb := undrew hb; (first | have HS2 := Lib.hid (HS.out.below hb) | (have HS2 := Lib.hid (HSA.out.below hb); have HX2 := Lib.hid ((hb.block _ (blk_lt HXA.out)).trans HXA.out); obtain ⟨xa, xb, xc, xd⟩ := cells2 HX2.out)); clear hb)
        all_goals
          first
          | (have HS3 := Lib.hid (HS2.out.other HXN.out.1 HXN.out.2 (.int .u64 (a : Int)) (.int .u64 (b : Int)))
             have HX3 := Lib.hid (fill2 wr.heap.size (.int .u64 (a : Int)) (.int .u64 (b : Int)) HX2.out)
             obtain ⟨x0, x1, x2, x3⟩ := cells2 HX3.out)
          | have HS3 := Lib.hid (HS2.out.below (below_alloc w2 (.cells #[.int .u64 (a : Int), .int .u64 (b : Int)] 24 : Obj)))
          obtain ⟨s0, s1, t0, t1⟩ := cells2 HS3.out.blk
          have HS4 := Lib.hid (HS3.out.put a b)
          go_wp2_with fail
          go_roundw
          case rel => exact ⟨k + 1, Z :: L, ⟨a, b⟩, by have := HK.out; omega, by go_num, HI2, HS4⟩
          case measure => have := HK.out; simp [intG]; omega
      | false =>
        have htk : takeW ⟨N, B⟩ Z = (⟨0, 0⟩, 12) := by unfold takeW; rw [if_neg (by omega), if_pos hcan]
        have hne : L ≠ [] := fun e => by
          have := HI.out.1.none e
          have h9 := this ▸ hcan
          unfold canW at h9
          rw [decide_eq_false (show ¬ Z = topN by omega)] at h9
          simp at h9
        have HI2 : Hid (Inv L ⟨N, B⟩ ∧ (∀ x, x ∈ L → x ≤ 255) ∧ (0 < k + 1 → L ≠ []) ∧ (k + 1 = 0 → L = [])) := Lib.hid ⟨HI.out.1, HI.out.2.1, fun _ => hne, fun h => absurd h (Nat.succ_ne_zero _)⟩
        have HC : Hid (∀ W, Calls Try.prog 9 #[.agg #[.int .u64 (N : Int), .int .u64 (B : Int)], .int .u64 (Z : Int)] W fun x w' => x = .returned (.tuple #[.agg #[.int .u64 0, .int .u64 0], .int .i64 12]) ∧ Below W.heap.size W w') := Lib.hid (fun W => takes_p N B Z HOK.out.1 HOK.out.2 (by have := HZ.out; omega) 0 0 12 htk W)
        clear hcan htk hZt hne HI
        go_wp2_with fail
        have HSA : Hid (St w Bw ⟨N, B⟩ (wr.alloc (.cells #[.int .u64 0, .int .u64 0] 24 : Obj))) := Lib.hid (HS.out.below (below_alloc _ _))
        have HXA : Hid ((wr.alloc (.cells #[.int .u64 0, .int .u64 0] 24 : Obj)).heap[wr.heap.size]? = some (.cells #[.int .u64 0, .int .u64 0] 24 (0, 0))) := Lib.hid (heap_alloc_new _ _)
        have HXN : Hid (w.heap.size ≤ wr.heap.size ∧ Bw ≠ wr.heap.size) := Lib.hid ⟨HS.out.low.size, Nat.ne_of_lt (blk_lt HS.out.blk)⟩
        obtain ⟨ra0, ra1, qa0, qa1⟩ := cells2 HSA.out.blk
        simp only at ra0 ra1
        have hca : (wr.alloc (.cells #[.int .u64 0, .int .u64 0] 24 : Obj)).cell? ⟨bk, off + k, none⟩ = some (.int .u8 (Z : Int)) := (HSA.out.low.cell HBL.out).trans hc
        go_region_with (go_at_call 9; refine (HC.out _).mono ?_; rintro e w2 ⟨rfl, hb⟩; replace hb := undrew hb; (first | have HS2 := Lib.hid (HS.out.below hb) | (have HS2 := Lib.hid (HSA.out.below hb); have HX2 := Lib.hid ((hb.block _ (blk_lt HXA.out)).trans HXA.out); obtain ⟨xa, xb, xc, xd⟩ := cells2 HX2.out)); clear hb)
        all_goals
          first
          | have HS3 := Lib.hid (HS2.out.other HXN.out.1 (by have := HX2.out; exact HXN.out.2) (.int .u64 0) (.int .u64 0))
          | have HS3 := Lib.hid (HS2.out.below (below_alloc w2 (.cells #[.int .u64 0, .int .u64 0] 24 : Obj)))
          go_wp2_with fail
          go_roundw
          case rel => exact ⟨k + 1, L, ⟨N, B⟩, by have := HK.out; omega, by go_num, HI2, HS3⟩
          case measure => have := HK.out; simp [intG]; omega
    · have e12 : decide (k < len0) = false ∨ (decide (k < len0) = true ∧ decide ((k : Int) < 40) = false) := by
        simp only [decide_eq_false_iff_not, decide_eq_true_eq]
        omega
      have HK : Hid (k = 0 ↔ len0 = 0) := Lib.hid (by omega)
      clear hlt hk
      rcases e12 with e1 | ⟨e1, e2⟩
      all_goals
        obtain ⟨N, B⟩ := v
        by_cases hk0 : k = 0
        · have hN : N = 0 ∧ B = 0 := by have h9 := HI.out.1.none (HI.out.2.2.2 hk0); injection h9 with h8 h7; exact ⟨h8, h7⟩
          obtain ⟨rfl, rfl⟩ := hN
          have hl0 : len0 = 0 := HK.out.1 hk0
          subst hl0 hk0
          clear HK HI
          first
          | exact absurd e1 (by decide)
          | obtain ⟨r0, r1, q0, q1⟩ := cells2 HS.out.blk
            replace r0 : wr.cell? ⟨Bw, 0, none⟩ = some (.int .u64 0) := r0
            replace r1 : wr.cell? ⟨Bw, 1, none⟩ = some (.int .u64 0) := r1
            go_wp2_with fail
            refine (fixed_any _).mono ?_
            rintro e w99 ⟨rfl, hb⟩
            have HZ := Lib.hid (HS.out.below hb)
            clear hb
            go_wp2_with fail
            go_ret
            exact ⟨rfl, HZ.out.low⟩
        · have hpos : 0 < N ∧ N ≤ 256 := ⟨(HI.out.1.top (HI.out.2.2.1 (by omega))).2, HI.out.1.lt HI.out.2.1⟩
          obtain ⟨hp0, hp1⟩ := hpos
          have b1 : decide ((N : Int) < 1) = false := decide_eq_false (by omega)
          have b2 : decide ((256 : Int) < (N : Int)) = false := decide_eq_false (by omega)
          have c1 : (N : Int) ≤ 256 := by omega
          obtain ⟨M1, hM1⟩ : ∃ M1, N + 63 = M1 := ⟨_, rfl⟩
          obtain ⟨M2, hM2⟩ : ∃ M2, M1 + F = M2 := ⟨_, rfl⟩
          obtain ⟨M3, hM3⟩ : ∃ M3, N + 64 = M3 := ⟨_, rfl⟩
          obtain ⟨M4, hM4⟩ : ∃ M4, M3 + F = M4 := ⟨_, rfl⟩
          obtain ⟨M5, hM5⟩ : ∃ M5, N + 62 = M5 := ⟨_, rfl⟩
          have hF9 := HF.out
          have e3 : (N : Int) + 63 = (M1 : Int) := by omega
          have e4 : (M1 : Int) + (F : Int) = (M2 : Int) := by omega
          have e5 : (N : Int) + 64 = (M3 : Int) := by omega
          have e6 : (M3 : Int) + (F : Int) = (M4 : Int) := by omega
          have e7 : (N : Int) + 62 = (M5 : Int) := by omega
          have d1 : (M1 : Int) ≤ 18446744073709551615 := by omega
          have d2 : (M2 : Int) ≤ 18446744073709551615 := by omega
          have d3 : (M3 : Int) ≤ 18446744073709551615 := by omega
          have d4 : (M4 : Int) ≤ 18446744073709551615 := by omega
          have d5 : (M5 : Int) ≤ 18446744073709551615 := by omega
          have hB := HI.out.1.ok.bits
          have HT1 : Hid (takeW ⟨N, B⟩ M2 = (⟨M4, 1⟩, 0)) := Lib.hid (by
            unfold takeW
            have ht : ¬ M2 = topN := by unfold topN; omega
            have hc : canW ⟨N, B⟩ M2 = true := by unfold canW; rw [decide_eq_false ht, decide_eq_true (show N ≤ M2 by omega)]; rfl
            rw [if_neg ht, if_neg (by rw [hc]; decide), put_far HI.out.1.ok (by show N + 63 ≤ M2; omega)]
            rw [show M2 + 1 = M4 by omega])
          have HT2 : Hid (takeW ⟨N, B⟩ M5 = (⟨M1, 9223372036854775809⟩, 0)) := Lib.hid (by
            unfold takeW
            have ht : ¬ M5 = topN := by unfold topN; omega
            have hc : canW ⟨N, B⟩ M5 = true := by unfold canW; rw [decide_eq_false ht, decide_eq_true (show N ≤ M5 by omega)]; rfl
            have h9 := put_63 HI.out.1.ok (HI.out.1.top_digit (HI.out.2.2.1 (by omega)))
            simp only at h9
            rw [if_neg ht, if_neg (by rw [hc]; decide), ← hM5, h9, hM1])
          have HT3 : Hid (N ≤ 18446744073709551615 ∧ B ≤ 18446744073709551615 ∧ M2 ≤ 18446744073709551615 ∧ M5 ≤ 18446744073709551615) := Lib.hid ⟨by omega, by simp only at hB; omega, by omega, by omega⟩
          have t1 := fun u => (show (binOp .eql 24 (.agg #[.int .u64 (M4 : Int), .int .u64 1]) (.agg #[.int .u64 (M4 : Int), .int .u64 1])).run Try.prog u = .ok (.bool true) u from wins_eq (rfl : M4 = M4) (rfl : 1 = 1) u)
          have t2 := fun u => (show (binOp .eql 24 (.agg #[.int .u64 (M1 : Int), .int .u64 9223372036854775809]) (.agg #[.int .u64 (M1 : Int), .int .u64 9223372036854775809])).run Try.prog u = .ok (.bool true) u from wins_eq (rfl : M1 = M1) (rfl : 9223372036854775809 = 9223372036854775809) u)
          clear hM1 hM2 hM3 hM4 hM5 hF9 hp0 hp1 hk0 hB HI HK
          obtain ⟨r0, r1, q0, q1⟩ := cells2 HS.out.blk
          simp only at r0 r1
          go_wp2_with fail
          refine (takes_p N B M2 HT3.out.1 HT3.out.2.1 HT3.out.2.2.1 M4 1 0 HT1.out _).mono ?_
          rintro e w1 ⟨rfl, hb⟩
          have HS2 := Lib.hid (HS.out.below hb)
          clear hb
          have hba := below_alloc w1 (.cells #[.int .u64 (M4 : Int), .int .u64 1] 24 : Obj)
          have HS3 := Lib.hid (HS2.out.below hba)
          have HX := Lib.hid (heap_alloc_new w1 (.cells #[.int .u64 (M4 : Int), .int .u64 1] 24 : Obj))
          clear hba r0 r1
          obtain ⟨r0, r1, _, _⟩ := cells2 HS3.out.blk
          simp only at r0 r1
          go_wp2_with fail
          refine (takes_p N B M5 HT3.out.1 HT3.out.2.1 HT3.out.2.2.2 M1 9223372036854775809 0 HT2.out _).mono ?_
          rintro e w2 ⟨rfl, hb⟩
          have hba := below_alloc w2 (.cells #[.int .u64 (M1 : Int), .int .u64 9223372036854775809] 24 : Obj)
          have HS4 := Lib.hid ((HS3.out.below hb).below hba)
          have HX2 := Lib.hid (((hb.trans (hba.mono hb.size)).block _ (blk_lt HX.out)).trans HX.out)
          clear hb hba r0 r1
          obtain ⟨r0, r1, _, _⟩ := cells2 HS4.out.blk
          obtain ⟨s0, s1, _, _⟩ := cells2 HX2.out
          simp only at r0 r1
          go_wp2_with fail
          refine (fixed_any _).mono ?_
          rintro e w99 ⟨rfl, hb⟩
          have HZ := Lib.hid (HS4.out.below hb)
          clear hb
          go_wp2_with fail
          go_ret
          exact ⟨rfl, HZ.out.low⟩
set_option maxRecDepth 100000 in
theorem lifted (os : Os) (started : os.Started) (H : Type) (enc : TypeId × Value → H) :
    ReturnsInHanded {} Try.checked os 7 .any (Rows.windowFarSpec.pre6 enc Try.prog Try.f7 Rows.windowFarRow.domain false) (Rows.windowFarSpec.post enc Try.prog Try.f7 false true false false) := by
  refine returnsInHanded_of_change (C := Try.checked) own started (by kernel_rfl) Try.func7
    (ChangeSpec.witness6 (enc := enc) (C := Try.checked) false ⟨#[], #[.slice none 0 0, .int .u32 0], []⟩ 8 (by kernel_rfl) (by kernel_rfl) (by kernel_rfl) (by kernel_rfl)) ?_
  intro W base args ds gs before hval0 hW hcnd _
  have hval : ∀ (j : Nat) t v, Try.f7.params[j]? = some t → args[j]? = some v → Value.okWide Try.prog W .any base t v := hval0
  have hW' := hW
  obtain ⟨p, q, hA0, hV, rfl, hfz, hnd⟩ := hW
  have hA : DataW.TrodAll enc Try.prog W 0 (fun _ => true) true Try.f7.params.toList args.toList ds p := hA0
  rw [Try.params7] at hA hval
  obtain ⟨v0, vs0, d0, ds0, p0, q0, hargs, rfl, rfl, h0, r0⟩ := trodAll_cons hA
  obtain ⟨v1, vs1, d1, ds1, p1, q1, rfl, rfl, rfl, h1, r1⟩ := trodAll_cons r0
  obtain ⟨rfl, rfl, rfl⟩ := trodAll_nil r1
  obtain rfl : args = #[v0, v1] := by cases args; simp_all
  obtain ⟨rfl, rfl⟩ := trodVars_none hV
  obtain ⟨a0, len0, cap0, rfl⟩ := okWide_slice Try.underlying36 (hval 0 36 v0 rfl rfl)
  have k0 := h0
  have lt0 : ∀ x ∈ p0, x.block < W.heap.size := by obtain ⟨m, hm⟩ := k0; exact DataW.trod_lt m _ _ _ hm
  obtain ⟨z0, w0⟩ : ∃ zs, IsRow .u8 W a0 len0 cap0 zs := by
    obtain ⟨fuel, hf⟩ := h0
    rcases open_ints Try.underlying36 Try.underlying5 (by kernel_rfl) hf with ⟨hcs, _⟩ | ⟨x, l, c, zs, hcs, _, hl, hm, hz, _, hcell, hwz⟩
    · simp [Value.cells] at hcs
      obtain ⟨rfl, rfl, rfl⟩ := hcs
      exact ⟨[], .inl ⟨rfl, rfl, rfl, rfl⟩⟩
    · simp [Value.cells] at hcs
      obtain ⟨rfl, rfl, rfl⟩ := hcs
      exact ⟨zs, .inr ⟨_, rfl, hl, hm, by simpa using hz, hcell, hwz⟩⟩
  obtain ⟨a1, rfl, rfl, rfl, w1⟩ := open_int Try.underlying41 (hval 1 41 v1 rfl rfl) h1
  clear hA0 hval0
  refine (walk a0 len0 cap0 z0 a1 W w0 w1).mono fun e W' ⟨he, bel⟩ => ?_
  subst he
  exact ⟨_, rfl, _, _, _, [], _, [], hW', trodAll_mk1 (shut_bool Try.underlying4 _), (trodAll_cons_mk (Below.trod laidOut (by kernel_rfl) (of_decide_eq_true (by kernel_rfl)) k0 bel lt0) (trodAll_cons_mk (shut_int Try.underlying41 w1) trodAll_mk0)), rfl, bel.frame _, fun h => by cases h⟩

theorem over : Rows.windowFarRow.holds Try.pinned (OpenSpec.ofChange Rows.windowFarSpec) :=
  OpenClaim.holds_of_wide 7 Try.f7 rfl rfl rfl rfl rfl rfl rfl ⟨rfl, rfl, rfl, rfl, rfl⟩ rfl rfl rfl rfl rfl (by kernel_rfl) Try.func7 (by kernel_rfl)
    (of_decide_eq_true (by kernel_rfl)) (by unfold Func.isWrapper; first | (rw [if_pos (by decide +kernel)]; kernel_rfl) | (rw [if_neg (by decide +kernel)]; exact ⟨rfl, rfl⟩))
    (fun os started H enc _ => lifted os started H enc)

theorem proved : Rows.WindowFarSaid := over
#print axioms proved
end Go.Proofs.Ytkdjlhnddnolaaa.windowFar
