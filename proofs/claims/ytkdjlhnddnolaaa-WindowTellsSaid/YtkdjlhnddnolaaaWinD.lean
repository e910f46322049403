/- Windows: the document's bit, Has and Can. -/
import Derived.Test.YtkdjlhnddnolaaaWinM
import Derived.Test.YtkdjlhnddnolaaaRowB
import Derived.Deep.RegionHeld3
import Derived.Deep.Cut
import Derived.Deep.RegionWith
import Derived.BigRegion
import Derived.BigQuiet
import Derived.Laws.StructEq
namespace Go.Proofs.Ytkdjlhnddnolaaa
open Go.RowKit
set_option linter.unusedVariables false
set_option linter.unusedSimpArgs false
set_option maxRecDepth 20000
theorem Chg.setCell (w : World) (b i : Nat) (v : Value) : Chg (fun k => k = b) w (w.setCell ⟨b, i, none⟩ v) :=
  ⟨rfl, rfl, rfl, by simp, fun k hk hs => heap_setCell_other _ _ _ _ (by exact hs)⟩
theorem Chg.mono {S T : Nat → Prop} {w w' : World} (h : Chg S w w') (hs : ∀ k, S k → T k) : Chg T w w' := ⟨h.os, h.tape, h.output, h.size, fun k hk ht => h.block k hk (fun q => ht (hs k q))⟩
def Wn.cl (w : Wn) : Array Value := #[.int .u64 (w.next : Int), .int .u64 (w.bits : Int)]
theorem wrap_u64 {x : Int} (h0 : 0 ≤ x) (h1 : x ≤ 18446744073709551615) : IntKind.u64.wrap x = x := by
  simp [IntKind.wrap, IntKind.signed, IntKind.bits]; omega
def intG (v : Value) : Int := match v with | .int _ x => x | _ => 0
def natG (v : Value) : Nat := match v with | .int _ x => x.toNat | _ => 0
theorem drew_belowW {B : Nat} {w : World} (h : B ≤ w.heap.size) (n : Nat) : Below B w (w.drewN n) := ⟨rfl, rfl, rfl, Nat.le_refl _, fun _ _ => rfl⟩
theorem digit_odd (t i : Nat) : t.testBit i = decide (t / 2 ^ i % 2 = 1) := Nat.testBit_eq_decide_div_mod_eq
set_option maxHeartbeats 1000000 in
theorem bit_d (t i : Nat) (b : Bool) (ht : t < 18446744073709551616) (hi : i ≤ 64) (hb : t.testBit i = b) (w : World) :
    Calls Try.prog 18 #[.int .u64 (t : Int), .int .i64 (i : Int)] w fun e w' => e = .returned (.bool b) ∧ Below w.heap.size w w' := by
  have HB := Lib.hid hb
  have HT := Lib.hid ht
  have hi2 : (i : Int) ≤ 64 := by omega
  clear hb ht
  go_enter Try.func18, Try.ntmps18
  go_wp2_with fail
  go_loopw [0, 5] (fun x0 x5 wr => ∃ (j T : Nat), j ≤ i ∧ x0 = .int .u64 (T : Int) ∧ Hid (T = t / 2 ^ j) ∧ x5 = .int .i64 (j : Int) ∧ Hid (Below w.heap.size w wr)) (fun _ x5 _ => i - natG x5)
  case atStart => exact ⟨0, t, Nat.zero_le _, rfl, Lib.hid (by simp), rfl, Lib.hid (Below.refl _ _)⟩
  case round =>
    obtain ⟨j, T, hj, rfl, HTJ, rfl, HW⟩ := hrel
    have hT : T < 18446744073709551616 := by
      rw [HTJ.out]
      exact Nat.lt_of_le_of_lt (Nat.div_le_self _ _) HT.out
    have hT1 : (T : Int) ≤ 18446744073709551615 := by omega
    by_cases hji : j < i
    · have hj1 : (j : Int) < (i : Int) := by omega
      have HJ := Lib.hid hji
      obtain ⟨q, hq⟩ : ∃ q, T / 2 = q := ⟨_, rfl⟩
      have HQ : Hid (q = t / 2 ^ (j + 1)) := Lib.hid (by rw [← hq, HTJ.out, Nat.pow_succ, Nat.div_div_eq_div_mul])
      have e1 : (T : Int) / 2 = (q : Int) := by omega
      have e2 : (T : Int).tdiv 2 = (q : Int) := by rw [Int.tdiv_eq_ediv_of_nonneg (by omega)]; exact e1
      have hq1 : (q : Int) ≤ 18446744073709551615 := by omega
      clear hq hT hj hji
      go_wp2_with fail
      go_roundw
      case rel => exact ⟨j + 1, q, HJ.out, by first | rfl | go_num, HQ, by go_num, HW⟩
      case measure => have := HJ.out; simp [natG]; omega
    · obtain rfl : j = i := by omega
      have hji1 : decide ((j : Int) < (j : Int)) = false := decide_eq_false (by omega)
      obtain ⟨o, ho⟩ : ∃ o, T % 2 = o := ⟨_, rfl⟩
      have e1 : (T : Int) % 2 = (o : Int) := by omega
      have e2 : (T : Int).tmod 2 = (o : Int) := by rw [Int.tmod_eq_emod_of_nonneg (by omega)]; exact e1
      have HO : Hid (decide (o = 1) = b) := Lib.hid (by rw [← HB.out, digit_odd, ← HTJ.out, ho])
      have ho2 : o = 0 ∨ o = 1 := by omega
      clear ho hj hji hT
      rcases ho2 with rfl | rfl
      · have hbb := HO.out
        simp at hbb
        subst hbb
        go_wp2_with fail
        go_ret
        exact ⟨rfl, HW.out⟩
      · have hbb := HO.out
        simp at hbb
        subst hbb
        go_wp2_with fail
        go_ret
        exact ⟨rfl, HW.out⟩
set_option maxHeartbeats 400000 in
theorem has_d (N B n : Nat) (b : Bool) (hN : N ≤ 18446744073709551615) (hB : B ≤ 18446744073709551615) (hn : n ≤ 18446744073709551615) (hb : hasW ⟨N, B⟩ n = b) (w : World) :
    Calls Try.prog 15 #[.agg #[.int .u64 (N : Int), .int .u64 (B : Int)], .int .u64 (n : Int)] w fun e w' => e = .returned (.bool b) ∧ Below w.heap.size w w' := by
  have HB := Lib.hid hb
  have HB0 := Lib.hid hB
  obtain ⟨u, hu⟩ : ∃ u, u = w.alloc (.cells #[.int .u64 (N : Int), .int .u64 (B : Int)] 28) := ⟨_, rfl⟩
  have HU : Hid (Below w.heap.size w u) := Lib.hid (by rw [hu]; exact below_alloc _ _)
  have hbox : u.heap[w.heap.size]? = some (.cells #[.int .u64 (N : Int), .int .u64 (B : Int)] 28 (0, 0)) := by rw [hu]; exact heap_alloc_new w _
  have k0 : u.cell? ⟨w.heap.size, 0, none⟩ = some (.int .u64 (N : Int)) := by simp [World.cell?, hbox]
  have k1 : u.cell? ⟨w.heap.size, 1, none⟩ = some (.int .u64 (B : Int)) := by simp [World.cell?, hbox]
  have b1 : (N : Int) ≤ 18446744073709551615 := by omega
  have b2 : (B : Int) ≤ 18446744073709551615 := by omega
  have b3 : (n : Int) ≤ 18446744073709551615 := by omega
  clear hbox hb hB
  go_enter Try.func15, Try.ntmps15
  go_upto_region 1 with fail
  rw [← hu]
  clear hu
  by_cases h1 : n < N
  · have h2 : (n : Int) < (N : Int) := by omega
    obtain ⟨M, hM⟩ : ∃ M, N - 1 = M := ⟨_, rfl⟩
    obtain ⟨d, hd⟩ : ∃ d, M - n = d := ⟨_, rfl⟩
    have e1 : (N : Int) - 1 = (M : Int) := by omega
    have e2 : (M : Int) - (n : Int) = (d : Int) := by omega
    have b4 : (M : Int) ≤ 18446744073709551615 := by omega
    have b5 : (d : Int) ≤ 18446744073709551615 := by omega
    have HD : Hid ((decide (d ≤ 63) && B.testBit d) = b) := Lib.hid (by
      rw [← HB.out]
      unfold hasW
      simp only [hM, hd, h1, decide_true, Bool.true_and])
    clear hM hd h1
    by_cases h3 : d ≤ 63
    · have h4 : (d : Int) ≤ 63 := by omega
      have HBT : Hid (B.testBit d = b) := Lib.hid (by rw [← HD.out, decide_eq_true h3]; rfl)
      have HI : Hid (d ≤ 64) := Lib.hid (by omega)
      clear h3
      go_wp2_with fail
      refine (bit_d B d b (by have := HB0.out; omega) HI.out HBT.out u).mono ?_
      rintro e w1 ⟨rfl, hb⟩
      have HZ := Lib.hid (HU.out.trans (hb.mono HU.out.size))
      clear hb k0 k1
      go_wp2_with fail
      go_ret
      exact ⟨by first | rfl | simp [*], HZ.out⟩
    · have h4 : decide ((d : Int) ≤ 63) = false := decide_eq_false (by omega)
      have hbb := HD.out
      rw [decide_eq_false h3] at hbb
      simp only [Bool.false_and] at hbb
      subst hbb
      clear h3
      go_wp2_with fail
      go_ret
      exact ⟨by first | rfl | simp [*], HU.out⟩
  · have h2 : decide (n < N) = false := decide_eq_false h1
    have hbb := HB.out
    unfold hasW at hbb
    simp only [h1, decide_false, Bool.false_and] at hbb
    subst hbb
    clear h1
    go_wp2_with fail
    go_ret
    exact ⟨by first | rfl | simp [*], HU.out⟩
set_option maxHeartbeats 400000 in
theorem can_d (N B n : Nat) (b : Bool) (hN : N ≤ 18446744073709551615) (hB : B ≤ 18446744073709551615) (hn : n ≤ 18446744073709551615) (hb : canW ⟨N, B⟩ n = b) (w : World) :
    Calls Try.prog 13 #[.agg #[.int .u64 (N : Int), .int .u64 (B : Int)], .int .u64 (n : Int)] w fun e w' => e = .returned (.bool b) ∧ Below w.heap.size w w' := by
  have HB := Lib.hid ((can_has ⟨N, B⟩ n).symm.trans hb)
  have HB0 := Lib.hid hB
  have HN0 := Lib.hid hN
  have HN1 := Lib.hid hn
  obtain ⟨u, hu⟩ : ∃ u, u = w.alloc (.cells #[.int .u64 (N : Int), .int .u64 (B : Int)] 28) := ⟨_, rfl⟩
  have HU : Hid (Below w.heap.size w u) := Lib.hid (by rw [hu]; exact below_alloc _ _)
  have hbox : u.heap[w.heap.size]? = some (.cells #[.int .u64 (N : Int), .int .u64 (B : Int)] 28 (0, 0)) := by rw [hu]; exact heap_alloc_new w _
  have k0 : u.cell? ⟨w.heap.size, 0, none⟩ = some (.int .u64 (N : Int)) := by simp [World.cell?, hbox]
  have k1 : u.cell? ⟨w.heap.size, 1, none⟩ = some (.int .u64 (B : Int)) := by simp [World.cell?, hbox]
  have b1 : (N : Int) ≤ 18446744073709551615 := by omega
  have b2 : (B : Int) ≤ 18446744073709551615 := by omega
  have b3 : (n : Int) ≤ 18446744073709551615 := by omega
  clear hbox hb hB hN hn
  go_enter Try.func13, Try.ntmps13
  go_upto_region 1 with fail
  rw [← hu]
  clear hu
  by_cases ht : n = topN
  · have ht1 : (n : Int) = 18446744073709551615 := by rw [ht]; rfl
    have hbb := HB.out
    simp only [ht, decide_true, Bool.not_true, Bool.false_and] at hbb
    subst hbb
    rw [ht1]
    clear ht ht1 b3
    go_wp2_with fail
    go_ret
    exact ⟨by first | rfl | simp [*], HU.out⟩
  · have ht1 : ((n : Int) == 18446744073709551615) = false := by unfold topN at ht; simp; omega
    have HC : Hid ((decide (N ≤ n) || (decide (N - 1 - n ≤ 63) && !hasW ⟨N, B⟩ n)) = b) := Lib.hid (by rw [← HB.out, decide_eq_false ht]; rfl)
    clear ht
    by_cases h1 : N ≤ n
    · have h2 : (N : Int) ≤ (n : Int) := by omega
      have hbb := HC.out
      rw [decide_eq_true h1] at hbb
      simp only [Bool.true_or] at hbb
      subst hbb
      clear h1
      go_wp2_with fail
      go_ret
      exact ⟨by first | rfl | simp [*], HU.out⟩
    · have h2 : decide (N ≤ n) = false := decide_eq_false h1
      obtain ⟨M, hM⟩ : ∃ M, N - 1 = M := ⟨_, rfl⟩
      obtain ⟨d, hd⟩ : ∃ d, M - n = d := ⟨_, rfl⟩
      have e1 : (N : Int) - 1 = (M : Int) := by omega
      have e2 : (M : Int) - (n : Int) = (d : Int) := by omega
      have b4 : (M : Int) ≤ 18446744073709551615 := by omega
      have b5 : (d : Int) ≤ 18446744073709551615 := by omega
      obtain ⟨c, hc⟩ : ∃ c, hasW ⟨N, B⟩ n = c := ⟨_, rfl⟩
      have HH := Lib.hid hc
      have HD : Hid ((decide (d ≤ 63) && !c) = b) := Lib.hid (by
        rw [← HC.out, decide_eq_false h1, hM, hd, hc]; rfl)
      clear hM hd h1 hc
      by_cases h3 : d ≤ 63
      · have h4 : (d : Int) ≤ 63 := by omega
        have hbb := HD.out
        rw [decide_eq_true h3] at hbb
        simp only [Bool.true_and] at hbb
        subst hbb
        clear h3
        go_wp2_with fail
        refine (has_d N B n c HN0.out HB0.out HN1.out HH.out u).mono ?_
        rintro e w1 ⟨rfl, hb⟩
        have HZ := Lib.hid (HU.out.trans (hb.mono HU.out.size))
        clear hb k0 k1
        go_wp2_with fail
        go_ret
        exact ⟨by first | rfl | simp [*], HZ.out⟩
      · have h4 : decide ((d : Int) ≤ 63) = false := decide_eq_false (by omega)
        have hbb := HD.out
        rw [decide_eq_false h3] at hbb
        simp only [Bool.false_and] at hbb
        subst hbb
        clear h3
        go_wp2_with fail
        go_ret
        exact ⟨by first | rfl | simp [*], HU.out⟩
end Go.Proofs.Ytkdjlhnddnolaaa
