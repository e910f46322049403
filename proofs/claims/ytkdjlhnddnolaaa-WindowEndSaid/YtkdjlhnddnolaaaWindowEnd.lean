/- WindowEnd: the greatest number of all never comes; the one below it does, once. No condition. -/
import Derived.Test.YtkdjlhnddnolaaaRows
import Derived.Test.YtkdjlhnddnolaaaWinX
import Derived.WalkKit
import Derived.ProofKit
import Derived.OpenShut
import Derived.ShutString
import Derived.ChangeOld
import Derived.Below
namespace Go.Proofs.Ytkdjlhnddnolaaa.windowEnd
open Go.ChangeShapes Go.WideShapes Go.ChangeAt Go.RowKit
open Go.ChangeMaps (open_string shut_string)
open Go.Proofs.Ytkdjlhnddnolaaa
set_option linter.unusedVariables false
set_option linter.unusedSimpArgs false
set_option maxRecDepth 20000

theorem own : ownKnob Try.prog.godebug = none := by kernel_rfl
theorem laidOut : laidOutB Try.prog = true := by kernel_rfl
theorem end_can {A C : Nat} (hA : A ≤ 9223372036854775807) : canW ⟨A, C⟩ 18446744073709551614 = true := by
  unfold canW
  rw [decide_eq_true (show A ≤ 18446744073709551614 by omega), decide_eq_false (show ¬ (18446744073709551614 : Nat) = topN by unfold topN; omega)]
  rfl
theorem end_take {A C : Nat} (hA : A ≤ 9223372036854775807) (hC : C ≤ 18446744073709551615) : takeW ⟨A, C⟩ 18446744073709551614 = (⟨18446744073709551615, 1⟩, 0) := by
  unfold takeW
  rw [if_neg (show ¬ (18446744073709551614 : Nat) = topN by unfold topN; omega), if_neg (by rw [end_can hA]; decide)]
  rw [put_far ⟨by unfold topN; simp only; omega, by simp only; omega⟩ (by simp only; omega)]
set_option maxHeartbeats 2000000 in
set_option maxRecDepth 100000 in
theorem walk (x0 x1 : Int) (w : World) (w0 : (Lit.int .u64 x0).wf = true) (w1 : (Lit.int .u64 x1).wf = true) :
    Calls Try.prog 8 #[.int .u64 x0, .int .u64 x1] w fun e w' => e = .returned (.bool true) ∧ Below w.heap.size w w' := by
  obtain ⟨y0, y1⟩ := Go.bounds_u64 w0
  obtain ⟨y2, y3⟩ := Go.bounds_u64 w1
  obtain ⟨X, rfl⟩ := Int.eq_ofNat_of_zero_le y0
  obtain ⟨D, rfl⟩ := Int.eq_ofNat_of_zero_le y2
  obtain ⟨A, hA⟩ : ∃ A, X / 2 = A := ⟨_, rfl⟩
  have e1 : (X : Int) / 2 = (A : Int) := by omega
  have HA : Hid (A ≤ 9223372036854775807) := Lib.hid (by omega)
  have HD : Hid (D ≤ 18446744073709551615) := Lib.hid (by omega)
  have bA : (A : Int) ≤ 9223372036854775807 := by omega
  have bD : (D : Int) ≤ 18446744073709551615 := by omega
  obtain ⟨ua, hua⟩ : ∃ ua, ua = w.alloc (.cells #[.int .u64 (A : Int), .int .u64 (D : Int)] 24 : Obj) := ⟨_, rfl⟩
  obtain ⟨Bw, hBw⟩ : ∃ Bw, Bw = w.heap.size := ⟨_, rfl⟩
  have HLa : Hid (Below w.heap.size w ua) := Lib.hid (by rw [hua]; exact below_alloc _ _)
  have HBa : Hid (ua.heap[Bw]? = some (.cells #[.int .u64 (A : Int), .int .u64 (D : Int)] 24 (0, 0))) := Lib.hid (by rw [hua, hBw]; exact heap_alloc_new w _)
  have HBL : Hid (w.heap.size ≤ Bw) := Lib.hid (by omega)
  clear w0 w1 hA y0 y1 y2 y3
  go_enter Try.func8, Try.ntmps8
  go_upto_region 2 with fail
  rw [← hua, ← hBw]
  clear hua hBw e1
  by_cases h64 : A < 64
  · have b64 : (A : Int) < 64 := by omega
    obtain ⟨P, hP⟩ : ∃ P, 2 ^ A = P := ⟨_, rfl⟩
    have hPl : P < 18446744073709551616 := by rw [← hP]; exact Nat.pow_lt_pow_right (a := 2) (n := 64) (by decide) (by omega)
    have hP0 : 0 < P := by rw [← hP]; exact Nat.pow_pos (by decide)
    have e5 : IntKind.u64.wrap ((2 : Int) ^ A) = (P : Int) := by
      have h9 : ((2 : Int) ^ A) = ((2 ^ A : Nat) : Int) := by simp
      rw [h9, hP]
      exact wrap_u64 (by omega) (by omega)
    have e6 : ((P : Int) == 0) = false := by simp; omega
    have e6a : ¬ (P : Int) = 0 := by omega
    have e6b : ¬ P = 0 := by omega
    obtain ⟨C, hC⟩ : ∃ C, D % P = C := ⟨_, rfl⟩
    have e7 : (D : Int) % (P : Int) = (C : Int) := by rw [← hC]; simp
    have e8 : (D : Int).tmod (P : Int) = (C : Int) := by rw [Int.tmod_eq_emod_of_nonneg (by omega)]; exact e7
    have HC : Hid (C ≤ 18446744073709551615) := Lib.hid (by have := Nat.mod_lt D hP0; omega)
    have bC : (C : Int) ≤ 18446744073709551615 := by have := HC.out; omega
    have bP : (P : Int) ≤ 18446744073709551615 := by omega
    clear h64 hP hPl hP0 hC
    obtain ⟨q0, q1, g0, g1⟩ := cells2 HBa.out
    go_upto_region 4 with fail
    obtain ⟨uz, huz⟩ : ∃ uz, uz = ua.setCell ⟨Bw, 1, none⟩ (.int .u64 (C : Int)) := ⟨_, rfl⟩
    have HBw : Hid (uz.heap[Bw]? = some (.cells #[.int .u64 (A : Int), .int .u64 (C : Int)] 24 (0, 0))) := Lib.hid (by
      have h9 := heap_setCell_same ua Bw 1 _ _ (.int .u64 (C : Int)) HBa.out
      rw [huz]
      simpa using h9)
    have HLz : Hid (Below w.heap.size w uz) := Lib.hid (by rw [huz]; exact HLa.out.trans ((Chg.setCell ua Bw 1 (.int .u64 (C : Int))).below (fun k e => by rw [e]; exact HBL.out) HLa.out.size))
    rw [← huz]
    clear huz q0 q1 g0 g1 e5 e6 e6a e6b e7 e8 bP HLa HBa
    obtain ⟨rw0, rw1, _, _⟩ := cells2 HBw.out
    go_wp2_with fail
    clear rw0 rw1
    refine (take_l A C 18446744073709551615 0 0 1 (by unfold takeW; exact if_pos rfl) (by have := HA.out; have := HC.out; exact ⟨by omega, by omega, by omega⟩) (A : Int) (C : Int) 18446744073709551615 0 0 1 rfl rfl rfl rfl rfl rfl _).mono ?_
    rintro e w1 ⟨rfl, hb⟩
    replace HBw := Lib.hid ((hb.block _ (blk_lt HBw.out)).trans HBw.out)
    have HL1 := Lib.hid (HLz.out.trans (hb.mono HLz.out.size))
    clear hb HLz
    obtain ⟨rw0, rw1, _, _⟩ := cells2 (((below_alloc w1 (.cells #[.int .u64 0, .int .u64 0] 24 : Obj)).block _ (blk_lt HBw.out)).trans HBw.out)
    go_wp2_with fail
    clear rw0 rw1
    refine (take_l A C 18446744073709551614 18446744073709551615 1 0 (end_take HA.out HC.out) (by have := HA.out; have := HC.out; exact ⟨by omega, by omega, by omega⟩) (A : Int) (C : Int) 18446744073709551614 18446744073709551615 1 0 rfl rfl rfl rfl rfl rfl _).mono ?_
    rintro e w2 ⟨rfl, hb⟩
    have hba := below_alloc w1 (.cells #[.int .u64 0, .int .u64 0] 24 : Obj)
    replace HBw := Lib.hid (((hba.trans (hb.mono hba.size)).block _ (blk_lt HBw.out)).trans HBw.out)
    have HBx := Lib.hid ((hb.block _ (blk_lt (heap_alloc_new w1 (.cells #[.int .u64 0, .int .u64 0] 24 : Obj)))).trans (heap_alloc_new w1 (.cells #[.int .u64 0, .int .u64 0] 24 : Obj)))
    have HL2 := Lib.hid (HL1.out.trans ((hba.trans (hb.mono hba.size)).mono HL1.out.size))
    clear hba hb HL1
    obtain ⟨rw0, rw1, _, _⟩ := cells2 (((below_alloc w2 (.cells #[.int .u64 18446744073709551615, .int .u64 1] 24 : Obj)).block _ (blk_lt HBw.out)).trans HBw.out)
    obtain ⟨rx0, rx1, _, _⟩ := cells2 (((below_alloc w2 (.cells #[.int .u64 18446744073709551615, .int .u64 1] 24 : Obj)).block _ (blk_lt HBx.out)).trans HBx.out)
    go_wp2_with fail
    clear rw0 rw1 rx0 rx1
    refine (take_l 18446744073709551615 1 18446744073709551614 0 0 12 (by kernel_rfl) (by decide) 18446744073709551615 1 18446744073709551614 0 0 12 rfl rfl rfl rfl rfl rfl _).mono ?_
    rintro e w3 ⟨rfl, hb⟩
    have hba := below_alloc w2 (.cells #[.int .u64 18446744073709551615, .int .u64 1] 24 : Obj)
    replace HBw := Lib.hid (((hba.trans (hb.mono hba.size)).block _ (blk_lt HBw.out)).trans HBw.out)
    replace HBx := Lib.hid (((hba.trans (hb.mono hba.size)).block _ (blk_lt HBx.out)).trans HBx.out)
    have HBy := Lib.hid ((hb.block _ (blk_lt (heap_alloc_new w2 (.cells #[.int .u64 18446744073709551615, .int .u64 1] 24 : Obj)))).trans (heap_alloc_new w2 (.cells #[.int .u64 18446744073709551615, .int .u64 1] 24 : Obj)))
    have HL3 := Lib.hid (HL2.out.trans ((hba.trans (hb.mono hba.size)).mono HL2.out.size))
    clear hba hb HL2
    obtain ⟨rw0, rw1, _, _⟩ := cells2 (((below_alloc w3 (.cells #[.int .u64 0, .int .u64 0] 24 : Obj)).block _ (blk_lt HBw.out)).trans HBw.out)
    obtain ⟨rx0, rx1, _, _⟩ := cells2 (((below_alloc w3 (.cells #[.int .u64 0, .int .u64 0] 24 : Obj)).block _ (blk_lt HBx.out)).trans HBx.out)
    obtain ⟨ry0, ry1, _, _⟩ := cells2 (((below_alloc w3 (.cells #[.int .u64 0, .int .u64 0] 24 : Obj)).block _ (blk_lt HBy.out)).trans HBy.out)
    go_wp2_with fail
    clear rw0 rw1 rx0 rx1 ry0 ry1
    refine (take_l 18446744073709551615 1 18446744073709551615 0 0 1 (by kernel_rfl) (by decide) 18446744073709551615 1 18446744073709551615 0 0 1 rfl rfl rfl rfl rfl rfl _).mono ?_
    rintro e w4 ⟨rfl, hb⟩
    have hba := below_alloc w3 (.cells #[.int .u64 0, .int .u64 0] 24 : Obj)
    replace HBw := Lib.hid (((hba.trans (hb.mono hba.size)).block _ (blk_lt HBw.out)).trans HBw.out)
    replace HBx := Lib.hid (((hba.trans (hb.mono hba.size)).block _ (blk_lt HBx.out)).trans HBx.out)
    replace HBy := Lib.hid (((hba.trans (hb.mono hba.size)).block _ (blk_lt HBy.out)).trans HBy.out)
    have HBz := Lib.hid ((hb.block _ (blk_lt (heap_alloc_new w3 (.cells #[.int .u64 0, .int .u64 0] 24 : Obj)))).trans (heap_alloc_new w3 (.cells #[.int .u64 0, .int .u64 0] 24 : Obj)))
    have HL4 := Lib.hid (HL3.out.trans ((hba.trans (hb.mono hba.size)).mono HL3.out.size))
    clear hba hb HL3
    obtain ⟨rw0, rw1, _, _⟩ := cells2 (((below_alloc w4 (.cells #[.int .u64 0, .int .u64 0] 24 : Obj)).block _ (blk_lt HBw.out)).trans HBw.out)
    obtain ⟨rx0, rx1, _, _⟩ := cells2 (((below_alloc w4 (.cells #[.int .u64 0, .int .u64 0] 24 : Obj)).block _ (blk_lt HBx.out)).trans HBx.out)
    obtain ⟨ry0, ry1, _, _⟩ := cells2 (((below_alloc w4 (.cells #[.int .u64 0, .int .u64 0] 24 : Obj)).block _ (blk_lt HBy.out)).trans HBy.out)
    obtain ⟨rz0, rz1, _, _⟩ := cells2 (((below_alloc w4 (.cells #[.int .u64 0, .int .u64 0] 24 : Obj)).block _ (blk_lt HBz.out)).trans HBz.out)
    go_wp2_with fail
    clear rw0 rw1 rx0 rx1 ry0 ry1 rz0 rz1
    refine (take_l 18446744073709551615 1 18446744073709551613 18446744073709551615 3 0 (by kernel_rfl) (by decide) 18446744073709551615 1 18446744073709551613 18446744073709551615 3 0 rfl rfl rfl rfl rfl rfl _).mono ?_
    rintro e w5 ⟨rfl, hb⟩
    have hba := below_alloc w4 (.cells #[.int .u64 0, .int .u64 0] 24 : Obj)
    replace HBw := Lib.hid (((hba.trans (hb.mono hba.size)).block _ (blk_lt HBw.out)).trans HBw.out)
    replace HBx := Lib.hid (((hba.trans (hb.mono hba.size)).block _ (blk_lt HBx.out)).trans HBx.out)
    replace HBy := Lib.hid (((hba.trans (hb.mono hba.size)).block _ (blk_lt HBy.out)).trans HBy.out)
    replace HBz := Lib.hid (((hba.trans (hb.mono hba.size)).block _ (blk_lt HBz.out)).trans HBz.out)
    have HBt := Lib.hid ((hb.block _ (blk_lt (heap_alloc_new w4 (.cells #[.int .u64 0, .int .u64 0] 24 : Obj)))).trans (heap_alloc_new w4 (.cells #[.int .u64 0, .int .u64 0] 24 : Obj)))
    have HL5 := Lib.hid (HL4.out.trans ((hba.trans (hb.mono hba.size)).mono HL4.out.size))
    clear hba hb HL4
    obtain ⟨rw0, rw1, _, _⟩ := cells2 (((below_alloc w5 (.cells #[.int .u64 18446744073709551615, .int .u64 3] 24 : Obj)).block _ (blk_lt HBw.out)).trans HBw.out)
    obtain ⟨rx0, rx1, _, _⟩ := cells2 (((below_alloc w5 (.cells #[.int .u64 18446744073709551615, .int .u64 3] 24 : Obj)).block _ (blk_lt HBx.out)).trans HBx.out)
    obtain ⟨ry0, ry1, _, _⟩ := cells2 (((below_alloc w5 (.cells #[.int .u64 18446744073709551615, .int .u64 3] 24 : Obj)).block _ (blk_lt HBy.out)).trans HBy.out)
    obtain ⟨rz0, rz1, _, _⟩ := cells2 (((below_alloc w5 (.cells #[.int .u64 18446744073709551615, .int .u64 3] 24 : Obj)).block _ (blk_lt HBz.out)).trans HBz.out)
    obtain ⟨rt0, rt1, _, _⟩ := cells2 (((below_alloc w5 (.cells #[.int .u64 18446744073709551615, .int .u64 3] 24 : Obj)).block _ (blk_lt HBt.out)).trans HBt.out)
    go_wp2_with fail
    clear rw0 rw1 rx0 rx1 ry0 ry1 rz0 rz1 rt0 rt1
    refine (can_l A C 18446744073709551615 false (by unfold canW; simp [topN]) (by have := HA.out; have := HC.out; exact ⟨by omega, by omega, by omega⟩) (A : Int) (C : Int) 18446744073709551615 rfl rfl rfl _).mono ?_
    rintro e w6 ⟨rfl, hb⟩
    have hba := below_alloc w5 (.cells #[.int .u64 18446744073709551615, .int .u64 3] 24 : Obj)
    replace HBw := Lib.hid (((hba.trans (hb.mono hba.size)).block _ (blk_lt HBw.out)).trans HBw.out)
    replace HBx := Lib.hid (((hba.trans (hb.mono hba.size)).block _ (blk_lt HBx.out)).trans HBx.out)
    replace HBy := Lib.hid (((hba.trans (hb.mono hba.size)).block _ (blk_lt HBy.out)).trans HBy.out)
    replace HBz := Lib.hid (((hba.trans (hb.mono hba.size)).block _ (blk_lt HBz.out)).trans HBz.out)
    replace HBt := Lib.hid (((hba.trans (hb.mono hba.size)).block _ (blk_lt HBt.out)).trans HBt.out)
    have HBv := Lib.hid ((hb.block _ (blk_lt (heap_alloc_new w5 (.cells #[.int .u64 18446744073709551615, .int .u64 3] 24 : Obj)))).trans (heap_alloc_new w5 (.cells #[.int .u64 18446744073709551615, .int .u64 3] 24 : Obj)))
    have HL6 := Lib.hid (HL5.out.trans ((hba.trans (hb.mono hba.size)).mono HL5.out.size))
    clear hba hb HL5
    obtain ⟨rw0, rw1, _, _⟩ := cells2 HBw.out
    obtain ⟨rx0, rx1, _, _⟩ := cells2 HBx.out
    obtain ⟨ry0, ry1, _, _⟩ := cells2 HBy.out
    obtain ⟨rz0, rz1, _, _⟩ := cells2 HBz.out
    obtain ⟨rt0, rt1, _, _⟩ := cells2 HBt.out
    obtain ⟨rv0, rv1, _, _⟩ := cells2 HBv.out
    go_wp2_with fail
    clear rw0 rw1 rx0 rx1 ry0 ry1 rz0 rz1 rt0 rt1 rv0 rv1
    refine (has_l A C 18446744073709551615 false (by unfold hasW; rw [decide_eq_false (by have := HA.out; simp only; omega)]; rfl) (by have := HA.out; have := HC.out; exact ⟨by omega, by omega, by omega⟩) (A : Int) (C : Int) 18446744073709551615 rfl rfl rfl _).mono ?_
    rintro e w7 ⟨rfl, hb⟩
    replace HBw := Lib.hid ((hb.block _ (blk_lt HBw.out)).trans HBw.out)
    replace HBx := Lib.hid ((hb.block _ (blk_lt HBx.out)).trans HBx.out)
    replace HBy := Lib.hid ((hb.block _ (blk_lt HBy.out)).trans HBy.out)
    replace HBz := Lib.hid ((hb.block _ (blk_lt HBz.out)).trans HBz.out)
    replace HBt := Lib.hid ((hb.block _ (blk_lt HBt.out)).trans HBt.out)
    replace HBv := Lib.hid ((hb.block _ (blk_lt HBv.out)).trans HBv.out)
    have HL7 := Lib.hid (HL6.out.trans (hb.mono HL6.out.size))
    clear hb HL6
    obtain ⟨rw0, rw1, _, _⟩ := cells2 HBw.out
    obtain ⟨rx0, rx1, _, _⟩ := cells2 HBx.out
    obtain ⟨ry0, ry1, _, _⟩ := cells2 HBy.out
    obtain ⟨rz0, rz1, _, _⟩ := cells2 HBz.out
    obtain ⟨rt0, rt1, _, _⟩ := cells2 HBt.out
    obtain ⟨rv0, rv1, _, _⟩ := cells2 HBv.out
    go_wp2_with fail
    clear rw0 rw1 rx0 rx1 ry0 ry1 rz0 rz1 rt0 rt1 rv0 rv1
    refine (can_l A C 18446744073709551614 true (end_can HA.out) (by have := HA.out; have := HC.out; exact ⟨by omega, by omega, by omega⟩) (A : Int) (C : Int) 18446744073709551614 rfl rfl rfl _).mono ?_
    rintro e w8 ⟨rfl, hb⟩
    replace HBw := Lib.hid ((hb.block _ (blk_lt HBw.out)).trans HBw.out)
    replace HBx := Lib.hid ((hb.block _ (blk_lt HBx.out)).trans HBx.out)
    replace HBy := Lib.hid ((hb.block _ (blk_lt HBy.out)).trans HBy.out)
    replace HBz := Lib.hid ((hb.block _ (blk_lt HBz.out)).trans HBz.out)
    replace HBt := Lib.hid ((hb.block _ (blk_lt HBt.out)).trans HBt.out)
    replace HBv := Lib.hid ((hb.block _ (blk_lt HBv.out)).trans HBv.out)
    have HL8 := Lib.hid (HL7.out.trans (hb.mono HL7.out.size))
    clear hb HL7
    obtain ⟨rw0, rw1, _, _⟩ := cells2 HBw.out
    obtain ⟨rx0, rx1, _, _⟩ := cells2 HBx.out
    obtain ⟨ry0, ry1, _, _⟩ := cells2 HBy.out
    obtain ⟨rz0, rz1, _, _⟩ := cells2 HBz.out
    obtain ⟨rt0, rt1, _, _⟩ := cells2 HBt.out
    obtain ⟨rv0, rv1, _, _⟩ := cells2 HBv.out
    go_wp2_with fail
    clear rw0 rw1 rx0 rx1 ry0 ry1 rz0 rz1 rt0 rt1 rv0 rv1
    refine (has_l 18446744073709551615 1 18446744073709551614 true (by kernel_rfl) (by decide) 18446744073709551615 1 18446744073709551614 rfl rfl rfl _).mono ?_
    rintro e w9 ⟨rfl, hb⟩
    replace HBw := Lib.hid ((hb.block _ (blk_lt HBw.out)).trans HBw.out)
    replace HBx := Lib.hid ((hb.block _ (blk_lt HBx.out)).trans HBx.out)
    replace HBy := Lib.hid ((hb.block _ (blk_lt HBy.out)).trans HBy.out)
    replace HBz := Lib.hid ((hb.block _ (blk_lt HBz.out)).trans HBz.out)
    replace HBt := Lib.hid ((hb.block _ (blk_lt HBt.out)).trans HBt.out)
    replace HBv := Lib.hid ((hb.block _ (blk_lt HBv.out)).trans HBv.out)
    have HL9 := Lib.hid (HL8.out.trans (hb.mono HL8.out.size))
    clear hb HL8
    obtain ⟨rw0, rw1, _, _⟩ := cells2 HBw.out
    obtain ⟨rx0, rx1, _, _⟩ := cells2 HBx.out
    obtain ⟨ry0, ry1, _, _⟩ := cells2 HBy.out
    obtain ⟨rz0, rz1, _, _⟩ := cells2 HBz.out
    obtain ⟨rt0, rt1, _, _⟩ := cells2 HBt.out
    obtain ⟨rv0, rv1, _, _⟩ := cells2 HBv.out
    go_wp2_with fail
    clear rw0 rw1 rx0 rx1 ry0 ry1 rz0 rz1 rt0 rt1 rv0 rv1
    refine (can_l 18446744073709551615 1 18446744073709551615 false (by kernel_rfl) (by decide) 18446744073709551615 1 18446744073709551615 rfl rfl rfl _).mono ?_
    rintro e w10 ⟨rfl, hb⟩
    replace HBw := Lib.hid ((hb.block _ (blk_lt HBw.out)).trans HBw.out)
    replace HBx := Lib.hid ((hb.block _ (blk_lt HBx.out)).trans HBx.out)
    replace HBy := Lib.hid ((hb.block _ (blk_lt HBy.out)).trans HBy.out)
    replace HBz := Lib.hid ((hb.block _ (blk_lt HBz.out)).trans HBz.out)
    replace HBt := Lib.hid ((hb.block _ (blk_lt HBt.out)).trans HBt.out)
    replace HBv := Lib.hid ((hb.block _ (blk_lt HBv.out)).trans HBv.out)
    have HL10 := Lib.hid (HL9.out.trans (hb.mono HL9.out.size))
    clear hb HL9
    obtain ⟨rw0, rw1, _, _⟩ := cells2 HBw.out
    obtain ⟨rx0, rx1, _, _⟩ := cells2 HBx.out
    obtain ⟨ry0, ry1, _, _⟩ := cells2 HBy.out
    obtain ⟨rz0, rz1, _, _⟩ := cells2 HBz.out
    obtain ⟨rt0, rt1, _, _⟩ := cells2 HBt.out
    obtain ⟨rv0, rv1, _, _⟩ := cells2 HBv.out
    go_wp2_with fail
    clear rw0 rw1 rx0 rx1 ry0 ry1 rz0 rz1 rt0 rt1 rv0 rv1
    refine (has_l 18446744073709551615 3 18446744073709551613 true (by kernel_rfl) (by decide) 18446744073709551615 3 18446744073709551613 rfl rfl rfl _).mono ?_
    rintro e w11 ⟨rfl, hb⟩
    replace HBw := Lib.hid ((hb.block _ (blk_lt HBw.out)).trans HBw.out)
    replace HBx := Lib.hid ((hb.block _ (blk_lt HBx.out)).trans HBx.out)
    replace HBy := Lib.hid ((hb.block _ (blk_lt HBy.out)).trans HBy.out)
    replace HBz := Lib.hid ((hb.block _ (blk_lt HBz.out)).trans HBz.out)
    replace HBt := Lib.hid ((hb.block _ (blk_lt HBt.out)).trans HBt.out)
    replace HBv := Lib.hid ((hb.block _ (blk_lt HBv.out)).trans HBv.out)
    have HL11 := Lib.hid (HL10.out.trans (hb.mono HL10.out.size))
    clear hb HL10
    obtain ⟨rw0, rw1, _, _⟩ := cells2 HBw.out
    obtain ⟨rx0, rx1, _, _⟩ := cells2 HBx.out
    obtain ⟨ry0, ry1, _, _⟩ := cells2 HBy.out
    obtain ⟨rz0, rz1, _, _⟩ := cells2 HBz.out
    obtain ⟨rt0, rt1, _, _⟩ := cells2 HBt.out
    obtain ⟨rv0, rv1, _, _⟩ := cells2 HBv.out
    go_wp2_with fail
    clear rw0 rw1 rx0 rx1 ry0 ry1 rz0 rz1 rt0 rt1 rv0 rv1
    refine (has_l 18446744073709551615 3 18446744073709551614 true (by kernel_rfl) (by decide) 18446744073709551615 3 18446744073709551614 rfl rfl rfl _).mono ?_
    rintro e w12 ⟨rfl, hb⟩
    replace HBw := Lib.hid ((hb.block _ (blk_lt HBw.out)).trans HBw.out)
    replace HBx := Lib.hid ((hb.block _ (blk_lt HBx.out)).trans HBx.out)
    replace HBy := Lib.hid ((hb.block _ (blk_lt HBy.out)).trans HBy.out)
    replace HBz := Lib.hid ((hb.block _ (blk_lt HBz.out)).trans HBz.out)
    replace HBt := Lib.hid ((hb.block _ (blk_lt HBt.out)).trans HBt.out)
    replace HBv := Lib.hid ((hb.block _ (blk_lt HBv.out)).trans HBv.out)
    have HL12 := Lib.hid (HL11.out.trans (hb.mono HL11.out.size))
    clear hb HL11
    obtain ⟨rw0, rw1, _, _⟩ := cells2 HBw.out
    obtain ⟨rx0, rx1, _, _⟩ := cells2 HBx.out
    obtain ⟨ry0, ry1, _, _⟩ := cells2 HBy.out
    obtain ⟨rz0, rz1, _, _⟩ := cells2 HBz.out
    obtain ⟨rt0, rt1, _, _⟩ := cells2 HBt.out
    obtain ⟨rv0, rv1, _, _⟩ := cells2 HBv.out
    go_wp2_with fail
    refine (fixed_any _).mono ?_
    rintro e w99 ⟨rfl, hb⟩
    have HZ := Lib.hid (HL12.out.trans (hb.mono HL12.out.size))
    clear hb
    go_wp2_with fail
    go_ret
    exact ⟨rfl, HZ.out⟩
  · have b64 : decide ((A : Int) < 64) = false := decide_eq_false (by omega)
    clear h64
    obtain ⟨C, hC⟩ : ∃ C, C = D := ⟨_, rfl⟩
    subst hC
    have HC := HD
    have HBw := HBa
    have HLz := HLa
    clear HLa HBa
    obtain ⟨rw0, rw1, _, _⟩ := cells2 HBw.out
    go_wp2_with fail
    clear rw0 rw1
    refine (take_l A C 18446744073709551615 0 0 1 (by unfold takeW; exact if_pos rfl) (by have := HA.out; have := HC.out; exact ⟨by omega, by omega, by omega⟩) (A : Int) (C : Int) 18446744073709551615 0 0 1 rfl rfl rfl rfl rfl rfl _).mono ?_
    rintro e w1 ⟨rfl, hb⟩
    replace HBw := Lib.hid ((hb.block _ (blk_lt HBw.out)).trans HBw.out)
    have HL1 := Lib.hid (HLz.out.trans (hb.mono HLz.out.size))
    clear hb HLz
    obtain ⟨rw0, rw1, _, _⟩ := cells2 (((below_alloc w1 (.cells #[.int .u64 0, .int .u64 0] 24 : Obj)).block _ (blk_lt HBw.out)).trans HBw.out)
    go_wp2_with fail
    clear rw0 rw1
    refine (take_l A C 18446744073709551614 18446744073709551615 1 0 (end_take HA.out HC.out) (by have := HA.out; have := HC.out; exact ⟨by omega, by omega, by omega⟩) (A : Int) (C : Int) 18446744073709551614 18446744073709551615 1 0 rfl rfl rfl rfl rfl rfl _).mono ?_
    rintro e w2 ⟨rfl, hb⟩
    have hba := below_alloc w1 (.cells #[.int .u64 0, .int .u64 0] 24 : Obj)
    replace HBw := Lib.hid (((hba.trans (hb.mono hba.size)).block _ (blk_lt HBw.out)).trans HBw.out)
    have HBx := Lib.hid ((hb.block _ (blk_lt (heap_alloc_new w1 (.cells #[.int .u64 0, .int .u64 0] 24 : Obj)))).trans (heap_alloc_new w1 (.cells #[.int .u64 0, .int .u64 0] 24 : Obj)))
    have HL2 := Lib.hid (HL1.out.trans ((hba.trans (hb.mono hba.size)).mono HL1.out.size))
    clear hba hb HL1
    obtain ⟨rw0, rw1, _, _⟩ := cells2 (((below_alloc w2 (.cells #[.int .u64 18446744073709551615, .int .u64 1] 24 : Obj)).block _ (blk_lt HBw.out)).trans HBw.out)
    obtain ⟨rx0, rx1, _, _⟩ := cells2 (((below_alloc w2 (.cells #[.int .u64 18446744073709551615, .int .u64 1] 24 : Obj)).block _ (blk_lt HBx.out)).trans HBx.out)
    go_wp2_with fail
    clear rw0 rw1 rx0 rx1
    refine (take_l 18446744073709551615 1 18446744073709551614 0 0 12 (by kernel_rfl) (by decide) 18446744073709551615 1 18446744073709551614 0 0 12 rfl rfl rfl rfl rfl rfl _).mono ?_
    rintro e w3 ⟨rfl, hb⟩
    have hba := below_alloc w2 (.cells #[.int .u64 18446744073709551615, .int .u64 1] 24 : Obj)
    replace HBw := Lib.hid (((hba.trans (hb.mono hba.size)).block _ (blk_lt HBw.out)).trans HBw.out)
    replace HBx := Lib.hid (((hba.trans (hb.mono hba.size)).block _ (blk_lt HBx.out)).trans HBx.out)
    have HBy := Lib.hid ((hb.block _ (blk_lt (heap_alloc_new w2 (.cells #[.int .u64 18446744073709551615, .int .u64 1] 24 : Obj)))).trans (heap_alloc_new w2 (.cells #[.int .u64 18446744073709551615, .int .u64 1] 24 : Obj)))
    have HL3 := Lib.hid (HL2.out.trans ((hba.trans (hb.mono hba.size)).mono HL2.out.size))
    clear hba hb HL2
    obtain ⟨rw0, rw1, _, _⟩ := cells2 (((below_alloc w3 (.cells #[.int .u64 0, .int .u64 0] 24 : Obj)).block _ (blk_lt HBw.out)).trans HBw.out)
    obtain ⟨rx0, rx1, _, _⟩ := cells2 (((below_alloc w3 (.cells #[.int .u64 0, .int .u64 0] 24 : Obj)).block _ (blk_lt HBx.out)).trans HBx.out)
    obtain ⟨ry0, ry1, _, _⟩ := cells2 (((below_alloc w3 (.cells #[.int .u64 0, .int .u64 0] 24 : Obj)).block _ (blk_lt HBy.out)).trans HBy.out)
    go_wp2_with fail
    clear rw0 rw1 rx0 rx1 ry0 ry1
    refine (take_l 18446744073709551615 1 18446744073709551615 0 0 1 (by kernel_rfl) (by decide) 18446744073709551615 1 18446744073709551615 0 0 1 rfl rfl rfl rfl rfl rfl _).mono ?_
    rintro e w4 ⟨rfl, hb⟩
    have hba := below_alloc w3 (.cells #[.int .u64 0, .int .u64 0] 24 : Obj)
    replace HBw := Lib.hid (((hba.trans (hb.mono hba.size)).block _ (blk_lt HBw.out)).trans HBw.out)
    replace HBx := Lib.hid (((hba.trans (hb.mono hba.size)).block _ (blk_lt HBx.out)).trans HBx.out)
    replace HBy := Lib.hid (((hba.trans (hb.mono hba.size)).block _ (blk_lt HBy.out)).trans HBy.out)
    have HBz := Lib.hid ((hb.block _ (blk_lt (heap_alloc_new w3 (.cells #[.int .u64 0, .int .u64 0] 24 : Obj)))).trans (heap_alloc_new w3 (.cells #[.int .u64 0, .int .u64 0] 24 : Obj)))
    have HL4 := Lib.hid (HL3.out.trans ((hba.trans (hb.mono hba.size)).mono HL3.out.size))
    clear hba hb HL3
    obtain ⟨rw0, rw1, _, _⟩ := cells2 (((below_alloc w4 (.cells #[.int .u64 0, .int .u64 0] 24 : Obj)).block _ (blk_lt HBw.out)).trans HBw.out)
    obtain ⟨rx0, rx1, _, _⟩ := cells2 (((below_alloc w4 (.cells #[.int .u64 0, .int .u64 0] 24 : Obj)).block _ (blk_lt HBx.out)).trans HBx.out)
    obtain ⟨ry0, ry1, _, _⟩ := cells2 (((below_alloc w4 (.cells #[.int .u64 0, .int .u64 0] 24 : Obj)).block _ (blk_lt HBy.out)).trans HBy.out)
    obtain ⟨rz0, rz1, _, _⟩ := cells2 (((below_alloc w4 (.cells #[.int .u64 0, .int .u64 0] 24 : Obj)).block _ (blk_lt HBz.out)).trans HBz.out)
    go_wp2_with fail
    clear rw0 rw1 rx0 rx1 ry0 ry1 rz0 rz1
    refine (take_l 18446744073709551615 1 18446744073709551613 18446744073709551615 3 0 (by kernel_rfl) (by decide) 18446744073709551615 1 18446744073709551613 18446744073709551615 3 0 rfl rfl rfl rfl rfl rfl _).mono ?_
    rintro e w5 ⟨rfl, hb⟩
    have hba := below_alloc w4 (.cells #[.int .u64 0, .int .u64 0] 24 : Obj)
    replace HBw := Lib.hid (((hba.trans (hb.mono hba.size)).block _ (blk_lt HBw.out)).trans HBw.out)
    replace HBx := Lib.hid (((hba.trans (hb.mono hba.size)).block _ (blk_lt HBx.out)).trans HBx.out)
    replace HBy := Lib.hid (((hba.trans (hb.mono hba.size)).block _ (blk_lt HBy.out)).trans HBy.out)
    replace HBz := Lib.hid (((hba.trans (hb.mono hba.size)).block _ (blk_lt HBz.out)).trans HBz.out)
    have HBt := Lib.hid ((hb.block _ (blk_lt (heap_alloc_new w4 (.cells #[.int .u64 0, .int .u64 0] 24 : Obj)))).trans (heap_alloc_new w4 (.cells #[.int .u64 0, .int .u64 0] 24 : Obj)))
    have HL5 := Lib.hid (HL4.out.trans ((hba.trans (hb.mono hba.size)).mono HL4.out.size))
    clear hba hb HL4
    obtain ⟨rw0, rw1, _, _⟩ := cells2 (((below_alloc w5 (.cells #[.int .u64 18446744073709551615, .int .u64 3] 24 : Obj)).block _ (blk_lt HBw.out)).trans HBw.out)
    obtain ⟨rx0, rx1, _, _⟩ := cells2 (((below_alloc w5 (.cells #[.int .u64 18446744073709551615, .int .u64 3] 24 : Obj)).block _ (blk_lt HBx.out)).trans HBx.out)
    obtain ⟨ry0, ry1, _, _⟩ := cells2 (((below_alloc w5 (.cells #[.int .u64 18446744073709551615, .int .u64 3] 24 : Obj)).block _ (blk_lt HBy.out)).trans HBy.out)
    obtain ⟨rz0, rz1, _, _⟩ := cells2 (((below_alloc w5 (.cells #[.int .u64 18446744073709551615, .int .u64 3] 24 : Obj)).block _ (blk_lt HBz.out)).trans HBz.out)
    obtain ⟨rt0, rt1, _, _⟩ := cells2 (((below_alloc w5 (.cells #[.int .u64 18446744073709551615, .int .u64 3] 24 : Obj)).block _ (blk_lt HBt.out)).trans HBt.out)
    go_wp2_with fail
    clear rw0 rw1 rx0 rx1 ry0 ry1 rz0 rz1 rt0 rt1
    refine (can_l A C 18446744073709551615 false (by unfold canW; simp [topN]) (by have := HA.out; have := HC.out; exact ⟨by omega, by omega, by omega⟩) (A : Int) (C : Int) 18446744073709551615 rfl rfl rfl _).mono ?_
    rintro e w6 ⟨rfl, hb⟩
    have hba := below_alloc w5 (.cells #[.int .u64 18446744073709551615, .int .u64 3] 24 : Obj)
    replace HBw := Lib.hid (((hba.trans (hb.mono hba.size)).block _ (blk_lt HBw.out)).trans HBw.out)
    replace HBx := Lib.hid (((hba.trans (hb.mono hba.size)).block _ (blk_lt HBx.out)).trans HBx.out)
    replace HBy := Lib.hid (((hba.trans (hb.mono hba.size)).block _ (blk_lt HBy.out)).trans HBy.out)
    replace HBz := Lib.hid (((hba.trans (hb.mono hba.size)).block _ (blk_lt HBz.out)).trans HBz.out)
    replace HBt := Lib.hid (((hba.trans (hb.mono hba.size)).block _ (blk_lt HBt.out)).trans HBt.out)
    have HBv := Lib.hid ((hb.block _ (blk_lt (heap_alloc_new w5 (.cells #[.int .u64 18446744073709551615, .int .u64 3] 24 : Obj)))).trans (heap_alloc_new w5 (.cells #[.int .u64 18446744073709551615, .int .u64 3] 24 : Obj)))
    have HL6 := Lib.hid (HL5.out.trans ((hba.trans (hb.mono hba.size)).mono HL5.out.size))
    clear hba hb HL5
    obtain ⟨rw0, rw1, _, _⟩ := cells2 HBw.out
    obtain ⟨rx0, rx1, _, _⟩ := cells2 HBx.out
    obtain ⟨ry0, ry1, _, _⟩ := cells2 HBy.out
    obtain ⟨rz0, rz1, _, _⟩ := cells2 HBz.out
    obtain ⟨rt0, rt1, _, _⟩ := cells2 HBt.out
    obtain ⟨rv0, rv1, _, _⟩ := cells2 HBv.out
    go_wp2_with fail
    clear rw0 rw1 rx0 rx1 ry0 ry1 rz0 rz1 rt0 rt1 rv0 rv1
    refine (has_l A C 18446744073709551615 false (by unfold hasW; rw [decide_eq_false (by have := HA.out; simp only; omega)]; rfl) (by have := HA.out; have := HC.out; exact ⟨by omega, by omega, by omega⟩) (A : Int) (C : Int) 18446744073709551615 rfl rfl rfl _).mono ?_
    rintro e w7 ⟨rfl, hb⟩
    replace HBw := Lib.hid ((hb.block _ (blk_lt HBw.out)).trans HBw.out)
    replace HBx := Lib.hid ((hb.block _ (blk_lt HBx.out)).trans HBx.out)
    replace HBy := Lib.hid ((hb.block _ (blk_lt HBy.out)).trans HBy.out)
    replace HBz := Lib.hid ((hb.block _ (blk_lt HBz.out)).trans HBz.out)
    replace HBt := Lib.hid ((hb.block _ (blk_lt HBt.out)).trans HBt.out)
    replace HBv := Lib.hid ((hb.block _ (blk_lt HBv.out)).trans HBv.out)
    have HL7 := Lib.hid (HL6.out.trans (hb.mono HL6.out.size))
    clear hb HL6
    obtain ⟨rw0, rw1, _, _⟩ := cells2 HBw.out
    obtain ⟨rx0, rx1, _, _⟩ := cells2 HBx.out
    obtain ⟨ry0, ry1, _, _⟩ := cells2 HBy.out
    obtain ⟨rz0, rz1, _, _⟩ := cells2 HBz.out
    obtain ⟨rt0, rt1, _, _⟩ := cells2 HBt.out
    obtain ⟨rv0, rv1, _, _⟩ := cells2 HBv.out
    go_wp2_with fail
    clear rw0 rw1 rx0 rx1 ry0 ry1 rz0 rz1 rt0 rt1 rv0 rv1
    refine (can_l A C 18446744073709551614 true (end_can HA.out) (by have := HA.out; have := HC.out; exact ⟨by omega, by omega, by omega⟩) (A : Int) (C : Int) 18446744073709551614 rfl rfl rfl _).mono ?_
    rintro e w8 ⟨rfl, hb⟩
    replace HBw := Lib.hid ((hb.block _ (blk_lt HBw.out)).trans HBw.out)
    replace HBx := Lib.hid ((hb.block _ (blk_lt HBx.out)).trans HBx.out)
    replace HBy := Lib.hid ((hb.block _ (blk_lt HBy.out)).trans HBy.out)
    replace HBz := Lib.hid ((hb.block _ (blk_lt HBz.out)).trans HBz.out)
    replace HBt := Lib.hid ((hb.block _ (blk_lt HBt.out)).trans HBt.out)
    replace HBv := Lib.hid ((hb.block _ (blk_lt HBv.out)).trans HBv.out)
    have HL8 := Lib.hid (HL7.out.trans (hb.mono HL7.out.size))
    clear hb HL7
    obtain ⟨rw0, rw1, _, _⟩ := cells2 HBw.out
    obtain ⟨rx0, rx1, _, _⟩ := cells2 HBx.out
    obtain ⟨ry0, ry1, _, _⟩ := cells2 HBy.out
    obtain ⟨rz0, rz1, _, _⟩ := cells2 HBz.out
    obtain ⟨rt0, rt1, _, _⟩ := cells2 HBt.out
    obtain ⟨rv0, rv1, _, _⟩ := cells2 HBv.out
    go_wp2_with fail
    clear rw0 rw1 rx0 rx1 ry0 ry1 rz0 rz1 rt0 rt1 rv0 rv1
    refine (has_l 18446744073709551615 1 18446744073709551614 true (by kernel_rfl) (by decide) 18446744073709551615 1 18446744073709551614 rfl rfl rfl _).mono ?_
    rintro e w9 ⟨rfl, hb⟩
    replace HBw := Lib.hid ((hb.block _ (blk_lt HBw.out)).trans HBw.out)
    replace HBx := Lib.hid ((hb.block _ (blk_lt HBx.out)).trans HBx.out)
    replace HBy := Lib.hid ((hb.block _ (blk_lt HBy.out)).trans HBy.out)
    replace HBz := Lib.hid ((hb.block _ (blk_lt HBz.out)).trans HBz.out)
    replace HBt := Lib.hid ((hb.block _ (blk_lt HBt.out)).trans HBt.out)
    replace HBv := Lib.hid ((hb.block _ (blk_lt HBv.out)).trans HBv.out)
    have HL9 := Lib.hid (HL8.out.trans (hb.mono HL8.out.size))
    clear hb HL8
    obtain ⟨rw0, rw1, _, _⟩ := cells2 HBw.out
    obtain ⟨rx0, rx1, _, _⟩ := cells2 HBx.out
    obtain ⟨ry0, ry1, _, _⟩ := cells2 HBy.out
    obtain ⟨rz0, rz1, _, _⟩ := cells2 HBz.out
    obtain ⟨rt0, rt1, _, _⟩ := cells2 HBt.out
    obtain ⟨rv0, rv1, _, _⟩ := cells2 HBv.out
    go_wp2_with fail
    clear rw0 rw1 rx0 rx1 ry0 ry1 rz0 rz1 rt0 rt1 rv0 rv1
    refine (can_l 18446744073709551615 1 18446744073709551615 false (by kernel_rfl) (by decide) 18446744073709551615 1 18446744073709551615 rfl rfl rfl _).mono ?_
    rintro e w10 ⟨rfl, hb⟩
    replace HBw := Lib.hid ((hb.block _ (blk_lt HBw.out)).trans HBw.out)
    replace HBx := Lib.hid ((hb.block _ (blk_lt HBx.out)).trans HBx.out)
    replace HBy := Lib.hid ((hb.block _ (blk_lt HBy.out)).trans HBy.out)
    replace HBz := Lib.hid ((hb.block _ (blk_lt HBz.out)).trans HBz.out)
    replace HBt := Lib.hid ((hb.block _ (blk_lt HBt.out)).trans HBt.out)
    replace HBv := Lib.hid ((hb.block _ (blk_lt HBv.out)).trans HBv.out)
    have HL10 := Lib.hid (HL9.out.trans (hb.mono HL9.out.size))
    clear hb HL9
    obtain ⟨rw0, rw1, _, _⟩ := cells2 HBw.out
    obtain ⟨rx0, rx1, _, _⟩ := cells2 HBx.out
    obtain ⟨ry0, ry1, _, _⟩ := cells2 HBy.out
    obtain ⟨rz0, rz1, _, _⟩ := cells2 HBz.out
    obtain ⟨rt0, rt1, _, _⟩ := cells2 HBt.out
    obtain ⟨rv0, rv1, _, _⟩ := cells2 HBv.out
    go_wp2_with fail
    clear rw0 rw1 rx0 rx1 ry0 ry1 rz0 rz1 rt0 rt1 rv0 rv1
    refine (has_l 18446744073709551615 3 18446744073709551613 true (by kernel_rfl) (by decide) 18446744073709551615 3 18446744073709551613 rfl rfl rfl _).mono ?_
    rintro e w11 ⟨rfl, hb⟩
    replace HBw := Lib.hid ((hb.block _ (blk_lt HBw.out)).trans HBw.out)
    replace HBx := Lib.hid ((hb.block _ (blk_lt HBx.out)).trans HBx.out)
    replace HBy := Lib.hid ((hb.block _ (blk_lt HBy.out)).trans HBy.out)
    replace HBz := Lib.hid ((hb.block _ (blk_lt HBz.out)).trans HBz.out)
    replace HBt := Lib.hid ((hb.block _ (blk_lt HBt.out)).trans HBt.out)
    replace HBv := Lib.hid ((hb.block _ (blk_lt HBv.out)).trans HBv.out)
    have HL11 := Lib.hid (HL10.out.trans (hb.mono HL10.out.size))
    clear hb HL10
    obtain ⟨rw0, rw1, _, _⟩ := cells2 HBw.out
    obtain ⟨rx0, rx1, _, _⟩ := cells2 HBx.out
    obtain ⟨ry0, ry1, _, _⟩ := cells2 HBy.out
    obtain ⟨rz0, rz1, _, _⟩ := cells2 HBz.out
    obtain ⟨rt0, rt1, _, _⟩ := cells2 HBt.out
    obtain ⟨rv0, rv1, _, _⟩ := cells2 HBv.out
    go_wp2_with fail
    clear rw0 rw1 rx0 rx1 ry0 ry1 rz0 rz1 rt0 rt1 rv0 rv1
    refine (has_l 18446744073709551615 3 18446744073709551614 true (by kernel_rfl) (by decide) 18446744073709551615 3 18446744073709551614 rfl rfl rfl _).mono ?_
    rintro e w12 ⟨rfl, hb⟩
    replace HBw := Lib.hid ((hb.block _ (blk_lt HBw.out)).trans HBw.out)
    replace HBx := Lib.hid ((hb.block _ (blk_lt HBx.out)).trans HBx.out)
    replace HBy := Lib.hid ((hb.block _ (blk_lt HBy.out)).trans HBy.out)
    replace HBz := Lib.hid ((hb.block _ (blk_lt HBz.out)).trans HBz.out)
    replace HBt := Lib.hid ((hb.block _ (blk_lt HBt.out)).trans HBt.out)
    replace HBv := Lib.hid ((hb.block _ (blk_lt HBv.out)).trans HBv.out)
    have HL12 := Lib.hid (HL11.out.trans (hb.mono HL11.out.size))
    clear hb HL11
    obtain ⟨rw0, rw1, _, _⟩ := cells2 HBw.out
    obtain ⟨rx0, rx1, _, _⟩ := cells2 HBx.out
    obtain ⟨ry0, ry1, _, _⟩ := cells2 HBy.out
    obtain ⟨rz0, rz1, _, _⟩ := cells2 HBz.out
    obtain ⟨rt0, rt1, _, _⟩ := cells2 HBt.out
    obtain ⟨rv0, rv1, _, _⟩ := cells2 HBv.out
    go_wp2_with fail
    refine (fixed_any _).mono ?_
    rintro e w99 ⟨rfl, hb⟩
    have HZ := Lib.hid (HL12.out.trans (hb.mono HL12.out.size))
    clear hb
    go_wp2_with fail
    go_ret
    exact ⟨rfl, HZ.out⟩
set_option maxRecDepth 100000 in
theorem lifted (os : Os) (started : os.Started) (H : Type) (enc : TypeId × Value → H) :
    ReturnsInHanded {} Try.checked os 8 .any (Rows.windowEndSpec.pre6 enc Try.prog Try.f8 Rows.windowEndRow.domain false) (Rows.windowEndSpec.post enc Try.prog Try.f8 false true false false) := by
  refine returnsInHanded_of_change (C := Try.checked) own started (by kernel_rfl) Try.func8
    (ChangeSpec.witness6 (enc := enc) (C := Try.checked) false ⟨#[], #[.int .u64 0, .int .u64 0], []⟩ 8 (by kernel_rfl) (by kernel_rfl) (by kernel_rfl) (by kernel_rfl)) ?_
  intro W base args ds gs before hval0 hW hcnd _
  have hval : ∀ (j : Nat) t v, Try.f8.params[j]? = some t → args[j]? = some v → Value.okWide Try.prog W .any base t v := hval0
  have hW' := hW
  obtain ⟨p, q, hA0, hV, rfl, hfz, hnd⟩ := hW
  have hA : DataW.TrodAll enc Try.prog W 0 (fun _ => true) true Try.f8.params.toList args.toList ds p := hA0
  rw [Try.params8] at hA hval
  obtain ⟨v0, vs0, d0, ds0, p0, q0, hargs, rfl, rfl, h0, r0⟩ := trodAll_cons hA
  obtain ⟨v1, vs1, d1, ds1, p1, q1, rfl, rfl, rfl, h1, r1⟩ := trodAll_cons r0
  obtain ⟨rfl, rfl, rfl⟩ := trodAll_nil r1
  obtain rfl : args = #[v0, v1] := by cases args; simp_all
  obtain ⟨rfl, rfl⟩ := trodVars_none hV
  obtain ⟨a0, rfl, rfl, rfl, w0⟩ := open_int Try.underlying22 (hval 0 22 v0 rfl rfl) h0
  obtain ⟨a1, rfl, rfl, rfl, w1⟩ := open_int Try.underlying22 (hval 1 22 v1 rfl rfl) h1
  clear hA0 hval0
  refine (walk a0 a1 W w0 w1).mono fun e W' ⟨he, bel⟩ => ?_
  subst he
  exact ⟨_, rfl, _, _, _, [], _, [], hW', trodAll_mk1 (shut_bool Try.underlying4 _), (trodAll_cons_mk (shut_int Try.underlying22 w0) (trodAll_cons_mk (shut_int Try.underlying22 w1) trodAll_mk0)), rfl, bel.frame _, fun h => by cases h⟩

theorem over : Rows.windowEndRow.holds Try.pinned (OpenSpec.ofChange Rows.windowEndSpec) :=
  OpenClaim.holds_of_wide 8 Try.f8 rfl rfl rfl rfl rfl rfl rfl ⟨rfl, rfl, rfl, rfl, rfl⟩ rfl rfl rfl rfl rfl (by kernel_rfl) Try.func8 (by kernel_rfl)
    (of_decide_eq_true (by kernel_rfl)) (by unfold Func.isWrapper; first | (rw [if_pos (by decide +kernel)]; kernel_rfl) | (rw [if_neg (by decide +kernel)]; exact ⟨rfl, rfl⟩))
    (fun os started H enc _ => lifted os started H enc)

theorem proved : Rows.WindowEndSaid := over
#print axioms proved
end Go.Proofs.Ytkdjlhnddnolaaa.windowEnd
