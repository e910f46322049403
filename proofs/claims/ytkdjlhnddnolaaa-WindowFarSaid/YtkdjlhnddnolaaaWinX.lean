/- Windows: the fixed calls. -/
import Derived.Test.YtkdjlhnddnolaaaWinP
namespace Go.Proofs.Ytkdjlhnddnolaaa
open Go.RowKit
set_option linter.unusedVariables false
set_option linter.unusedSimpArgs false
set_option maxRecDepth 20000
set_option maxHeartbeats 1000000 in
set_option maxRecDepth 100000 in
theorem fixed_any (w : World) : Calls Try.prog 16 #[] w fun e w' => e = .returned (.bool true) ∧ Below w.heap.size w w' := by
  go_enter Try.func16, Try.ntmps16
  go_wp2_with fail
  refine (take_l 0 0 5 6 1 0 (by kernel_rfl) (by decide) 0 0 5 6 1 0 rfl rfl rfl rfl rfl rfl _).mono ?_
  rintro e w1 ⟨rfl, hb⟩
  have HL1 := Lib.hid hb
  clear hb
  go_wp2_with fail
  refine (take_l 6 1 3 6 5 0 (by kernel_rfl) (by decide) 6 1 3 6 5 0 rfl rfl rfl rfl rfl rfl _).mono ?_
  rintro e w2 ⟨rfl, hb⟩
  have hba := below_alloc w1 (.cells #[.int .u64 6, .int .u64 1] 24 : Obj)
  have HBa := Lib.hid ((hb.block _ (blk_lt (heap_alloc_new w1 (.cells #[.int .u64 6, .int .u64 1] 24 : Obj)))).trans (heap_alloc_new w1 (.cells #[.int .u64 6, .int .u64 1] 24 : Obj)))
  have HL2 := Lib.hid (HL1.out.trans ((hba.trans (hb.mono hba.size)).mono HL1.out.size))
  clear hba hb HL1
  obtain ⟨ra0, ra1, _, _⟩ := cells2 (((below_alloc w2 (.cells #[.int .u64 6, .int .u64 5] 24 : Obj)).block _ (blk_lt HBa.out)).trans HBa.out)
  go_wp2_with fail
  clear ra0 ra1
  refine (take_l 6 5 5 0 0 12 (by kernel_rfl) (by decide) 6 5 5 0 0 12 rfl rfl rfl rfl rfl rfl _).mono ?_
  rintro e w3 ⟨rfl, hb⟩
  have hba := below_alloc w2 (.cells #[.int .u64 6, .int .u64 5] 24 : Obj)
  replace HBa := Lib.hid (((hba.trans (hb.mono hba.size)).block _ (blk_lt HBa.out)).trans HBa.out)
  have HBb := Lib.hid ((hb.block _ (blk_lt (heap_alloc_new w2 (.cells #[.int .u64 6, .int .u64 5] 24 : Obj)))).trans (heap_alloc_new w2 (.cells #[.int .u64 6, .int .u64 5] 24 : Obj)))
  have HL3 := Lib.hid (HL2.out.trans ((hba.trans (hb.mono hba.size)).mono HL2.out.size))
  clear hba hb HL2
  obtain ⟨ra0, ra1, _, _⟩ := cells2 (((below_alloc w3 (.cells #[.int .u64 0, .int .u64 0] 24 : Obj)).block _ (blk_lt HBa.out)).trans HBa.out)
  obtain ⟨rb0, rb1, _, _⟩ := cells2 (((below_alloc w3 (.cells #[.int .u64 0, .int .u64 0] 24 : Obj)).block _ (blk_lt HBb.out)).trans HBb.out)
  go_wp2_with fail
  clear ra0 ra1 rb0 rb1
  refine (take_l 6 5 7 8 21 0 (by kernel_rfl) (by decide) 6 5 7 8 21 0 rfl rfl rfl rfl rfl rfl _).mono ?_
  rintro e w4 ⟨rfl, hb⟩
  have hba := below_alloc w3 (.cells #[.int .u64 0, .int .u64 0] 24 : Obj)
  replace HBa := Lib.hid (((hba.trans (hb.mono hba.size)).block _ (blk_lt HBa.out)).trans HBa.out)
  replace HBb := Lib.hid (((hba.trans (hb.mono hba.size)).block _ (blk_lt HBb.out)).trans HBb.out)
  have HBz1 := Lib.hid ((hb.block _ (blk_lt (heap_alloc_new w3 (.cells #[.int .u64 0, .int .u64 0] 24 : Obj)))).trans (heap_alloc_new w3 (.cells #[.int .u64 0, .int .u64 0] 24 : Obj)))
  have HL4 := Lib.hid (HL3.out.trans ((hba.trans (hb.mono hba.size)).mono HL3.out.size))
  clear hba hb HL3
  obtain ⟨ra0, ra1, _, _⟩ := cells2 (((below_alloc w4 (.cells #[.int .u64 8, .int .u64 21] 24 : Obj)).block _ (blk_lt HBa.out)).trans HBa.out)
  obtain ⟨rb0, rb1, _, _⟩ := cells2 (((below_alloc w4 (.cells #[.int .u64 8, .int .u64 21] 24 : Obj)).block _ (blk_lt HBb.out)).trans HBb.out)
  obtain ⟨rz10, rz11, _, _⟩ := cells2 (((below_alloc w4 (.cells #[.int .u64 8, .int .u64 21] 24 : Obj)).block _ (blk_lt HBz1.out)).trans HBz1.out)
  go_wp2_with fail
  clear ra0 ra1 rb0 rb1 rz10 rz11
  refine (take_l 8 21 100 101 1 0 (by kernel_rfl) (by decide) 8 21 100 101 1 0 rfl rfl rfl rfl rfl rfl _).mono ?_
  rintro e w5 ⟨rfl, hb⟩
  have hba := below_alloc w4 (.cells #[.int .u64 8, .int .u64 21] 24 : Obj)
  replace HBa := Lib.hid (((hba.trans (hb.mono hba.size)).block _ (blk_lt HBa.out)).trans HBa.out)
  replace HBb := Lib.hid (((hba.trans (hb.mono hba.size)).block _ (blk_lt HBb.out)).trans HBb.out)
  replace HBz1 := Lib.hid (((hba.trans (hb.mono hba.size)).block _ (blk_lt HBz1.out)).trans HBz1.out)
  have HBc := Lib.hid ((hb.block _ (blk_lt (heap_alloc_new w4 (.cells #[.int .u64 8, .int .u64 21] 24 : Obj)))).trans (heap_alloc_new w4 (.cells #[.int .u64 8, .int .u64 21] 24 : Obj)))
  have HL5 := Lib.hid (HL4.out.trans ((hba.trans (hb.mono hba.size)).mono HL4.out.size))
  clear hba hb HL4
  obtain ⟨ra0, ra1, _, _⟩ := cells2 (((below_alloc w5 (.cells #[.int .u64 101, .int .u64 1] 24 : Obj)).block _ (blk_lt HBa.out)).trans HBa.out)
  obtain ⟨rb0, rb1, _, _⟩ := cells2 (((below_alloc w5 (.cells #[.int .u64 101, .int .u64 1] 24 : Obj)).block _ (blk_lt HBb.out)).trans HBb.out)
  obtain ⟨rz10, rz11, _, _⟩ := cells2 (((below_alloc w5 (.cells #[.int .u64 101, .int .u64 1] 24 : Obj)).block _ (blk_lt HBz1.out)).trans HBz1.out)
  obtain ⟨rc0, rc1, _, _⟩ := cells2 (((below_alloc w5 (.cells #[.int .u64 101, .int .u64 1] 24 : Obj)).block _ (blk_lt HBc.out)).trans HBc.out)
  go_wp2_with fail
  clear ra0 ra1 rb0 rb1 rz10 rz11 rc0 rc1
  refine (take_l 101 1 36 0 0 12 (by kernel_rfl) (by decide) 101 1 36 0 0 12 rfl rfl rfl rfl rfl rfl _).mono ?_
  rintro e w6 ⟨rfl, hb⟩
  have hba := below_alloc w5 (.cells #[.int .u64 101, .int .u64 1] 24 : Obj)
  replace HBa := Lib.hid (((hba.trans (hb.mono hba.size)).block _ (blk_lt HBa.out)).trans HBa.out)
  replace HBb := Lib.hid (((hba.trans (hb.mono hba.size)).block _ (blk_lt HBb.out)).trans HBb.out)
  replace HBz1 := Lib.hid (((hba.trans (hb.mono hba.size)).block _ (blk_lt HBz1.out)).trans HBz1.out)
  replace HBc := Lib.hid (((hba.trans (hb.mono hba.size)).block _ (blk_lt HBc.out)).trans HBc.out)
  have HBd := Lib.hid ((hb.block _ (blk_lt (heap_alloc_new w5 (.cells #[.int .u64 101, .int .u64 1] 24 : Obj)))).trans (heap_alloc_new w5 (.cells #[.int .u64 101, .int .u64 1] 24 : Obj)))
  have HL6 := Lib.hid (HL5.out.trans ((hba.trans (hb.mono hba.size)).mono HL5.out.size))
  clear hba hb HL5
  obtain ⟨ra0, ra1, _, _⟩ := cells2 (((below_alloc w6 (.cells #[.int .u64 0, .int .u64 0] 24 : Obj)).block _ (blk_lt HBa.out)).trans HBa.out)
  obtain ⟨rb0, rb1, _, _⟩ := cells2 (((below_alloc w6 (.cells #[.int .u64 0, .int .u64 0] 24 : Obj)).block _ (blk_lt HBb.out)).trans HBb.out)
  obtain ⟨rz10, rz11, _, _⟩ := cells2 (((below_alloc w6 (.cells #[.int .u64 0, .int .u64 0] 24 : Obj)).block _ (blk_lt HBz1.out)).trans HBz1.out)
  obtain ⟨rc0, rc1, _, _⟩ := cells2 (((below_alloc w6 (.cells #[.int .u64 0, .int .u64 0] 24 : Obj)).block _ (blk_lt HBc.out)).trans HBc.out)
  obtain ⟨rd0, rd1, _, _⟩ := cells2 (((below_alloc w6 (.cells #[.int .u64 0, .int .u64 0] 24 : Obj)).block _ (blk_lt HBd.out)).trans HBd.out)
  go_wp2_with fail
  clear ra0 ra1 rb0 rb1 rz10 rz11 rc0 rc1 rd0 rd1
  refine (take_l 101 1 18446744073709551615 0 0 1 (by kernel_rfl) (by decide) 101 1 18446744073709551615 0 0 1 rfl rfl rfl rfl rfl rfl _).mono ?_
  rintro e w7 ⟨rfl, hb⟩
  have hba := below_alloc w6 (.cells #[.int .u64 0, .int .u64 0] 24 : Obj)
  replace HBa := Lib.hid (((hba.trans (hb.mono hba.size)).block _ (blk_lt HBa.out)).trans HBa.out)
  replace HBb := Lib.hid (((hba.trans (hb.mono hba.size)).block _ (blk_lt HBb.out)).trans HBb.out)
  replace HBz1 := Lib.hid (((hba.trans (hb.mono hba.size)).block _ (blk_lt HBz1.out)).trans HBz1.out)
  replace HBc := Lib.hid (((hba.trans (hb.mono hba.size)).block _ (blk_lt HBc.out)).trans HBc.out)
  replace HBd := Lib.hid (((hba.trans (hb.mono hba.size)).block _ (blk_lt HBd.out)).trans HBd.out)
  have HBz2 := Lib.hid ((hb.block _ (blk_lt (heap_alloc_new w6 (.cells #[.int .u64 0, .int .u64 0] 24 : Obj)))).trans (heap_alloc_new w6 (.cells #[.int .u64 0, .int .u64 0] 24 : Obj)))
  have HL7 := Lib.hid (HL6.out.trans ((hba.trans (hb.mono hba.size)).mono HL6.out.size))
  clear hba hb HL6
  obtain ⟨ra0, ra1, _, _⟩ := cells2 (((below_alloc w7 (.cells #[.int .u64 0, .int .u64 0] 24 : Obj)).block _ (blk_lt HBa.out)).trans HBa.out)
  obtain ⟨rb0, rb1, _, _⟩ := cells2 (((below_alloc w7 (.cells #[.int .u64 0, .int .u64 0] 24 : Obj)).block _ (blk_lt HBb.out)).trans HBb.out)
  obtain ⟨rz10, rz11, _, _⟩ := cells2 (((below_alloc w7 (.cells #[.int .u64 0, .int .u64 0] 24 : Obj)).block _ (blk_lt HBz1.out)).trans HBz1.out)
  obtain ⟨rc0, rc1, _, _⟩ := cells2 (((below_alloc w7 (.cells #[.int .u64 0, .int .u64 0] 24 : Obj)).block _ (blk_lt HBc.out)).trans HBc.out)
  obtain ⟨rd0, rd1, _, _⟩ := cells2 (((below_alloc w7 (.cells #[.int .u64 0, .int .u64 0] 24 : Obj)).block _ (blk_lt HBd.out)).trans HBd.out)
  obtain ⟨rz20, rz21, _, _⟩ := cells2 (((below_alloc w7 (.cells #[.int .u64 0, .int .u64 0] 24 : Obj)).block _ (blk_lt HBz2.out)).trans HBz2.out)
  go_wp2_with fail
  clear ra0 ra1 rb0 rb1 rz10 rz11 rc0 rc1 rd0 rd1 rz20 rz21
  refine (can_l 101 1 37 true (by decide +kernel) (by decide) 101 1 37 rfl rfl rfl _).mono ?_
  rintro e w8 ⟨rfl, hb⟩
  have hba := below_alloc w7 (.cells #[.int .u64 0, .int .u64 0] 24 : Obj)
  replace HBa := Lib.hid (((hba.trans (hb.mono hba.size)).block _ (blk_lt HBa.out)).trans HBa.out)
  replace HBb := Lib.hid (((hba.trans (hb.mono hba.size)).block _ (blk_lt HBb.out)).trans HBb.out)
  replace HBz1 := Lib.hid (((hba.trans (hb.mono hba.size)).block _ (blk_lt HBz1.out)).trans HBz1.out)
  replace HBc := Lib.hid (((hba.trans (hb.mono hba.size)).block _ (blk_lt HBc.out)).trans HBc.out)
  replace HBd := Lib.hid (((hba.trans (hb.mono hba.size)).block _ (blk_lt HBd.out)).trans HBd.out)
  replace HBz2 := Lib.hid (((hba.trans (hb.mono hba.size)).block _ (blk_lt HBz2.out)).trans HBz2.out)
  have HBz3 := Lib.hid ((hb.block _ (blk_lt (heap_alloc_new w7 (.cells #[.int .u64 0, .int .u64 0] 24 : Obj)))).trans (heap_alloc_new w7 (.cells #[.int .u64 0, .int .u64 0] 24 : Obj)))
  have HL8 := Lib.hid (HL7.out.trans ((hba.trans (hb.mono hba.size)).mono HL7.out.size))
  clear hba hb HL7
  obtain ⟨ra0, ra1, _, _⟩ := cells2 HBa.out
  obtain ⟨rb0, rb1, _, _⟩ := cells2 HBb.out
  obtain ⟨rz10, rz11, _, _⟩ := cells2 HBz1.out
  obtain ⟨rc0, rc1, _, _⟩ := cells2 HBc.out
  obtain ⟨rd0, rd1, _, _⟩ := cells2 HBd.out
  obtain ⟨rz20, rz21, _, _⟩ := cells2 HBz2.out
  obtain ⟨rz30, rz31, _, _⟩ := cells2 HBz3.out
  go_wp2_with fail
  clear ra0 ra1 rb0 rb1 rz10 rz11 rc0 rc1 rd0 rd1 rz20 rz21 rz30 rz31
  refine (can_l 101 1 36 false (by decide +kernel) (by decide) 101 1 36 rfl rfl rfl _).mono ?_
  rintro e w9 ⟨rfl, hb⟩
  replace HBa := Lib.hid ((hb.block _ (blk_lt HBa.out)).trans HBa.out)
  replace HBb := Lib.hid ((hb.block _ (blk_lt HBb.out)).trans HBb.out)
  replace HBz1 := Lib.hid ((hb.block _ (blk_lt HBz1.out)).trans HBz1.out)
  replace HBc := Lib.hid ((hb.block _ (blk_lt HBc.out)).trans HBc.out)
  replace HBd := Lib.hid ((hb.block _ (blk_lt HBd.out)).trans HBd.out)
  replace HBz2 := Lib.hid ((hb.block _ (blk_lt HBz2.out)).trans HBz2.out)
  replace HBz3 := Lib.hid ((hb.block _ (blk_lt HBz3.out)).trans HBz3.out)
  have HL9 := Lib.hid (HL8.out.trans (hb.mono HL8.out.size))
  clear hb HL8
  obtain ⟨ra0, ra1, _, _⟩ := cells2 HBa.out
  obtain ⟨rb0, rb1, _, _⟩ := cells2 HBb.out
  obtain ⟨rz10, rz11, _, _⟩ := cells2 HBz1.out
  obtain ⟨rc0, rc1, _, _⟩ := cells2 HBc.out
  obtain ⟨rd0, rd1, _, _⟩ := cells2 HBd.out
  obtain ⟨rz20, rz21, _, _⟩ := cells2 HBz2.out
  obtain ⟨rz30, rz31, _, _⟩ := cells2 HBz3.out
  go_wp2_with fail
  clear ra0 ra1 rb0 rb1 rz10 rz11 rc0 rc1 rd0 rd1 rz20 rz21 rz30 rz31
  refine (has_l 8 21 5 true (by decide +kernel) (by decide) 8 21 5 rfl rfl rfl _).mono ?_
  rintro e w10 ⟨rfl, hb⟩
  replace HBa := Lib.hid ((hb.block _ (blk_lt HBa.out)).trans HBa.out)
  replace HBb := Lib.hid ((hb.block _ (blk_lt HBb.out)).trans HBb.out)
  replace HBz1 := Lib.hid ((hb.block _ (blk_lt HBz1.out)).trans HBz1.out)
  replace HBc := Lib.hid ((hb.block _ (blk_lt HBc.out)).trans HBc.out)
  replace HBd := Lib.hid ((hb.block _ (blk_lt HBd.out)).trans HBd.out)
  replace HBz2 := Lib.hid ((hb.block _ (blk_lt HBz2.out)).trans HBz2.out)
  replace HBz3 := Lib.hid ((hb.block _ (blk_lt HBz3.out)).trans HBz3.out)
  have HL10 := Lib.hid (HL9.out.trans (hb.mono HL9.out.size))
  clear hb HL9
  obtain ⟨ra0, ra1, _, _⟩ := cells2 HBa.out
  obtain ⟨rb0, rb1, _, _⟩ := cells2 HBb.out
  obtain ⟨rz10, rz11, _, _⟩ := cells2 HBz1.out
  obtain ⟨rc0, rc1, _, _⟩ := cells2 HBc.out
  obtain ⟨rd0, rd1, _, _⟩ := cells2 HBd.out
  obtain ⟨rz20, rz21, _, _⟩ := cells2 HBz2.out
  obtain ⟨rz30, rz31, _, _⟩ := cells2 HBz3.out
  go_wp2_with fail
  clear ra0 ra1 rb0 rb1 rz10 rz11 rc0 rc1 rd0 rd1 rz20 rz21 rz30 rz31
  refine (has_l 8 21 4 false (by decide +kernel) (by decide) 8 21 4 rfl rfl rfl _).mono ?_
  rintro e w11 ⟨rfl, hb⟩
  replace HBa := Lib.hid ((hb.block _ (blk_lt HBa.out)).trans HBa.out)
  replace HBb := Lib.hid ((hb.block _ (blk_lt HBb.out)).trans HBb.out)
  replace HBz1 := Lib.hid ((hb.block _ (blk_lt HBz1.out)).trans HBz1.out)
  replace HBc := Lib.hid ((hb.block _ (blk_lt HBc.out)).trans HBc.out)
  replace HBd := Lib.hid ((hb.block _ (blk_lt HBd.out)).trans HBd.out)
  replace HBz2 := Lib.hid ((hb.block _ (blk_lt HBz2.out)).trans HBz2.out)
  replace HBz3 := Lib.hid ((hb.block _ (blk_lt HBz3.out)).trans HBz3.out)
  have HL11 := Lib.hid (HL10.out.trans (hb.mono HL10.out.size))
  clear hb HL10
  obtain ⟨ra0, ra1, _, _⟩ := cells2 HBa.out
  obtain ⟨rb0, rb1, _, _⟩ := cells2 HBb.out
  obtain ⟨rz10, rz11, _, _⟩ := cells2 HBz1.out
  obtain ⟨rc0, rc1, _, _⟩ := cells2 HBc.out
  obtain ⟨rd0, rd1, _, _⟩ := cells2 HBd.out
  obtain ⟨rz20, rz21, _, _⟩ := cells2 HBz2.out
  obtain ⟨rz30, rz31, _, _⟩ := cells2 HBz3.out
  go_wp2_with fail
  clear ra0 ra1 rb0 rb1 rz10 rz11 rc0 rc1 rd0 rd1 rz20 rz21 rz30 rz31
  refine (has_l 0 0 0 false (by decide +kernel) (by decide) 0 0 0 rfl rfl rfl _).mono ?_
  rintro e w12 ⟨rfl, hb⟩
  replace HBa := Lib.hid ((hb.block _ (blk_lt HBa.out)).trans HBa.out)
  replace HBb := Lib.hid ((hb.block _ (blk_lt HBb.out)).trans HBb.out)
  replace HBz1 := Lib.hid ((hb.block _ (blk_lt HBz1.out)).trans HBz1.out)
  replace HBc := Lib.hid ((hb.block _ (blk_lt HBc.out)).trans HBc.out)
  replace HBd := Lib.hid ((hb.block _ (blk_lt HBd.out)).trans HBd.out)
  replace HBz2 := Lib.hid ((hb.block _ (blk_lt HBz2.out)).trans HBz2.out)
  replace HBz3 := Lib.hid ((hb.block _ (blk_lt HBz3.out)).trans HBz3.out)
  have HL12 := Lib.hid (HL11.out.trans (hb.mono HL11.out.size))
  clear hb HL11
  obtain ⟨ra0, ra1, _, _⟩ := cells2 HBa.out
  obtain ⟨rb0, rb1, _, _⟩ := cells2 HBb.out
  obtain ⟨rz10, rz11, _, _⟩ := cells2 HBz1.out
  obtain ⟨rc0, rc1, _, _⟩ := cells2 HBc.out
  obtain ⟨rd0, rd1, _, _⟩ := cells2 HBd.out
  obtain ⟨rz20, rz21, _, _⟩ := cells2 HBz2.out
  obtain ⟨rz30, rz31, _, _⟩ := cells2 HBz3.out
  go_wp2_with fail
  clear ra0 ra1 rb0 rb1 rz10 rz11 rc0 rc1 rd0 rd1 rz20 rz21 rz30 rz31
  refine (can_l 0 0 0 true (by decide +kernel) (by decide) 0 0 0 rfl rfl rfl _).mono ?_
  rintro e w13 ⟨rfl, hb⟩
  replace HBa := Lib.hid ((hb.block _ (blk_lt HBa.out)).trans HBa.out)
  replace HBb := Lib.hid ((hb.block _ (blk_lt HBb.out)).trans HBb.out)
  replace HBz1 := Lib.hid ((hb.block _ (blk_lt HBz1.out)).trans HBz1.out)
  replace HBc := Lib.hid ((hb.block _ (blk_lt HBc.out)).trans HBc.out)
  replace HBd := Lib.hid ((hb.block _ (blk_lt HBd.out)).trans HBd.out)
  replace HBz2 := Lib.hid ((hb.block _ (blk_lt HBz2.out)).trans HBz2.out)
  replace HBz3 := Lib.hid ((hb.block _ (blk_lt HBz3.out)).trans HBz3.out)
  have HL13 := Lib.hid (HL12.out.trans (hb.mono HL12.out.size))
  clear hb HL12
  go_wp2_with fail
  go_ret
  exact ⟨rfl, HL13.out⟩
end Go.Proofs.Ytkdjlhnddnolaaa
