/- The fixed calls of stage 7: that they answer true, and nothing that was there turns. -/
import Derived.Test.YtlejejeflgnglaaSymQ
import Derived.Test.YtlejejeflgnglaaSymE
namespace Go.Proofs.Ytlejejeflgnglaa
open Go.RowKit
set_option linter.unusedVariables false
set_option linter.unusedSimpArgs false
set_option maxRecDepth 20000

def xS : ByteArray := { data := #[120] }
theorem x_wf : xS.size ≤ maxLen := by decide
theorem x_tl : xS.toList = [120] := by rw [ByteArray.toList_eq]; rfl
theorem x_sz : xS.size = 1 := rfl
theorem wfA : Sy.Wf ⟨1, 0, 1, 0⟩ := ⟨k1, k0, k1, u0⟩
theorem wfB : Sy.Wf ⟨3, 4, 1, 0⟩ := ⟨k3, k4, k1, u0⟩
theorem wfC : Sy.Wf ⟨3, 4, 6, 1⟩ := ⟨k3, k4, k6, u1⟩
theorem py1 : beginF [] 20 xS = ((⟨1, 0, 1, 0⟩ : Sy), 0, [textT xS]) := by simp [putF, Tm.may, May, below3, BadP, many, prt, nameOf, eqB, tl0, sz0, x_tl, x_sz, List.findIdx?_cons, zeroT, sealT, textT, hashT, keyT, getT, openF, wrong, mixF, beginF, sayF, turnF, sealF, unsealF, splitF, lastN, zeroY]
theorem py2 : turnF [textT xS] 20 (⟨1, 0, 1, 0⟩ : Sy) 1 = ((⟨3, 4, 1, 0⟩ : Sy), 0, [textT xS, hashT 1 1, keyT 2 1, keyT 2 2]) := by simp [putF, Tm.may, May, below3, BadP, many, prt, nameOf, eqB, tl0, sz0, x_tl, x_sz, List.findIdx?_cons, zeroT, sealT, textT, hashT, keyT, getT, openF, wrong, mixF, beginF, sayF, turnF, sealF, unsealF, splitF, lastN, zeroY]
theorem py3 : sealF [textT xS, hashT 1 1, keyT 2 1, keyT 2 2] 20 (⟨3, 4, 1, 0⟩ : Sy) 1 = ((⟨3, 4, 6, 1⟩ : Sy), 5, 0, [textT xS, hashT 1 1, keyT 2 1, keyT 2 2, sealT 4 0 1 1, hashT 1 5]) := by simp [putF, Tm.may, May, below3, BadP, many, prt, nameOf, eqB, tl0, sz0, x_tl, x_sz, List.findIdx?_cons, zeroT, sealT, textT, hashT, keyT, getT, openF, wrong, mixF, beginF, sayF, turnF, sealF, unsealF, splitF, lastN, zeroY]
theorem py4 : unsealF [textT xS, hashT 1 1, keyT 2 1, keyT 2 2, sealT 4 0 1 1, hashT 1 5] 20 (⟨3, 4, 1, 0⟩ : Sy) 5 = ((⟨3, 4, 6, 1⟩ : Sy), 1, 0, [textT xS, hashT 1 1, keyT 2 1, keyT 2 2, sealT 4 0 1 1, hashT 1 5]) := by simp [putF, Tm.may, May, below3, BadP, many, prt, nameOf, eqB, tl0, sz0, x_tl, x_sz, List.findIdx?_cons, zeroT, sealT, textT, hashT, keyT, getT, openF, wrong, mixF, beginF, sayF, turnF, sealF, unsealF, splitF, lastN, zeroY]
theorem py5 : sealF [textT xS, hashT 1 1, keyT 2 1, keyT 2 2, sealT 4 0 1 1, hashT 1 5] 20 (⟨1, 0, 1, 0⟩ : Sy) 1 = (zeroY, 0, 7, [textT xS, hashT 1 1, keyT 2 1, keyT 2 2, sealT 4 0 1 1, hashT 1 5]) := by simp [putF, Tm.may, May, below3, BadP, many, prt, nameOf, eqB, tl0, sz0, x_tl, x_sz, List.findIdx?_cons, zeroT, sealT, textT, hashT, keyT, getT, openF, wrong, mixF, beginF, sayF, turnF, sealF, unsealF, splitF, lastN, zeroY]
theorem py6 : unsealF [textT xS, hashT 1 1, keyT 2 1, keyT 2 2, sealT 4 0 1 1, hashT 1 5] 20 (⟨3, 4, 6, 1⟩ : Sy) 5 = (zeroY, 0, 9, [textT xS, hashT 1 1, keyT 2 1, keyT 2 2, sealT 4 0 1 1, hashT 1 5]) := by simp [putF, Tm.may, May, below3, BadP, many, prt, nameOf, eqB, tl0, sz0, x_tl, x_sz, List.findIdx?_cons, zeroT, sealT, textT, hashT, keyT, getT, openF, wrong, mixF, beginF, sayF, turnF, sealF, unsealF, splitF, lastN, zeroY]
theorem py7 : splitF [textT xS, hashT 1 1, keyT 2 1, keyT 2 2, sealT 4 0 1 1, hashT 1 5] 20 (⟨3, 4, 6, 1⟩ : Sy) = (9, 10, 0, [textT xS, hashT 1 1, keyT 2 1, keyT 2 2, sealT 4 0 1 1, hashT 1 5, textT ⟨#[]⟩, hashT 3 7, keyT 8 1, keyT 8 2]) := by simp [putF, Tm.may, May, below3, BadP, many, prt, nameOf, eqB, tl0, sz0, x_tl, x_sz, List.findIdx?_cons, zeroT, sealT, textT, hashT, keyT, getT, openF, wrong, mixF, beginF, sayF, turnF, sealF, unsealF, splitF, lastN, zeroY]
theorem py8 : splitF [textT xS, hashT 1 1, keyT 2 1, keyT 2 2, sealT 4 0 1 1, hashT 1 5, textT ⟨#[]⟩, hashT 3 7, keyT 8 1, keyT 8 2] 20 (⟨3, 4, 6, 1⟩ : Sy) = (9, 10, 0, [textT xS, hashT 1 1, keyT 2 1, keyT 2 2, sealT 4 0 1 1, hashT 1 5, textT ⟨#[]⟩, hashT 3 7, keyT 8 1, keyT 8 2]) := by simp [putF, Tm.may, May, below3, BadP, many, prt, nameOf, eqB, tl0, sz0, x_tl, x_sz, List.findIdx?_cons, zeroT, sealT, textT, hashT, keyT, getT, openF, wrong, mixF, beginF, sayF, turnF, sealF, unsealF, splitF, lastN, zeroY]
theorem py9 : sayF [textT xS, hashT 1 1, keyT 2 1, keyT 2 2, sealT 4 0 1 1, hashT 1 5, textT ⟨#[]⟩, hashT 3 7, keyT 8 1, keyT 8 2] 20 (⟨1, 0, 1, 0⟩ : Sy) 99 = (zeroY, 1, [textT xS, hashT 1 1, keyT 2 1, keyT 2 2, sealT 4 0 1 1, hashT 1 5, textT ⟨#[]⟩, hashT 3 7, keyT 8 1, keyT 8 2]) := by simp [putF, Tm.may, May, below3, BadP, many, prt, nameOf, eqB, tl0, sz0, x_tl, x_sz, List.findIdx?_cons, zeroT, sealT, textT, hashT, keyT, getT, openF, wrong, mixF, beginF, sayF, turnF, sealF, unsealF, splitF, lastN, zeroY]

set_option maxHeartbeats 4000000 in
set_option maxRecDepth 100000 in
theorem fixed_any (w : World) : Calls Try.prog 25 #[] w fun e w' => e = .returned (.bool true) ∧ Below w.heap.size w w' := by
  have gN := NoS.good w.heap.size
  have gP := fun g => PSq.good w.heap.size g 20
  go_enter Try.func25, Try.ntmps25
  go_wp2_with fail
  refine (Pair.new1 (base := w.heap.size) (w0 := w) rfl (Below.refl _ _) (by omega) (by omega)).mono ?_
  rintro e w1 ⟨g, rfl, h1⟩
  have HP1 := Lib.hid h1
  clear h1
  go_wp2_with fail
  refine (HP1.out.beginP gN x_wf py1).mono ?_
  rintro e w2 ⟨rfl, hp, hk⟩
  simp only [Sy.v, zeroY]
  have HP2 := Lib.hid (Pair.box (gP g) gN hp (.cells #[.int .i64 1, .int .i64 0, .int .i64 1, .int .u64 0] 25))
  clear hp hk HP1 
  go_wp2_with fail
  refine (HP2.out.turnP gN wfA k1 py2).mono ?_
  rintro e w3 ⟨rfl, hp, hk⟩
  simp only [Sy.v, zeroY]
  have hx0 : w3.heap[w2.heap.size]? = some (.cells #[.int .i64 1, .int .i64 0, .int .i64 1, .int .u64 0] 25 (0, 0)) := (hk _ (.inr rfl)).trans (heap_alloc_new w2 _)
  have HX0 := Lib.hid hx0
  have HP3 := Lib.hid (Pair.box (gP g) gN hp (.cells #[.int .i64 3, .int .i64 4, .int .i64 1, .int .u64 0] 25))
  clear hp hk HP2 hx0
  go_wp2_with fail
  refine (HP3.out.ysealP gN wfB k1 py3).mono ?_
  rintro e w4 ⟨rfl, hp, hk⟩
  simp only [Sy.v, zeroY]
  have hx0 : w4.heap[w2.heap.size]? = some (.cells #[.int .i64 1, .int .i64 0, .int .i64 1, .int .u64 0] 25 (0, 0)) := (hk _ ((.inl (.inr rfl)))).trans ((heap_alloc_old _ _ (lt_of_block HX0.out)).trans HX0.out)
  have hx1 : w4.heap[w3.heap.size]? = some (.cells #[.int .i64 3, .int .i64 4, .int .i64 1, .int .u64 0] 25 (0, 0)) := (hk _ (.inr rfl)).trans (heap_alloc_new w3 _)
  clear HX0
  have HX0 := Lib.hid hx0
  have HX1 := Lib.hid hx1
  have HP4 := Lib.hid (Pair.box (gP g) gN hp (.cells #[.int .i64 3, .int .i64 4, .int .i64 6, .int .u64 1] 25))
  clear hp hk HP3 hx0 hx1
  have c1_0 := cell_of_row w4 _ 0 _ _ _ HX1.out
  have c1_1 := cell_of_row w4 _ 1 _ _ _ HX1.out
  have c1_2 := cell_of_row w4 _ 2 _ _ _ HX1.out
  have c1_3 := cell_of_row w4 _ 3 _ _ _ HX1.out
  have lt1 := lt_of_block HX1.out
  simp at c1_0 c1_1 c1_2 c1_3
  go_wp2_with fail
  refine (HP4.out.yopenP gN wfB k5 py4).mono ?_
  rintro e w5 ⟨rfl, hp, hk⟩
  simp only [Sy.v, zeroY]
  have hx0 : w5.heap[w2.heap.size]? = some (.cells #[.int .i64 1, .int .i64 0, .int .i64 1, .int .u64 0] 25 (0, 0)) := (hk _ ((.inl (.inl (.inr rfl))))).trans ((heap_alloc_old _ _ (lt_of_block HX0.out)).trans HX0.out)
  have hx1 : w5.heap[w3.heap.size]? = some (.cells #[.int .i64 3, .int .i64 4, .int .i64 1, .int .u64 0] 25 (0, 0)) := (hk _ ((.inl (.inr rfl)))).trans ((heap_alloc_old _ _ (lt_of_block HX1.out)).trans HX1.out)
  have hx2 : w5.heap[w4.heap.size]? = some (.cells #[.int .i64 3, .int .i64 4, .int .i64 6, .int .u64 1] 25 (0, 0)) := (hk _ (.inr rfl)).trans (heap_alloc_new w4 _)
  clear HX0 HX1
  have HX0 := Lib.hid hx0
  have HX1 := Lib.hid hx1
  have HX2 := Lib.hid hx2
  have HP5 := Lib.hid (Pair.box (gP g) gN hp (.cells #[.int .i64 3, .int .i64 4, .int .i64 6, .int .u64 1] 25))
  clear hp hk HP4 hx0 hx1 hx2 c1_0 c1_1 c1_2 c1_3 lt1
  have c0_0 := cell_of_row w5 _ 0 _ _ _ HX0.out
  have c0_1 := cell_of_row w5 _ 1 _ _ _ HX0.out
  have c0_2 := cell_of_row w5 _ 2 _ _ _ HX0.out
  have c0_3 := cell_of_row w5 _ 3 _ _ _ HX0.out
  have lt0 := lt_of_block HX0.out
  simp at c0_0 c0_1 c0_2 c0_3
  go_wp2_with fail
  refine (HP5.out.ysealP gN wfA k1 py5).mono ?_
  rintro e w6 ⟨rfl, hp, hk⟩
  simp only [Sy.v, zeroY]
  have hx0 : w6.heap[w2.heap.size]? = some (.cells #[.int .i64 1, .int .i64 0, .int .i64 1, .int .u64 0] 25 (0, 0)) := (hk _ ((.inl (.inl (.inl (.inr rfl)))))).trans ((heap_alloc_old _ _ (lt_of_block HX0.out)).trans HX0.out)
  have hx1 : w6.heap[w3.heap.size]? = some (.cells #[.int .i64 3, .int .i64 4, .int .i64 1, .int .u64 0] 25 (0, 0)) := (hk _ ((.inl (.inl (.inr rfl))))).trans ((heap_alloc_old _ _ (lt_of_block HX1.out)).trans HX1.out)
  have hx2 : w6.heap[w4.heap.size]? = some (.cells #[.int .i64 3, .int .i64 4, .int .i64 6, .int .u64 1] 25 (0, 0)) := (hk _ ((.inl (.inr rfl)))).trans ((heap_alloc_old _ _ (lt_of_block HX2.out)).trans HX2.out)
  have hx3 : w6.heap[w5.heap.size]? = some (.cells #[.int .i64 3, .int .i64 4, .int .i64 6, .int .u64 1] 25 (0, 0)) := (hk _ (.inr rfl)).trans (heap_alloc_new w5 _)
  clear HX0 HX1 HX2
  have HX0 := Lib.hid hx0
  have HX1 := Lib.hid hx1
  have HX2 := Lib.hid hx2
  have HX3 := Lib.hid hx3
  have HP6 := Lib.hid (Pair.box (gP g) gN hp (.cells #[.int .i64 0, .int .i64 0, .int .i64 0, .int .u64 0] 25))
  clear hp hk HP5 hx0 hx1 hx2 hx3 c0_0 c0_1 c0_2 c0_3 lt0
  have c2_0 := cell_of_row w6 _ 0 _ _ _ HX2.out
  have c2_1 := cell_of_row w6 _ 1 _ _ _ HX2.out
  have c2_2 := cell_of_row w6 _ 2 _ _ _ HX2.out
  have c2_3 := cell_of_row w6 _ 3 _ _ _ HX2.out
  have lt2 := lt_of_block HX2.out
  simp at c2_0 c2_1 c2_2 c2_3
  go_wp2_with fail
  refine (HP6.out.yopenP gN wfC k5 py6).mono ?_
  rintro e w7 ⟨rfl, hp, hk⟩
  simp only [Sy.v, zeroY]
  have hx0 : w7.heap[w2.heap.size]? = some (.cells #[.int .i64 1, .int .i64 0, .int .i64 1, .int .u64 0] 25 (0, 0)) := (hk _ ((.inl (.inl (.inl (.inl (.inr rfl))))))).trans ((heap_alloc_old _ _ (lt_of_block HX0.out)).trans HX0.out)
  have hx1 : w7.heap[w3.heap.size]? = some (.cells #[.int .i64 3, .int .i64 4, .int .i64 1, .int .u64 0] 25 (0, 0)) := (hk _ ((.inl (.inl (.inl (.inr rfl)))))).trans ((heap_alloc_old _ _ (lt_of_block HX1.out)).trans HX1.out)
  have hx2 : w7.heap[w4.heap.size]? = some (.cells #[.int .i64 3, .int .i64 4, .int .i64 6, .int .u64 1] 25 (0, 0)) := (hk _ ((.inl (.inl (.inr rfl))))).trans ((heap_alloc_old _ _ (lt_of_block HX2.out)).trans HX2.out)
  have hx3 : w7.heap[w5.heap.size]? = some (.cells #[.int .i64 3, .int .i64 4, .int .i64 6, .int .u64 1] 25 (0, 0)) := (hk _ ((.inl (.inr rfl)))).trans ((heap_alloc_old _ _ (lt_of_block HX3.out)).trans HX3.out)
  clear HX0 HX1 HX2 HX3
  have HX0 := Lib.hid hx0
  have HX1 := Lib.hid hx1
  have HX2 := Lib.hid hx2
  have HX3 := Lib.hid hx3
  have HP7 := Lib.hid (Pair.box (gP g) gN hp (.cells #[.int .i64 0, .int .i64 0, .int .i64 0, .int .u64 0] 25))
  clear hp hk HP6 hx0 hx1 hx2 hx3 c2_0 c2_1 c2_2 c2_3 lt2
  have c2_0 := cell_of_row w7 _ 0 _ _ _ HX2.out
  have c2_1 := cell_of_row w7 _ 1 _ _ _ HX2.out
  have c2_2 := cell_of_row w7 _ 2 _ _ _ HX2.out
  have c2_3 := cell_of_row w7 _ 3 _ _ _ HX2.out
  have lt2 := lt_of_block HX2.out
  simp at c2_0 c2_1 c2_2 c2_3
  go_wp2_with fail
  refine (HP7.out.splitP gN wfC py7).mono ?_
  rintro e w8 ⟨rfl, hp, hk⟩
  have hx0 : w8.heap[w2.heap.size]? = some (.cells #[.int .i64 1, .int .i64 0, .int .i64 1, .int .u64 0] 25 (0, 0)) := (hk _ ((.inl (.inl (.inl (.inl (.inl (.inr rfl)))))))).trans ((heap_alloc_old _ _ (lt_of_block HX0.out)).trans HX0.out)
  have hx1 : w8.heap[w3.heap.size]? = some (.cells #[.int .i64 3, .int .i64 4, .int .i64 1, .int .u64 0] 25 (0, 0)) := (hk _ ((.inl (.inl (.inl (.inl (.inr rfl))))))).trans ((heap_alloc_old _ _ (lt_of_block HX1.out)).trans HX1.out)
  have hx2 : w8.heap[w4.heap.size]? = some (.cells #[.int .i64 3, .int .i64 4, .int .i64 6, .int .u64 1] 25 (0, 0)) := (hk _ ((.inl (.inl (.inl (.inr rfl)))))).trans ((heap_alloc_old _ _ (lt_of_block HX2.out)).trans HX2.out)
  have hx3 : w8.heap[w5.heap.size]? = some (.cells #[.int .i64 3, .int .i64 4, .int .i64 6, .int .u64 1] 25 (0, 0)) := (hk _ ((.inl (.inl (.inr rfl))))).trans ((heap_alloc_old _ _ (lt_of_block HX3.out)).trans HX3.out)
  clear HX0 HX1 HX2 HX3
  have HX0 := Lib.hid hx0
  have HX1 := Lib.hid hx1
  have HX2 := Lib.hid hx2
  have HX3 := Lib.hid hx3
  have HP8 := Lib.hid hp
  clear hp hk HP7 hx0 hx1 hx2 hx3 c2_0 c2_1 c2_2 c2_3 lt2
  have c3_0 := cell_of_row w8 _ 0 _ _ _ HX3.out
  have c3_1 := cell_of_row w8 _ 1 _ _ _ HX3.out
  have c3_2 := cell_of_row w8 _ 2 _ _ _ HX3.out
  have c3_3 := cell_of_row w8 _ 3 _ _ _ HX3.out
  have lt3 := lt_of_block HX3.out
  simp at c3_0 c3_1 c3_2 c3_3
  go_wp2_with fail
  refine (HP8.out.splitP gN wfC py8).mono ?_
  rintro e w9 ⟨rfl, hp, hk⟩
  have hx0 : w9.heap[w2.heap.size]? = some (.cells #[.int .i64 1, .int .i64 0, .int .i64 1, .int .u64 0] 25 (0, 0)) := (hk _ ((.inl (.inl (.inl (.inl (.inl (.inr rfl)))))))).trans HX0.out
  have hx1 : w9.heap[w3.heap.size]? = some (.cells #[.int .i64 3, .int .i64 4, .int .i64 1, .int .u64 0] 25 (0, 0)) := (hk _ ((.inl (.inl (.inl (.inl (.inr rfl))))))).trans HX1.out
  have hx2 : w9.heap[w4.heap.size]? = some (.cells #[.int .i64 3, .int .i64 4, .int .i64 6, .int .u64 1] 25 (0, 0)) := (hk _ ((.inl (.inl (.inl (.inr rfl)))))).trans HX2.out
  have hx3 : w9.heap[w5.heap.size]? = some (.cells #[.int .i64 3, .int .i64 4, .int .i64 6, .int .u64 1] 25 (0, 0)) := (hk _ ((.inl (.inl (.inr rfl))))).trans HX3.out
  clear HX0 HX1 HX2 HX3
  have HX0 := Lib.hid hx0
  have HX1 := Lib.hid hx1
  have HX2 := Lib.hid hx2
  have HX3 := Lib.hid hx3
  have HP9 := Lib.hid hp
  clear hp hk HP8 hx0 hx1 hx2 hx3 c3_0 c3_1 c3_2 c3_3 lt3
  have c0_0 := cell_of_row w9 _ 0 _ _ _ HX0.out
  have c0_1 := cell_of_row w9 _ 1 _ _ _ HX0.out
  have c0_2 := cell_of_row w9 _ 2 _ _ _ HX0.out
  have c0_3 := cell_of_row w9 _ 3 _ _ _ HX0.out
  have lt0 := lt_of_block HX0.out
  simp at c0_0 c0_1 c0_2 c0_3
  go_wp2_with fail
  refine (HP9.out.sayP gN wfA k99 py9).mono ?_
  rintro e w10 ⟨rfl, hp, hk⟩
  simp only [Sy.v, zeroY]
  have hx0 : w10.heap[w2.heap.size]? = some (.cells #[.int .i64 1, .int .i64 0, .int .i64 1, .int .u64 0] 25 (0, 0)) := (hk _ ((.inl (.inl (.inl (.inl (.inl (.inr rfl)))))))).trans HX0.out
  have hx1 : w10.heap[w3.heap.size]? = some (.cells #[.int .i64 3, .int .i64 4, .int .i64 1, .int .u64 0] 25 (0, 0)) := (hk _ ((.inl (.inl (.inl (.inl (.inr rfl))))))).trans HX1.out
  have hx2 : w10.heap[w4.heap.size]? = some (.cells #[.int .i64 3, .int .i64 4, .int .i64 6, .int .u64 1] 25 (0, 0)) := (hk _ ((.inl (.inl (.inl (.inr rfl)))))).trans HX2.out
  have hx3 : w10.heap[w5.heap.size]? = some (.cells #[.int .i64 3, .int .i64 4, .int .i64 6, .int .u64 1] 25 (0, 0)) := (hk _ ((.inl (.inl (.inr rfl))))).trans HX3.out
  clear HX0 HX1 HX2 HX3
  have HX0 := Lib.hid hx0
  have HX1 := Lib.hid hx1
  have HX2 := Lib.hid hx2
  have HX3 := Lib.hid hx3
  have HP10 := Lib.hid (Pair.box (gP g) gN hp (.cells #[.int .i64 0, .int .i64 0, .int .i64 0, .int .u64 0] 25))
  clear hp hk HP9 hx0 hx1 hx2 hx3 c0_0 c0_1 c0_2 c0_3 lt0
  have c0_0 := cell_of_row w10 _ 0 _ _ _ HX0.out
  have c0_1 := cell_of_row w10 _ 1 _ _ _ HX0.out
  have c0_2 := cell_of_row w10 _ 2 _ _ _ HX0.out
  have c0_3 := cell_of_row w10 _ 3 _ _ _ HX0.out
  have lt0 := lt_of_block HX0.out
  have c1_0 := cell_of_row w10 _ 0 _ _ _ HX1.out
  have c1_1 := cell_of_row w10 _ 1 _ _ _ HX1.out
  have c1_2 := cell_of_row w10 _ 2 _ _ _ HX1.out
  have c1_3 := cell_of_row w10 _ 3 _ _ _ HX1.out
  have lt1 := lt_of_block HX1.out
  have c2_0 := cell_of_row w10 _ 0 _ _ _ HX2.out
  have c2_1 := cell_of_row w10 _ 1 _ _ _ HX2.out
  have c2_2 := cell_of_row w10 _ 2 _ _ _ HX2.out
  have c2_3 := cell_of_row w10 _ 3 _ _ _ HX2.out
  have lt2 := lt_of_block HX2.out
  have c3_0 := cell_of_row w10 _ 0 _ _ _ HX3.out
  have c3_1 := cell_of_row w10 _ 1 _ _ _ HX3.out
  have c3_2 := cell_of_row w10 _ 2 _ _ _ HX3.out
  have c3_3 := cell_of_row w10 _ 3 _ _ _ HX3.out
  have lt3 := lt_of_block HX3.out
  simp at c0_0 c0_1 c0_2 c0_3 c1_0 c1_1 c1_2 c1_3 c2_0 c2_1 c2_2 c2_3 c3_0 c3_1 c3_2 c3_3
  have hE0 := eql_Y ⟨1, 0, 1, 0⟩ ⟨1, 0, 1, 0⟩
  rw [show eqY ⟨1, 0, 1, 0⟩ ⟨1, 0, 1, 0⟩ = true from rfl] at hE0
  unfold Sy.v at hE0
  simp only [] at hE0
  have hE1 := eql_Y ⟨3, 4, 1, 0⟩ ⟨3, 4, 1, 0⟩
  rw [show eqY ⟨3, 4, 1, 0⟩ ⟨3, 4, 1, 0⟩ = true from rfl] at hE1
  unfold Sy.v at hE1
  simp only [] at hE1
  have hE2 := eql_Y ⟨3, 4, 6, 1⟩ ⟨3, 4, 6, 1⟩
  rw [show eqY ⟨3, 4, 6, 1⟩ ⟨3, 4, 6, 1⟩ = true from rfl] at hE2
  unfold Sy.v at hE2
  simp only [] at hE2
  have hgd := guardY
  go_wp2
  go_ret
  exact ⟨rfl, HP10.out.belowW⟩
end Go.Proofs.Ytlejejeflgnglaa
