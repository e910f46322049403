/- The fixed calls of stage 3: that they answer true, and nothing that was there turns. -/
import Derived.Test.YtdbbbgaaebggcaaDhC
namespace Go.Proofs.Ytdbbbgaaebggcaa
open Go.RowKit
set_option linter.unusedVariables false
set_option linter.unusedSimpArgs false

def fy1 : Tm := ⟨2, ⟨#[]⟩, 1, 0, 0, 0⟩
def fy2 : Tm := ⟨2, ⟨#[]⟩, 2, 0, 0, 0⟩
theorem k2 : I64 2 := by unfold I64; decide
theorem k1 : I64 1 := by unfold I64; decide
theorem k99 : I64 99 := by unfold I64; decide
theorem u1 : (Lit.int .u64 1).wf = true := by decide
theorem u2 : (Lit.int .u64 2).wf = true := by decide
theorem wy1 : Wf fy1 := ⟨wf_emp, k2, u1, k0, k0, k0⟩
theorem wy2 : Wf fy2 := ⟨wf_emp, k2, u2, k0, k0, k0⟩
theorem py1 : putF [] 9 fy1 = (1, 0, [fy1]) := by simp [putF, Tm.may, May, below3, BadP, many, prt, nameOf, eqB, tl0, sz0, List.findIdx?_cons, zeroT, pubT, shareT, fy1, fy2, secF, getT, agreeF]
theorem py2 : putF [fy1] 9 fy2 = (2, 0, [fy1, fy2]) := by simp [putF, Tm.may, May, below3, BadP, many, prt, nameOf, eqB, tl0, sz0, List.findIdx?_cons, zeroT, pubT, shareT, fy1, fy2, secF, getT, agreeF]
theorem py3 : putF [fy1, fy2] 9 (pubT 1) = (3, 0, [fy1, fy2, pubT 1]) := by simp [putF, Tm.may, May, below3, BadP, many, prt, nameOf, eqB, tl0, sz0, List.findIdx?_cons, zeroT, pubT, shareT, fy1, fy2, secF, getT, agreeF]
theorem py4 : putF [fy1, fy2, pubT 1] 9 (pubT 2) = (4, 0, [fy1, fy2, pubT 1, pubT 2]) := by simp [putF, Tm.may, May, below3, BadP, many, prt, nameOf, eqB, tl0, sz0, List.findIdx?_cons, zeroT, pubT, shareT, fy1, fy2, secF, getT, agreeF]
theorem py5 : agreeF [fy1, fy2, pubT 1, pubT 2] 9 1 4 = (5, 0, [fy1, fy2, pubT 1, pubT 2, shareT 1 2]) := by simp [putF, Tm.may, May, below3, BadP, many, prt, nameOf, eqB, tl0, sz0, List.findIdx?_cons, zeroT, pubT, shareT, fy1, fy2, secF, getT, agreeF]
theorem py6 : agreeF [fy1, fy2, pubT 1, pubT 2, shareT 1 2] 9 2 3 = (5, 0, [fy1, fy2, pubT 1, pubT 2, shareT 1 2]) := by simp [putF, Tm.may, May, below3, BadP, many, prt, nameOf, eqB, tl0, sz0, List.findIdx?_cons, zeroT, pubT, shareT, fy1, fy2, secF, getT, agreeF]
theorem py7 : agreeF [fy1, fy2, pubT 1, pubT 2, shareT 1 2] 9 1 2 = (0, 1, [fy1, fy2, pubT 1, pubT 2, shareT 1 2]) := by simp [putF, Tm.may, May, below3, BadP, many, prt, nameOf, eqB, tl0, sz0, List.findIdx?_cons, zeroT, pubT, shareT, fy1, fy2, secF, getT, agreeF]
theorem py8 : agreeF [fy1, fy2, pubT 1, pubT 2, shareT 1 2] 9 99 3 = (0, 1, [fy1, fy2, pubT 1, pubT 2, shareT 1 2]) := by simp [putF, Tm.may, May, below3, BadP, many, prt, nameOf, eqB, tl0, sz0, List.findIdx?_cons, zeroT, pubT, shareT, fy1, fy2, secF, getT, agreeF]
theorem py9 : putF [fy1, fy2, pubT 1, pubT 2, shareT 1 2] 9 (pubT 99) = (0, 1, [fy1, fy2, pubT 1, pubT 2, shareT 1 2]) := by simp [putF, Tm.may, May, below3, BadP, many, prt, nameOf, eqB, tl0, sz0, List.findIdx?_cons, zeroT, pubT, shareT, fy1, fy2, secF, getT, agreeF]
theorem sy1 : secF [fy1, fy2, pubT 1, pubT 2, shareT 1 2] 3 = (1, true) := by simp [putF, Tm.may, May, below3, BadP, many, prt, nameOf, eqB, tl0, sz0, List.findIdx?_cons, zeroT, pubT, shareT, fy1, fy2, secF, getT, agreeF]
theorem sy2 : secF [fy1, fy2, pubT 1, pubT 2, shareT 1 2] 1 = (0, false) := by simp [putF, Tm.may, May, below3, BadP, many, prt, nameOf, eqB, tl0, sz0, List.findIdx?_cons, zeroT, pubT, shareT, fy1, fy2, secF, getT, agreeF]
theorem sy3 : secF [fy1, fy2, pubT 1, pubT 2, shareT 1 2] 0 = (0, false) := by simp [putF, Tm.may, May, below3, BadP, many, prt, nameOf, eqB, tl0, sz0, List.findIdx?_cons, zeroT, pubT, shareT, fy1, fy2, secF, getT, agreeF]

set_option maxHeartbeats 4000000 in
set_option maxRecDepth 100000 in
theorem fixed_any (w : World) : Calls Try.prog 16 #[] w fun e w' => e = .returned (.bool true) ∧ Below w.heap.size w w' := by
  have gN := NoS.good w.heap.size
  go_enter Try.func16, Try.ntmps16
  go_wp2_with fail
  refine (Pair.new1 (base := w.heap.size) (w0 := w) rfl (Below.refl _ _) (by omega) (by omega)).mono ?_
  rintro e w1 ⟨g, rfl, h1⟩
  have H1 := Lib.hid h1
  clear h1
  go_wp2_with fail
  refine (H1.out.putP gN fy1 wy1 py1).mono ?_
  rintro e w2 ⟨rfl, h2, _⟩
  have H2 := Lib.hid h2
  clear h2 H1
  go_wp2_with fail
  refine (H2.out.putP gN fy2 wy2 py2).mono ?_
  rintro e w3 ⟨rfl, h3, _⟩
  have H3 := Lib.hid h3
  clear h3 H2
  go_wp2_with fail
  refine (H3.out.publicP gN k1 py3).mono ?_
  rintro e w4 ⟨rfl, h4, _⟩
  have H4 := Lib.hid h4
  clear h4 H3
  go_wp2_with fail
  refine (H4.out.publicP gN k2 py4).mono ?_
  rintro e w5 ⟨rfl, h5, _⟩
  have H5 := Lib.hid h5
  clear h5 H4
  go_wp2_with fail
  refine (H5.out.agreeP gN k1 py5).mono ?_
  rintro e w6 ⟨rfl, h6, _⟩
  have H6 := Lib.hid h6
  clear h6 H5
  go_wp2_with fail
  refine (H6.out.agreeP gN k2 py6).mono ?_
  rintro e w7 ⟨rfl, h7, _⟩
  have H7 := Lib.hid h7
  clear h7 H6
  go_wp2_with fail
  refine (H7.out.agreeP gN k1 py7).mono ?_
  rintro e w8 ⟨rfl, h8, _⟩
  have H8 := Lib.hid h8
  clear h8 H7
  go_wp2_with fail
  refine (H8.out.agreeP gN k99 py8).mono ?_
  rintro e w9 ⟨rfl, h9, _⟩
  have H9 := Lib.hid h9
  clear h9 H8
  go_wp2_with fail
  refine (H9.out.publicP gN k99 py9).mono ?_
  rintro e w10 ⟨rfl, h10, _⟩
  have H10 := Lib.hid h10
  clear h10 H9
  go_wp2_with fail
  refine (H10.out.isP gN 3 sy1).mono ?_
  rintro e w11 ⟨rfl, h11, _⟩
  have H11 := Lib.hid h11
  clear h11 H10
  go_wp2_with fail
  refine (H11.out.isP gN 1 sy2).mono ?_
  rintro e w12 ⟨rfl, h12, _⟩
  have H12 := Lib.hid h12
  clear h12 H11
  go_wp2_with fail
  refine (H12.out.isP gN 0 sy3).mono ?_
  rintro e w13 ⟨rfl, h13, _⟩
  have H13 := Lib.hid h13
  clear h13 H12
  go_wp2
  go_ret
  exact ⟨rfl, H13.out.belowW⟩
end Go.Proofs.Ytdbbbgaaebggcaa
