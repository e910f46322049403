/- The fixed calls of stage 6: that they answer true, and nothing that was there turns. -/
import Derived.Test.YtglgobimdghehaaKdfC
namespace Go.Proofs.Ytglgobimdghehaa
open Go.RowKit
set_option linter.unusedVariables false
set_option linter.unusedSimpArgs false

def fy1 : Tm := ⟨2, ⟨#[]⟩, 1, 0, 0, 0⟩
def fy2 : Tm := ⟨2, ⟨#[]⟩, 2, 0, 0, 0⟩
theorem wy1 : Wf fy1 := ⟨wf_emp, k2, u1, k0, k0, k0⟩
theorem wy2 : Wf fy2 := ⟨wf_emp, k2, u2, k0, k0, k0⟩

theorem py1 : putF [] 9 fy1 = (1, 0, [fy1]) := by simp [putF, Tm.may, May, below3, BadP, many, prt, nameOf, eqB, tl0, sz0, List.findIdx?_cons, zeroT, hashT, keyT, fy1, fy2, getT, mixF, chainF, chainN]
theorem py2 : putF [fy1] 9 fy2 = (2, 0, [fy1, fy2]) := by simp [putF, Tm.may, May, below3, BadP, many, prt, nameOf, eqB, tl0, sz0, List.findIdx?_cons, zeroT, hashT, keyT, fy1, fy2, getT, mixF, chainF, chainN]
theorem py3 : mixF [fy1, fy2] 9 1 2 = (4, 5, 0, [fy1, fy2, hashT 1 2, keyT 3 1, keyT 3 2]) := by simp [putF, Tm.may, May, below3, BadP, many, prt, nameOf, eqB, tl0, sz0, List.findIdx?_cons, zeroT, hashT, keyT, fy1, fy2, getT, mixF, chainF, chainN]
theorem py4 : chainF [fy1, fy2, hashT 1 2, keyT 3 1, keyT 3 2] 9 4 2 3 = (8, 0, [fy1, fy2, hashT 1 2, keyT 3 1, keyT 3 2, keyT 4 2, keyT 6 2, keyT 7 2]) := by simp [putF, Tm.may, May, below3, BadP, many, prt, nameOf, eqB, tl0, sz0, List.findIdx?_cons, zeroT, hashT, keyT, fy1, fy2, getT, mixF, chainF, chainN]
theorem py5 : chainF [fy1, fy2, hashT 1 2, keyT 3 1, keyT 3 2, keyT 4 2, keyT 6 2, keyT 7 2] 9 4 2 0 = (4, 0, [fy1, fy2, hashT 1 2, keyT 3 1, keyT 3 2, keyT 4 2, keyT 6 2, keyT 7 2]) := by simp [putF, Tm.may, May, below3, BadP, many, prt, nameOf, eqB, tl0, sz0, List.findIdx?_cons, zeroT, hashT, keyT, fy1, fy2, getT, mixF, chainF, chainN]
theorem py6 : chainF [fy1, fy2, hashT 1 2, keyT 3 1, keyT 3 2, keyT 4 2, keyT 6 2, keyT 7 2] 9 4 2 (-1) = (0, 1, [fy1, fy2, hashT 1 2, keyT 3 1, keyT 3 2, keyT 4 2, keyT 6 2, keyT 7 2]) := by simp [putF, Tm.may, May, below3, BadP, many, prt, nameOf, eqB, tl0, sz0, List.findIdx?_cons, zeroT, hashT, keyT, fy1, fy2, getT, mixF, chainF, chainN]
theorem py7 : chainF [fy1, fy2, hashT 1 2, keyT 3 1, keyT 3 2, keyT 4 2, keyT 6 2, keyT 7 2] 9 99 2 0 = (0, 1, [fy1, fy2, hashT 1 2, keyT 3 1, keyT 3 2, keyT 4 2, keyT 6 2, keyT 7 2]) := by simp [putF, Tm.may, May, below3, BadP, many, prt, nameOf, eqB, tl0, sz0, List.findIdx?_cons, zeroT, hashT, keyT, fy1, fy2, getT, mixF, chainF, chainN]
theorem py8 : chainF [fy1, fy2, hashT 1 2, keyT 3 1, keyT 3 2, keyT 4 2, keyT 6 2, keyT 7 2] 9 4 2 9 = (0, 4, [fy1, fy2, hashT 1 2, keyT 3 1, keyT 3 2, keyT 4 2, keyT 6 2, keyT 7 2, keyT 8 2]) := by simp [putF, Tm.may, May, below3, BadP, many, prt, nameOf, eqB, tl0, sz0, List.findIdx?_cons, zeroT, hashT, keyT, fy1, fy2, getT, mixF, chainF, chainN]
theorem py9 : mixF [fy1, fy2, hashT 1 2, keyT 3 1, keyT 3 2, keyT 4 2, keyT 6 2, keyT 7 2, keyT 8 2] 9 1 99 = (0, 0, 1, [fy1, fy2, hashT 1 2, keyT 3 1, keyT 3 2, keyT 4 2, keyT 6 2, keyT 7 2, keyT 8 2]) := by simp [putF, Tm.may, May, below3, BadP, many, prt, nameOf, eqB, tl0, sz0, List.findIdx?_cons, zeroT, hashT, keyT, fy1, fy2, getT, mixF, chainF, chainN]
theorem py10 : putF [fy1, fy2, hashT 1 2, keyT 3 1, keyT 3 2, keyT 4 2, keyT 6 2, keyT 7 2, keyT 8 2] 9 (hashT 1 2) = (3, 0, [fy1, fy2, hashT 1 2, keyT 3 1, keyT 3 2, keyT 4 2, keyT 6 2, keyT 7 2, keyT 8 2]) := by simp [putF, Tm.may, May, below3, BadP, many, prt, nameOf, eqB, tl0, sz0, List.findIdx?_cons, zeroT, hashT, keyT, fy1, fy2, getT, mixF, chainF, chainN]
theorem py11 : putF [fy1, fy2, hashT 1 2, keyT 3 1, keyT 3 2, keyT 4 2, keyT 6 2, keyT 7 2, keyT 8 2] 9 (keyT 3 1) = (4, 0, [fy1, fy2, hashT 1 2, keyT 3 1, keyT 3 2, keyT 4 2, keyT 6 2, keyT 7 2, keyT 8 2]) := by simp [putF, Tm.may, May, below3, BadP, many, prt, nameOf, eqB, tl0, sz0, List.findIdx?_cons, zeroT, hashT, keyT, fy1, fy2, getT, mixF, chainF, chainN]

set_option maxHeartbeats 4000000 in
set_option maxRecDepth 100000 in
theorem fixed_any (w : World) : Calls Try.prog 19 #[] w fun e w' => e = .returned (.bool true) ∧ Below w.heap.size w w' := by
  have gN := NoS.good w.heap.size
  go_enter Try.func19, Try.ntmps19
  go_wp2_with fail
  refine (Pair.new1 (base := w.heap.size) (w0 := w) rfl (Below.refl _ _) (by omega) (by omega)).mono ?_
  rintro e w1 ⟨g, rfl, h1⟩
  have H1 := Lib.hid h1
  clear h1
  go_wp2_with fail
  refine (H1.out.putP gN fy1 wy1 py1).mono ?_
  rintro e w2 ⟨rfl, h2, _⟩
  have H2 := Lib.hid h2
  clear h2 H1
  go_wp2_with fail
  refine (H2.out.putP gN fy2 wy2 py2).mono ?_
  rintro e w3 ⟨rfl, h3, _⟩
  have H3 := Lib.hid h3
  clear h3 H2
  go_wp2_with fail
  refine (H3.out.mixP gN k1 k2 py3).mono ?_
  rintro e w4 ⟨rfl, h4, _⟩
  have H4 := Lib.hid h4
  clear h4 H3
  go_wp2_with fail
  refine (H4.out.chainP gN k4 u2 py4).mono ?_
  rintro e w5 ⟨rfl, h5, _⟩
  have H5 := Lib.hid h5
  clear h5 H4
  go_wp2_with fail
  refine (H5.out.chainP gN k4 u2 py5).mono ?_
  rintro e w6 ⟨rfl, h6, _⟩
  have H6 := Lib.hid h6
  clear h6 H5
  go_wp2_with fail
  refine (H6.out.chainP gN k4 u2 py6).mono ?_
  rintro e w7 ⟨rfl, h7, _⟩
  have H7 := Lib.hid h7
  clear h7 H6
  go_wp2_with fail
  refine (H7.out.chainP gN k99 u2 py7).mono ?_
  rintro e w8 ⟨rfl, h8, _⟩
  have H8 := Lib.hid h8
  clear h8 H7
  go_wp2_with fail
  refine (H8.out.chainP gN k4 u2 py8).mono ?_
  rintro e w9 ⟨rfl, h9, _⟩
  have H9 := Lib.hid h9
  clear h9 H8
  go_wp2_with fail
  refine (H9.out.mixP gN k1 k99 py9).mono ?_
  rintro e w10 ⟨rfl, h10, _⟩
  have H10 := Lib.hid h10
  clear h10 H9
  go_wp2_with fail
  refine (H10.out.hashP gN k1 k2 py10).mono ?_
  rintro e w11 ⟨rfl, h11, _⟩
  have H11 := Lib.hid h11
  clear h11 H10
  go_wp2_with fail
  refine (H11.out.deriveP gN k3 u1 py11).mono ?_
  rintro e w12 ⟨rfl, h12, _⟩
  have H12 := Lib.hid h12
  clear h12 H11
  go_wp2
  go_ret
  exact ⟨rfl, H12.out.belowW⟩
end Go.Proofs.Ytglgobimdghehaa
