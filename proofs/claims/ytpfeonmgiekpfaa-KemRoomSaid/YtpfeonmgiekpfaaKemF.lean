/- The fixed calls of stage 4: that they answer true, and nothing that was there turns. -/
import Derived.Test.YtpfeonmgiekpfaaKemD
namespace Go.Proofs.Ytpfeonmgiekpfaa
open Go.RowKit
set_option linter.unusedVariables false
set_option linter.unusedSimpArgs false

def fy1 : Tm := ⟨2, ⟨#[]⟩, 1, 0, 0, 0⟩
def fy2 : Tm := ⟨2, ⟨#[]⟩, 2, 0, 0, 0⟩
theorem wy1 : Wf fy1 := ⟨wf_emp, k2, u1, k0, k0, k0⟩
theorem wy2 : Wf fy2 := ⟨wf_emp, k2, u2, k0, k0, k0⟩

theorem py1 : putF [] 9 fy1 = (1, 0, [fy1]) := by simp [putF, Tm.may, May, below3, BadP, many, prt, nameOf, eqB, tl0, sz0, List.findIdx?_cons, zeroT, kpubT, boxT, kemT, fy1, fy2, getT, wrapF, openF]
theorem py2 : putF [fy1] 9 fy2 = (2, 0, [fy1, fy2]) := by simp [putF, Tm.may, May, below3, BadP, many, prt, nameOf, eqB, tl0, sz0, List.findIdx?_cons, zeroT, kpubT, boxT, kemT, fy1, fy2, getT, wrapF, openF]
theorem py3 : putF [fy1, fy2] 9 (kpubT 1) = (3, 0, [fy1, fy2, kpubT 1]) := by simp [putF, Tm.may, May, below3, BadP, many, prt, nameOf, eqB, tl0, sz0, List.findIdx?_cons, zeroT, kpubT, boxT, kemT, fy1, fy2, getT, wrapF, openF]
theorem py4 : wrapF [fy1, fy2, kpubT 1] 9 3 2 = (4, 5, 0, [fy1, fy2, kpubT 1, boxT 1 2, kemT 1 2]) := by simp [putF, Tm.may, May, below3, BadP, many, prt, nameOf, eqB, tl0, sz0, List.findIdx?_cons, zeroT, kpubT, boxT, kemT, fy1, fy2, getT, wrapF, openF]
theorem py5 : openF [fy1, fy2, kpubT 1, boxT 1 2, kemT 1 2] 9 1 4 = (5, 0, [fy1, fy2, kpubT 1, boxT 1 2, kemT 1 2]) := by simp [putF, Tm.may, May, below3, BadP, many, prt, nameOf, eqB, tl0, sz0, List.findIdx?_cons, zeroT, kpubT, boxT, kemT, fy1, fy2, getT, wrapF, openF]
theorem py6 : openF [fy1, fy2, kpubT 1, boxT 1 2, kemT 1 2] 9 2 4 = (0, 10, [fy1, fy2, kpubT 1, boxT 1 2, kemT 1 2]) := by simp [putF, Tm.may, May, below3, BadP, many, prt, nameOf, eqB, tl0, sz0, List.findIdx?_cons, zeroT, kpubT, boxT, kemT, fy1, fy2, getT, wrapF, openF]
theorem py7 : openF [fy1, fy2, kpubT 1, boxT 1 2, kemT 1 2] 9 1 3 = (0, 10, [fy1, fy2, kpubT 1, boxT 1 2, kemT 1 2]) := by simp [putF, Tm.may, May, below3, BadP, many, prt, nameOf, eqB, tl0, sz0, List.findIdx?_cons, zeroT, kpubT, boxT, kemT, fy1, fy2, getT, wrapF, openF]
theorem py8 : openF [fy1, fy2, kpubT 1, boxT 1 2, kemT 1 2] 9 1 99 = (0, 1, [fy1, fy2, kpubT 1, boxT 1 2, kemT 1 2]) := by simp [putF, Tm.may, May, below3, BadP, many, prt, nameOf, eqB, tl0, sz0, List.findIdx?_cons, zeroT, kpubT, boxT, kemT, fy1, fy2, getT, wrapF, openF]
theorem py9 : wrapF [fy1, fy2, kpubT 1, boxT 1 2, kemT 1 2] 9 1 2 = (0, 0, 1, [fy1, fy2, kpubT 1, boxT 1 2, kemT 1 2]) := by simp [putF, Tm.may, May, below3, BadP, many, prt, nameOf, eqB, tl0, sz0, List.findIdx?_cons, zeroT, kpubT, boxT, kemT, fy1, fy2, getT, wrapF, openF]

set_option maxHeartbeats 4000000 in
set_option maxRecDepth 100000 in
theorem fixed_any (w : World) : Calls Try.prog 16 #[] w fun e w' => e = .returned (.bool true) ∧ Below w.heap.size w w' := by
  have gN := NoS.good w.heap.size
  go_enter Try.func16, Try.ntmps16
  go_wp2_with fail
  refine (Pair.new1 (base := w.heap.size) (w0 := w) rfl (Below.refl _ _) (by omega) (by omega)).mono ?_
  rintro e w1 ⟨g, rfl, h1⟩
  have H1 := Lib.hid h1
  clear h1
  go_wp2_with fail
  refine (H1.out.putP gN fy1 wy1 py1).mono ?_
  rintro e w2 ⟨rfl, h2, _⟩
  have H2 := Lib.hid h2
  clear h2 H1
  go_wp2_with fail
  refine (H2.out.putP gN fy2 wy2 py2).mono ?_
  rintro e w3 ⟨rfl, h3, _⟩
  have H3 := Lib.hid h3
  clear h3 H2
  go_wp2_with fail
  refine (H3.out.kpublicP gN k1 py3).mono ?_
  rintro e w4 ⟨rfl, h4, _⟩
  have H4 := Lib.hid h4
  clear h4 H3
  go_wp2_with fail
  refine (H4.out.wrapP gN k2 py4).mono ?_
  rintro e w5 ⟨rfl, h5, _⟩
  have H5 := Lib.hid h5
  clear h5 H4
  go_wp2_with fail
  refine (H5.out.openP gN k1 py5).mono ?_
  rintro e w6 ⟨rfl, h6, _⟩
  have H6 := Lib.hid h6
  clear h6 H5
  go_wp2_with fail
  refine (H6.out.openP gN k2 py6).mono ?_
  rintro e w7 ⟨rfl, h7, _⟩
  have H7 := Lib.hid h7
  clear h7 H6
  go_wp2_with fail
  refine (H7.out.openP gN k1 py7).mono ?_
  rintro e w8 ⟨rfl, h8, _⟩
  have H8 := Lib.hid h8
  clear h8 H7
  go_wp2_with fail
  refine (H8.out.openP gN k1 py8).mono ?_
  rintro e w9 ⟨rfl, h9, _⟩
  have H9 := Lib.hid h9
  clear h9 H8
  go_wp2_with fail
  refine (H9.out.wrapP gN k2 py9).mono ?_
  rintro e w10 ⟨rfl, h10, _⟩
  have H10 := Lib.hid h10
  clear h10 H9
  go_wp2
  go_ret
  exact ⟨rfl, H10.out.belowW⟩
end Go.Proofs.Ytpfeonmgiekpfaa
