/- The fixed calls of stage 5: that they answer true, and nothing that was there turns. -/
import Derived.Test.YtgfnngpbngmalaaAeadD
namespace Go.Proofs.Ytgfnngpbngmalaa
open Go.RowKit
set_option linter.unusedVariables false
set_option linter.unusedSimpArgs false

def fy1 : Tm := ⟨2, ⟨#[]⟩, 1, 0, 0, 0⟩
theorem wy1 : Wf fy1 := ⟨wf_emp, k2, u1, k0, k0, k0⟩
def abS : ByteArray := { data := #[97, 98] }
theorem ab_wf : abS.size ≤ maxLen := by decide
theorem ab_tl : abS.toList = [97, 98] := by rw [ByteArray.toList_eq]; rfl
theorem ab_sz : abS.size = 2 := rfl

theorem py1 : putF [] 9 fy1 = (1, 0, [fy1]) := by simp [putF, Tm.may, May, below3, BadP, many, prt, nameOf, eqB, tl0, sz0, ab_sz, List.findIdx?_cons, zeroT, sealT, textT, fy1, getT, openF, readF, textF, wrong, wrongT]
theorem py2 : textF [fy1] 9 1 0 1 abS = (3, 0, [fy1, textT abS, sealT 1 0 1 2]) := by simp [putF, Tm.may, May, below3, BadP, many, prt, nameOf, eqB, tl0, sz0, ab_sz, List.findIdx?_cons, zeroT, sealT, textT, fy1, getT, openF, readF, textF, wrong, wrongT]
theorem py3 : readF [fy1, textT abS, sealT 1 0 1 2] 1 0 1 3 = (abS, 0) := by simp [putF, Tm.may, May, below3, BadP, many, prt, nameOf, eqB, tl0, sz0, ab_sz, List.findIdx?_cons, zeroT, sealT, textT, fy1, getT, openF, readF, textF, wrong, wrongT]
theorem py4 : readF [fy1, textT abS, sealT 1 0 1 2] 1 1 1 3 = (⟨#[]⟩, 9) := by simp [putF, Tm.may, May, below3, BadP, many, prt, nameOf, eqB, tl0, sz0, ab_sz, List.findIdx?_cons, zeroT, sealT, textT, fy1, getT, openF, readF, textF, wrong, wrongT]
theorem py5 : readF [fy1, textT abS, sealT 1 0 1 2] 2 0 1 3 = (⟨#[]⟩, 9) := by simp [putF, Tm.may, May, below3, BadP, many, prt, nameOf, eqB, tl0, sz0, ab_sz, List.findIdx?_cons, zeroT, sealT, textT, fy1, getT, openF, readF, textF, wrong, wrongT]
theorem py6 : openF [fy1, textT abS, sealT 1 0 1 2] 1 0 1 3 = (2, 0) := by simp [putF, Tm.may, May, below3, BadP, many, prt, nameOf, eqB, tl0, sz0, ab_sz, List.findIdx?_cons, zeroT, sealT, textT, fy1, getT, openF, readF, textF, wrong, wrongT]
theorem py7 : putF [fy1, textT abS, sealT 1 0 1 2] 9 (sealT 1 0 1 1) = (4, 0, [fy1, textT abS, sealT 1 0 1 2, sealT 1 0 1 1]) := by simp [putF, Tm.may, May, below3, BadP, many, prt, nameOf, eqB, tl0, sz0, ab_sz, List.findIdx?_cons, zeroT, sealT, textT, fy1, getT, openF, readF, textF, wrong, wrongT]
theorem py8 : readF [fy1, textT abS, sealT 1 0 1 2, sealT 1 0 1 1] 1 0 1 4 = (⟨#[]⟩, 9) := by simp [putF, Tm.may, May, below3, BadP, many, prt, nameOf, eqB, tl0, sz0, ab_sz, List.findIdx?_cons, zeroT, sealT, textT, fy1, getT, openF, readF, textF, wrong, wrongT]
theorem py9 : openF [fy1, textT abS, sealT 1 0 1 2, sealT 1 0 1 1] 1 0 1 99 = (0, 1) := by simp [putF, Tm.may, May, below3, BadP, many, prt, nameOf, eqB, tl0, sz0, ab_sz, List.findIdx?_cons, zeroT, sealT, textT, fy1, getT, openF, readF, textF, wrong, wrongT]
theorem py10 : textF [fy1, textT abS, sealT 1 0 1 2, sealT 1 0 1 1] 9 99 0 1 abS = (0, 1, [fy1, textT abS, sealT 1 0 1 2, sealT 1 0 1 1]) := by simp [putF, Tm.may, May, below3, BadP, many, prt, nameOf, eqB, tl0, sz0, ab_sz, List.findIdx?_cons, zeroT, sealT, textT, fy1, getT, openF, readF, textF, wrong, wrongT]

set_option maxHeartbeats 4000000 in
set_option maxRecDepth 100000 in
theorem fixed_any (w : World) : Calls Try.prog 15 #[] w fun e w' => e = .returned (.bool true) ∧ Below w.heap.size w w' := by
  have gN := NoS.good w.heap.size
  go_enter Try.func15, Try.ntmps15
  go_wp2_with fail
  refine (Pair.new1 (base := w.heap.size) (w0 := w) rfl (Below.refl _ _) (by omega) (by omega)).mono ?_
  rintro e w1 ⟨g, rfl, h1⟩
  have H1 := Lib.hid h1
  clear h1
  go_wp2_with fail
  refine (H1.out.putP gN fy1 wy1 py1).mono ?_
  rintro e w2 ⟨rfl, h2, _⟩
  have H2 := Lib.hid h2
  clear h2 H1
  go_wp2_with fail
  refine (H2.out.textP gN k1 u0 k1 ab_wf py2).mono ?_
  rintro e w3 ⟨rfl, h3, _⟩
  have H3 := Lib.hid h3
  clear h3 H2
  go_wp2_with fail
  refine (H3.out.readP gN py3).mono ?_
  rintro e w4 ⟨rfl, h4, _⟩
  have H4 := Lib.hid h4
  clear h4 H3
  go_wp2_with fail
  refine (H4.out.readP gN py4).mono ?_
  rintro e w5 ⟨rfl, h5, _⟩
  have H5 := Lib.hid h5
  clear h5 H4
  go_wp2_with fail
  refine (H5.out.readP gN py5).mono ?_
  rintro e w6 ⟨rfl, h6, _⟩
  have H6 := Lib.hid h6
  clear h6 H5
  go_wp2_with fail
  refine (H6.out.aopenP gN py6).mono ?_
  rintro e w7 ⟨rfl, h7, _⟩
  have H7 := Lib.hid h7
  clear h7 H6
  go_wp2_with fail
  refine (H7.out.sealP gN k1 u0 k1 k1 py7).mono ?_
  rintro e w8 ⟨rfl, h8, _⟩
  have H8 := Lib.hid h8
  clear h8 H7
  go_wp2_with fail
  refine (H8.out.readP gN py8).mono ?_
  rintro e w9 ⟨rfl, h9, _⟩
  have H9 := Lib.hid h9
  clear h9 H8
  go_wp2_with fail
  refine (H9.out.aopenP gN py9).mono ?_
  rintro e w10 ⟨rfl, h10, _⟩
  have H10 := Lib.hid h10
  clear h10 H9
  go_wp2_with fail
  refine (H10.out.textP gN k99 u0 k1 ab_wf py10).mono ?_
  rintro e w11 ⟨rfl, h11, _⟩
  have H11 := Lib.hid h11
  clear h11 H10
  have hab := ab_tl
  go_wp2
  go_ret
  exact ⟨rfl, H11.out.belowW⟩
end Go.Proofs.Ytgfnngpbngmalaa
