/- What is begun of the two endpoints: to whom it is opened. -/
import Derived.Test.YtgeonppckeiceaaGreatDoorGp42
namespace Go.Proofs.YtgeonppckeiceaaGreatDoor
open Go.RowKit
set_option linter.unusedVariables false
set_option linter.unusedSimpArgs false

structure StrIs (slot : Int) (stamp : Nat) (x : Mg) (q : Pnd) (y : Sy) (L1 L2 L3 L4 L5 L6 : List Tm) : Prop where
  c1 : hBegin 5000 L18 (1, 2) pB 7 ⟨#[1]⟩ slot stamp 7 8 9 = (x, q, 0, L1)
  c2 : hOpen 5000 L1 (3, 4) [] ⟨#[1]⟩ x = (zeroOpd, 5, L2)
  c3 : hOpen 5000 L2 (3, 4) [pB] ⟨#[1]⟩ x = (zeroOpd, 5, L3)
  c4 : hOpen 5000 L3 (1, 2) [pB, pA] ⟨#[1]⟩ x = (zeroOpd, 10, L4)
  c5 : hOpen 5000 L4 (1, 4) [pA] ⟨#[1]⟩ x = (zeroOpd, 9, L5)
  c6 : hOpen 5000 L5 (3, 4) [pB, pA, pA] ⟨#[1]⟩ x = (⟨y, 1, 1, stamp, x.i 6, x.i 7, 15⟩, 0, L6)
  xw : Ms.Ms.Wf x
theorem str_of {slot : Int} {stamp : Nat} {P : Tr} (hs : slot = 0 ∨ slot = 1) (hst : stamp ≤ 18446744073709551615) (nP : P ≠ .none) (hP : Nm L18 P (pB.psk slot)) (hQ : Nm L18 P (pA.psk slot)) : ∃ x q y L1 L2 L3 L4 L5 L6, StrIs slot stamp x q y L1 L2 L3 L4 L5 L6 := by
  have l18 := len18
  have hof : (⟨#[1]⟩ : ByteArray).size ≤ 1000 := by decide
  have hb : Ms.bestE (⟨#[1]⟩ : ByteArray).data.toList (⟨#[1]⟩ : ByteArray).data.toList = 0 := by kernel_rfl
  have hv : Ms.bestV (⟨#[1]⟩ : ByteArray).data.toList (⟨#[1]⟩ : ByteArray).data.toList = 1 := by kernel_rfl
  obtain ⟨x, q, L1, c1, hI, v1⟩ := hBegin_tr (most := 5000) (L := L18) (fr := 7) (slot := slot) (offer := ⟨#[1]⟩) (stamp := stamp) gd18 ends18 (P := P) hP nm7 nm8 nm9 nP (nn _) (nn _) (nn _) hs (by omega) (by kernel_rfl) hst (by omega) (by omega)
  have g1 := v1.len
  obtain ⟨L2, c2, v2⟩ := hOpen_who (most := 5000) (mine := ⟨#[1]⟩) (ps := []) v1.gd (ends18.ext v1.ext) hI (nm7.ext v1.ext) (nm9.ext v1.ext) (nn _) (nn _) (nn _) (by decide) hof hb (by omega)
  have g2 := v2.len
  have x2 := v1.ext.trans v2.ext
  have I2 := hI.ext v2.ext
  obtain ⟨L3, c3, v3⟩ := hOpen_who (most := 5000) (mine := ⟨#[1]⟩) (ps := [pB]) v2.gd (ends18.ext x2) I2 (nm7.ext x2) (nm9.ext x2) (nn _) (nn _) (nn _) (by decide) hof hb (by omega)
  have g3 := v3.len
  have x3 := x2.trans v3.ext
  have I3 := I2.ext v3.ext
  obtain ⟨L4, c4, v4⟩ := hOpen_box (most := 5000) (mine := ⟨#[1]⟩) (ps := [pB, pA]) v3.gd I3 (ends18.ext x3).sA1 (ends18.ext x3).sA2 (nm7.ext x3) (nne (by decide)) (ends18.ext x3).n1 (ends18.ext x3).n2 (nn _) (nn _) (nn _) hof hb (by omega)
  have g4 := v4.len
  have x4 := x3.trans v4.ext
  have I4 := I3.ext v4.ext
  obtain ⟨L5, c5, v5⟩ := hOpen_c1 (most := 5000) (mine := ⟨#[1]⟩) (ps := [pA]) v4.gd I4 (ends18.ext x4).sA1 (ends18.ext x4).sB2 (nm7.ext x4) (nm9.ext x4) (nne (by decide)) (ends18.ext x4).n1 (ends18.ext x4).n4 (nn _) (nn _) (nn _) hof hb (by omega)
  have g5 := v5.len
  have x5 := x4.trans v5.ext
  have I5 := I4.ext v5.ext
  obtain ⟨y, L6, c6, sy, v6⟩ := hOpen_tr (most := 5000) (mine := ⟨#[1]⟩) (ps := [pB, pA, pA]) (i := 1) v5.gd (ends18.ext x5) I5 (hQ.ext x5) (nm7.ext x5) (nm9.ext x5) nP (nn _) (nn _) (nn _) (by decide) hof hb hst (by omega)
  rw [hv] at c6
  exact ⟨x, q, y, L1, L2, L3, L4, L5, L6, c1, c2, c3, c4, c5, c6, hI.wf (by omega) hs (by omega) hof⟩
theorem str_is {slot : Int} {stamp : Nat} (hs : slot = 0 ∨ slot = 1) (hst : stamp ≤ 18446744073709551615) : ∃ x q y L1 L2 L3 L4 L5 L6, StrIs slot stamp x q y L1 L2 L3 L4 L5 L6 := by
  rcases hs with rfl | rfl
  · exact str_of (P := .nonce 104) (.inl rfl) hst (nn _) nm5 nm5
  · exact str_of (P := .nonce 105) (.inr rfl) hst (nn _) nm6 nm6
theorem begun_wf {slot : Int} {stamp : Nat} {m : Mg} {pn : Pnd} {e : Int} {L1 : List Tm} (hs : slot = 0 ∨ slot = 1) (hst : stamp ≤ 18446744073709551615) (h : hBegin 5000 L18 (1, 2) pB 7 ⟨#[1]⟩ slot stamp 7 8 9 = (m, pn, e, L1)) : Ms.Ms.Wf m := by
  obtain ⟨x, q, y, M1, M2, M3, M4, M5, M6, S⟩ := str_is hs hst
  rw [S.c1] at h
  injection h with h1 h2
  rw [← h1]
  exact S.xw
end Go.Proofs.YtgeonppckeiceaaGreatDoor
