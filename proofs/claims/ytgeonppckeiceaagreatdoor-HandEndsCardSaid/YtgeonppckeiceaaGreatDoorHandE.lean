/- What does not end a handshake, in trees (by tools/stage17/ends.py). -/
import Derived.Test.YtgeonppckeiceaaGreatDoorGp42
namespace Go.Proofs.YtgeonppckeiceaaGreatDoor
open Go.RowKit
set_option linter.unusedVariables false
set_option linter.unusedSimpArgs false
section
variable {L : List Tm} {most : Int}
theorem finish_box_no {A1 D0 D1 E0 E1 M : Tr} {a1 d0 d1 e0 e bx c1 : Int} {y : Sy} {Y : Ys} (hf : Gd L) (sy : StY L y Y) (hA1 : Nm L A1 a1) (hD0 : Nm L D0 d0) (hE0 : Nm L E0 e0) (hE : Nm L (.pub E0) e) (hbox : Nm L (.box D1 E1) bx) (nA1 : A1 ≠ .none) (nD0 : D0 ≠ .none) (nE0 : E0 ≠ .none) (nE1 : E1 ≠ .none) (hM : Nm L M d1) (nM : M ≠ .none) (hne : M ≠ D1) (hr : (L.length : Int) + 10 < most) :
    ∃ L', finishG a1 y d0 d1 e bx c1 most L = (.error 10, L') ∧ Up L L' 10 := by
  obtain ⟨y, L1, e1, sy, u1⟩ := sayG_tr (most := most) hf sy hE (by simp [Tr.pub]) (by omega)
  have l1 := u1.len
  replace hE0 := hE0.ext u1.ext
  replace hD0 := hD0.ext u1.ext
  replace hM := hM.ext u1.ext
  replace hA1 := hA1.ext u1.ext
  replace hE := hE.ext u1.ext
  replace hbox := hbox.ext u1.ext
  obtain ⟨y, L2, e2, sy, u2⟩ := agreeG_tr (most := most) u1.gd sy hD0 hE0 hE nD0 nE0 (by omega)
  have l2 := u2.len
  replace hE0 := hE0.ext u2.ext
  replace hD0 := hD0.ext u2.ext
  replace hM := hM.ext u2.ext
  replace hA1 := hA1.ext u2.ext
  replace hE := hE.ext u2.ext
  replace hbox := hbox.ext u2.ext
  rw [shTr_comm (x := d0) (y := e0) (a := D0) (b := E0) (fun q => by have := hE0; rw [← q] at this; exact hD0.inj this)] at sy
  obtain ⟨y, L3, e3, sy, u3⟩ := agreeG_tr (most := most) u2.gd sy hA1 hE0 hE nA1 nE0 (by omega)
  have l3 := u3.len
  replace hE0 := hE0.ext u3.ext
  replace hD0 := hD0.ext u3.ext
  replace hM := hM.ext u3.ext
  replace hA1 := hA1.ext u3.ext
  replace hE := hE.ext u3.ext
  replace hbox := hbox.ext u3.ext
  rw [shTr_comm (x := a1) (y := e0) (a := A1) (b := E0) (fun q => by have := hE0; rw [← q] at this; exact hA1.inj this)] at sy
  obtain ⟨L4, e4, u4⟩ := unboxG_no (most := most) u3.gd sy hM hbox nM hne (by omega)
  have l4 := u4.len
  replace hE0 := hE0.ext u4.ext
  replace hD0 := hD0.ext u4.ext
  replace hM := hM.ext u4.ext
  replace hA1 := hA1.ext u4.ext
  replace hE := hE.ext u4.ext
  replace hbox := hbox.ext u4.ext
  replace sy := sy.ext u4.ext
  refine ⟨L4, by unfold finishG; rw [G.to_ok e1, G.to_ok e2, G.to_ok e3]; exact G.to_bad e4, (((u1).trans u2).trans u3).trans u4⟩
theorem finish_c1_no {A1 D0 D1 E0 E1 C : Tr} {a1 d0 d1 e0 e bx c1 : Int} {y : Sy} {Y : Ys} (hf : Gd L) (sy : StY L y Y) (hA1 : Nm L A1 a1) (hD0 : Nm L D0 d0) (hE0 : Nm L E0 e0) (hE : Nm L (.pub E0) e) (hbox : Nm L (.box D1 E1) bx) (nA1 : A1 ≠ .none) (nD0 : D0 ≠ .none) (nE0 : E0 ≠ .none) (nE1 : E1 ≠ .none) {X : Ys} (hD1 : Nm L D1 d1) (nD1 : D1 ≠ .none) (hc1 : Nm L (X.box C) c1) (hne : ¬ ((answerY1 Y E0 E1 D1 (shTr e0 d0 E0 D0) (shTr e0 a1 E0 A1)).K = X.K ∧ (0 : Int) = X.N ∧ (answerY1 Y E0 E1 D1 (shTr e0 d0 E0 D0) (shTr e0 a1 E0 A1)).H = X.H)) (hr : (L.length : Int) + 14 < most) :
    ∃ L', finishG a1 y d0 d1 e bx c1 most L = (.error 9, L') ∧ Up L L' 14 := by
  obtain ⟨y, L1, e1, sy, u1⟩ := sayG_tr (most := most) hf sy hE (by simp [Tr.pub]) (by omega)
  have l1 := u1.len
  replace hE0 := hE0.ext u1.ext
  replace hD0 := hD0.ext u1.ext
  replace hD1 := hD1.ext u1.ext
  replace hA1 := hA1.ext u1.ext
  replace hE := hE.ext u1.ext
  replace hbox := hbox.ext u1.ext
  replace hc1 := hc1.ext u1.ext
  obtain ⟨y, L2, e2, sy, u2⟩ := agreeG_tr (most := most) u1.gd sy hD0 hE0 hE nD0 nE0 (by omega)
  have l2 := u2.len
  replace hE0 := hE0.ext u2.ext
  replace hD0 := hD0.ext u2.ext
  replace hD1 := hD1.ext u2.ext
  replace hA1 := hA1.ext u2.ext
  replace hE := hE.ext u2.ext
  replace hbox := hbox.ext u2.ext
  replace hc1 := hc1.ext u2.ext
  rw [shTr_comm (x := d0) (y := e0) (a := D0) (b := E0) (fun q => by have := hE0; rw [← q] at this; exact hD0.inj this)] at sy
  obtain ⟨y, L3, e3, sy, u3⟩ := agreeG_tr (most := most) u2.gd sy hA1 hE0 hE nA1 nE0 (by omega)
  have l3 := u3.len
  replace hE0 := hE0.ext u3.ext
  replace hD0 := hD0.ext u3.ext
  replace hD1 := hD1.ext u3.ext
  replace hA1 := hA1.ext u3.ext
  replace hE := hE.ext u3.ext
  replace hbox := hbox.ext u3.ext
  replace hc1 := hc1.ext u3.ext
  rw [shTr_comm (x := a1) (y := e0) (a := A1) (b := E0) (fun q => by have := hE0; rw [← q] at this; exact hA1.inj this)] at sy
  obtain ⟨y, L4, e4, sy, u4⟩ := unboxG_tr (most := most) u3.gd sy hD1 hbox nD1 nE1 (by omega)
  have l4 := u4.len
  replace hE0 := hE0.ext u4.ext
  replace hD0 := hD0.ext u4.ext
  replace hD1 := hD1.ext u4.ext
  replace hA1 := hA1.ext u4.ext
  replace hE := hE.ext u4.ext
  replace hbox := hbox.ext u4.ext
  replace hc1 := hc1.ext u4.ext
  refine ⟨L4, by unfold finishG; rw [G.to_ok e1, G.to_ok e2, G.to_ok e3, G.to_ok e4]; exact unsealG_no sy hc1 (by simp [Ys.turn, Tr.key]) (by simp [Ys.turn, lastN]) hne, (((u1).trans u2).trans u3).trans u4⟩
theorem hFinish_bad {c : Int} {L' : List Tm} {x : Int} {p : Pnd} {m : Mg} (hm : m.i 0 = 2) (hR : Ms.rightM m = true)
    (h : finishG x p.y p.e p.ek (m.i 6) (m.i 8) (m.i 9) most L = (.error c, L')) : hFinish most L x p m = (zeroSes, c, L') := by
  unfold hFinish
  rw [if_neg (by rw [hR, hm]; simp), h]
end
theorem nm12 : Nm L18 (.nonce 111) 12 := nonce_nm 11 (by omega)
theorem nm13 : Nm L18 (.nonce 112) 13 := nonce_nm 12 (by omega)
theorem nm14 : Nm L18 (.nonce 113) 14 := nonce_nm 13 (by omega)
/-- The first part of a tree, and the second one. -/
def Tr.l : Tr → Tr
  | .none => .none
  | .mk _ _ _ a _ _ => a
def Tr.r : Tr → Tr
  | .none => .none
  | .mk _ _ _ _ b _ => b
structure EndsIs (n : Nat) (d0 d1 d2 : Int) (m m2 r : Mg) (q v : Pnd) (y : Sy) (u : Ses) (f : Int) (L1 L2 L3 L4 L5 L6 L7 L8 : List Tm) : Prop where
  c1 : hBegin 5000 L18 (1, 2) pB 7 ⟨#[2, 1]⟩ 0 n 7 8 9 = (m, q, 0, L1)
  c2 : hBegin 5000 L1 (1, 2) pB 8 ⟨#[2, 1]⟩ 0 n d0 d1 d2 = (m2, v, 0, L2)
  c3 : hOpen 5000 L2 (3, 4) [pA] ⟨#[1]⟩ m = (⟨y, 0, 1, n, m.i 6, m.i 7, 15⟩, 0, L3)
  c4 : hAnswer 5000 L3 ⟨y, 0, 1, n, m.i 6, m.i 7, 15⟩ 9 7 10 11 = (r, u, 0, L4)
  c5 : hFinish 5000 L4 1 q r = (⟨u.h, u.recv, u.send, 1⟩, 0, L5)
  c6 : hFinish 5000 L5 1 q r = (⟨u.h, u.recv, u.send, 1⟩, 0, L6)
  c7 : hFinish 5000 L6 1 v r = (zeroSes, f, L7)
  c8 : hFinish 5000 L7 1 q m = (zeroSes, 3, L7)
  c9 : hFinish 5000 L7 3 q r = (zeroSes, 9, L8)
  f0 : f ≠ 0
  mw : Ms.Ms.Wf m
  rw : Ms.Ms.Wf r
  oy : y.Wf
  oe : I64 (m.i 6) ∧ I64 (m.i 7)
  qy : q.y.Wf
  qe : q.e = 7
  qk : q.ek = 8
  vy : v.y.Wf
  ve : v.e = d0
  vk : v.ek = d1
theorem ends0 {n : Nat} (hn : n < 256) : ∃ m m2 r q v y u f L1 L2 L3 L4 L5 L6 L7 L8, EndsIs n 7 13 14 m m2 r q v y u f L1 L2 L3 L4 L5 L6 L7 L8 := by
  have l18 := len18
  have hst : n ≤ 18446744073709551615 := by omega
  have hof : (⟨#[2, 1]⟩ : ByteArray).size ≤ 1000 := by decide
  have hb : Ms.bestE (⟨#[1]⟩ : ByteArray).data.toList (⟨#[2, 1]⟩ : ByteArray).data.toList = 0 := by kernel_rfl
  have hv : Ms.bestV (⟨#[1]⟩ : ByteArray).data.toList (⟨#[2, 1]⟩ : ByteArray).data.toList = 1 := by kernel_rfl
  obtain ⟨m, q, L1, c1, hI, v1⟩ := hBegin_tr (most := 5000) (L := L18) (fr := 7) (slot := 0) (offer := ⟨#[2, 1]⟩) (stamp := n) gd18 ends18 (P := .nonce 104) nm5 nm7 nm8 nm9 (nn _) (nn _) (nn _) (nn _) (.inl rfl) (by omega) (by kernel_rfl) hst (by omega) (by omega)
  have g1 := v1.len
  have E1 := ends18.ext v1.ext
  have M12 := nm7.ext v1.ext
  have M13 := nm13.ext v1.ext
  have M14 := nm14.ext v1.ext
  obtain ⟨m2, v, L2, c2, hJ, v2⟩ := hBegin_tr (most := 5000) (L := L1) (fr := 8) (slot := 0) (offer := ⟨#[2, 1]⟩) (stamp := n) v1.gd E1 (P := .nonce 104) (nm5.ext v1.ext) M12 M13 M14 (nn _) (nn _) (nn _) (nn _) (.inl rfl) (by omega) (by kernel_rfl) hst (by omega) (by omega)
  have g2 := v2.len
  have x2 := v1.ext.trans v2.ext
  have E2 := ends18.ext x2
  have I2 := hI.ext v2.ext
  obtain ⟨y, L3, c3, sy, v3⟩ := hOpen_tr (most := 5000) (mine := ⟨#[1]⟩) (ps := [pA]) (i := 0) v2.gd E2 I2 (nm5.ext x2) (nm7.ext x2) (nm9.ext x2) (nn _) (nn _) (nn _) (nn _) (by decide) hof hb hst (by omega)
  have g3 := v3.len
  have x3 := x2.trans v3.ext
  have I3 := I2.ext v3.ext
  rw [hv] at c3
  obtain ⟨r, u, L4, c4, hR, hr, v4⟩ := hAnswer_tr (most := 5000) (o := ⟨y, 0, 1, n, m.i 6, m.i 7, 15⟩) (fr := 9) (tt := 7) v3.gd sy (ends18.ext x3).sA1 (nm7.ext x3) (nm8.ext x3) (nm10.ext x3) (nm11.ext x3) I3.e (ends18.ext x3).pA1 I3.ek (ends18.ext x3).n1 (nn _) (nn _) (nn _) (nn _) (by omega) (by omega) (by omega) (by omega)
  have g4 := v4.len
  have x4 := x3.trans v4.ext
  have I4 := I3.ext v4.ext
  have hq1 := hI.p1
  have hq2 := hI.p2
  have hq3 := hI.p3
  obtain ⟨L5, c5, v5⟩ := hFinish_tr (most := 5000) (p := q) (v := 1) v4.gd I4.y (ends18.ext x4).sA1 (by rw [hq1]; exact nm7.ext x4) (nm10.ext x4) (by rw [hq2]; exact nm8.ext x4) (by rw [hq1]; exact hR) (ends18.ext x4).n1 (nn _) (nn _) (nn _) (nn _) (by omega) (by rw [hq3]; decide) (by omega)
  have g5 := v5.len
  have x5 := x4.trans v5.ext
  have I5 := I4.ext v5.ext
  have R5 := hR.ext v5.ext
  obtain ⟨L6, c6, v6⟩ := hFinish_tr (most := 5000) (p := q) (v := 1) v5.gd I5.y (ends18.ext x5).sA1 (by rw [hq1]; exact nm7.ext x5) (nm10.ext x5) (by rw [hq2]; exact nm8.ext x5) (by rw [hq1]; exact R5) (ends18.ext x5).n1 (nn _) (nn _) (nn _) (nn _) (by omega) (by rw [hq3]; decide) (by omega)
  have g6 := v6.len
  have x6 := x5.trans v6.ext
  have I6 := I5.ext v6.ext
  have R6 := R5.ext v6.ext
  have J6 := hJ.ext (((v3.ext.trans v4.ext).trans v5.ext).trans v6.ext)
  have hv1 := hJ.p1
  have hv2 := hJ.p2
  obtain ⟨L7, z7, v7⟩ := finish_box_no (most := 5000) (d0 := v.e) (d1 := v.ek) (c1 := r.i 9) v6.gd J6.y (ends18.ext x6).sA1 (by rw [hv1]; exact nm7.ext x6) (nm10.ext x6) R6.e R6.box (ends18.ext x6).n1 (nn _) (nn _) (nn _) (by rw [hv2]; exact nm13.ext x6) (nn _) (nne (by decide)) (by omega)
  have c7 := hFinish_bad R6.kind R6.right z7
  have g7 := v7.len
  have x7 := x6.trans v7.ext
  have I7 := I6.ext v7.ext
  have R7 := R6.ext v7.ext
  obtain ⟨L8, z8, v8⟩ := finish_c1_no (most := 5000) (d0 := q.e) (d1 := q.ek) v7.gd I7.y (ends18.ext x7).sB1 (by rw [hq1]; exact nm7.ext x7) (nm10.ext x7) R7.e R7.box (ends18.ext x7).n3 (nn _) (nn _) (nn _) (by rw [hq2]; exact nm8.ext x7) (nn _) R7.c1 (fun q => by
    have q := congrArg (fun t : Tr => t.l.l.l.r) q.1
    have q : shTr 10 3 (.nonce 109) (.nonce 102) = shTr 10 1 (.nonce 109) (.nonce 100) := q
    simp [shTr, Tr.share, Tr.nonce] at q) (by omega)
  have kd := hI.kind
  exact ⟨m, m2, r, q, v, y, u, 10, L1, L2, L3, L4, L5, L6, L7, L8, c1, c2, c3, c4, c5, c6, c7, hFinish_kind (by rw [kd.1]; decide), hFinish_bad R7.kind R7.right z8, by decide, hI.wf (by omega) (.inl rfl) (by omega) hof, hR.wf hr (by omega) (by omega) (by omega), sy.wf (by omega) (by simp [Ys.sealed, Yb2, beginY2, Ys.turn]) (by simp [Ys.sealed, Yb2, beginY2, Ys.turn]), ⟨hI.e.i64 (by omega), hI.ek.i64 (by omega)⟩, hI.y.wf (by omega) (by simp [Ys.sealed, Yb2, beginY2, Ys.turn]) (by simp [Ys.sealed, Yb2, beginY2, Ys.turn]), hq1, hq2, hJ.y.wf (by omega) (by simp [Ys.sealed, Yb2, beginY2, Ys.turn]) (by simp [Ys.sealed, Yb2, beginY2, Ys.turn]), hv1, hv2⟩
theorem ends1 {n : Nat} (hn : n < 256) : ∃ m m2 r q v y u f L1 L2 L3 L4 L5 L6 L7 L8, EndsIs n 12 8 14 m m2 r q v y u f L1 L2 L3 L4 L5 L6 L7 L8 := by
  have l18 := len18
  have hst : n ≤ 18446744073709551615 := by omega
  have hof : (⟨#[2, 1]⟩ : ByteArray).size ≤ 1000 := by decide
  have hb : Ms.bestE (⟨#[1]⟩ : ByteArray).data.toList (⟨#[2, 1]⟩ : ByteArray).data.toList = 0 := by kernel_rfl
  have hv : Ms.bestV (⟨#[1]⟩ : ByteArray).data.toList (⟨#[2, 1]⟩ : ByteArray).data.toList = 1 := by kernel_rfl
  obtain ⟨m, q, L1, c1, hI, v1⟩ := hBegin_tr (most := 5000) (L := L18) (fr := 7) (slot := 0) (offer := ⟨#[2, 1]⟩) (stamp := n) gd18 ends18 (P := .nonce 104) nm5 nm7 nm8 nm9 (nn _) (nn _) (nn _) (nn _) (.inl rfl) (by omega) (by kernel_rfl) hst (by omega) (by omega)
  have g1 := v1.len
  have E1 := ends18.ext v1.ext
  have M12 := nm12.ext v1.ext
  have M13 := nm8.ext v1.ext
  have M14 := nm14.ext v1.ext
  obtain ⟨m2, v, L2, c2, hJ, v2⟩ := hBegin_tr (most := 5000) (L := L1) (fr := 8) (slot := 0) (offer := ⟨#[2, 1]⟩) (stamp := n) v1.gd E1 (P := .nonce 104) (nm5.ext v1.ext) M12 M13 M14 (nn _) (nn _) (nn _) (nn _) (.inl rfl) (by omega) (by kernel_rfl) hst (by omega) (by omega)
  have g2 := v2.len
  have x2 := v1.ext.trans v2.ext
  have E2 := ends18.ext x2
  have I2 := hI.ext v2.ext
  obtain ⟨y, L3, c3, sy, v3⟩ := hOpen_tr (most := 5000) (mine := ⟨#[1]⟩) (ps := [pA]) (i := 0) v2.gd E2 I2 (nm5.ext x2) (nm7.ext x2) (nm9.ext x2) (nn _) (nn _) (nn _) (nn _) (by decide) hof hb hst (by omega)
  have g3 := v3.len
  have x3 := x2.trans v3.ext
  have I3 := I2.ext v3.ext
  rw [hv] at c3
  obtain ⟨r, u, L4, c4, hR, hr, v4⟩ := hAnswer_tr (most := 5000) (o := ⟨y, 0, 1, n, m.i 6, m.i 7, 15⟩) (fr := 9) (tt := 7) v3.gd sy (ends18.ext x3).sA1 (nm7.ext x3) (nm8.ext x3) (nm10.ext x3) (nm11.ext x3) I3.e (ends18.ext x3).pA1 I3.ek (ends18.ext x3).n1 (nn _) (nn _) (nn _) (nn _) (by omega) (by omega) (by omega) (by omega)
  have g4 := v4.len
  have x4 := x3.trans v4.ext
  have I4 := I3.ext v4.ext
  have hq1 := hI.p1
  have hq2 := hI.p2
  have hq3 := hI.p3
  obtain ⟨L5, c5, v5⟩ := hFinish_tr (most := 5000) (p := q) (v := 1) v4.gd I4.y (ends18.ext x4).sA1 (by rw [hq1]; exact nm7.ext x4) (nm10.ext x4) (by rw [hq2]; exact nm8.ext x4) (by rw [hq1]; exact hR) (ends18.ext x4).n1 (nn _) (nn _) (nn _) (nn _) (by omega) (by rw [hq3]; decide) (by omega)
  have g5 := v5.len
  have x5 := x4.trans v5.ext
  have I5 := I4.ext v5.ext
  have R5 := hR.ext v5.ext
  obtain ⟨L6, c6, v6⟩ := hFinish_tr (most := 5000) (p := q) (v := 1) v5.gd I5.y (ends18.ext x5).sA1 (by rw [hq1]; exact nm7.ext x5) (nm10.ext x5) (by rw [hq2]; exact nm8.ext x5) (by rw [hq1]; exact R5) (ends18.ext x5).n1 (nn _) (nn _) (nn _) (nn _) (by omega) (by rw [hq3]; decide) (by omega)
  have g6 := v6.len
  have x6 := x5.trans v6.ext
  have I6 := I5.ext v6.ext
  have R6 := R5.ext v6.ext
  have J6 := hJ.ext (((v3.ext.trans v4.ext).trans v5.ext).trans v6.ext)
  have hv1 := hJ.p1
  have hv2 := hJ.p2
  obtain ⟨L7, z7, v7⟩ := finish_c1_no (most := 5000) (d0 := v.e) (d1 := v.ek) v6.gd J6.y (ends18.ext x6).sA1 (by rw [hv1]; exact nm12.ext x6) (nm10.ext x6) R6.e R6.box (ends18.ext x6).n1 (nn _) (nn _) (nn _) (by rw [hv2]; exact nm8.ext x6) (nn _) R6.c1 (fun q => by
    have q := congrArg (fun t : Tr => t.l.l.l.l.l.l.r) q.2.2
    have q : Tr.pub (.nonce 111) = Tr.pub (.nonce 106) := q
    simp [Tr.pub, Tr.nonce] at q) (by omega)
  have c7 := hFinish_bad R6.kind R6.right z7
  have g7 := v7.len
  have x7 := x6.trans v7.ext
  have I7 := I6.ext v7.ext
  have R7 := R6.ext v7.ext
  obtain ⟨L8, z8, v8⟩ := finish_c1_no (most := 5000) (d0 := q.e) (d1 := q.ek) v7.gd I7.y (ends18.ext x7).sB1 (by rw [hq1]; exact nm7.ext x7) (nm10.ext x7) R7.e R7.box (ends18.ext x7).n3 (nn _) (nn _) (nn _) (by rw [hq2]; exact nm8.ext x7) (nn _) R7.c1 (fun q => by
    have q := congrArg (fun t : Tr => t.l.l.l.r) q.1
    have q : shTr 10 3 (.nonce 109) (.nonce 102) = shTr 10 1 (.nonce 109) (.nonce 100) := q
    simp [shTr, Tr.share, Tr.nonce] at q) (by omega)
  have kd := hI.kind
  exact ⟨m, m2, r, q, v, y, u, 9, L1, L2, L3, L4, L5, L6, L7, L8, c1, c2, c3, c4, c5, c6, c7, hFinish_kind (by rw [kd.1]; decide), hFinish_bad R7.kind R7.right z8, by decide, hI.wf (by omega) (.inl rfl) (by omega) hof, hR.wf hr (by omega) (by omega) (by omega), sy.wf (by omega) (by simp [Ys.sealed, Yb2, beginY2, Ys.turn]) (by simp [Ys.sealed, Yb2, beginY2, Ys.turn]), ⟨hI.e.i64 (by omega), hI.ek.i64 (by omega)⟩, hI.y.wf (by omega) (by simp [Ys.sealed, Yb2, beginY2, Ys.turn]) (by simp [Ys.sealed, Yb2, beginY2, Ys.turn]), hq1, hq2, hJ.y.wf (by omega) (by simp [Ys.sealed, Yb2, beginY2, Ys.turn]) (by simp [Ys.sealed, Yb2, beginY2, Ys.turn]), hv1, hv2⟩
theorem ends2 {n : Nat} (hn : n < 256) : ∃ m m2 r q v y u f L1 L2 L3 L4 L5 L6 L7 L8, EndsIs n 12 13 9 m m2 r q v y u f L1 L2 L3 L4 L5 L6 L7 L8 := by
  have l18 := len18
  have hst : n ≤ 18446744073709551615 := by omega
  have hof : (⟨#[2, 1]⟩ : ByteArray).size ≤ 1000 := by decide
  have hb : Ms.bestE (⟨#[1]⟩ : ByteArray).data.toList (⟨#[2, 1]⟩ : ByteArray).data.toList = 0 := by kernel_rfl
  have hv : Ms.bestV (⟨#[1]⟩ : ByteArray).data.toList (⟨#[2, 1]⟩ : ByteArray).data.toList = 1 := by kernel_rfl
  obtain ⟨m, q, L1, c1, hI, v1⟩ := hBegin_tr (most := 5000) (L := L18) (fr := 7) (slot := 0) (offer := ⟨#[2, 1]⟩) (stamp := n) gd18 ends18 (P := .nonce 104) nm5 nm7 nm8 nm9 (nn _) (nn _) (nn _) (nn _) (.inl rfl) (by omega) (by kernel_rfl) hst (by omega) (by omega)
  have g1 := v1.len
  have E1 := ends18.ext v1.ext
  have M12 := nm12.ext v1.ext
  have M13 := nm13.ext v1.ext
  have M14 := nm9.ext v1.ext
  obtain ⟨m2, v, L2, c2, hJ, v2⟩ := hBegin_tr (most := 5000) (L := L1) (fr := 8) (slot := 0) (offer := ⟨#[2, 1]⟩) (stamp := n) v1.gd E1 (P := .nonce 104) (nm5.ext v1.ext) M12 M13 M14 (nn _) (nn _) (nn _) (nn _) (.inl rfl) (by omega) (by kernel_rfl) hst (by omega) (by omega)
  have g2 := v2.len
  have x2 := v1.ext.trans v2.ext
  have E2 := ends18.ext x2
  have I2 := hI.ext v2.ext
  obtain ⟨y, L3, c3, sy, v3⟩ := hOpen_tr (most := 5000) (mine := ⟨#[1]⟩) (ps := [pA]) (i := 0) v2.gd E2 I2 (nm5.ext x2) (nm7.ext x2) (nm9.ext x2) (nn _) (nn _) (nn _) (nn _) (by decide) hof hb hst (by omega)
  have g3 := v3.len
  have x3 := x2.trans v3.ext
  have I3 := I2.ext v3.ext
  rw [hv] at c3
  obtain ⟨r, u, L4, c4, hR, hr, v4⟩ := hAnswer_tr (most := 5000) (o := ⟨y, 0, 1, n, m.i 6, m.i 7, 15⟩) (fr := 9) (tt := 7) v3.gd sy (ends18.ext x3).sA1 (nm7.ext x3) (nm8.ext x3) (nm10.ext x3) (nm11.ext x3) I3.e (ends18.ext x3).pA1 I3.ek (ends18.ext x3).n1 (nn _) (nn _) (nn _) (nn _) (by omega) (by omega) (by omega) (by omega)
  have g4 := v4.len
  have x4 := x3.trans v4.ext
  have I4 := I3.ext v4.ext
  have hq1 := hI.p1
  have hq2 := hI.p2
  have hq3 := hI.p3
  obtain ⟨L5, c5, v5⟩ := hFinish_tr (most := 5000) (p := q) (v := 1) v4.gd I4.y (ends18.ext x4).sA1 (by rw [hq1]; exact nm7.ext x4) (nm10.ext x4) (by rw [hq2]; exact nm8.ext x4) (by rw [hq1]; exact hR) (ends18.ext x4).n1 (nn _) (nn _) (nn _) (nn _) (by omega) (by rw [hq3]; decide) (by omega)
  have g5 := v5.len
  have x5 := x4.trans v5.ext
  have I5 := I4.ext v5.ext
  have R5 := hR.ext v5.ext
  obtain ⟨L6, c6, v6⟩ := hFinish_tr (most := 5000) (p := q) (v := 1) v5.gd I5.y (ends18.ext x5).sA1 (by rw [hq1]; exact nm7.ext x5) (nm10.ext x5) (by rw [hq2]; exact nm8.ext x5) (by rw [hq1]; exact R5) (ends18.ext x5).n1 (nn _) (nn _) (nn _) (nn _) (by omega) (by rw [hq3]; decide) (by omega)
  have g6 := v6.len
  have x6 := x5.trans v6.ext
  have I6 := I5.ext v6.ext
  have R6 := R5.ext v6.ext
  have J6 := hJ.ext (((v3.ext.trans v4.ext).trans v5.ext).trans v6.ext)
  have hv1 := hJ.p1
  have hv2 := hJ.p2
  obtain ⟨L7, z7, v7⟩ := finish_box_no (most := 5000) (d0 := v.e) (d1 := v.ek) (c1 := r.i 9) v6.gd J6.y (ends18.ext x6).sA1 (by rw [hv1]; exact nm12.ext x6) (nm10.ext x6) R6.e R6.box (ends18.ext x6).n1 (nn _) (nn _) (nn _) (by rw [hv2]; exact nm13.ext x6) (nn _) (nne (by decide)) (by omega)
  have c7 := hFinish_bad R6.kind R6.right z7
  have g7 := v7.len
  have x7 := x6.trans v7.ext
  have I7 := I6.ext v7.ext
  have R7 := R6.ext v7.ext
  obtain ⟨L8, z8, v8⟩ := finish_c1_no (most := 5000) (d0 := q.e) (d1 := q.ek) v7.gd I7.y (ends18.ext x7).sB1 (by rw [hq1]; exact nm7.ext x7) (nm10.ext x7) R7.e R7.box (ends18.ext x7).n3 (nn _) (nn _) (nn _) (by rw [hq2]; exact nm8.ext x7) (nn _) R7.c1 (fun q => by
    have q := congrArg (fun t : Tr => t.l.l.l.r) q.1
    have q : shTr 10 3 (.nonce 109) (.nonce 102) = shTr 10 1 (.nonce 109) (.nonce 100) := q
    simp [shTr, Tr.share, Tr.nonce] at q) (by omega)
  have kd := hI.kind
  exact ⟨m, m2, r, q, v, y, u, 10, L1, L2, L3, L4, L5, L6, L7, L8, c1, c2, c3, c4, c5, c6, c7, hFinish_kind (by rw [kd.1]; decide), hFinish_bad R7.kind R7.right z8, by decide, hI.wf (by omega) (.inl rfl) (by omega) hof, hR.wf hr (by omega) (by omega) (by omega), sy.wf (by omega) (by simp [Ys.sealed, Yb2, beginY2, Ys.turn]) (by simp [Ys.sealed, Yb2, beginY2, Ys.turn]), ⟨hI.e.i64 (by omega), hI.ek.i64 (by omega)⟩, hI.y.wf (by omega) (by simp [Ys.sealed, Yb2, beginY2, Ys.turn]) (by simp [Ys.sealed, Yb2, beginY2, Ys.turn]), hq1, hq2, hJ.y.wf (by omega) (by simp [Ys.sealed, Yb2, beginY2, Ys.turn]) (by simp [Ys.sealed, Yb2, beginY2, Ys.turn]), hv1, hv2⟩
end Go.Proofs.YtgeonppckeiceaaGreatDoor
