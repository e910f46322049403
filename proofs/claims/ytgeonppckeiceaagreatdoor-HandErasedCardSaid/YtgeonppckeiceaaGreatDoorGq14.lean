/- What is not opened, in trees (by tools/stage17/fails.py): another one's box, another transcript, no such peer, another secret of both. -/
/- What Open tells of what is not opened. -/
/- Blocks of several cells that a call owns: what they hold behind stores; two of them beside two stores. -/
import Derived.Test.YtgeonppckeiceaaGreatDoorGq13
import Derived.Test.YtgeonppckeiceaaGreatDoorGq07
import Derived.ScopeJumps
import Derived.WalkMore
import Derived.Deep.RegionHeld3
namespace Go.Proofs.YtgeonppckeiceaaGreatDoor
open Go.RowKit
set_option linter.unusedVariables false
set_option linter.unusedSimpArgs false
section
variable {L : List Tm} {most : Int} {y : Sy} {s : Ys}
theorem turn_K {a b : Ys} {x z : Tr} (h : (a.turn x).K = (b.turn z).K) : x = z := by
 simp only [Ys.turn, Tr.key, Tr.hash, Tr.mk.injEq] at h
 exact h.2.2.2.1.2.2.2.2.1
theorem unsealG_no {t : Tr} {c : Int} {s' : Ys} (h : StY L y s) (hc : Nm L (s'.box t) c) (hk : s.K ≠ .none) (hl : s.N ≠ lastN) (hne : ¬ (s.K = s'.K ∧ s.N = s'.N ∧ s.H = s'.H)) : unsealG y c most L = (.error 9, L) := by
 unfold unsealG; rw [unseal_no h hc hk hl hne]; rfl
theorem unboxG_no {a b d : Tr} {x c : Int} (hf : Gd L) (h : StY L y s) (ha : Nm L a x) (hc : Nm L (.box b d) c) (hna : a ≠ .none) (hne : a ≠ b) (hr : (L.length : Int) < most) :
  ∃ L', unboxG y x c most L = (.error 10, L') ∧ Up L L' 1 := by
 obtain ⟨y1, L1, e1, s1, u1⟩ := sayG_tr (most := most) hf h hc (by simp [Tr.box]) (by omega)
 refine ⟨L1, ?_, u1⟩
 rw [unboxG, G.to_ok e1]
 refine G.to_bad ?_
 unfold unwrapG
 rw [unwrap_no (ha.ext u1.ext) (hc.ext u1.ext) hna hne]
 rfl
theorem open_box_no {B2 D0 D1 D2 M1 M2 : Tr} {m1 m2 d0 slot e ek bx c1 c2 : Int}  {ps : List Int} {psk : Nat → Int} {offer : ByteArray}  (hf : Gd L) (hM1 : Nm L M1 m1) (hM2 : Nm L M2 m2) (h0 : Nm L D0 d0) (hE : Nm L (.pub D0) e) (hEK : Nm L (.kpub D1) ek) (hbox : Nm L (.box B2 D2) bx) (hne : M2 ≠ B2) (nM1 : M1 ≠ .none) (nM2 : M2 ≠ .none) (n0 : D0 ≠ .none) (n1 : D1 ≠ .none) (n2 : D2 ≠ .none) (ho : offer.size ≤ 1000) (hr : (L.length : Int) + 16 < most) :
  ∃ L', openG (m1, m2) ps psk offer slot e ek bx c1 c2 most L = (.error 10, L') ∧ Up L L' 16 := by
 obtain ⟨p, q, L1, e1, hp1, hp2, u1⟩ := publics_tr (most := most) hf hM1 hM2 nM1 nM2 (by omega)
 have l1 := u1.len
 replace hM1 := hM1.ext u1.ext
 replace hM2 := hM2.ext u1.ext
 replace h0 := h0.ext u1.ext
 replace hE := hE.ext u1.ext
 replace hEK := hEK.ext u1.ext
 replace hbox := hbox.ext u1.ext
 obtain ⟨y, L2, e2, sy, u2⟩ := first_tr (slot := slot) (most := most) u1.gd hp1 hp2 ho (by omega)
 have l2 := u2.len
 replace hM1 := hM1.ext u2.ext
 replace hM2 := hM2.ext u2.ext
 replace h0 := h0.ext u2.ext
 replace hE := hE.ext u2.ext
 replace hEK := hEK.ext u2.ext
 replace hbox := hbox.ext u2.ext
 replace hp1 := hp1.ext u2.ext
 replace hp2 := hp2.ext u2.ext
 obtain ⟨y, L3, e3, sy, u3⟩ := sayG_tr (most := most) u2.gd sy hE (by simp [Tr.pub]) (by omega)
 have l3 := u3.len
 replace hM1 := hM1.ext u3.ext
 replace hM2 := hM2.ext u3.ext
 replace h0 := h0.ext u3.ext
 replace hE := hE.ext u3.ext
 replace hEK := hEK.ext u3.ext
 replace hbox := hbox.ext u3.ext
 replace hp1 := hp1.ext u3.ext
 replace hp2 := hp2.ext u3.ext
 obtain ⟨y, L4, e4, sy, u4⟩ := sayG_tr (most := most) u3.gd sy hEK (by simp [Tr.kpub]) (by omega)
 have l4 := u4.len
 replace hM1 := hM1.ext u4.ext
 replace hM2 := hM2.ext u4.ext
 replace h0 := h0.ext u4.ext
 replace hE := hE.ext u4.ext
 replace hEK := hEK.ext u4.ext
 replace hbox := hbox.ext u4.ext
 replace hp1 := hp1.ext u4.ext
 replace hp2 := hp2.ext u4.ext
 obtain ⟨y, L5, e5, sy, u5⟩ := agreeG_tr (most := most) u4.gd sy hM1 h0 hE nM1 n0 (by omega)
 have l5 := u5.len
 replace hM1 := hM1.ext u5.ext
 replace hM2 := hM2.ext u5.ext
 replace h0 := h0.ext u5.ext
 replace hE := hE.ext u5.ext
 replace hEK := hEK.ext u5.ext
 replace hbox := hbox.ext u5.ext
 replace hp1 := hp1.ext u5.ext
 replace hp2 := hp2.ext u5.ext
 rw [shTr_comm (x := m1) (y := d0) (a := M1) (b := D0) (fun q => by have := h0; rw [← q] at this; exact hM1.inj this)] at sy
 obtain ⟨L6, e6, u6⟩ := unboxG_no (most := most) u5.gd sy hM2 hbox nM2 hne (by omega)
 have l6 := u6.len
 replace hM1 := hM1.ext u6.ext
 replace hM2 := hM2.ext u6.ext
 replace h0 := h0.ext u6.ext
 replace hE := hE.ext u6.ext
 replace hEK := hEK.ext u6.ext
 replace hbox := hbox.ext u6.ext
 replace hp1 := hp1.ext u6.ext
 replace hp2 := hp2.ext u6.ext
 replace sy := sy.ext u6.ext
 refine ⟨L6, by unfold openG; rw [G.to_ok e1, G.to_ok e2, G.to_ok e3, G.to_ok e4, G.to_ok e5]; exact G.to_bad e6, (((((u1).trans u2).trans u3).trans u4).trans u5).trans u6⟩
theorem open_who_no {A1 B1 B2 D0 D1 D2 : Tr} {b1 b2 pa d0 slot e ek bx c1 c2 : Int}  {ps : List Int} {psk : Nat → Int} {offer : ByteArray}  (hf : Gd L) (hB1 : Nm L B1 b1) (hB2 : Nm L B2 b2) (h0 : Nm L D0 d0) (hD2 : ∃ d2, Nm L D2 d2) (hE : Nm L (.pub D0) e) (hEK : Nm L (.kpub D1) ek) (hbox : Nm L (.box B2 D2) bx) (hc1 : Nm L ((beginY1 offer slot B1 B2 D0 D1 D2 (shTr d0 b1 D0 B1)).box (.pub A1)) c1) (hpa : Nm L (.pub A1) pa) (hw : whoF ps pa = none) (nB1 : B1 ≠ .none) (nB2 : B2 ≠ .none) (n0 : D0 ≠ .none) (n1 : D1 ≠ .none) (n2 : D2 ≠ .none) (ho : offer.size ≤ 1000) (hr : (L.length : Int) + 21 < most) :
  ∃ L', openG (b1, b2) ps psk offer slot e ek bx c1 c2 most L = (.error 5, L') ∧ Up L L' 21 := by
 obtain ⟨d2, h2⟩ := hD2
 obtain ⟨p, q, L1, e1, hp1, hp2, u1⟩ := publics_tr (most := most) hf hB1 hB2 nB1 nB2 (by omega)
 have l1 := u1.len
 replace hB1 := hB1.ext u1.ext
 replace hB2 := hB2.ext u1.ext
 replace h0 := h0.ext u1.ext
 replace h2 := h2.ext u1.ext
 replace hE := hE.ext u1.ext
 replace hEK := hEK.ext u1.ext
 replace hbox := hbox.ext u1.ext
 replace hc1 := hc1.ext u1.ext
 replace hpa := hpa.ext u1.ext
 obtain ⟨y, L2, e2, sy, u2⟩ := first_tr (slot := slot) (most := most) u1.gd hp1 hp2 ho (by omega)
 have l2 := u2.len
 replace hB1 := hB1.ext u2.ext
 replace hB2 := hB2.ext u2.ext
 replace h0 := h0.ext u2.ext
 replace h2 := h2.ext u2.ext
 replace hE := hE.ext u2.ext
 replace hEK := hEK.ext u2.ext
 replace hbox := hbox.ext u2.ext
 replace hc1 := hc1.ext u2.ext
 replace hpa := hpa.ext u2.ext
 replace hp1 := hp1.ext u2.ext
 replace hp2 := hp2.ext u2.ext
 obtain ⟨y, L3, e3, sy, u3⟩ := sayG_tr (most := most) u2.gd sy hE (by simp [Tr.pub]) (by omega)
 have l3 := u3.len
 replace hB1 := hB1.ext u3.ext
 replace hB2 := hB2.ext u3.ext
 replace h0 := h0.ext u3.ext
 replace h2 := h2.ext u3.ext
 replace hE := hE.ext u3.ext
 replace hEK := hEK.ext u3.ext
 replace hbox := hbox.ext u3.ext
 replace hc1 := hc1.ext u3.ext
 replace hpa := hpa.ext u3.ext
 replace hp1 := hp1.ext u3.ext
 replace hp2 := hp2.ext u3.ext
 obtain ⟨y, L4, e4, sy, u4⟩ := sayG_tr (most := most) u3.gd sy hEK (by simp [Tr.kpub]) (by omega)
 have l4 := u4.len
 replace hB1 := hB1.ext u4.ext
 replace hB2 := hB2.ext u4.ext
 replace h0 := h0.ext u4.ext
 replace h2 := h2.ext u4.ext
 replace hE := hE.ext u4.ext
 replace hEK := hEK.ext u4.ext
 replace hbox := hbox.ext u4.ext
 replace hc1 := hc1.ext u4.ext
 replace hpa := hpa.ext u4.ext
 replace hp1 := hp1.ext u4.ext
 replace hp2 := hp2.ext u4.ext
 obtain ⟨y, L5, e5, sy, u5⟩ := agreeG_tr (most := most) u4.gd sy hB1 h0 hE nB1 n0 (by omega)
 have l5 := u5.len
 replace hB1 := hB1.ext u5.ext
 replace hB2 := hB2.ext u5.ext
 replace h0 := h0.ext u5.ext
 replace h2 := h2.ext u5.ext
 replace hE := hE.ext u5.ext
 replace hEK := hEK.ext u5.ext
 replace hbox := hbox.ext u5.ext
 replace hc1 := hc1.ext u5.ext
 replace hpa := hpa.ext u5.ext
 replace hp1 := hp1.ext u5.ext
 replace hp2 := hp2.ext u5.ext
 rw [shTr_comm (x := b1) (y := d0) (a := B1) (b := D0) (fun q => by have := h0; rw [← q] at this; exact hB1.inj this)] at sy
 obtain ⟨y, L6, e6, sy, u6⟩ := unboxG_tr (most := most) u5.gd sy hB2 hbox nB2 n2 (by omega)
 have l6 := u6.len
 replace hB1 := hB1.ext u6.ext
 replace hB2 := hB2.ext u6.ext
 replace h0 := h0.ext u6.ext
 replace h2 := h2.ext u6.ext
 replace hE := hE.ext u6.ext
 replace hEK := hEK.ext u6.ext
 replace hbox := hbox.ext u6.ext
 replace hc1 := hc1.ext u6.ext
 replace hpa := hpa.ext u6.ext
 replace hp1 := hp1.ext u6.ext
 replace hp2 := hp2.ext u6.ext
 obtain ⟨y, qa, L7, e7, sy, hqa, u7⟩ := unsealG_tr (most := most) u6.gd sy hc1 (by simp [Ys.turn, Tr.key]) (by simp [Ys.turn, lastN]) (by omega)
 have l7 := u7.len
 replace hB1 := hB1.ext u7.ext
 replace hB2 := hB2.ext u7.ext
 replace h0 := h0.ext u7.ext
 replace h2 := h2.ext u7.ext
 replace hE := hE.ext u7.ext
 replace hEK := hEK.ext u7.ext
 replace hbox := hbox.ext u7.ext
 replace hc1 := hc1.ext u7.ext
 replace hpa := hpa.ext u7.ext
 replace hp1 := hp1.ext u7.ext
 replace hp2 := hp2.ext u7.ext
 have eqa : qa = pa := hqa.fun hpa
 subst eqa
 refine ⟨L7, by unfold openG; rw [G.to_ok e1, G.to_ok e2, G.to_ok e3, G.to_ok e4, G.to_ok e5, G.to_ok e6, G.to_ok e7]; simp only [hw]; rfl, ((((((u1).trans u2).trans u3).trans u4).trans u5).trans u6).trans u7⟩
theorem open_psk_no {A1 B1 B2 P Q D0 D1 D2 C : Tr} {a1 b1 b2 pa d0 slot e ek bx c1 c2 : Int} {i : Nat} {ps : List Int} {psk : Nat → Int} {offer : ByteArray}  (hf : Gd L) (hB1 : Nm L B1 b1) (hB2 : Nm L B2 b2) (h0 : Nm L D0 d0) (hD2 : ∃ d2, Nm L D2 d2) (hE : Nm L (.pub D0) e) (hEK : Nm L (.kpub D1) ek) (hbox : Nm L (.box B2 D2) bx) (hA1 : Nm L A1 a1) (hQ : Nm L Q (psk i)) (hc1 : Nm L ((beginY1 offer slot B1 B2 D0 D1 D2 (shTr d0 b1 D0 B1)).box (.pub A1)) c1) (hc2 : Nm L ((beginY2 (beginY1 offer slot B1 B2 D0 D1 D2 (shTr d0 b1 D0 B1)) A1 (shTr a1 b1 A1 B1) P).box C) c2) (hpa : Nm L (.pub A1) pa) (hw : whoF ps pa = some i) (hne : Q ≠ P) (nQ : Q ≠ .none) (nA1 : A1 ≠ .none) (nB1 : B1 ≠ .none) (nB2 : B2 ≠ .none) (n0 : D0 ≠ .none) (n1 : D1 ≠ .none) (n2 : D2 ≠ .none) (ho : offer.size ≤ 1000) (hr : (L.length : Int) + 28 < most) :
  ∃ L', openG (b1, b2) ps psk offer slot e ek bx c1 c2 most L = (.error 9, L') ∧ Up L L' 28 := by
 obtain ⟨d2, h2⟩ := hD2
 obtain ⟨p, q, L1, e1, hp1, hp2, u1⟩ := publics_tr (most := most) hf hB1 hB2 nB1 nB2 (by omega)
 have l1 := u1.len
 replace hA1 := hA1.ext u1.ext
 replace hB1 := hB1.ext u1.ext
 replace hB2 := hB2.ext u1.ext
 replace hQ := hQ.ext u1.ext
 replace h0 := h0.ext u1.ext
 replace h2 := h2.ext u1.ext
 replace hE := hE.ext u1.ext
 replace hEK := hEK.ext u1.ext
 replace hbox := hbox.ext u1.ext
 replace hc1 := hc1.ext u1.ext
 replace hc2 := hc2.ext u1.ext
 replace hpa := hpa.ext u1.ext
 obtain ⟨y, L2, e2, sy, u2⟩ := first_tr (slot := slot) (most := most) u1.gd hp1 hp2 ho (by omega)
 have l2 := u2.len
 replace hA1 := hA1.ext u2.ext
 replace hB1 := hB1.ext u2.ext
 replace hB2 := hB2.ext u2.ext
 replace hQ := hQ.ext u2.ext
 replace h0 := h0.ext u2.ext
 replace h2 := h2.ext u2.ext
 replace hE := hE.ext u2.ext
 replace hEK := hEK.ext u2.ext
 replace hbox := hbox.ext u2.ext
 replace hc1 := hc1.ext u2.ext
 replace hc2 := hc2.ext u2.ext
 replace hpa := hpa.ext u2.ext
 replace hp1 := hp1.ext u2.ext
 replace hp2 := hp2.ext u2.ext
 obtain ⟨y, L3, e3, sy, u3⟩ := sayG_tr (most := most) u2.gd sy hE (by simp [Tr.pub]) (by omega)
 have l3 := u3.len
 replace hA1 := hA1.ext u3.ext
 replace hB1 := hB1.ext u3.ext
 replace hB2 := hB2.ext u3.ext
 replace hQ := hQ.ext u3.ext
 replace h0 := h0.ext u3.ext
 replace h2 := h2.ext u3.ext
 replace hE := hE.ext u3.ext
 replace hEK := hEK.ext u3.ext
 replace hbox := hbox.ext u3.ext
 replace hc1 := hc1.ext u3.ext
 replace hc2 := hc2.ext u3.ext
 replace hpa := hpa.ext u3.ext
 replace hp1 := hp1.ext u3.ext
 replace hp2 := hp2.ext u3.ext
 obtain ⟨y, L4, e4, sy, u4⟩ := sayG_tr (most := most) u3.gd sy hEK (by simp [Tr.kpub]) (by omega)
 have l4 := u4.len
 replace hA1 := hA1.ext u4.ext
 replace hB1 := hB1.ext u4.ext
 replace hB2 := hB2.ext u4.ext
 replace hQ := hQ.ext u4.ext
 replace h0 := h0.ext u4.ext
 replace h2 := h2.ext u4.ext
 replace hE := hE.ext u4.ext
 replace hEK := hEK.ext u4.ext
 replace hbox := hbox.ext u4.ext
 replace hc1 := hc1.ext u4.ext
 replace hc2 := hc2.ext u4.ext
 replace hpa := hpa.ext u4.ext
 replace hp1 := hp1.ext u4.ext
 replace hp2 := hp2.ext u4.ext
 obtain ⟨y, L5, e5, sy, u5⟩ := agreeG_tr (most := most) u4.gd sy hB1 h0 hE nB1 n0 (by omega)
 have l5 := u5.len
 replace hA1 := hA1.ext u5.ext
 replace hB1 := hB1.ext u5.ext
 replace hB2 := hB2.ext u5.ext
 replace hQ := hQ.ext u5.ext
 replace h0 := h0.ext u5.ext
 replace h2 := h2.ext u5.ext
 replace hE := hE.ext u5.ext
 replace hEK := hEK.ext u5.ext
 replace hbox := hbox.ext u5.ext
 replace hc1 := hc1.ext u5.ext
 replace hc2 := hc2.ext u5.ext
 replace hpa := hpa.ext u5.ext
 replace hp1 := hp1.ext u5.ext
 replace hp2 := hp2.ext u5.ext
 rw [shTr_comm (x := b1) (y := d0) (a := B1) (b := D0) (fun q => by have := h0; rw [← q] at this; exact hB1.inj this)] at sy
 obtain ⟨y, L6, e6, sy, u6⟩ := unboxG_tr (most := most) u5.gd sy hB2 hbox nB2 n2 (by omega)
 have l6 := u6.len
 replace hA1 := hA1.ext u6.ext
 replace hB1 := hB1.ext u6.ext
 replace hB2 := hB2.ext u6.ext
 replace hQ := hQ.ext u6.ext
 replace h0 := h0.ext u6.ext
 replace h2 := h2.ext u6.ext
 replace hE := hE.ext u6.ext
 replace hEK := hEK.ext u6.ext
 replace hbox := hbox.ext u6.ext
 replace hc1 := hc1.ext u6.ext
 replace hc2 := hc2.ext u6.ext
 replace hpa := hpa.ext u6.ext
 replace hp1 := hp1.ext u6.ext
 replace hp2 := hp2.ext u6.ext
 obtain ⟨y, qa, L7, e7, sy, hqa, u7⟩ := unsealG_tr (most := most) u6.gd sy hc1 (by simp [Ys.turn, Tr.key]) (by simp [Ys.turn, lastN]) (by omega)
 have l7 := u7.len
 replace hA1 := hA1.ext u7.ext
 replace hB1 := hB1.ext u7.ext
 replace hB2 := hB2.ext u7.ext
 replace hQ := hQ.ext u7.ext
 replace h0 := h0.ext u7.ext
 replace h2 := h2.ext u7.ext
 replace hE := hE.ext u7.ext
 replace hEK := hEK.ext u7.ext
 replace hbox := hbox.ext u7.ext
 replace hc1 := hc1.ext u7.ext
 replace hc2 := hc2.ext u7.ext
 replace hpa := hpa.ext u7.ext
 replace hp1 := hp1.ext u7.ext
 replace hp2 := hp2.ext u7.ext
 have eqa : qa = pa := hqa.fun hpa
 subst eqa
 obtain ⟨y, L8, e8, sy, u8⟩ := agreeG_tr (most := most) u7.gd sy hB1 hA1 hpa nB1 nA1 (by omega)
 have l8 := u8.len
 replace hA1 := hA1.ext u8.ext
 replace hB1 := hB1.ext u8.ext
 replace hB2 := hB2.ext u8.ext
 replace hQ := hQ.ext u8.ext
 replace h0 := h0.ext u8.ext
 replace h2 := h2.ext u8.ext
 replace hE := hE.ext u8.ext
 replace hEK := hEK.ext u8.ext
 replace hbox := hbox.ext u8.ext
 replace hc1 := hc1.ext u8.ext
 replace hc2 := hc2.ext u8.ext
 replace hpa := hpa.ext u8.ext
 replace hp1 := hp1.ext u8.ext
 replace hp2 := hp2.ext u8.ext
 replace hqa := hqa.ext u8.ext
 rw [shTr_comm (x := b1) (y := a1) (a := B1) (b := A1) (fun q => by have := hA1; rw [← q] at this; exact hB1.inj this)] at sy
 obtain ⟨y, L9, e9, sy, u9⟩ := turnG_tr (most := most) u8.gd sy hQ (nQ) (by omega)
 have l9 := u9.len
 replace hA1 := hA1.ext u9.ext
 replace hB1 := hB1.ext u9.ext
 replace hB2 := hB2.ext u9.ext
 replace hQ := hQ.ext u9.ext
 replace h0 := h0.ext u9.ext
 replace h2 := h2.ext u9.ext
 replace hE := hE.ext u9.ext
 replace hEK := hEK.ext u9.ext
 replace hbox := hbox.ext u9.ext
 replace hc1 := hc1.ext u9.ext
 replace hc2 := hc2.ext u9.ext
 replace hpa := hpa.ext u9.ext
 replace hp1 := hp1.ext u9.ext
 replace hp2 := hp2.ext u9.ext
 replace hqa := hqa.ext u9.ext
 refine ⟨L9, by unfold openG; rw [G.to_ok e1, G.to_ok e2, G.to_ok e3, G.to_ok e4, G.to_ok e5, G.to_ok e6, G.to_ok e7]; simp only [hw]; rw [G.to_ok e8, G.to_ok e9]; exact G.to_bad (unsealG_no sy hc2 (by simp [Ys.turn, Tr.key]) (by simp [Ys.turn, lastN]) (fun q => hne (turn_K q.1))), ((((((((u1).trans u2).trans u3).trans u4).trans u5).trans u6).trans u7).trans u8).trans u9⟩
end
section
variable {L : List Tm} {most : Int} {A1 A2 B1 B2 P Q D0 D1 D2 M1 M2 : Tr} {a1 a2 b1 b2 m1 m2 d0 d1 d2 fr slot : Int} {pa pb : Pr} {offer mine : ByteArray} {stamp : Nat} {m : Mg} {p : Pnd} {ps : List Pr} {i : Nat}
theorem InitIs.kind (hI : InitIs L m p A1 B1 B2 P D0 D1 D2 a1 b1 d0 d1 fr slot offer stamp) : m.i 0 = 1 ∧ m.i 4 = slot ∧ m.s = offer ∧ m.i 1 = fr := by
 refine ⟨?_, ?_, ?_, ?_⟩ <;> (rw [hI.form]; rfl)
theorem hOpen_bad {c : Int} {L' : List Tm} {x y : Int} (hI : InitIs L m p A1 B1 B2 P D0 D1 D2 a1 b1 d0 d1 fr slot offer stamp) (hb : Ms.bestE mine.data.toList offer.data.toList = 0)
  (h : openG (x, y) (ps.map Pr.dh) (fun i => (ps.getD i zeroPr).psk slot) offer slot (m.i 6) (m.i 7) (m.i 8) (m.i 9) (m.i 10) most L = (.error c, L')) : hOpen most L (x, y) ps mine m = (zeroOpd, c, L') := by
 obtain ⟨e0, e4, es, _⟩ := hI.kind
 unfold hOpen
 rw [if_neg (by rw [hI.right, e0]; simp), es, if_neg (by rw [hb]; simp), e4, h]
theorem hOpen_ver {x : Int × Int} (hI : InitIs L m p A1 B1 B2 P D0 D1 D2 a1 b1 d0 d1 fr slot offer stamp) (hb : Ms.bestE mine.data.toList offer.data.toList ≠ 0) :
  hOpen most L x ps mine m = (zeroOpd, Ms.bestE mine.data.toList offer.data.toList, L) := by
 obtain ⟨e0, e4, es, _⟩ := hI.kind
 unfold hOpen
 rw [if_neg (by rw [hI.right, e0]; simp), es, if_pos hb]
theorem hOpen_box (hf : Gd L) (hI : InitIs L m p A1 B1 B2 P D0 D1 D2 a1 b1 d0 d1 fr slot offer stamp) (hM1 : Nm L M1 m1) (hM2 : Nm L M2 m2) (h0 : Nm L D0 d0) (hne : M2 ≠ B2) (nM1 : M1 ≠ .none) (nM2 : M2 ≠ .none) (n0 : D0 ≠ .none) (n1 : D1 ≠ .none) (n2 : D2 ≠ .none)
  (ho : offer.size ≤ 1000) (hb : Ms.bestE mine.data.toList offer.data.toList = 0) (hr : (L.length : Int) + 60 < most) : ∃ L', hOpen most L (m1, m2) ps mine m = (zeroOpd, 10, L') ∧ Up L L' 60 := by
 obtain ⟨L', e, up⟩ := open_box_no (most := most) (ps := ps.map Pr.dh) (psk := fun i => (ps.getD i zeroPr).psk slot) (slot := slot) (c1 := m.i 9) (c2 := m.i 10) hf hM1 hM2 h0 hI.e hI.ek hI.box hne nM1 nM2 n0 n1 n2 ho (by omega)
 exact ⟨L', hOpen_bad hI hb e, up.mono (by omega)⟩
theorem hOpen_who (hf : Gd L) (h : Ends L A1 A2 B1 B2 a1 a2 b1 b2 pa pb) (hI : InitIs L m p A1 B1 B2 P D0 D1 D2 a1 b1 d0 d1 fr slot offer stamp) (h0 : Nm L D0 d0) (h2 : Nm L D2 d2) (n0 : D0 ≠ .none) (n1 : D1 ≠ .none) (n2 : D2 ≠ .none)
  (hw : whoF (ps.map Pr.dh) pa.dh = none) (ho : offer.size ≤ 1000) (hb : Ms.bestE mine.data.toList offer.data.toList = 0) (hr : (L.length : Int) + 60 < most) : ∃ L', hOpen most L (b1, b2) ps mine m = (zeroOpd, 5, L') ∧ Up L L' 60 := by
 obtain ⟨L', e, up⟩ := open_who_no (most := most) (ps := ps.map Pr.dh) (psk := fun i => (ps.getD i zeroPr).psk slot) (c2 := m.i 10) hf h.sB1 h.sB2 h0 ⟨d2, h2⟩ hI.e hI.ek hI.box hI.c1 h.pA1 hw h.n3 h.n4 n0 n1 n2 ho (by omega)
 exact ⟨L', hOpen_bad hI hb e, up.mono (by omega)⟩
theorem hOpen_psk (hf : Gd L) (h : Ends L A1 A2 B1 B2 a1 a2 b1 b2 pa pb) (hI : InitIs L m p A1 B1 B2 P D0 D1 D2 a1 b1 d0 d1 fr slot offer stamp) (hQ : Nm L Q ((ps.getD i zeroPr).psk slot)) (hne : Q ≠ P) (nQ : Q ≠ .none) (h0 : Nm L D0 d0) (h2 : Nm L D2 d2) (n0 : D0 ≠ .none) (n1 : D1 ≠ .none) (n2 : D2 ≠ .none)
  (hw : whoF (ps.map Pr.dh) pa.dh = some i) (ho : offer.size ≤ 1000) (hb : Ms.bestE mine.data.toList offer.data.toList = 0) (hr : (L.length : Int) + 60 < most) : ∃ L', hOpen most L (b1, b2) ps mine m = (zeroOpd, 9, L') ∧ Up L L' 60 := by
 obtain ⟨L', e, up⟩ := open_psk_no (most := most) (ps := ps.map Pr.dh) (psk := fun i => (ps.getD i zeroPr).psk slot) hf h.sB1 h.sB2 h0 ⟨d2, h2⟩ hI.e hI.ek hI.box h.sA1 hQ hI.c1 hI.c2 h.pA1 hw hne nQ h.n1 h.n3 h.n4 n0 n1 n2 ho (by omega)
 exact ⟨L', hOpen_bad hI hb e, up.mono (by omega)⟩
theorem hFinish_kind {y : Int} (h : m.i 0 ≠ 2) : hFinish most L y p m = (zeroSes, 3, L) := by
 unfold hFinish
 rw [if_pos (.inl h)]
theorem hBegin_slot {x : Int × Int} {r : Pr} (h : slot ≠ 0 ∧ slot ≠ 1) : hBegin most L x r fr offer slot stamp d0 d1 d2 = (zeroMg, zeroPnd, 1, L) := by
 unfold hBegin
 rw [if_pos h]
end
theorem frz_of_row {w : World} {g : Nat} (j : Nat) {cs : Array Value} {t : TypeId} (h : w.heap[g]? = some (.cells cs t (0, 0))) : w.frozen? ⟨g, j, none⟩ = false := by simp [World.frozen?, h]
theorem row_set {w : World} {b : Nat} {cs : Array Value} {t : TypeId} (i : Nat) (v : Value) (h : w.heap[b]? = some (.cells cs t (0, 0))) : (w.setCell ⟨b, i, none⟩ v).heap[b]? = some (.cells (cs.setIfInBounds i v) t (0, 0)) := by
 have hlt := lt_of_block h
 have h' : w.heap[b] = .cells cs t (0, 0) := by simpa [Array.getElem?_eq_getElem hlt] using h
 show (w.heap.modify b _)[b]? = _
 rw [Array.getElem?_eq_getElem (by simpa using hlt), Array.getElem_modify_self, h']
 rfl
def set4 (w : World) (b o : Nat) (v0 v1 v2 v3 : Value) : World := (((w.setCell ⟨b, o, none⟩ v0).setCell ⟨b, o + 1, none⟩ v1).setCell ⟨b, o + 2, none⟩ v2).setCell ⟨b, o + 3, none⟩ v3
theorem row_set4 {w : World} {b : Nat} {t : TypeId} {a0 a1 a2 a3 : Value} (v0 v1 v2 v3 : Value) (h : w.heap[b]? = some (.cells #[a0, a1, a2, a3] t (0, 0))) : (set4 w b 0 v0 v1 v2 v3).heap[b]? = some (.cells #[v0, v1, v2, v3] t (0, 0)) := by
 have := row_set 3 v3 (row_set 2 v2 (row_set 1 v1 (row_set 0 v0 h)))
 simp at this
 exact this
theorem set4_other (w : World) (b o k : Nat) (v0 v1 v2 v3 : Value) (h : k ≠ b) : (set4 w b o v0 v1 v2 v3).heap[k]? = w.heap[k]? := by
 unfold set4
 rw [heap_setCell_other _ _ _ _ (by exact h), heap_setCell_other _ _ _ _ (by exact h), heap_setCell_other _ _ _ _ (by exact h), heap_setCell_other _ _ _ _ (by exact h)]
section
variable {base : Nat} {Q1 Q2 : (Nat → Prop) → List Tm → World → Prop} {L1 L2 : List Tm} {K : Nat → Prop} {w0 w : World}
theorem Pair.setAt (g1 : Good base Q1) (g2 : Good base Q2) (h : Pair base Q1 Q2 L1 L2 K w0 w) {b : Nat} (hk : K b) (hb : base ≤ b) (i : Nat) (v : Value) : Pair base Q1 Q2 L1 L2 K w0 (w.setCell ⟨b, i, none⟩ v) := by
 obtain ⟨F1, F2, h1, h2, h3, h4, h5, h6⟩ := h
 have C := Chg.setCell w b i v
 exact ⟨F1, F2, g1.frame h1 C (fun k a e => (h4 b hk).1 (e ▸ a)), g2.frame h2 C (fun k a e => (h4 b hk).2.1 (e ▸ a)), h3, fun k q => ⟨(h4 k q).1, (h4 k q).2.1, by simp; exact (h4 k q).2.2⟩, h5, h6.setCell hb v⟩
theorem Pair.set4 (g1 : Good base Q1) (g2 : Good base Q2) (h : Pair base Q1 Q2 L1 L2 K w0 w) {b : Nat} (hk : K b) (hb : base ≤ b) (o : Nat) (v0 v1 v2 v3 : Value) : Pair base Q1 Q2 L1 L2 K w0 (set4 w b o v0 v1 v2 v3) :=
 (((h.setAt g1 g2 hk hb o v0).setAt g1 g2 hk hb _ v1).setAt g1 g2 hk hb _ v2).setAt g1 g2 hk hb _ v3
def Kb (K : Nat → Prop) (B : Nat) : Nat → Prop := fun k => K k ∨ k = B ∨ k = B + 1
theorem Pair.box1 (g1 : Good base Q1) (g2 : Good base Q2) (h : Pair base Q1 Q2 L1 L2 K w0 w) (a : Array Value) (t : TypeId) :
  Pair base Q1 Q2 L1 L2 (fun k => K k ∨ k = w.heap.size) w0 (w.alloc (.cells a t)) ∧ (w.alloc (.cells a t)).heap[w.heap.size]? = some (.cells a t (0, 0)) ∧ ∀ k, K k → (w.alloc (.cells a t)).heap[k]? = w.heap[k]? :=
 ⟨h.box g1 g2 _, heap_alloc_new w _, fun k hk => heap_alloc_old _ _ (h.klt k hk)⟩
theorem Pair.box2 (g1 : Good base Q1) (g2 : Good base Q2) (h : Pair base Q1 Q2 L1 L2 K w0 w) (a1 a2 : Array Value) (t1 t2 : TypeId) :
  Pair base Q1 Q2 L1 L2 (Kb K w.heap.size) w0 ((w.alloc (.cells a1 t1)).alloc (.cells a2 t2)) ∧ ((w.alloc (.cells a1 t1)).alloc (.cells a2 t2)).heap[w.heap.size]? = some (.cells a1 t1 (0, 0)) ∧
   ((w.alloc (.cells a1 t1)).alloc (.cells a2 t2)).heap[w.heap.size + 1]? = some (.cells a2 t2 (0, 0)) ∧ ∀ k, K k → ((w.alloc (.cells a1 t1)).alloc (.cells a2 t2)).heap[k]? = w.heap[k]? := by
 have hk := h.klt
 refine ⟨((h.box g1 g2 _).box g1 g2 _).less ?_, ?_, ?_, fun k q => ?_⟩
 ·rintro k (q | q | q)
  ·exact .inl (.inl q)
  ·exact .inl (.inr q)
  ·exact .inr (by rw [q]; simp)
 ·rw [heap_alloc_old _ _ (by simp)]; exact heap_alloc_new w _
 ·have := heap_alloc_new (w.alloc (.cells a1 t1)) (.cells a2 t2)
  simpa using this
 ·have := hk k q
  rw [heap_alloc_old _ _ (by simp; omega), heap_alloc_old _ _ (by omega)]
end
end Go.Proofs.YtgeonppckeiceaaGreatDoor
