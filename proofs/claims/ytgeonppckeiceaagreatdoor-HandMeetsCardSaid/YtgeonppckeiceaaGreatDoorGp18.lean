/- A handshake of two endpoints that know each other, whole: what each call tells where there is room. -/
/- What is not opened, in trees (by tools/stage17/fails.py): another one's box, another transcript, no such peer, another secret of both. -/
import Derived.Test.YtgeonppckeiceaaGreatDoorGp17
namespace Go.Proofs.YtgeonppckeiceaaGreatDoor
open Go.RowKit
set_option linter.unusedVariables false
set_option linter.unusedSimpArgs false
theorem stamp_size {n : Nat} (h : n ≤ 18446744073709551615) : (Ms.putS n).size ≤ 1000 := by
  have := Ms.put_le n (by omega)
  have e : (Ms.putS n).size = (Ms.put n).length := by simp [Ms.putS, ByteArray.size]
  omega
theorem getA_put {n : Nat} (h : n ≤ 18446744073709551615) : Ms.getA (Ms.putS n).data.toList 0 = (n, (Ms.put n).length, 0) := by
  have e : (Ms.putS n).data.toList = Ms.put n := by simp [Ms.putS]
  rw [e]
  have := Ms.look_put n h [] 0
  rw [List.append_nil, Nat.zero_add] at this
  unfold Ms.getA
  simp [this]
theorem stampF_is {L : List Tm} {n : Nat} {x : Int} (h : n ≤ 18446744073709551615) (hx : Nm L (.text (Ms.putS n)) x) : stampF L x = some n := by
  obtain ⟨a, b, c, _, _, _, hn⟩ := hx.at
  unfold stampF
  rw [hn.get]
  simp only []
  rw [getA_put h, if_pos]
  refine ⟨by first | rfl | trivial, by first | rfl | trivial, ?_⟩
  simp [Ms.putS, ByteArray.size]
/-- Whose secrets are whose: the trees of two endpoints, and their names. -/
structure Ends (L : List Tm) (A1 A2 B1 B2 : Tr) (a1 a2 b1 b2 : Int) (pa pb : Pr) : Prop where
  sA1 : Nm L A1 a1
  sA2 : Nm L A2 a2
  sB1 : Nm L B1 b1
  sB2 : Nm L B2 b2
  pA1 : Nm L (.pub A1) pa.dh
  pA2 : Nm L (.kpub A2) pa.kem
  pB1 : Nm L (.pub B1) pb.dh
  pB2 : Nm L (.kpub B2) pb.kem
  n1 : A1 ≠ .none
  n2 : A2 ≠ .none
  n3 : B1 ≠ .none
  n4 : B2 ≠ .none
theorem Ends.ext {L L' : List Tm} {A1 A2 B1 B2 : Tr} {a1 a2 b1 b2 : Int} {pa pb : Pr} (h : Ends L A1 A2 B1 B2 a1 a2 b1 b2 pa pb) (e : Ext L L') : Ends L' A1 A2 B1 B2 a1 a2 b1 b2 pa pb :=
  ⟨h.sA1.ext e, h.sA2.ext e, h.sB1.ext e, h.sB2.ext e, h.pA1.ext e, h.pA2.ext e, h.pB1.ext e, h.pB2.ext e, h.n1, h.n2, h.n3, h.n4⟩
/-- The states of a handshake in trees. -/
def Yb1 (offer : ByteArray) (slot : Int) (B1 B2 D0 D1 D2 : Tr) (d0 b1 : Int) : Ys := beginY1 offer slot B1 B2 D0 D1 D2 (shTr d0 b1 D0 B1)
def Yb2 (offer : ByteArray) (slot : Int) (A1 B1 B2 P D0 D1 D2 : Tr) (a1 d0 b1 : Int) : Ys := beginY2 (Yb1 offer slot B1 B2 D0 D1 D2 d0 b1) A1 (shTr a1 b1 A1 B1) P
section
variable {L : List Tm} {most : Int} {A1 A2 B1 B2 P D0 D1 D2 E0 E1 : Tr} {a1 a2 b1 b2 d0 d1 d2 e0 e1 fr slot : Int} {pa pb : Pr} {offer mine : ByteArray} {stamp : Nat}
/-- What a begun handshake's message holds. -/
structure InitIs (L : List Tm) (m : Mg) (p : Pnd) (A1 B1 B2 P D0 D1 D2 : Tr) (a1 b1 d0 d1 fr slot : Int) (offer : ByteArray) (stamp : Nat) : Prop where
  right : Ms.rightM m = true
  form : m = initM fr offer slot (m.i 6) (m.i 7) (m.i 8) (m.i 9) (m.i 10)
  e : Nm L (.pub D0) (m.i 6)
  ek : Nm L (.kpub D1) (m.i 7)
  box : Nm L (.box B2 D2) (m.i 8)
  c1 : Nm L ((Yb1 offer slot B1 B2 D0 D1 D2 d0 b1).box (.pub A1)) (m.i 9)
  c2 : Nm L ((Yb2 offer slot A1 B1 B2 P D0 D1 D2 a1 d0 b1).box (.text (Ms.putS stamp))) (m.i 10)
  y : StY L p.y ((Yb2 offer slot A1 B1 B2 P D0 D1 D2 a1 d0 b1).sealed (.text (Ms.putS stamp)))
  p1 : p.e = d0
  p2 : p.ek = d1
  p3 : p.offer = offer
theorem InitIs.ext {L' : List Tm} {m : Mg} {p : Pnd} (h : InitIs L m p A1 B1 B2 P D0 D1 D2 a1 b1 d0 d1 fr slot offer stamp) (e : Ext L L') : InitIs L' m p A1 B1 B2 P D0 D1 D2 a1 b1 d0 d1 fr slot offer stamp :=
  ⟨h.right, h.form, h.e.ext e, h.ek.ext e, h.box.ext e, h.c1.ext e, h.c2.ext e, h.y.ext e, h.p1, h.p2, h.p3⟩
theorem hBegin_tr (hf : Gd L) (h : Ends L A1 A2 B1 B2 a1 a2 b1 b2 pa pb) (hP : Nm L P (pb.psk slot)) (h0 : Nm L D0 d0) (h1 : Nm L D1 d1) (h2 : Nm L D2 d2) (nP : P ≠ .none) (n0 : D0 ≠ .none) (n1 : D1 ≠ .none) (n2 : D2 ≠ .none)
    (hs : slot = 0 ∨ slot = 1) (hfr : 1 ≤ fr ∧ fr ≤ 4294967296) (ho : Ms.rightB offer.data.toList = true) (hst : stamp ≤ 18446744073709551615) (hr : (L.length : Int) + 60 < most) (hm : most ≤ 1048576) :
    ∃ m p L', hBegin most L (a1, a2) pb fr offer slot stamp d0 d1 d2 = (m, p, 0, L') ∧ InitIs L' m p A1 B1 B2 P D0 D1 D2 a1 b1 d0 d1 fr slot offer stamp ∧ Up L L' 60 := by
  have hsz : offer.size ≤ 1000 := by
    have : offer.data.toList.length ≤ 8 := by
      unfold Ms.rightB at ho
      simp only [Bool.and_eq_true, decide_eq_true_eq] at ho
      exact ho.1.2
    have e : offer.size = offer.data.toList.length := rfl
    omega
  have hsp : (Ms.putS stamp).size ≤ 1000 := stamp_size hst
  obtain ⟨r, L', e1, sy, ne, nek, nb, nc1, nc2, up⟩ := begin_tr (most := most) (a2 := a2) (slot := slot) hf h.sA1 h.sB1 h.sB2 h.pB1 h.pB2 hP h0 h1 h2 h.n1 h.n3 h.n4 nP n0 n1 n2 hsz hsp (by omega)
  have hlen : (L'.length : Int) ≤ 1048576 := by have := up.len; omega
  have bd : ∀ {t : Tr} {x : Int}, Nm L' t x → t ≠ .none → 1 ≤ x ∧ x ≤ 1048576 := fun q hn => by have := q.in hn; omega
  have hR := init_right (slot := slot) hfr ho (by rcases hs with q | q <;> omega) (bd ne (by simp [Tr.pub])) (bd nek (by simp [Tr.kpub])) (bd nb (by simp [Tr.box])) (bd nc1 (by simp [Ys.box, Tr.seal])) (bd nc2 (by simp [Ys.box, Tr.seal]))
  refine ⟨initM fr offer slot r.e r.ek r.box r.c1 r.c2, ⟨r.y, d0, d1, offer⟩, L', ?_, ⟨hR, rfl, ne, nek, nb, nc1, nc2, sy, rfl, rfl, rfl⟩, up.mono (by omega)⟩
  unfold hBegin
  rw [if_neg (by rcases hs with q | q <;> omega), e1]
  simp only [hR, if_true]
theorem hOpen_tr {m : Mg} {p : Pnd} {ps : List Pr} {i : Nat} (hf : Gd L) (h : Ends L A1 A2 B1 B2 a1 a2 b1 b2 pa pb) (hI : InitIs L m p A1 B1 B2 P D0 D1 D2 a1 b1 d0 d1 fr slot offer stamp)
    (hP : Nm L P ((ps.getD i zeroPr).psk slot)) (h0 : Nm L D0 d0) (h2 : Nm L D2 d2) (nP : P ≠ .none) (n0 : D0 ≠ .none) (n1 : D1 ≠ .none) (n2 : D2 ≠ .none) (hw : whoF (ps.map Pr.dh) pa.dh = some i)
    (ho : offer.size ≤ 1000) (hb : Ms.bestE mine.data.toList offer.data.toList = 0) (hst : stamp ≤ 18446744073709551615) (hr : (L.length : Int) + 60 < most) :
    ∃ y L', hOpen most L (b1, b2) ps mine m = (⟨y, i, Ms.bestV mine.data.toList offer.data.toList, stamp, m.i 6, m.i 7, pa.dh⟩, 0, L') ∧ StY L' y ((Yb2 offer slot A1 B1 B2 P D0 D1 D2 a1 d0 b1).sealed (.text (Ms.putS stamp))) ∧ Up L L' 60 := by
  have e0 : m.i 0 = 1 := by rw [hI.form]; rfl
  have e4 : m.i 4 = slot := by rw [hI.form]; rfl
  have es : m.s = offer := by rw [hI.form]; rfl
  obtain ⟨y, t, L', e1, sy, nt, up⟩ := open_tr (most := most) (ps := ps.map Pr.dh) (psk := fun i => (ps.getD i zeroPr).psk slot) hf h.sA1 h.sB1 h.sB2 hP h0 ⟨d2, h2⟩ hI.e hI.ek hI.box hI.c1 hI.c2 h.pA1 hw h.n1 h.n3 h.n4 nP n0 n1 n2 ho (by omega)
  refine ⟨y, L', ?_, sy, up.mono (by omega)⟩
  unfold hOpen
  rw [if_neg (by rw [hI.right, e0]; simp), es, if_neg (by rw [hb]; simp), e4, e1]
  simp only [stampF_is hst nt]
/-- What an answer's message holds, and its session. -/
structure RespIs (L : List Tm) (m : Mg) (s : Ses) (Y : Ys) (D1 E0 E1 : Tr) (v : Int) : Prop where
  right : Ms.rightM m = true
  kind : m.i 0 = 2
  e : Nm L (.pub E0) (m.i 6)
  box : Nm L (.box D1 E1) (m.i 8)
  c1 : Nm L (Y.box (.text (verS v))) (m.i 9)
  h : Nm L (Y.sealed (.text (verS v))).H s.h
  recv : Nm L (.key (.hash Y.CK (.text ⟨#[]⟩)) 1) s.recv
  send : Nm L (.key (.hash Y.CK (.text ⟨#[]⟩)) 2) s.send
  version : s.version = v
theorem RespIs.ext {L' : List Tm} {m : Mg} {s : Ses} {Y : Ys} {v : Int} (h : RespIs L m s Y D1 E0 E1 v) (e : Ext L L') : RespIs L' m s Y D1 E0 E1 v := ⟨h.right, h.kind, h.e.ext e, h.box.ext e, h.c1.ext e, h.h.ext e, h.recv.ext e, h.send.ext e, h.version⟩
def Yr (Y : Ys) (A1 D0 D1 E0 E1 : Tr) (a1 d0 e0 : Int) : Ys := answerY1 Y E0 E1 D1 (shTr e0 d0 E0 D0) (shTr e0 a1 E0 A1)
theorem hAnswer_tr {o : Opd} {Y : Ys} {tt : Int} (hf : Gd L) (sy : StY L o.y Y) (hA1 : Nm L A1 a1) (hD0 : Nm L D0 d0) (hD1 : Nm L D1 d1) (hE0 : Nm L E0 e0) (hE1 : Nm L E1 e1) (hoe : Nm L (.pub D0) o.e) (hpa : Nm L (.pub A1) o.pub) (hek : Nm L (.kpub D1) o.ek)
    (nA1 : A1 ≠ .none) (nD0 : D0 ≠ .none) (nD1 : D1 ≠ .none) (nE0 : E0 ≠ .none) (nE1 : E1 ≠ .none) (hfr : 1 ≤ fr ∧ fr ≤ 4294967296) (htt : 1 ≤ tt ∧ tt ≤ 4294967296) (hr : (L.length : Int) + 60 < most) (hm : most ≤ 1048576) :
    ∃ m s L', hAnswer most L o fr tt e0 e1 = (m, s, 0, L') ∧ RespIs L' m s (Yr Y A1 D0 D1 E0 E1 a1 d0 e0) D1 E0 E1 o.version ∧ m = respM fr tt (m.i 6) (m.i 8) (m.i 9) ∧ Up L L' 60 := by
  obtain ⟨r, L', g1, sy', ne, nb, nc1, nka, nkb, up⟩ := answer_tr (most := most) (v := verS o.version) hf sy hA1 hD0 hD1 hE0 hE1 hoe hpa hek nA1 nD0 nD1 nE0 nE1 (by show (1 : Nat) ≤ 1000; omega) (by omega)
  have hlen : (L'.length : Int) ≤ 1048576 := by have := up.len; omega
  have bd : ∀ {t : Tr} {x : Int}, Nm L' t x → t ≠ .none → 1 ≤ x ∧ x ≤ 1048576 := fun q hn => by have := q.in hn; omega
  have hR := resp_right hfr htt (bd ne (by simp [Tr.pub])) (bd nb (by simp [Tr.box])) (bd nc1 (by simp [Ys.box, Tr.seal]))
  refine ⟨respM fr tt r.e r.box r.c1, ⟨r.y.H, r.send, r.recv, o.version⟩, L', ?_, ⟨hR, rfl, ne, nb, nc1, sy'.h, nka, nkb, rfl⟩, rfl, up.mono (by omega)⟩
  unfold hAnswer
  rw [g1]
  simp only [hR, if_true]
theorem hFinish_tr {m : Mg} {s : Ses} {p : Pnd} {Y : Ys} {v : Int} (hf : Gd L) (sy : StY L p.y Y) (hA1 : Nm L A1 a1) (hD0 : Nm L D0 p.e) (hE0 : Nm L E0 e0) (hD1 : Nm L D1 p.ek)
    (hR : RespIs L m s (Yr Y A1 D0 D1 E0 E1 a1 p.e e0) D1 E0 E1 v) (nA1 : A1 ≠ .none) (nD0 : D0 ≠ .none) (nD1 : D1 ≠ .none) (nE0 : E0 ≠ .none) (nE1 : E1 ≠ .none) (hv : 0 ≤ v ∧ v ≤ 255) (hof : UInt8.ofNat v.toNat ∈ p.offer.data.toList) (hr : (L.length : Int) + 60 < most) :
    ∃ L', hFinish most L a1 p m = (⟨s.h, s.recv, s.send, v⟩, 0, L') ∧ Up L L' 60 := by
  obtain ⟨y, t, L1, g1, sy1, nt, up1⟩ := finish_tr (most := most) hf sy hA1 hD0 hD1 hE0 hR.e hR.box hR.c1 nA1 nD0 nD1 nE0 nE1 (by omega)
  have l1 := up1.len
  obtain ⟨ka, kb, L2, g2, na, nb, up2⟩ := splitG_tr (most := most) up1.gd sy1 (by omega)
  have ee := up1.ext.trans up2.ext
  have q1 := sy1.h.fun (hR.h.ext up1.ext)
  have q2 := na.fun (hR.recv.ext ee)
  have q3 := nb.fun (hR.send.ext ee)
  subst q2 q3
  have hb : byteF L1 t = some (UInt8.ofNat (v % 256).toNat) := by
    obtain ⟨a, b, c, _, _, _, hn⟩ := nt.at
    unfold byteF
    rw [hn.get]
    rfl
  have hvv : v % 256 = v := by omega
  rw [hvv] at hb
  refine ⟨L2, ?_, (up1.trans up2).mono (by omega)⟩
  unfold hFinish
  rw [if_neg (by rw [hR.right, hR.kind]; simp), g1]
  simp only [hb, hof, if_true, g2]
  rw [q1]
  congr 2
  have : (UInt8.ofNat v.toNat).toNat = v.toNat := by rw [UInt8.toNat_ofNat']; omega
  rw [this]
  omega
end
end Go.Proofs.YtgeonppckeiceaaGreatDoor
namespace Go.Proofs.YtgeonppckeiceaaGreatDoor
open Go.RowKit
set_option linter.unusedVariables false
set_option linter.unusedSimpArgs false
section
variable {L : List Tm} {most : Int} {y : Sy} {s : Ys}
theorem turn_K {a b : Ys} {x z : Tr} (h : (a.turn x).K = (b.turn z).K) : x = z := by
  simp only [Ys.turn, Tr.key, Tr.hash, Tr.mk.injEq] at h
  exact h.2.2.2.1.2.2.2.2.1
theorem unsealG_no {t : Tr} {c : Int} {s' : Ys} (h : StY L y s) (hc : Nm L (s'.box t) c) (hk : s.K ≠ .none) (hl : s.N ≠ lastN) (hne : ¬ (s.K = s'.K ∧ s.N = s'.N ∧ s.H = s'.H)) : unsealG y c most L = (.error 9, L) := by
  unfold unsealG; rw [unseal_no h hc hk hl hne]; rfl
theorem unboxG_no {a b d : Tr} {x c : Int} (hf : Gd L) (h : StY L y s) (ha : Nm L a x) (hc : Nm L (.box b d) c) (hna : a ≠ .none) (hne : a ≠ b) (hr : (L.length : Int) < most) :
    ∃ L', unboxG y x c most L = (.error 10, L') ∧ Up L L' 1 := by
  obtain ⟨y1, L1, e1, s1, u1⟩ := sayG_tr (most := most) hf h hc (by simp [Tr.box]) (by omega)
  refine ⟨L1, ?_, u1⟩
  rw [unboxG, G.to_ok e1]
  refine G.to_bad ?_
  unfold unwrapG
  rw [unwrap_no (ha.ext u1.ext) (hc.ext u1.ext) hna hne]
  rfl
theorem open_box_no {B2 D0 D1 D2 M1 M2 : Tr} {m1 m2 d0 slot e ek bx c1 c2 : Int}  {ps : List Int} {psk : Nat → Int} {offer : ByteArray}  (hf : Gd L) (hM1 : Nm L M1 m1) (hM2 : Nm L M2 m2) (h0 : Nm L D0 d0) (hE : Nm L (.pub D0) e) (hEK : Nm L (.kpub D1) ek) (hbox : Nm L (.box B2 D2) bx) (hne : M2 ≠ B2) (nM1 : M1 ≠ .none) (nM2 : M2 ≠ .none) (n0 : D0 ≠ .none) (n1 : D1 ≠ .none) (n2 : D2 ≠ .none) (ho : offer.size ≤ 1000) (hr : (L.length : Int) + 16 < most) :
    ∃ L', openG (m1, m2) ps psk offer slot e ek bx c1 c2 most L = (.error 10, L') ∧ Up L L' 16 := by
  obtain ⟨p, q, L1, e1, hp1, hp2, u1⟩ := publics_tr (most := most) hf hM1 hM2 nM1 nM2 (by omega)
  have l1 := u1.len
  replace hM1 := hM1.ext u1.ext
  replace hM2 := hM2.ext u1.ext
  replace h0 := h0.ext u1.ext
  replace hE := hE.ext u1.ext
  replace hEK := hEK.ext u1.ext
  replace hbox := hbox.ext u1.ext
  obtain ⟨y, L2, e2, sy, u2⟩ := first_tr (slot := slot) (most := most) u1.gd hp1 hp2 ho (by omega)
  have l2 := u2.len
  replace hM1 := hM1.ext u2.ext
  replace hM2 := hM2.ext u2.ext
  replace h0 := h0.ext u2.ext
  replace hE := hE.ext u2.ext
  replace hEK := hEK.ext u2.ext
  replace hbox := hbox.ext u2.ext
  replace hp1 := hp1.ext u2.ext
  replace hp2 := hp2.ext u2.ext
  obtain ⟨y, L3, e3, sy, u3⟩ := sayG_tr (most := most) u2.gd sy hE (by simp [Tr.pub]) (by omega)
  have l3 := u3.len
  replace hM1 := hM1.ext u3.ext
  replace hM2 := hM2.ext u3.ext
  replace h0 := h0.ext u3.ext
  replace hE := hE.ext u3.ext
  replace hEK := hEK.ext u3.ext
  replace hbox := hbox.ext u3.ext
  replace hp1 := hp1.ext u3.ext
  replace hp2 := hp2.ext u3.ext
  obtain ⟨y, L4, e4, sy, u4⟩ := sayG_tr (most := most) u3.gd sy hEK (by simp [Tr.kpub]) (by omega)
  have l4 := u4.len
  replace hM1 := hM1.ext u4.ext
  replace hM2 := hM2.ext u4.ext
  replace h0 := h0.ext u4.ext
  replace hE := hE.ext u4.ext
  replace hEK := hEK.ext u4.ext
  replace hbox := hbox.ext u4.ext
  replace hp1 := hp1.ext u4.ext
  replace hp2 := hp2.ext u4.ext
  obtain ⟨y, L5, e5, sy, u5⟩ := agreeG_tr (most := most) u4.gd sy hM1 h0 hE nM1 n0 (by omega)
  have l5 := u5.len
  replace hM1 := hM1.ext u5.ext
  replace hM2 := hM2.ext u5.ext
  replace h0 := h0.ext u5.ext
  replace hE := hE.ext u5.ext
  replace hEK := hEK.ext u5.ext
  replace hbox := hbox.ext u5.ext
  replace hp1 := hp1.ext u5.ext
  replace hp2 := hp2.ext u5.ext
  rw [shTr_comm (x := m1) (y := d0) (a := M1) (b := D0) (fun q => by have := h0; rw [← q] at this; exact hM1.inj this)] at sy
  obtain ⟨L6, e6, u6⟩ := unboxG_no (most := most) u5.gd sy hM2 hbox nM2 hne (by omega)
  have l6 := u6.len
  replace hM1 := hM1.ext u6.ext
  replace hM2 := hM2.ext u6.ext
  replace h0 := h0.ext u6.ext
  replace hE := hE.ext u6.ext
  replace hEK := hEK.ext u6.ext
  replace hbox := hbox.ext u6.ext
  replace hp1 := hp1.ext u6.ext
  replace hp2 := hp2.ext u6.ext
  replace sy := sy.ext u6.ext
  refine ⟨L6, by unfold openG; rw [G.to_ok e1, G.to_ok e2, G.to_ok e3, G.to_ok e4, G.to_ok e5]; exact G.to_bad e6, (((((u1).trans u2).trans u3).trans u4).trans u5).trans u6⟩
theorem open_c1_no {B1 B2 D0 D1 D2 C : Tr} {b1 b2 d0 slot e ek bx c1 c2 : Int}  {ps : List Int} {psk : Nat → Int} {offer : ByteArray} {Y : Ys} (hf : Gd L) (hB1 : Nm L B1 b1) (hB2 : Nm L B2 b2) (h0 : Nm L D0 d0) (hD2 : ∃ d2, Nm L D2 d2) (hE : Nm L (.pub D0) e) (hEK : Nm L (.kpub D1) ek) (hbox : Nm L (.box B2 D2) bx) (hc1 : Nm L (Y.box C) c1) (hne : ¬ ((beginY1 offer slot B1 B2 D0 D1 D2 (shTr d0 b1 D0 B1)).K = Y.K ∧ (0 : Int) = Y.N ∧ (beginY1 offer slot B1 B2 D0 D1 D2 (shTr d0 b1 D0 B1)).H = Y.H)) (nB1 : B1 ≠ .none) (nB2 : B2 ≠ .none) (n0 : D0 ≠ .none) (n1 : D1 ≠ .none) (n2 : D2 ≠ .none) (ho : offer.size ≤ 1000) (hr : (L.length : Int) + 20 < most) :
    ∃ L', openG (b1, b2) ps psk offer slot e ek bx c1 c2 most L = (.error 9, L') ∧ Up L L' 20 := by
  obtain ⟨d2, h2⟩ := hD2
  obtain ⟨p, q, L1, e1, hp1, hp2, u1⟩ := publics_tr (most := most) hf hB1 hB2 nB1 nB2 (by omega)
  have l1 := u1.len
  replace hB1 := hB1.ext u1.ext
  replace hB2 := hB2.ext u1.ext
  replace h0 := h0.ext u1.ext
  replace h2 := h2.ext u1.ext
  replace hE := hE.ext u1.ext
  replace hEK := hEK.ext u1.ext
  replace hbox := hbox.ext u1.ext
  replace hc1 := hc1.ext u1.ext
  obtain ⟨y, L2, e2, sy, u2⟩ := first_tr (slot := slot) (most := most) u1.gd hp1 hp2 ho (by omega)
  have l2 := u2.len
  replace hB1 := hB1.ext u2.ext
  replace hB2 := hB2.ext u2.ext
  replace h0 := h0.ext u2.ext
  replace h2 := h2.ext u2.ext
  replace hE := hE.ext u2.ext
  replace hEK := hEK.ext u2.ext
  replace hbox := hbox.ext u2.ext
  replace hc1 := hc1.ext u2.ext
  replace hp1 := hp1.ext u2.ext
  replace hp2 := hp2.ext u2.ext
  obtain ⟨y, L3, e3, sy, u3⟩ := sayG_tr (most := most) u2.gd sy hE (by simp [Tr.pub]) (by omega)
  have l3 := u3.len
  replace hB1 := hB1.ext u3.ext
  replace hB2 := hB2.ext u3.ext
  replace h0 := h0.ext u3.ext
  replace h2 := h2.ext u3.ext
  replace hE := hE.ext u3.ext
  replace hEK := hEK.ext u3.ext
  replace hbox := hbox.ext u3.ext
  replace hc1 := hc1.ext u3.ext
  replace hp1 := hp1.ext u3.ext
  replace hp2 := hp2.ext u3.ext
  obtain ⟨y, L4, e4, sy, u4⟩ := sayG_tr (most := most) u3.gd sy hEK (by simp [Tr.kpub]) (by omega)
  have l4 := u4.len
  replace hB1 := hB1.ext u4.ext
  replace hB2 := hB2.ext u4.ext
  replace h0 := h0.ext u4.ext
  replace h2 := h2.ext u4.ext
  replace hE := hE.ext u4.ext
  replace hEK := hEK.ext u4.ext
  replace hbox := hbox.ext u4.ext
  replace hc1 := hc1.ext u4.ext
  replace hp1 := hp1.ext u4.ext
  replace hp2 := hp2.ext u4.ext
  obtain ⟨y, L5, e5, sy, u5⟩ := agreeG_tr (most := most) u4.gd sy hB1 h0 hE nB1 n0 (by omega)
  have l5 := u5.len
  replace hB1 := hB1.ext u5.ext
  replace hB2 := hB2.ext u5.ext
  replace h0 := h0.ext u5.ext
  replace h2 := h2.ext u5.ext
  replace hE := hE.ext u5.ext
  replace hEK := hEK.ext u5.ext
  replace hbox := hbox.ext u5.ext
  replace hc1 := hc1.ext u5.ext
  replace hp1 := hp1.ext u5.ext
  replace hp2 := hp2.ext u5.ext
  rw [shTr_comm (x := b1) (y := d0) (a := B1) (b := D0) (fun q => by have := h0; rw [← q] at this; exact hB1.inj this)] at sy
  obtain ⟨y, L6, e6, sy, u6⟩ := unboxG_tr (most := most) u5.gd sy hB2 hbox nB2 n2 (by omega)
  have l6 := u6.len
  replace hB1 := hB1.ext u6.ext
  replace hB2 := hB2.ext u6.ext
  replace h0 := h0.ext u6.ext
  replace h2 := h2.ext u6.ext
  replace hE := hE.ext u6.ext
  replace hEK := hEK.ext u6.ext
  replace hbox := hbox.ext u6.ext
  replace hc1 := hc1.ext u6.ext
  replace hp1 := hp1.ext u6.ext
  replace hp2 := hp2.ext u6.ext
  refine ⟨L6, by unfold openG; rw [G.to_ok e1, G.to_ok e2, G.to_ok e3, G.to_ok e4, G.to_ok e5, G.to_ok e6]; exact G.to_bad (unsealG_no sy hc1 (by simp [Ys.turn, Tr.key]) (by simp [Ys.turn, lastN]) hne), (((((u1).trans u2).trans u3).trans u4).trans u5).trans u6⟩
theorem open_who_no {A1 B1 B2 D0 D1 D2 : Tr} {b1 b2 pa d0 slot e ek bx c1 c2 : Int}  {ps : List Int} {psk : Nat → Int} {offer : ByteArray}  (hf : Gd L) (hB1 : Nm L B1 b1) (hB2 : Nm L B2 b2) (h0 : Nm L D0 d0) (hD2 : ∃ d2, Nm L D2 d2) (hE : Nm L (.pub D0) e) (hEK : Nm L (.kpub D1) ek) (hbox : Nm L (.box B2 D2) bx) (hc1 : Nm L ((beginY1 offer slot B1 B2 D0 D1 D2 (shTr d0 b1 D0 B1)).box (.pub A1)) c1) (hpa : Nm L (.pub A1) pa) (hw : whoF ps pa = none) (nB1 : B1 ≠ .none) (nB2 : B2 ≠ .none) (n0 : D0 ≠ .none) (n1 : D1 ≠ .none) (n2 : D2 ≠ .none) (ho : offer.size ≤ 1000) (hr : (L.length : Int) + 21 < most) :
    ∃ L', openG (b1, b2) ps psk offer slot e ek bx c1 c2 most L = (.error 5, L') ∧ Up L L' 21 := by
  obtain ⟨d2, h2⟩ := hD2
  obtain ⟨p, q, L1, e1, hp1, hp2, u1⟩ := publics_tr (most := most) hf hB1 hB2 nB1 nB2 (by omega)
  have l1 := u1.len
  replace hB1 := hB1.ext u1.ext
  replace hB2 := hB2.ext u1.ext
  replace h0 := h0.ext u1.ext
  replace h2 := h2.ext u1.ext
  replace hE := hE.ext u1.ext
  replace hEK := hEK.ext u1.ext
  replace hbox := hbox.ext u1.ext
  replace hc1 := hc1.ext u1.ext
  replace hpa := hpa.ext u1.ext
  obtain ⟨y, L2, e2, sy, u2⟩ := first_tr (slot := slot) (most := most) u1.gd hp1 hp2 ho (by omega)
  have l2 := u2.len
  replace hB1 := hB1.ext u2.ext
  replace hB2 := hB2.ext u2.ext
  replace h0 := h0.ext u2.ext
  replace h2 := h2.ext u2.ext
  replace hE := hE.ext u2.ext
  replace hEK := hEK.ext u2.ext
  replace hbox := hbox.ext u2.ext
  replace hc1 := hc1.ext u2.ext
  replace hpa := hpa.ext u2.ext
  replace hp1 := hp1.ext u2.ext
  replace hp2 := hp2.ext u2.ext
  obtain ⟨y, L3, e3, sy, u3⟩ := sayG_tr (most := most) u2.gd sy hE (by simp [Tr.pub]) (by omega)
  have l3 := u3.len
  replace hB1 := hB1.ext u3.ext
  replace hB2 := hB2.ext u3.ext
  replace h0 := h0.ext u3.ext
  replace h2 := h2.ext u3.ext
  replace hE := hE.ext u3.ext
  replace hEK := hEK.ext u3.ext
  replace hbox := hbox.ext u3.ext
  replace hc1 := hc1.ext u3.ext
  replace hpa := hpa.ext u3.ext
  replace hp1 := hp1.ext u3.ext
  replace hp2 := hp2.ext u3.ext
  obtain ⟨y, L4, e4, sy, u4⟩ := sayG_tr (most := most) u3.gd sy hEK (by simp [Tr.kpub]) (by omega)
  have l4 := u4.len
  replace hB1 := hB1.ext u4.ext
  replace hB2 := hB2.ext u4.ext
  replace h0 := h0.ext u4.ext
  replace h2 := h2.ext u4.ext
  replace hE := hE.ext u4.ext
  replace hEK := hEK.ext u4.ext
  replace hbox := hbox.ext u4.ext
  replace hc1 := hc1.ext u4.ext
  replace hpa := hpa.ext u4.ext
  replace hp1 := hp1.ext u4.ext
  replace hp2 := hp2.ext u4.ext
  obtain ⟨y, L5, e5, sy, u5⟩ := agreeG_tr (most := most) u4.gd sy hB1 h0 hE nB1 n0 (by omega)
  have l5 := u5.len
  replace hB1 := hB1.ext u5.ext
  replace hB2 := hB2.ext u5.ext
  replace h0 := h0.ext u5.ext
  replace h2 := h2.ext u5.ext
  replace hE := hE.ext u5.ext
  replace hEK := hEK.ext u5.ext
  replace hbox := hbox.ext u5.ext
  replace hc1 := hc1.ext u5.ext
  replace hpa := hpa.ext u5.ext
  replace hp1 := hp1.ext u5.ext
  replace hp2 := hp2.ext u5.ext
  rw [shTr_comm (x := b1) (y := d0) (a := B1) (b := D0) (fun q => by have := h0; rw [← q] at this; exact hB1.inj this)] at sy
  obtain ⟨y, L6, e6, sy, u6⟩ := unboxG_tr (most := most) u5.gd sy hB2 hbox nB2 n2 (by omega)
  have l6 := u6.len
  replace hB1 := hB1.ext u6.ext
  replace hB2 := hB2.ext u6.ext
  replace h0 := h0.ext u6.ext
  replace h2 := h2.ext u6.ext
  replace hE := hE.ext u6.ext
  replace hEK := hEK.ext u6.ext
  replace hbox := hbox.ext u6.ext
  replace hc1 := hc1.ext u6.ext
  replace hpa := hpa.ext u6.ext
  replace hp1 := hp1.ext u6.ext
  replace hp2 := hp2.ext u6.ext
  obtain ⟨y, qa, L7, e7, sy, hqa, u7⟩ := unsealG_tr (most := most) u6.gd sy hc1 (by simp [Ys.turn, Tr.key]) (by simp [Ys.turn, lastN]) (by omega)
  have l7 := u7.len
  replace hB1 := hB1.ext u7.ext
  replace hB2 := hB2.ext u7.ext
  replace h0 := h0.ext u7.ext
  replace h2 := h2.ext u7.ext
  replace hE := hE.ext u7.ext
  replace hEK := hEK.ext u7.ext
  replace hbox := hbox.ext u7.ext
  replace hc1 := hc1.ext u7.ext
  replace hpa := hpa.ext u7.ext
  replace hp1 := hp1.ext u7.ext
  replace hp2 := hp2.ext u7.ext
  have eqa : qa = pa := hqa.fun hpa
  subst eqa
  refine ⟨L7, by unfold openG; rw [G.to_ok e1, G.to_ok e2, G.to_ok e3, G.to_ok e4, G.to_ok e5, G.to_ok e6, G.to_ok e7]; simp only [hw]; rfl, ((((((u1).trans u2).trans u3).trans u4).trans u5).trans u6).trans u7⟩
theorem open_psk_no {A1 B1 B2 P Q D0 D1 D2 C : Tr} {a1 b1 b2 pa d0 slot e ek bx c1 c2 : Int} {i : Nat} {ps : List Int} {psk : Nat → Int} {offer : ByteArray}  (hf : Gd L) (hB1 : Nm L B1 b1) (hB2 : Nm L B2 b2) (h0 : Nm L D0 d0) (hD2 : ∃ d2, Nm L D2 d2) (hE : Nm L (.pub D0) e) (hEK : Nm L (.kpub D1) ek) (hbox : Nm L (.box B2 D2) bx) (hA1 : Nm L A1 a1) (hQ : Nm L Q (psk i)) (hc1 : Nm L ((beginY1 offer slot B1 B2 D0 D1 D2 (shTr d0 b1 D0 B1)).box (.pub A1)) c1) (hc2 : Nm L ((beginY2 (beginY1 offer slot B1 B2 D0 D1 D2 (shTr d0 b1 D0 B1)) A1 (shTr a1 b1 A1 B1) P).box C) c2) (hpa : Nm L (.pub A1) pa) (hw : whoF ps pa = some i) (hne : Q ≠ P) (nQ : Q ≠ .none) (nA1 : A1 ≠ .none) (nB1 : B1 ≠ .none) (nB2 : B2 ≠ .none) (n0 : D0 ≠ .none) (n1 : D1 ≠ .none) (n2 : D2 ≠ .none) (ho : offer.size ≤ 1000) (hr : (L.length : Int) + 28 < most) :
    ∃ L', openG (b1, b2) ps psk offer slot e ek bx c1 c2 most L = (.error 9, L') ∧ Up L L' 28 := by
  obtain ⟨d2, h2⟩ := hD2
  obtain ⟨p, q, L1, e1, hp1, hp2, u1⟩ := publics_tr (most := most) hf hB1 hB2 nB1 nB2 (by omega)
  have l1 := u1.len
  replace hA1 := hA1.ext u1.ext
  replace hB1 := hB1.ext u1.ext
  replace hB2 := hB2.ext u1.ext
  replace hQ := hQ.ext u1.ext
  replace h0 := h0.ext u1.ext
  replace h2 := h2.ext u1.ext
  replace hE := hE.ext u1.ext
  replace hEK := hEK.ext u1.ext
  replace hbox := hbox.ext u1.ext
  replace hc1 := hc1.ext u1.ext
  replace hc2 := hc2.ext u1.ext
  replace hpa := hpa.ext u1.ext
  obtain ⟨y, L2, e2, sy, u2⟩ := first_tr (slot := slot) (most := most) u1.gd hp1 hp2 ho (by omega)
  have l2 := u2.len
  replace hA1 := hA1.ext u2.ext
  replace hB1 := hB1.ext u2.ext
  replace hB2 := hB2.ext u2.ext
  replace hQ := hQ.ext u2.ext
  replace h0 := h0.ext u2.ext
  replace h2 := h2.ext u2.ext
  replace hE := hE.ext u2.ext
  replace hEK := hEK.ext u2.ext
  replace hbox := hbox.ext u2.ext
  replace hc1 := hc1.ext u2.ext
  replace hc2 := hc2.ext u2.ext
  replace hpa := hpa.ext u2.ext
  replace hp1 := hp1.ext u2.ext
  replace hp2 := hp2.ext u2.ext
  obtain ⟨y, L3, e3, sy, u3⟩ := sayG_tr (most := most) u2.gd sy hE (by simp [Tr.pub]) (by omega)
  have l3 := u3.len
  replace hA1 := hA1.ext u3.ext
  replace hB1 := hB1.ext u3.ext
  replace hB2 := hB2.ext u3.ext
  replace hQ := hQ.ext u3.ext
  replace h0 := h0.ext u3.ext
  replace h2 := h2.ext u3.ext
  replace hE := hE.ext u3.ext
  replace hEK := hEK.ext u3.ext
  replace hbox := hbox.ext u3.ext
  replace hc1 := hc1.ext u3.ext
  replace hc2 := hc2.ext u3.ext
  replace hpa := hpa.ext u3.ext
  replace hp1 := hp1.ext u3.ext
  replace hp2 := hp2.ext u3.ext
  obtain ⟨y, L4, e4, sy, u4⟩ := sayG_tr (most := most) u3.gd sy hEK (by simp [Tr.kpub]) (by omega)
  have l4 := u4.len
  replace hA1 := hA1.ext u4.ext
  replace hB1 := hB1.ext u4.ext
  replace hB2 := hB2.ext u4.ext
  replace hQ := hQ.ext u4.ext
  replace h0 := h0.ext u4.ext
  replace h2 := h2.ext u4.ext
  replace hE := hE.ext u4.ext
  replace hEK := hEK.ext u4.ext
  replace hbox := hbox.ext u4.ext
  replace hc1 := hc1.ext u4.ext
  replace hc2 := hc2.ext u4.ext
  replace hpa := hpa.ext u4.ext
  replace hp1 := hp1.ext u4.ext
  replace hp2 := hp2.ext u4.ext
  obtain ⟨y, L5, e5, sy, u5⟩ := agreeG_tr (most := most) u4.gd sy hB1 h0 hE nB1 n0 (by omega)
  have l5 := u5.len
  replace hA1 := hA1.ext u5.ext
  replace hB1 := hB1.ext u5.ext
  replace hB2 := hB2.ext u5.ext
  replace hQ := hQ.ext u5.ext
  replace h0 := h0.ext u5.ext
  replace h2 := h2.ext u5.ext
  replace hE := hE.ext u5.ext
  replace hEK := hEK.ext u5.ext
  replace hbox := hbox.ext u5.ext
  replace hc1 := hc1.ext u5.ext
  replace hc2 := hc2.ext u5.ext
  replace hpa := hpa.ext u5.ext
  replace hp1 := hp1.ext u5.ext
  replace hp2 := hp2.ext u5.ext
  rw [shTr_comm (x := b1) (y := d0) (a := B1) (b := D0) (fun q => by have := h0; rw [← q] at this; exact hB1.inj this)] at sy
  obtain ⟨y, L6, e6, sy, u6⟩ := unboxG_tr (most := most) u5.gd sy hB2 hbox nB2 n2 (by omega)
  have l6 := u6.len
  replace hA1 := hA1.ext u6.ext
  replace hB1 := hB1.ext u6.ext
  replace hB2 := hB2.ext u6.ext
  replace hQ := hQ.ext u6.ext
  replace h0 := h0.ext u6.ext
  replace h2 := h2.ext u6.ext
  replace hE := hE.ext u6.ext
  replace hEK := hEK.ext u6.ext
  replace hbox := hbox.ext u6.ext
  replace hc1 := hc1.ext u6.ext
  replace hc2 := hc2.ext u6.ext
  replace hpa := hpa.ext u6.ext
  replace hp1 := hp1.ext u6.ext
  replace hp2 := hp2.ext u6.ext
  obtain ⟨y, qa, L7, e7, sy, hqa, u7⟩ := unsealG_tr (most := most) u6.gd sy hc1 (by simp [Ys.turn, Tr.key]) (by simp [Ys.turn, lastN]) (by omega)
  have l7 := u7.len
  replace hA1 := hA1.ext u7.ext
  replace hB1 := hB1.ext u7.ext
  replace hB2 := hB2.ext u7.ext
  replace hQ := hQ.ext u7.ext
  replace h0 := h0.ext u7.ext
  replace h2 := h2.ext u7.ext
  replace hE := hE.ext u7.ext
  replace hEK := hEK.ext u7.ext
  replace hbox := hbox.ext u7.ext
  replace hc1 := hc1.ext u7.ext
  replace hc2 := hc2.ext u7.ext
  replace hpa := hpa.ext u7.ext
  replace hp1 := hp1.ext u7.ext
  replace hp2 := hp2.ext u7.ext
  have eqa : qa = pa := hqa.fun hpa
  subst eqa
  obtain ⟨y, L8, e8, sy, u8⟩ := agreeG_tr (most := most) u7.gd sy hB1 hA1 hpa nB1 nA1 (by omega)
  have l8 := u8.len
  replace hA1 := hA1.ext u8.ext
  replace hB1 := hB1.ext u8.ext
  replace hB2 := hB2.ext u8.ext
  replace hQ := hQ.ext u8.ext
  replace h0 := h0.ext u8.ext
  replace h2 := h2.ext u8.ext
  replace hE := hE.ext u8.ext
  replace hEK := hEK.ext u8.ext
  replace hbox := hbox.ext u8.ext
  replace hc1 := hc1.ext u8.ext
  replace hc2 := hc2.ext u8.ext
  replace hpa := hpa.ext u8.ext
  replace hp1 := hp1.ext u8.ext
  replace hp2 := hp2.ext u8.ext
  replace hqa := hqa.ext u8.ext
  rw [shTr_comm (x := b1) (y := a1) (a := B1) (b := A1) (fun q => by have := hA1; rw [← q] at this; exact hB1.inj this)] at sy
  obtain ⟨y, L9, e9, sy, u9⟩ := turnG_tr (most := most) u8.gd sy hQ (nQ) (by omega)
  have l9 := u9.len
  replace hA1 := hA1.ext u9.ext
  replace hB1 := hB1.ext u9.ext
  replace hB2 := hB2.ext u9.ext
  replace hQ := hQ.ext u9.ext
  replace h0 := h0.ext u9.ext
  replace h2 := h2.ext u9.ext
  replace hE := hE.ext u9.ext
  replace hEK := hEK.ext u9.ext
  replace hbox := hbox.ext u9.ext
  replace hc1 := hc1.ext u9.ext
  replace hc2 := hc2.ext u9.ext
  replace hpa := hpa.ext u9.ext
  replace hp1 := hp1.ext u9.ext
  replace hp2 := hp2.ext u9.ext
  replace hqa := hqa.ext u9.ext
  refine ⟨L9, by unfold openG; rw [G.to_ok e1, G.to_ok e2, G.to_ok e3, G.to_ok e4, G.to_ok e5, G.to_ok e6, G.to_ok e7]; simp only [hw]; rw [G.to_ok e8, G.to_ok e9]; exact G.to_bad (unsealG_no sy hc2 (by simp [Ys.turn, Tr.key]) (by simp [Ys.turn, lastN]) (fun q => hne (turn_K q.1))), ((((((((u1).trans u2).trans u3).trans u4).trans u5).trans u6).trans u7).trans u8).trans u9⟩
end
end Go.Proofs.YtgeonppckeiceaaGreatDoor
