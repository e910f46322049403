/- A handshake as functions of a store's terms: begun, opened, answered, finished, or what is wrong, and the terms that are there then. -/
/- A map of whole numbers, whatever stands in it: a key put, a key looked up. -/
import Derived.Test.YtgeonppckeiceaaGreatDoorGq09
import Derived.Test.YtgeonppckeiceaaGreatDoorGq06
import Derived.MapKept
namespace Go.Proofs.YtgeonppckeiceaaGreatDoor
open Go.RowKit
set_option linter.unusedVariables false
set_option linter.unusedSimpArgs false
def G (α : Type) : Type := Int → List Tm → Except Int α × List Tm
def G.of {α : Type} (x : α) : G α := fun _ L => (.ok x, L)
def G.bad {α : Type} (e : Int) : G α := fun _ L => (.error e, L)
def G.to {α β : Type} (m : G α) (k : α → G β) : G β := fun most L => match m most L with
 | (.ok x, L') => k x most L'
 | (.error e, L') => (.error e, L')
def putG (t : Tm) : G Int := fun most L => let p := putF L most t; (if p.2.1 = 0 then .ok p.1 else .error p.2.1, p.2.2)
def sayG (y : Sy) (x : Int) : G Sy := fun most L => let p := sayF L most y x; (if p.2.1 = 0 then .ok p.1 else .error p.2.1, p.2.2)
def turnG (y : Sy) (x : Int) : G Sy := fun most L => let p := turnF L most y x; (if p.2.1 = 0 then .ok p.1 else .error p.2.1, p.2.2)
def startG (S : ByteArray) : G Sy := fun most L => let p := beginF L most S; (if p.2.1 = 0 then .ok p.1 else .error p.2.1, p.2.2)
def sealG (y : Sy) (x : Int) : G (Sy × Int) := fun most L => let p := sealF L most y x; (if p.2.2.1 = 0 then .ok (p.1, p.2.1) else .error p.2.2.1, p.2.2.2)
def unsealG (y : Sy) (x : Int) : G (Sy × Int) := fun most L => let p := unsealF L most y x; (if p.2.2.1 = 0 then .ok (p.1, p.2.1) else .error p.2.2.1, p.2.2.2)
def splitG (y : Sy) : G (Int × Int) := fun most L => let p := splitF L most y; (if p.2.2.1 = 0 then .ok (p.1, p.2.1) else .error p.2.2.1, p.2.2.2)
def shareG (x p : Int) : G Int := fun most L => let q := agreeF L most x p; (if q.2.1 = 0 then .ok q.1 else .error q.2.1, q.2.2)
def wrapG (p d : Int) : G (Int × Int) := fun most L => let q := wrapF L most p d; (if q.2.2.1 = 0 then .ok (q.1, q.2.1) else .error q.2.2.1, q.2.2.2)
def unwrapG (x c : Int) : G Int := fun most L => let q := kopenF L most x c; (if q.2.1 = 0 then .ok q.1 else .error q.2.1, q.2.2)
def agreeG (y : Sy) (x p : Int) : G Sy := (shareG x p).to fun s => turnG y s
def boxG (y : Sy) (p d : Int) : G (Sy × Int) := (wrapG p d).to fun b => (sayG y b.1).to fun y => (turnG y b.2).to fun y => .of (y, b.1)
def unboxG (y : Sy) (x c : Int) : G Sy := (sayG y c).to fun y => (unwrapG x c).to fun s => turnG y s
def publicsG (me : Int × Int) : G (Int × Int) := (putG (pubT me.1)).to fun a => (putG (kpubT me.2)).to fun b => .of (a, b)
def nameS : ByteArray := ⟨#[115, 111, 117, 103, 104]⟩
def slotS (slot : Int) : ByteArray := if slot = 0 then ⟨#[48]⟩ else ⟨#[49]⟩
def firstG (offer : ByteArray) (slot : Int) (p : Int × Int) : G Sy :=
 (startG nameS).to fun y => (putG (textT offer)).to fun o => (sayG y o).to fun y => (putG (textT (slotS slot))).to fun c => (sayG y c).to fun y => (sayG y p.1).to fun y => sayG y p.2
structure Begun where
 e : Int
 ek : Int
 box : Int
 c1 : Int
 c2 : Int
 y : Sy
def beginG (me pub : Int × Int) (psk : Int) (offer : ByteArray) (slot : Int) (st : ByteArray) (d0 d1 d2 : Int) : G Begun :=
 (firstG offer slot pub).to fun y => (putG (pubT d0)).to fun e => (sayG y e).to fun y => (putG (kpubT d1)).to fun ek => (sayG y ek).to fun y =>
 (agreeG y d0 pub.1).to fun y => (boxG y pub.2 d2).to fun b => (putG (pubT me.1)).to fun p => (sealG b.1 p).to fun c1 => (agreeG c1.1 me.1 pub.1).to fun y => (turnG y psk).to fun y =>
 (putG (textT st)).to fun t => (sealG y t).to fun c2 => .of ⟨e, ek, b.2, c1.2, c2.2, c2.1⟩
def whoF (ps : List Int) (p : Int) : Option Nat := if ps.findIdx (· == p) < ps.length then some (ps.findIdx (· == p)) else none
def openG (me : Int × Int) (ps : List Int) (psk : Nat → Int) (offer : ByteArray) (slot : Int) (e ek box c1 c2 : Int) : G (Sy × Int × Nat × Int) :=
 (publicsG me).to fun p => (firstG offer slot p).to fun y => (sayG y e).to fun y => (sayG y ek).to fun y => (agreeG y me.1 e).to fun y => (unboxG y me.2 box).to fun y => (unsealG y c1).to fun q =>
 match whoF ps q.2 with
 | none => .bad 5
 | some i => (agreeG q.1 me.1 q.2).to fun y => (turnG y (psk i)).to fun y => (unsealG y c2).to fun r => .of (r.1, q.2, i, r.2)
structure Given where
 e : Int
 box : Int
 c1 : Int
 y : Sy
 send : Int
 recv : Int
def answerG (y : Sy) (oe pub ek : Int) (v : ByteArray) (d0 d1 : Int) : G Given :=
 (putG (pubT d0)).to fun e => (sayG y e).to fun y => (agreeG y d0 oe).to fun y => (agreeG y d0 pub).to fun y => (boxG y ek d1).to fun b => (putG (textT v)).to fun t => (sealG b.1 t).to fun c =>
 (splitG c.1).to fun k => .of ⟨e, b.2, c.2, c.1, k.2, k.1⟩
def finishG (me : Int) (y : Sy) (pe pk : Int) (e box c1 : Int) : G (Sy × Int) :=
 (sayG y e).to fun y => (agreeG y pe e).to fun y => (agreeG y me e).to fun y => (unboxG y pk box).to fun y => unsealG y c1
section
variable {α β : Type} {m : G α} {k : α → G β} {L L' : List Tm} {most e : Int}
theorem G.to_ok {x : α} (h : m most L = (.ok x, L')) : m.to k most L = k x most L' := by unfold G.to; rw [h]
theorem G.to_bad (h : m most L = (.error e, L')) : m.to k most L = (.error e, L') := by unfold G.to; rw [h]
end
section
variable {L : List Tm} {most : Int} {y : Sy} {s : Ys}
theorem putG_ok {t : Tm} {x : Int} {L' : List Tm} (h : putF L most t = (x, 0, L')) : putG t most L = (.ok x, L') := by unfold putG; rw [h]; rfl
theorem sayG_tr {t : Tr} {x : Int} (hf : Gd L) (h : StY L y s) (ht : Nm L t x) (hn : t ≠ .none) (hr : (L.length : Int) < most) : ∃ y' L', sayG y x most L = (.ok y', L') ∧ StY L' y' (s.say t) ∧ Up L L' 1 := by
 obtain ⟨y', L', h1, h2⟩ := say_tr (most := most) hf h ht hn hr
 exact ⟨y', L', by unfold sayG; rw [h1]; rfl, h2⟩
theorem turnG_tr {t : Tr} {x : Int} (hf : Gd L) (h : StY L y s) (ht : Nm L t x) (hn : t ≠ .none) (hr : (L.length : Int) + 2 < most) : ∃ y' L', turnG y x most L = (.ok y', L') ∧ StY L' y' (s.turn t) ∧ Up L L' 3 := by
 obtain ⟨y', L', h1, h2⟩ := turn_tr (most := most) hf h ht hn hr
 exact ⟨y', L', by unfold turnG; rw [h1]; rfl, h2⟩
theorem agreeG_tr {a b : Tr} {x z p : Int} (hf : Gd L) (h : StY L y s) (ha : Nm L a x) (hb : Nm L b z) (hp : Nm L (.pub b) p) (hna : a ≠ .none) (hnb : b ≠ .none) (hr : (L.length : Int) + 3 < most) :
  ∃ y' L', agreeG y x p most L = (.ok y', L') ∧ StY L' y' (s.turn (shTr x z a b)) ∧ Up L L' 4 := by
 obtain ⟨q, L1, e1, n1, u1⟩ := agree_tr (most := most) hf ha hb hp hna hnb (by omega)
 have l1 := u1.len
 have hs : shTr x z a b ≠ .none := by unfold shTr Tr.share; split <;> simp
 obtain ⟨y', L2, e2, n2, u2⟩ := turnG_tr (most := most) u1.gd (h.ext u1.ext) n1 hs (by omega)
 exact ⟨y', L2, by rw [agreeG, G.to_ok (x := q) (L' := L1) (by unfold shareG; rw [e1]; rfl)]; exact e2, n2, u1.trans u2⟩
theorem boxG_tr {a d : Tr} {x z p : Int} (hf : Gd L) (h : StY L y s) (ha : Nm L a x) (hd : Nm L d z) (hp : Nm L (.kpub a) p) (hna : a ≠ .none) (hnd : d ≠ .none) (hr : (L.length : Int) + 5 < most) :
  ∃ y' b L', boxG y p z most L = (.ok (y', b), L') ∧ StY L' y' ((s.say (.box a d)).turn (.kem a d)) ∧ Nm L' (.box a d) b ∧ Up L L' 6 := by
 obtain ⟨b, k, L1, e1, n1, n2, u1⟩ := wrap_tr (most := most) hf ha hd hp hna hnd (by omega)
 have l1 := u1.len
 obtain ⟨y1, L2, e2, s2, u2⟩ := sayG_tr (most := most) u1.gd (h.ext u1.ext) n1 (by simp [Tr.box]) (by omega)
 have l2 := u2.len
 obtain ⟨y2, L3, e3, s3, u3⟩ := turnG_tr (most := most) u2.gd s2 (n2.ext u2.ext) (by simp [Tr.kem]) (by omega)
 refine ⟨y2, b, L3, ?_, s3, n1.ext (u2.ext.trans u3.ext), (u1.trans u2).trans u3⟩
 rw [boxG, G.to_ok (x := (b, k)) (L' := L1) (by unfold wrapG; rw [e1]; rfl), G.to_ok e2, G.to_ok e3]
 rfl
theorem unboxG_tr {a d : Tr} {x c : Int} (hf : Gd L) (h : StY L y s) (ha : Nm L a x) (hc : Nm L (.box a d) c) (hna : a ≠ .none) (hnd : d ≠ .none) (hr : (L.length : Int) + 4 < most) :
  ∃ y' L', unboxG y x c most L = (.ok y', L') ∧ StY L' y' ((s.say (.box a d)).turn (.kem a d)) ∧ Up L L' 5 := by
 obtain ⟨y1, L1, e1, s1, u1⟩ := sayG_tr (most := most) hf h hc (by simp [Tr.box]) (by omega)
 have l1 := u1.len
 obtain ⟨k, L2, e2, n2, u2⟩ := unwrap_tr (most := most) u1.gd (ha.ext u1.ext) (hc.ext u1.ext) hna hnd (by omega)
 have l2 := u2.len
 obtain ⟨y3, L3, e3, s3, u3⟩ := turnG_tr (most := most) u2.gd (s1.ext u2.ext) n2 (by simp [Tr.kem]) (by omega)
 exact ⟨y3, L3, by rw [unboxG, G.to_ok e1, G.to_ok (x := k) (L' := L2) (by unfold unwrapG; rw [e2]; rfl)]; exact e3, s3, (u1.trans u2).trans u3⟩
theorem slot_size (slot : Int) : (slotS slot).size ≤ 1000 := by unfold slotS; split <;> decide
theorem startG_ok {S : ByteArray} {y' : Sy} {L' : List Tm} (h : beginF L most S = (y', 0, L')) : startG S most L = (.ok y', L') := by unfold startG; rw [h]; rfl
theorem sealG_tr {t : Tr} {x : Int} (hf : Gd L) (h : StY L y s) (ht : Nm L t x) (hn : t ≠ .none) (hk : s.K ≠ .none) (hl : s.N ≠ lastN) (hr : (L.length : Int) + 1 < most) :
  ∃ y' c L', sealG y x most L = (.ok (y', c), L') ∧ StY L' y' (s.sealed t) ∧ Nm L' (s.box t) c ∧ Up L L' 2 := by
 obtain ⟨y', c, L', h1, h2⟩ := seal_tr (most := most) hf h ht hn hk hl hr
 exact ⟨y', c, L', by unfold sealG; rw [h1]; rfl, h2⟩
theorem unsealG_tr {t : Tr} {c : Int} (hf : Gd L) (h : StY L y s) (hc : Nm L (s.box t) c) (hk : s.K ≠ .none) (hl : s.N ≠ lastN) (hr : (L.length : Int) < most) :
  ∃ y' p L', unsealG y c most L = (.ok (y', p), L') ∧ StY L' y' (s.sealed t) ∧ Nm L' t p ∧ Up L L' 1 := by
 obtain ⟨y', p, L', h1, h2⟩ := unseal_tr (most := most) hf h hc hk hl hr
 exact ⟨y', p, L', by unfold unsealG; rw [h1]; rfl, h2⟩
theorem splitG_tr (hf : Gd L) (h : StY L y s) (hr : (L.length : Int) + 3 < most) :
  ∃ a b L', splitG y most L = (.ok (a, b), L') ∧ Nm L' (.key (.hash s.CK (.text ⟨#[]⟩)) 1) a ∧ Nm L' (.key (.hash s.CK (.text ⟨#[]⟩)) 2) b ∧ Up L L' 4 := by
 obtain ⟨a, b, L', h1, h2⟩ := split_tr (most := most) hf h hr
 exact ⟨a, b, L', by unfold splitG; rw [h1]; rfl, h2⟩
def firstY (offer : ByteArray) (slot : Int) (p1 p2 : Tr) : Ys := ((((Ys.start nameS).say (.text offer)).say (.text (slotS slot))).say (.pub p1)).say (.kpub p2)
theorem first_tr {B1 B2 : Tr} {p1 p2 slot : Int} {offer : ByteArray} (hf : Gd L) (hp1 : Nm L (.pub B1) p1) (hp2 : Nm L (.kpub B2) p2) (ho : offer.size ≤ 1000) (hr : (L.length : Int) + 7 < most) :
  ∃ y L', firstG offer slot (p1, p2) most L = (.ok y, L') ∧ StY L' y (firstY offer slot B1 B2) ∧ Up L L' 7 := by
 obtain ⟨y1, L1, e1, sy, u1⟩ := start_tr (most := most) nameS hf (by decide) (by omega)
 have l1 := u1.len
 replace hp1 := hp1.ext u1.ext
 replace hp2 := hp2.ext u1.ext
 obtain ⟨o, L2, e2, no, u2⟩ := text_tr (most := most) offer u1.gd ho (by omega)
 have l2 := u2.len
 replace hp1 := hp1.ext u2.ext
 replace hp2 := hp2.ext u2.ext
 replace sy := sy.ext u2.ext
 obtain ⟨y, L3, e3, sy, u3⟩ := sayG_tr (most := most) u2.gd sy no (by simp [Tr.text]) (by omega)
 have l3 := u3.len
 replace hp1 := hp1.ext u3.ext
 replace hp2 := hp2.ext u3.ext
 replace no := no.ext u3.ext
 obtain ⟨sl, L4, e4, ns, u4⟩ := text_tr (most := most) (slotS slot) u3.gd (slot_size _) (by omega)
 have l4 := u4.len
 replace hp1 := hp1.ext u4.ext
 replace hp2 := hp2.ext u4.ext
 replace sy := sy.ext u4.ext
 replace no := no.ext u4.ext
 obtain ⟨y, L5, e5, sy, u5⟩ := sayG_tr (most := most) u4.gd sy ns (by simp [Tr.text]) (by omega)
 have l5 := u5.len
 replace hp1 := hp1.ext u5.ext
 replace hp2 := hp2.ext u5.ext
 replace no := no.ext u5.ext
 replace ns := ns.ext u5.ext
 obtain ⟨y, L6, e6, sy, u6⟩ := sayG_tr (most := most) u5.gd sy hp1 (by simp [Tr.pub]) (by omega)
 have l6 := u6.len
 replace hp1 := hp1.ext u6.ext
 replace hp2 := hp2.ext u6.ext
 replace no := no.ext u6.ext
 replace ns := ns.ext u6.ext
 obtain ⟨y, L7, e7, sy, u7⟩ := sayG_tr (most := most) u6.gd sy hp2 (by simp [Tr.kpub]) (by omega)
 have l7 := u7.len
 replace hp1 := hp1.ext u7.ext
 replace hp2 := hp2.ext u7.ext
 replace no := no.ext u7.ext
 replace ns := ns.ext u7.ext
 refine ⟨y, L7, by unfold firstG; rw [G.to_ok (startG_ok e1), G.to_ok (putG_ok e2), G.to_ok e3, G.to_ok (putG_ok e4), G.to_ok e5, G.to_ok e6]; exact e7, sy, ((((((u1).trans u2).trans u3).trans u4).trans u5).trans u6).trans u7⟩
def beginY1 (offer : ByteArray) (slot : Int) (B1 B2 D0 D1 D2 S1 : Tr) : Ys := ((((((firstY offer slot B1 B2).say (.pub D0)).say (.kpub D1)).turn S1).say (.box B2 D2)).turn (.kem B2 D2))
def beginY2 (Y1 : Ys) (A1 S2 P : Tr) : Ys := ((Y1.sealed (.pub A1)).turn S2).turn P
theorem begin_tr {A1 B1 B2 P D0 D1 D2 : Tr} {a1 a2 b1 b2 p1 p2 psk d0 d1 d2 slot : Int} {offer st : ByteArray} (hf : Gd L) (hA1 : Nm L A1 a1) (hB1 : Nm L B1 b1) (hB2 : Nm L B2 b2) (hp1 : Nm L (.pub B1) p1) (hp2 : Nm L (.kpub B2) p2) (hP : Nm L P psk) (h0 : Nm L D0 d0) (h1 : Nm L D1 d1) (h2 : Nm L D2 d2) (nA1 : A1 ≠ .none) (nB1 : B1 ≠ .none) (nB2 : B2 ≠ .none) (nP : P ≠ .none) (n0 : D0 ≠ .none) (n1 : D1 ≠ .none) (n2 : D2 ≠ .none) (ho : offer.size ≤ 1000) (hst : st.size ≤ 1000) (hr : (L.length : Int) + 34 < most) :
  ∃ r L', beginG (a1, a2) (p1, p2) psk offer slot st d0 d1 d2 most L = (.ok r, L') ∧ StY L' r.y ((beginY2 (beginY1 offer slot B1 B2 D0 D1 D2 (shTr d0 b1 D0 B1)) A1 (shTr a1 b1 A1 B1) P).sealed (.text st)) ∧ Nm L' (.pub D0) r.e ∧ Nm L' (.kpub D1) r.ek ∧ Nm L' (.box B2 D2) r.box ∧ Nm L' ((beginY1 offer slot B1 B2 D0 D1 D2 (shTr d0 b1 D0 B1)).box (.pub A1)) r.c1 ∧ Nm L' ((beginY2 (beginY1 offer slot B1 B2 D0 D1 D2 (shTr d0 b1 D0 B1)) A1 (shTr a1 b1 A1 B1) P).box (.text st)) r.c2 ∧ Up L L' 34 := by
 obtain ⟨y, L1, e1, sy, u1⟩ := first_tr (slot := slot) (most := most) hf hp1 hp2 ho (by omega)
 have l1 := u1.len
 replace hA1 := hA1.ext u1.ext
 replace hB1 := hB1.ext u1.ext
 replace hB2 := hB2.ext u1.ext
 replace hp1 := hp1.ext u1.ext
 replace hp2 := hp2.ext u1.ext
 replace hP := hP.ext u1.ext
 replace h0 := h0.ext u1.ext
 replace h1 := h1.ext u1.ext
 replace h2 := h2.ext u1.ext
 obtain ⟨e, L2, e2, ne, u2⟩ := pub_tr (most := most) u1.gd h0 n0 (by omega)
 have l2 := u2.len
 replace hA1 := hA1.ext u2.ext
 replace hB1 := hB1.ext u2.ext
 replace hB2 := hB2.ext u2.ext
 replace hp1 := hp1.ext u2.ext
 replace hp2 := hp2.ext u2.ext
 replace hP := hP.ext u2.ext
 replace h0 := h0.ext u2.ext
 replace h1 := h1.ext u2.ext
 replace h2 := h2.ext u2.ext
 replace sy := sy.ext u2.ext
 obtain ⟨y, L3, e3, sy, u3⟩ := sayG_tr (most := most) u2.gd sy ne (by simp [Tr.pub]) (by omega)
 have l3 := u3.len
 replace hA1 := hA1.ext u3.ext
 replace hB1 := hB1.ext u3.ext
 replace hB2 := hB2.ext u3.ext
 replace hp1 := hp1.ext u3.ext
 replace hp2 := hp2.ext u3.ext
 replace hP := hP.ext u3.ext
 replace h0 := h0.ext u3.ext
 replace h1 := h1.ext u3.ext
 replace h2 := h2.ext u3.ext
 replace ne := ne.ext u3.ext
 obtain ⟨ek, L4, e4, nek, u4⟩ := kpub_tr (most := most) u3.gd h1 n1 (by omega)
 have l4 := u4.len
 replace hA1 := hA1.ext u4.ext
 replace hB1 := hB1.ext u4.ext
 replace hB2 := hB2.ext u4.ext
 replace hp1 := hp1.ext u4.ext
 replace hp2 := hp2.ext u4.ext
 replace hP := hP.ext u4.ext
 replace h0 := h0.ext u4.ext
 replace h1 := h1.ext u4.ext
 replace h2 := h2.ext u4.ext
 replace sy := sy.ext u4.ext
 replace ne := ne.ext u4.ext
 obtain ⟨y, L5, e5, sy, u5⟩ := sayG_tr (most := most) u4.gd sy nek (by simp [Tr.kpub]) (by omega)
 have l5 := u5.len
 replace hA1 := hA1.ext u5.ext
 replace hB1 := hB1.ext u5.ext
 replace hB2 := hB2.ext u5.ext
 replace hp1 := hp1.ext u5.ext
 replace hp2 := hp2.ext u5.ext
 replace hP := hP.ext u5.ext
 replace h0 := h0.ext u5.ext
 replace h1 := h1.ext u5.ext
 replace h2 := h2.ext u5.ext
 replace ne := ne.ext u5.ext
 replace nek := nek.ext u5.ext
 obtain ⟨y, L6, e6, sy, u6⟩ := agreeG_tr (most := most) u5.gd sy h0 hB1 hp1 n0 nB1 (by omega)
 have l6 := u6.len
 replace hA1 := hA1.ext u6.ext
 replace hB1 := hB1.ext u6.ext
 replace hB2 := hB2.ext u6.ext
 replace hp1 := hp1.ext u6.ext
 replace hp2 := hp2.ext u6.ext
 replace hP := hP.ext u6.ext
 replace h0 := h0.ext u6.ext
 replace h1 := h1.ext u6.ext
 replace h2 := h2.ext u6.ext
 replace ne := ne.ext u6.ext
 replace nek := nek.ext u6.ext
 obtain ⟨y, b, L7, e7, sy, nb, u7⟩ := boxG_tr (most := most) u6.gd sy hB2 h2 hp2 nB2 n2 (by omega)
 have l7 := u7.len
 replace hA1 := hA1.ext u7.ext
 replace hB1 := hB1.ext u7.ext
 replace hB2 := hB2.ext u7.ext
 replace hp1 := hp1.ext u7.ext
 replace hp2 := hp2.ext u7.ext
 replace hP := hP.ext u7.ext
 replace h0 := h0.ext u7.ext
 replace h1 := h1.ext u7.ext
 replace h2 := h2.ext u7.ext
 replace ne := ne.ext u7.ext
 replace nek := nek.ext u7.ext
 obtain ⟨pa, L8, e8, npa, u8⟩ := pub_tr (most := most) u7.gd hA1 nA1 (by omega)
 have l8 := u8.len
 replace hA1 := hA1.ext u8.ext
 replace hB1 := hB1.ext u8.ext
 replace hB2 := hB2.ext u8.ext
 replace hp1 := hp1.ext u8.ext
 replace hp2 := hp2.ext u8.ext
 replace hP := hP.ext u8.ext
 replace h0 := h0.ext u8.ext
 replace h1 := h1.ext u8.ext
 replace h2 := h2.ext u8.ext
 replace sy := sy.ext u8.ext
 replace ne := ne.ext u8.ext
 replace nek := nek.ext u8.ext
 replace nb := nb.ext u8.ext
 obtain ⟨y, c1, L9, e9, sy, nc1, u9⟩ := sealG_tr (most := most) u8.gd sy npa (by simp [Tr.pub]) (by simp [Ys.turn, Tr.key]) (by simp [Ys.turn, lastN]) (by omega)
 have l9 := u9.len
 replace hA1 := hA1.ext u9.ext
 replace hB1 := hB1.ext u9.ext
 replace hB2 := hB2.ext u9.ext
 replace hp1 := hp1.ext u9.ext
 replace hp2 := hp2.ext u9.ext
 replace hP := hP.ext u9.ext
 replace h0 := h0.ext u9.ext
 replace h1 := h1.ext u9.ext
 replace h2 := h2.ext u9.ext
 replace ne := ne.ext u9.ext
 replace nek := nek.ext u9.ext
 replace nb := nb.ext u9.ext
 replace npa := npa.ext u9.ext
 obtain ⟨y, L10, e10, sy, u10⟩ := agreeG_tr (most := most) u9.gd sy hA1 hB1 hp1 nA1 nB1 (by omega)
 have l10 := u10.len
 replace hA1 := hA1.ext u10.ext
 replace hB1 := hB1.ext u10.ext
 replace hB2 := hB2.ext u10.ext
 replace hp1 := hp1.ext u10.ext
 replace hp2 := hp2.ext u10.ext
 replace hP := hP.ext u10.ext
 replace h0 := h0.ext u10.ext
 replace h1 := h1.ext u10.ext
 replace h2 := h2.ext u10.ext
 replace ne := ne.ext u10.ext
 replace nek := nek.ext u10.ext
 replace nb := nb.ext u10.ext
 replace npa := npa.ext u10.ext
 replace nc1 := nc1.ext u10.ext
 obtain ⟨y, L11, e11, sy, u11⟩ := turnG_tr (most := most) u10.gd sy hP (nP) (by omega)
 have l11 := u11.len
 replace hA1 := hA1.ext u11.ext
 replace hB1 := hB1.ext u11.ext
 replace hB2 := hB2.ext u11.ext
 replace hp1 := hp1.ext u11.ext
 replace hp2 := hp2.ext u11.ext
 replace hP := hP.ext u11.ext
 replace h0 := h0.ext u11.ext
 replace h1 := h1.ext u11.ext
 replace h2 := h2.ext u11.ext
 replace ne := ne.ext u11.ext
 replace nek := nek.ext u11.ext
 replace nb := nb.ext u11.ext
 replace npa := npa.ext u11.ext
 replace nc1 := nc1.ext u11.ext
 obtain ⟨t, L12, e12, nt, u12⟩ := text_tr (most := most) st u11.gd hst (by omega)
 have l12 := u12.len
 replace hA1 := hA1.ext u12.ext
 replace hB1 := hB1.ext u12.ext
 replace hB2 := hB2.ext u12.ext
 replace hp1 := hp1.ext u12.ext
 replace hp2 := hp2.ext u12.ext
 replace hP := hP.ext u12.ext
 replace h0 := h0.ext u12.ext
 replace h1 := h1.ext u12.ext
 replace h2 := h2.ext u12.ext
 replace sy := sy.ext u12.ext
 replace ne := ne.ext u12.ext
 replace nek := nek.ext u12.ext
 replace nb := nb.ext u12.ext
 replace npa := npa.ext u12.ext
 replace nc1 := nc1.ext u12.ext
 obtain ⟨y, c2, L13, e13, sy, nc2, u13⟩ := sealG_tr (most := most) u12.gd sy nt (by simp [Tr.text]) (by simp [Ys.turn, Tr.key]) (by simp [Ys.turn, lastN]) (by omega)
 have l13 := u13.len
 replace hA1 := hA1.ext u13.ext
 replace hB1 := hB1.ext u13.ext
 replace hB2 := hB2.ext u13.ext
 replace hp1 := hp1.ext u13.ext
 replace hp2 := hp2.ext u13.ext
 replace hP := hP.ext u13.ext
 replace h0 := h0.ext u13.ext
 replace h1 := h1.ext u13.ext
 replace h2 := h2.ext u13.ext
 replace ne := ne.ext u13.ext
 replace nek := nek.ext u13.ext
 replace nb := nb.ext u13.ext
 replace npa := npa.ext u13.ext
 replace nc1 := nc1.ext u13.ext
 replace nt := nt.ext u13.ext
 refine ⟨⟨e, ek, b, c1, c2, y⟩, L13, by unfold beginG; rw [G.to_ok e1, G.to_ok (putG_ok e2), G.to_ok e3, G.to_ok (putG_ok e4), G.to_ok e5, G.to_ok e6, G.to_ok e7, G.to_ok (putG_ok e8), G.to_ok e9, G.to_ok e10, G.to_ok e11, G.to_ok (putG_ok e12), G.to_ok e13]; rfl, sy, ne, nek, nb, nc1, nc2, ((((((((((((u1).trans u2).trans u3).trans u4).trans u5).trans u6).trans u7).trans u8).trans u9).trans u10).trans u11).trans u12).trans u13⟩
theorem publics_tr {B1 B2 : Tr} {b1 b2 : Int} (hf : Gd L) (hB1 : Nm L B1 b1) (hB2 : Nm L B2 b2) (nB1 : B1 ≠ .none) (nB2 : B2 ≠ .none) (hr : (L.length : Int) + 2 < most) :
  ∃ p q L', publicsG (b1, b2) most L = (.ok (p, q), L') ∧ Nm L' (.pub B1) p ∧ Nm L' (.kpub B2) q ∧ Up L L' 2 := by
 obtain ⟨p, L1, e1, n1, u1⟩ := pub_tr (most := most) hf hB1 nB1 (by omega)
 have l1 := u1.len
 obtain ⟨q, L2, e2, n2, u2⟩ := kpub_tr (most := most) u1.gd (hB2.ext u1.ext) nB2 (by omega)
 exact ⟨p, q, L2, by unfold publicsG; rw [G.to_ok (putG_ok e1), G.to_ok (putG_ok e2)]; rfl, n1.ext u2.ext, n2, u1.trans u2⟩
theorem open_tr {A1 B1 B2 P D0 D1 D2 : Tr} {a1 b1 b2 pa d0 slot e ek bx c1 c2 : Int} {i : Nat} {ps : List Int} {psk : Nat → Int} {offer st : ByteArray} (hf : Gd L) (hA1 : Nm L A1 a1) (hB1 : Nm L B1 b1) (hB2 : Nm L B2 b2) (hP : Nm L P (psk i)) (h0 : Nm L D0 d0) (hD2 : ∃ d2, Nm L D2 d2) (hE : Nm L (.pub D0) e) (hEK : Nm L (.kpub D1) ek) (hbox : Nm L (.box B2 D2) bx) (hc1 : Nm L ((beginY1 offer slot B1 B2 D0 D1 D2 (shTr d0 b1 D0 B1)).box (.pub A1)) c1) (hc2 : Nm L ((beginY2 (beginY1 offer slot B1 B2 D0 D1 D2 (shTr d0 b1 D0 B1)) A1 (shTr a1 b1 A1 B1) P).box (.text st)) c2) (hpa : Nm L (.pub A1) pa) (hw : whoF ps pa = some i) (nA1 : A1 ≠ .none) (nB1 : B1 ≠ .none) (nB2 : B2 ≠ .none) (nP : P ≠ .none) (n0 : D0 ≠ .none) (n1 : D1 ≠ .none) (n2 : D2 ≠ .none) (ho : offer.size ≤ 1000) (hr : (L.length : Int) + 29 < most) :
  ∃ y t L', openG (b1, b2) ps psk offer slot e ek bx c1 c2 most L = (.ok (y, pa, i, t), L') ∧ StY L' y ((beginY2 (beginY1 offer slot B1 B2 D0 D1 D2 (shTr d0 b1 D0 B1)) A1 (shTr a1 b1 A1 B1) P).sealed (.text st)) ∧ Nm L' (.text st) t ∧ Up L L' 29 := by
 obtain ⟨d2, h2⟩ := hD2
 obtain ⟨p, q, L1, e1, hp1, hp2, u1⟩ := publics_tr (most := most) hf hB1 hB2 nB1 nB2 (by omega)
 have l1 := u1.len
 replace hA1 := hA1.ext u1.ext
 replace hB1 := hB1.ext u1.ext
 replace hB2 := hB2.ext u1.ext
 replace hP := hP.ext u1.ext
 replace h0 := h0.ext u1.ext
 replace h2 := h2.ext u1.ext
 replace hE := hE.ext u1.ext
 replace hEK := hEK.ext u1.ext
 replace hbox := hbox.ext u1.ext
 replace hc1 := hc1.ext u1.ext
 replace hc2 := hc2.ext u1.ext
 replace hpa := hpa.ext u1.ext
 obtain ⟨y, L2, e2, sy, u2⟩ := first_tr (slot := slot) (most := most) u1.gd hp1 hp2 ho (by omega)
 have l2 := u2.len
 replace hA1 := hA1.ext u2.ext
 replace hB1 := hB1.ext u2.ext
 replace hB2 := hB2.ext u2.ext
 replace hP := hP.ext u2.ext
 replace h0 := h0.ext u2.ext
 replace h2 := h2.ext u2.ext
 replace hE := hE.ext u2.ext
 replace hEK := hEK.ext u2.ext
 replace hbox := hbox.ext u2.ext
 replace hc1 := hc1.ext u2.ext
 replace hc2 := hc2.ext u2.ext
 replace hpa := hpa.ext u2.ext
 replace hp1 := hp1.ext u2.ext
 replace hp2 := hp2.ext u2.ext
 obtain ⟨y, L3, e3, sy, u3⟩ := sayG_tr (most := most) u2.gd sy hE (by simp [Tr.pub]) (by omega)
 have l3 := u3.len
 replace hA1 := hA1.ext u3.ext
 replace hB1 := hB1.ext u3.ext
 replace hB2 := hB2.ext u3.ext
 replace hP := hP.ext u3.ext
 replace h0 := h0.ext u3.ext
 replace h2 := h2.ext u3.ext
 replace hE := hE.ext u3.ext
 replace hEK := hEK.ext u3.ext
 replace hbox := hbox.ext u3.ext
 replace hc1 := hc1.ext u3.ext
 replace hc2 := hc2.ext u3.ext
 replace hpa := hpa.ext u3.ext
 replace hp1 := hp1.ext u3.ext
 replace hp2 := hp2.ext u3.ext
 obtain ⟨y, L4, e4, sy, u4⟩ := sayG_tr (most := most) u3.gd sy hEK (by simp [Tr.kpub]) (by omega)
 have l4 := u4.len
 replace hA1 := hA1.ext u4.ext
 replace hB1 := hB1.ext u4.ext
 replace hB2 := hB2.ext u4.ext
 replace hP := hP.ext u4.ext
 replace h0 := h0.ext u4.ext
 replace h2 := h2.ext u4.ext
 replace hE := hE.ext u4.ext
 replace hEK := hEK.ext u4.ext
 replace hbox := hbox.ext u4.ext
 replace hc1 := hc1.ext u4.ext
 replace hc2 := hc2.ext u4.ext
 replace hpa := hpa.ext u4.ext
 replace hp1 := hp1.ext u4.ext
 replace hp2 := hp2.ext u4.ext
 obtain ⟨y, L5, e5, sy, u5⟩ := agreeG_tr (most := most) u4.gd sy hB1 h0 hE nB1 n0 (by omega)
 have l5 := u5.len
 replace hA1 := hA1.ext u5.ext
 replace hB1 := hB1.ext u5.ext
 replace hB2 := hB2.ext u5.ext
 replace hP := hP.ext u5.ext
 replace h0 := h0.ext u5.ext
 replace h2 := h2.ext u5.ext
 replace hE := hE.ext u5.ext
 replace hEK := hEK.ext u5.ext
 replace hbox := hbox.ext u5.ext
 replace hc1 := hc1.ext u5.ext
 replace hc2 := hc2.ext u5.ext
 replace hpa := hpa.ext u5.ext
 replace hp1 := hp1.ext u5.ext
 replace hp2 := hp2.ext u5.ext
 rw [shTr_comm (x := b1) (y := d0) (a := B1) (b := D0) (fun q => by have := h0; rw [← q] at this; exact hB1.inj this)] at sy
 obtain ⟨y, L6, e6, sy, u6⟩ := unboxG_tr (most := most) u5.gd sy hB2 hbox nB2 n2 (by omega)
 have l6 := u6.len
 replace hA1 := hA1.ext u6.ext
 replace hB1 := hB1.ext u6.ext
 replace hB2 := hB2.ext u6.ext
 replace hP := hP.ext u6.ext
 replace h0 := h0.ext u6.ext
 replace h2 := h2.ext u6.ext
 replace hE := hE.ext u6.ext
 replace hEK := hEK.ext u6.ext
 replace hbox := hbox.ext u6.ext
 replace hc1 := hc1.ext u6.ext
 replace hc2 := hc2.ext u6.ext
 replace hpa := hpa.ext u6.ext
 replace hp1 := hp1.ext u6.ext
 replace hp2 := hp2.ext u6.ext
 obtain ⟨y, qa, L7, e7, sy, hqa, u7⟩ := unsealG_tr (most := most) u6.gd sy hc1 (by simp [Ys.turn, Tr.key]) (by simp [Ys.turn, lastN]) (by omega)
 have l7 := u7.len
 replace hA1 := hA1.ext u7.ext
 replace hB1 := hB1.ext u7.ext
 replace hB2 := hB2.ext u7.ext
 replace hP := hP.ext u7.ext
 replace h0 := h0.ext u7.ext
 replace h2 := h2.ext u7.ext
 replace hE := hE.ext u7.ext
 replace hEK := hEK.ext u7.ext
 replace hbox := hbox.ext u7.ext
 replace hc1 := hc1.ext u7.ext
 replace hc2 := hc2.ext u7.ext
 replace hpa := hpa.ext u7.ext
 replace hp1 := hp1.ext u7.ext
 replace hp2 := hp2.ext u7.ext
 have eqa : qa = pa := hqa.fun hpa
 subst eqa
 obtain ⟨y, L8, e8, sy, u8⟩ := agreeG_tr (most := most) u7.gd sy hB1 hA1 hpa nB1 nA1 (by omega)
 have l8 := u8.len
 replace hA1 := hA1.ext u8.ext
 replace hB1 := hB1.ext u8.ext
 replace hB2 := hB2.ext u8.ext
 replace hP := hP.ext u8.ext
 replace h0 := h0.ext u8.ext
 replace h2 := h2.ext u8.ext
 replace hE := hE.ext u8.ext
 replace hEK := hEK.ext u8.ext
 replace hbox := hbox.ext u8.ext
 replace hc1 := hc1.ext u8.ext
 replace hc2 := hc2.ext u8.ext
 replace hpa := hpa.ext u8.ext
 replace hp1 := hp1.ext u8.ext
 replace hp2 := hp2.ext u8.ext
 replace hqa := hqa.ext u8.ext
 rw [shTr_comm (x := b1) (y := a1) (a := B1) (b := A1) (fun q => by have := hA1; rw [← q] at this; exact hB1.inj this)] at sy
 obtain ⟨y, L9, e9, sy, u9⟩ := turnG_tr (most := most) u8.gd sy hP (nP) (by omega)
 have l9 := u9.len
 replace hA1 := hA1.ext u9.ext
 replace hB1 := hB1.ext u9.ext
 replace hB2 := hB2.ext u9.ext
 replace hP := hP.ext u9.ext
 replace h0 := h0.ext u9.ext
 replace h2 := h2.ext u9.ext
 replace hE := hE.ext u9.ext
 replace hEK := hEK.ext u9.ext
 replace hbox := hbox.ext u9.ext
 replace hc1 := hc1.ext u9.ext
 replace hc2 := hc2.ext u9.ext
 replace hpa := hpa.ext u9.ext
 replace hp1 := hp1.ext u9.ext
 replace hp2 := hp2.ext u9.ext
 replace hqa := hqa.ext u9.ext
 obtain ⟨y, tn, L10, e10, sy, htn, u10⟩ := unsealG_tr (most := most) u9.gd sy hc2 (by simp [Ys.turn, Tr.key]) (by simp [Ys.turn, lastN]) (by omega)
 have l10 := u10.len
 replace hA1 := hA1.ext u10.ext
 replace hB1 := hB1.ext u10.ext
 replace hB2 := hB2.ext u10.ext
 replace hP := hP.ext u10.ext
 replace h0 := h0.ext u10.ext
 replace h2 := h2.ext u10.ext
 replace hE := hE.ext u10.ext
 replace hEK := hEK.ext u10.ext
 replace hbox := hbox.ext u10.ext
 replace hc1 := hc1.ext u10.ext
 replace hc2 := hc2.ext u10.ext
 replace hpa := hpa.ext u10.ext
 replace hp1 := hp1.ext u10.ext
 replace hp2 := hp2.ext u10.ext
 replace hqa := hqa.ext u10.ext
 refine ⟨y, tn, L10, by unfold openG; rw [G.to_ok e1, G.to_ok e2, G.to_ok e3, G.to_ok e4, G.to_ok e5, G.to_ok e6, G.to_ok e7]; simp only [hw]; rw [G.to_ok e8, G.to_ok e9, G.to_ok e10]; rfl, sy, htn, (((((((((u1).trans u2).trans u3).trans u4).trans u5).trans u6).trans u7).trans u8).trans u9).trans u10⟩
def answerY1 (Y : Ys) (E0 E1 D1 S1 S2 : Tr) : Ys := ((((Y.say (.pub E0)).turn S1).turn S2).say (.box D1 E1)).turn (.kem D1 E1)
theorem answer_tr {A1 D0 D1 E0 E1 : Tr} {a1 d0 d1 e0 e1 oe pa ek : Int} {y : Sy} {Y : Ys} {v : ByteArray} (hf : Gd L) (sy : StY L y Y) (hA1 : Nm L A1 a1) (hD0 : Nm L D0 d0) (hD1 : Nm L D1 d1) (hE0 : Nm L E0 e0) (hE1 : Nm L E1 e1) (hoe : Nm L (.pub D0) oe) (hpa : Nm L (.pub A1) pa) (hek : Nm L (.kpub D1) ek) (nA1 : A1 ≠ .none) (nD0 : D0 ≠ .none) (nD1 : D1 ≠ .none) (nE0 : E0 ≠ .none) (nE1 : E1 ≠ .none) (hv : v.size ≤ 1000) (hr : (L.length : Int) + 23 < most) :
  ∃ r L', answerG y oe pa ek v e0 e1 most L = (.ok r, L') ∧ StY L' r.y ((answerY1 Y E0 E1 D1 (shTr e0 d0 E0 D0) (shTr e0 a1 E0 A1)).sealed (.text v)) ∧ Nm L' (.pub E0) r.e ∧ Nm L' (.box D1 E1) r.box ∧ Nm L' ((answerY1 Y E0 E1 D1 (shTr e0 d0 E0 D0) (shTr e0 a1 E0 A1)).box (.text v)) r.c1 ∧ Nm L' (.key (.hash (answerY1 Y E0 E1 D1 (shTr e0 d0 E0 D0) (shTr e0 a1 E0 A1)).CK (.text ⟨#[]⟩)) 1) r.recv ∧ Nm L' (.key (.hash (answerY1 Y E0 E1 D1 (shTr e0 d0 E0 D0) (shTr e0 a1 E0 A1)).CK (.text ⟨#[]⟩)) 2) r.send ∧ Up L L' 23 := by
 obtain ⟨e, L1, e1, ne, u1⟩ := pub_tr (most := most) hf hE0 nE0 (by omega)
 have l1 := u1.len
 replace hE0 := hE0.ext u1.ext
 replace hE1 := hE1.ext u1.ext
 replace hD0 := hD0.ext u1.ext
 replace hD1 := hD1.ext u1.ext
 replace hA1 := hA1.ext u1.ext
 replace hoe := hoe.ext u1.ext
 replace hpa := hpa.ext u1.ext
 replace hek := hek.ext u1.ext
 replace sy := sy.ext u1.ext
 obtain ⟨y, L2, e2, sy, u2⟩ := sayG_tr (most := most) u1.gd sy ne (by simp [Tr.pub]) (by omega)
 have l2 := u2.len
 replace hE0 := hE0.ext u2.ext
 replace hE1 := hE1.ext u2.ext
 replace hD0 := hD0.ext u2.ext
 replace hD1 := hD1.ext u2.ext
 replace hA1 := hA1.ext u2.ext
 replace hoe := hoe.ext u2.ext
 replace hpa := hpa.ext u2.ext
 replace hek := hek.ext u2.ext
 replace ne := ne.ext u2.ext
 obtain ⟨y, L3, e3, sy, u3⟩ := agreeG_tr (most := most) u2.gd sy hE0 hD0 hoe nE0 nD0 (by omega)
 have l3 := u3.len
 replace hE0 := hE0.ext u3.ext
 replace hE1 := hE1.ext u3.ext
 replace hD0 := hD0.ext u3.ext
 replace hD1 := hD1.ext u3.ext
 replace hA1 := hA1.ext u3.ext
 replace hoe := hoe.ext u3.ext
 replace hpa := hpa.ext u3.ext
 replace hek := hek.ext u3.ext
 replace ne := ne.ext u3.ext
 obtain ⟨y, L4, e4, sy, u4⟩ := agreeG_tr (most := most) u3.gd sy hE0 hA1 hpa nE0 nA1 (by omega)
 have l4 := u4.len
 replace hE0 := hE0.ext u4.ext
 replace hE1 := hE1.ext u4.ext
 replace hD0 := hD0.ext u4.ext
 replace hD1 := hD1.ext u4.ext
 replace hA1 := hA1.ext u4.ext
 replace hoe := hoe.ext u4.ext
 replace hpa := hpa.ext u4.ext
 replace hek := hek.ext u4.ext
 replace ne := ne.ext u4.ext
 obtain ⟨y, b, L5, e5, sy, nb, u5⟩ := boxG_tr (most := most) u4.gd sy hD1 hE1 hek nD1 nE1 (by omega)
 have l5 := u5.len
 replace hE0 := hE0.ext u5.ext
 replace hE1 := hE1.ext u5.ext
 replace hD0 := hD0.ext u5.ext
 replace hD1 := hD1.ext u5.ext
 replace hA1 := hA1.ext u5.ext
 replace hoe := hoe.ext u5.ext
 replace hpa := hpa.ext u5.ext
 replace hek := hek.ext u5.ext
 replace ne := ne.ext u5.ext
 obtain ⟨t, L6, e6, nt, u6⟩ := text_tr (most := most) v u5.gd hv (by omega)
 have l6 := u6.len
 replace hE0 := hE0.ext u6.ext
 replace hE1 := hE1.ext u6.ext
 replace hD0 := hD0.ext u6.ext
 replace hD1 := hD1.ext u6.ext
 replace hA1 := hA1.ext u6.ext
 replace hoe := hoe.ext u6.ext
 replace hpa := hpa.ext u6.ext
 replace hek := hek.ext u6.ext
 replace sy := sy.ext u6.ext
 replace ne := ne.ext u6.ext
 replace nb := nb.ext u6.ext
 obtain ⟨y, c1, L7, e7, sy, nc1, u7⟩ := sealG_tr (most := most) u6.gd sy nt (by simp [Tr.text]) (by simp [Ys.turn, Tr.key]) (by simp [Ys.turn, lastN]) (by omega)
 have l7 := u7.len
 replace hE0 := hE0.ext u7.ext
 replace hE1 := hE1.ext u7.ext
 replace hD0 := hD0.ext u7.ext
 replace hD1 := hD1.ext u7.ext
 replace hA1 := hA1.ext u7.ext
 replace hoe := hoe.ext u7.ext
 replace hpa := hpa.ext u7.ext
 replace hek := hek.ext u7.ext
 replace ne := ne.ext u7.ext
 replace nb := nb.ext u7.ext
 replace nt := nt.ext u7.ext
 obtain ⟨ka, kb, L8, e8, nka, nkb, u8⟩ := splitG_tr (most := most) u7.gd sy (by omega)
 have l8 := u8.len
 replace hE0 := hE0.ext u8.ext
 replace hE1 := hE1.ext u8.ext
 replace hD0 := hD0.ext u8.ext
 replace hD1 := hD1.ext u8.ext
 replace hA1 := hA1.ext u8.ext
 replace hoe := hoe.ext u8.ext
 replace hpa := hpa.ext u8.ext
 replace hek := hek.ext u8.ext
 replace sy := sy.ext u8.ext
 replace ne := ne.ext u8.ext
 replace nb := nb.ext u8.ext
 replace nt := nt.ext u8.ext
 replace nc1 := nc1.ext u8.ext
 refine ⟨⟨e, b, c1, y, kb, ka⟩, L8, by unfold answerG; rw [G.to_ok (putG_ok e1), G.to_ok e2, G.to_ok e3, G.to_ok e4, G.to_ok e5, G.to_ok (putG_ok e6), G.to_ok e7, G.to_ok e8]; rfl, sy, ne, nb, nc1, nka, nkb, (((((((u1).trans u2).trans u3).trans u4).trans u5).trans u6).trans u7).trans u8⟩
theorem finish_tr {A1 D0 D1 E0 E1 : Tr} {a1 d0 d1 e0 e bx c1 : Int} {y : Sy} {Y : Ys} {v : ByteArray} (hf : Gd L) (sy : StY L y Y) (hA1 : Nm L A1 a1) (hD0 : Nm L D0 d0) (hD1 : Nm L D1 d1) (hE0 : Nm L E0 e0) (hE : Nm L (.pub E0) e) (hbox : Nm L (.box D1 E1) bx) (hc1 : Nm L ((answerY1 Y E0 E1 D1 (shTr e0 d0 E0 D0) (shTr e0 a1 E0 A1)).box (.text v)) c1) (nA1 : A1 ≠ .none) (nD0 : D0 ≠ .none) (nD1 : D1 ≠ .none) (nE0 : E0 ≠ .none) (nE1 : E1 ≠ .none) (hr : (L.length : Int) + 15 < most) :
  ∃ y' t L', finishG a1 y d0 d1 e bx c1 most L = (.ok (y', t), L') ∧ StY L' y' ((answerY1 Y E0 E1 D1 (shTr e0 d0 E0 D0) (shTr e0 a1 E0 A1)).sealed (.text v)) ∧ Nm L' (.text v) t ∧ Up L L' 15 := by
 obtain ⟨y, L1, e1, sy, u1⟩ := sayG_tr (most := most) hf sy hE (by simp [Tr.pub]) (by omega)
 have l1 := u1.len
 replace hE0 := hE0.ext u1.ext
 replace hD0 := hD0.ext u1.ext
 replace hD1 := hD1.ext u1.ext
 replace hA1 := hA1.ext u1.ext
 replace hE := hE.ext u1.ext
 replace hbox := hbox.ext u1.ext
 replace hc1 := hc1.ext u1.ext
 obtain ⟨y, L2, e2, sy, u2⟩ := agreeG_tr (most := most) u1.gd sy hD0 hE0 hE nD0 nE0 (by omega)
 have l2 := u2.len
 replace hE0 := hE0.ext u2.ext
 replace hD0 := hD0.ext u2.ext
 replace hD1 := hD1.ext u2.ext
 replace hA1 := hA1.ext u2.ext
 replace hE := hE.ext u2.ext
 replace hbox := hbox.ext u2.ext
 replace hc1 := hc1.ext u2.ext
 rw [shTr_comm (x := d0) (y := e0) (a := D0) (b := E0) (fun q => by have := hE0; rw [← q] at this; exact hD0.inj this)] at sy
 obtain ⟨y, L3, e3, sy, u3⟩ := agreeG_tr (most := most) u2.gd sy hA1 hE0 hE nA1 nE0 (by omega)
 have l3 := u3.len
 replace hE0 := hE0.ext u3.ext
 replace hD0 := hD0.ext u3.ext
 replace hD1 := hD1.ext u3.ext
 replace hA1 := hA1.ext u3.ext
 replace hE := hE.ext u3.ext
 replace hbox := hbox.ext u3.ext
 replace hc1 := hc1.ext u3.ext
 rw [shTr_comm (x := a1) (y := e0) (a := A1) (b := E0) (fun q => by have := hE0; rw [← q] at this; exact hA1.inj this)] at sy
 obtain ⟨y, L4, e4, sy, u4⟩ := unboxG_tr (most := most) u3.gd sy hD1 hbox nD1 nE1 (by omega)
 have l4 := u4.len
 replace hE0 := hE0.ext u4.ext
 replace hD0 := hD0.ext u4.ext
 replace hD1 := hD1.ext u4.ext
 replace hA1 := hA1.ext u4.ext
 replace hE := hE.ext u4.ext
 replace hbox := hbox.ext u4.ext
 replace hc1 := hc1.ext u4.ext
 obtain ⟨y, tn, L5, e5, sy, htn, u5⟩ := unsealG_tr (most := most) u4.gd sy hc1 (by simp [Ys.turn, Tr.key]) (by simp [Ys.turn, lastN]) (by omega)
 have l5 := u5.len
 replace hE0 := hE0.ext u5.ext
 replace hD0 := hD0.ext u5.ext
 replace hD1 := hD1.ext u5.ext
 replace hA1 := hA1.ext u5.ext
 replace hE := hE.ext u5.ext
 replace hbox := hbox.ext u5.ext
 replace hc1 := hc1.ext u5.ext
 refine ⟨_, tn, L5, by unfold finishG; rw [G.to_ok e1, G.to_ok e2, G.to_ok e3, G.to_ok e4]; exact e5, sy, htn, ((((u1).trans u2).trans u3).trans u4).trans u5⟩
end
end Go.Proofs.YtgeonppckeiceaaGreatDoor
namespace Go.Proofs.YtgeonppckeiceaaGreatDoor.Ms
open Go.RowKit
set_option linter.unusedVariables false
set_option linter.unusedSimpArgs false
def lookT : List (Int × Value) → Int → Option Value
 | [], _ => none
 | (a, v) :: T, k => if a = k then some v else lookT T k
def Ents (es : Array MapEntry) (T : List (Int × Value)) : Prop := es.toList.map (fun e => (e.key, e.val)) = T.map fun p => (Value.int .i64 p.1, p.2)
theorem Ents.nil : Ents #[] [] := rfl
theorem Ents.push {es : Array MapEntry} {T : List (Int × Value)} (h : Ents es T) (k : Int) (v : Value) (c : Nat) : Ents (es.push { key := .int .i64 k, val := v, born := c }) (T ++ [(k, v)]) := by
 unfold Ents at *
 simp [h]
theorem lookT_app (T : List (Int × Value)) (a : Int) (v : Value) (k : Int) : lookT (T ++ [(a, v)]) k = match lookT T k with | some u => some u | none => if a = k then some v else none := by
 induction T with
 | nil => simp [lookT]
 | cons p T ih =>
  obtain ⟨b, u⟩ := p
  simp only [List.cons_append, lookT, ih]
  split <;> rfl
theorem find_ents (k : Int) : ∀ (l : List MapEntry) (T : List (Int × Value)) (i : Nat), l.map (fun e => (e.key, e.val)) = T.map (fun p => (Value.int .i64 p.1, p.2)) →
  (lookT T k = none ∧ Instr.findNow (.int .i64) (.int .i64 k) l i = some none) ∨ ∃ j v, lookT T k = some v ∧ Instr.findNow (.int .i64) (.int .i64 k) l i = some (some (j, v)) := by
 intro l
 induction l with
 | nil =>
  intro T i h
  cases T with
  | nil => exact .inl ⟨rfl, rfl⟩
  | cons p T => simp at h
 | cons e l ih =>
  intro T i h
  cases T with
  | nil => simp at h
  | cons p T =>
   obtain ⟨a, u⟩ := p
   simp only [List.map_cons, List.cons.injEq, Prod.mk.injEq] at h
   obtain ⟨⟨h1, h2⟩, h3⟩ := h
   by_cases e1 : a = k
   ·subst e1
    exact .inr ⟨i, u, by simp [lookT], by simp [Instr.findNow, Instr.sameNow, h1, h2]⟩
   ·have e2 : (k == a) = false := by simp; exact fun q => e1 q.symm
    have := ih T (i + 1) h3
    simpa [lookT, e1, Instr.findNow, Instr.sameNow, h1, e2] using this
section
variable {P : Program} {mt kt et : TypeId} {w : World} {m : Nat} {es : Array MapEntry} {c : Nat} {T : List (Int × Value)}
theorem chk (hkt : P.underlying kt = some (.int .i64)) (e : Bool) (k : Int) : (Instr.checkKey e 10000 kt (.int .i64 k)).run P w = .ok () w :=
 MapKept.run_checkKey (n := 9999) (d := .int .i64) hkt (by simp [MapKept.IsKey]) e
theorem run_put (hmt : P.underlying mt = some (.map kt et)) (hkt : P.underlying kt = some (.int .i64)) (h : w.heap[m]? = some (.map es c)) (hT : Ents es T) (k : Int) (v : Value) (hk : lookT T k = none) :
  (Instr.mapUpdate mt (.map (some m)) (.int .i64 k) v).run P w = .ok () { w with heap := w.heap.setIfInBounds m (.map (es.push { key := .int .i64 k, val := v, born := c }) (c + 1)) } := by
 have hf : Instr.findNow (.int .i64) (.int .i64 k) es.toList 0 = some none := by
  rcases find_ents k es.toList T 0 hT with ⟨_, q⟩ | ⟨j, u, q, _⟩
  ·exact q
  ·rw [hk] at q; cases q
 unfold Instr.mapUpdate
 simp only [Sem.run_bind, run_underlying hmt, Result.andThen, MapKept.run_getObj_map h, chk hkt, MapKept.run_findKey hkt hf, MapKept.run_setObj_map _ h]
theorem run_look (hmt : P.underlying mt = some (.map kt et)) (hkt : P.underlying kt = some (.int .i64)) {z : Value} (hz : (zeroValue et).run P w = .ok z w) (h : w.heap[m]? = some (.map es c)) (hT : Ents es T) (k : Int) :
  (Instr.lookup mt (.map (some m)) (.int .i64 k) false).run P w = .ok ((lookT T k).getD z) w := by
 unfold Instr.lookup
 rcases find_ents k es.toList T 0 hT with ⟨q1, q⟩ | ⟨j, u, q1, q⟩
 ·simp only [Sem.run_bind, run_underlying hmt, Result.andThen, MapKept.run_getObj_map h, Sem.run_pure, chk hkt, MapKept.run_findKey hkt q, hz, q1]
  rfl
 ·simp only [Sem.run_bind, run_underlying hmt, Result.andThen, MapKept.run_getObj_map h, Sem.run_pure, chk hkt, MapKept.run_findKey hkt q, q1]
  rfl
theorem Chg.putMap (w : World) (m : Nat) (o : Obj) : Chg (fun q => q = m) w { w with heap := w.heap.setIfInBounds m o } :=
 ⟨rfl, rfl, rfl, by simp, fun k hk hs => by
  show (w.heap.setIfInBounds m o)[k]? = w.heap[k]?
  rw [Array.getElem?_setIfInBounds_ne (fun e => hs e.symm)]⟩
theorem putMap_at {o' : Obj} (h : w.heap[m]? = some (.map es c)) : ({ w with heap := w.heap.setIfInBounds m o' } : World).heap[m]? = some o' := by
 have := blk_lt h
 show (w.heap.setIfInBounds m o')[m]? = some o'
 simp [this]
end
end Go.Proofs.YtgeonppckeiceaaGreatDoor.Ms
