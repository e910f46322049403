/- What each of the four calls of a handshake is at, as a list of steps upon a store's terms (by tools/stage17/defs.py); the lists are the whole. -/
import Derived.Test.YtgeonppckeiceaaGreatDoorGq19
namespace Go.Proofs.YtgeonppckeiceaaGreatDoor
open Go.RowKit
set_option linter.unusedVariables false
set_option linter.unusedSimpArgs false
theorem G.to_inv {α β : Type} {m : G α} {k : α → G β} {most : Int} {L L' : List Tm} {x : β} (h : m.to k most L = (.ok x, L')) : ∃ a L1, m most L = (.ok a, L1) ∧ k a most L1 = (.ok x, L') := by
 unfold G.to at h
 cases hm : m most L with
 | mk r L1 =>
  rw [hm] at h
  cases r with
  | ok a => exact ⟨a, L1, rfl, h⟩
  | error e => simp at h
def seqG {σ : Type} : List (σ → G σ) → σ → G σ
 | [], s => .of s
 | k :: ks, s => (k s).to (seqG ks)
theorem seqG_snoc {σ : Type} (ks : List (σ → G σ)) (k : σ → G σ) : ∀ s, seqG (ks ++ [k]) s = (seqG ks s).to k := by
 induction ks with
 | nil =>
  intro s
  show (k s).to (seqG []) = (G.of s).to k
  rw [G.to_of]
  funext most L
  unfold G.to
  cases h : k s most L with
  | mk r L' => cases r <;> rfl
 | cons a ks ih =>
  intro s
  show (a s).to (seqG (ks ++ [k])) = ((a s).to (seqG ks)).to k
  rw [G.to_assoc, funext ih]
theorem seqG_bad {σ : Type} (ks ls : List (σ → G σ)) {s : σ} {most e : Int} {L L' : List Tm} (h : seqG ks s most L = (.error e, L')) : seqG (ks ++ ls) s most L = (.error e, L') := by
 induction ks generalizing s L with
 | nil => simp [seqG, G.of] at h
 | cons a ks ih =>
  have h : (a s).to (seqG ks) most L = (.error e, L') := h
  show (a s).to (seqG (ks ++ ls)) most L = _
  unfold G.to at h ⊢
  cases hm : a s most L with
  | mk r L1 =>
   rw [hm] at h
   cases r with
   | ok b => exact ih h
   | error c => exact h
theorem G.to_congr {α β : Type} {m : G α} {k k' : α → G β} (h : ∀ a, k a = k' a) : m.to k = m.to k' := by rw [funext h]
structure BgP where
 a1 : Int
 a2 : Int
 p : Pr
 fr : Int
 offer : ByteArray
 slot : Int
 stamp : Nat
 d0 : Int
 d1 : Int
 d2 : Int
def BgP.rest (P : BgP) (s : Begun) : List Value := [.int .i64 P.a1, .int .i64 P.a2, .int .i64 P.p.dh, .int .i64 P.p.kem, .int .i64 P.p.k0, .int .i64 P.p.k1, .int .i64 1, .int .u64 P.fr, .int .u64 0, .string P.offer, .int .i64 P.slot, .int .i64 0, .int .i64 s.e, .int .i64 s.ek, .int .i64 s.box, .int .i64 s.c1, .int .i64 s.c2, .int .u64 0, .int .u64 0, .int .u64 P.stamp, .int .i64 P.d0, .int .i64 P.d1, .int .i64 P.d2]
def BgOk (s : Begun) : Prop := I64 s.e ∧ I64 s.ek ∧ I64 s.box ∧ I64 s.c1 ∧ I64 s.c2
def zeroBg : Begun := ⟨0, 0, 0, 0, 0, zeroY⟩
def BgP.m (P : BgP) (s : Begun) : Mg := initM P.fr P.offer P.slot s.e s.ek s.box s.c1 s.c2
def bgSlot (P : BgP) (s : Begun) : G Begun := fun _ L => (if P.slot = 0 ∨ P.slot = 1 then .ok s else .error 1, L)
def bgFirst (P : BgP) (s : Begun) : G Begun := (firstG P.offer P.slot (P.p.dh, P.p.kem)).to fun y => .of { s with y := y }
def bgE (P : BgP) (s : Begun) : G Begun := (putG (pubT P.d0)).to fun e => (sayG s.y e).to fun y => .of { s with e := e, y := y }
def bgEK (P : BgP) (s : Begun) : G Begun := (putG (kpubT P.d1)).to fun e => (sayG s.y e).to fun y => .of { s with ek := e, y := y }
def bgMixE (P : BgP) (s : Begun) : G Begun := (agreeG s.y P.d0 P.p.dh).to fun y => .of { s with y := y }
def bgWrap (P : BgP) (s : Begun) : G Begun := (boxG s.y P.p.kem P.d2).to fun b => .of { s with box := b.2, y := b.1 }
def bgSealMe (P : BgP) (s : Begun) : G Begun := (putG (pubT P.a1)).to fun p => (sealG s.y p).to fun c => .of { s with c1 := c.2, y := c.1 }
def bgMixMe (P : BgP) (s : Begun) : G Begun := (agreeG s.y P.a1 P.p.dh).to fun y => .of { s with y := y }
def bgPsk (P : BgP) (s : Begun) : G Begun := (turnG s.y (P.p.psk P.slot)).to fun y => .of { s with y := y }
def bgStamp (P : BgP) (s : Begun) : G Begun := (putG (textT (Ms.putS P.stamp))).to fun t => (sealG s.y t).to fun c => .of { s with c2 := c.2, y := c.1 }
def bgCheck (P : BgP) (s : Begun) : G Begun := fun _ L => (if Ms.rightM (P.m s) = true then .ok s else .error 3, L)
def bgAll (P : BgP) : List (Begun → G Begun) := [bgSlot P, bgFirst P, bgE P, bgEK P, bgMixE P, bgWrap P, bgSealMe P, bgMixMe P, bgPsk P, bgStamp P, bgCheck P]
theorem G.of_to_id {α : Type} (m : G α) : m.to (fun x => .of x) = m := by
 funext most L
 unfold G.to
 cases h : m most L with
 | mk r L' => cases r <;> rfl
theorem bg_mid (P : BgP) : seqG [bgFirst P, bgE P, bgEK P, bgMixE P, bgWrap P, bgSealMe P, bgMixMe P, bgPsk P, bgStamp P] zeroBg = beginG (P.a1, P.a2) (P.p.dh, P.p.kem) (P.p.psk P.slot) P.offer P.slot (Ms.putS P.stamp) P.d0 P.d1 P.d2 := by
 unfold beginG
 simp only [seqG, bgFirst, bgE, bgEK, bgMixE, bgWrap, bgSealMe, bgMixMe, bgPsk, bgStamp, G.to_assoc, G.to_of]
theorem bg_all (P : BgP) {most : Int} {L : List Tm} : hBegin most L (P.a1, P.a2) P.p P.fr P.offer P.slot P.stamp P.d0 P.d1 P.d2 = match seqG (bgAll P) zeroBg most L with
  | (.ok s, L') => (P.m s, ⟨s.y, P.d0, P.d1, P.offer⟩, 0, L')
  | (.error e, L') => (zeroMg, zeroPnd, e, L') := by
 have h1 : seqG (bgAll P) zeroBg = (bgSlot P zeroBg).to fun s => (seqG [bgFirst P, bgE P, bgEK P, bgMixE P, bgWrap P, bgSealMe P, bgMixMe P, bgPsk P, bgStamp P] s).to (bgCheck P) := by
  simp only [bgAll, seqG, G.to_assoc, G.to_of, G.of_to_id]
 rw [h1]
 unfold hBegin
 by_cases hs : P.slot = 0 ∨ P.slot = 1
 ·rw [if_neg (by rcases hs with h | h <;> simp [h])]
  have h2 : bgSlot P zeroBg = G.of zeroBg := by unfold bgSlot G.of; funext most L; rw [if_pos hs]
  rw [h2, G.to_of, bg_mid]
  cases hb : beginG (P.a1, P.a2) (P.p.dh, P.p.kem) (P.p.psk P.slot) P.offer P.slot (Ms.putS P.stamp) P.d0 P.d1 P.d2 most L with
  | mk r L' =>
   cases r with
   | ok s =>
    rw [G.to_ok hb]
    show (if Ms.rightM (P.m s) = true then _ else _) = _
    by_cases hr : Ms.rightM (P.m s) = true
    ·have h3 : bgCheck P s most L' = (.ok s, L') := by unfold bgCheck; rw [if_pos hr]
     rw [h3, if_pos hr]
     rfl
    ·have h3 : bgCheck P s most L' = (.error 3, L') := by unfold bgCheck; rw [if_neg hr]
     rw [h3, if_neg hr]
   | error e => rw [G.to_bad hb]
 ·rw [if_pos (by constructor <;> (intro h; exact hs (by simp [h])))]
  have h2 : bgSlot P zeroBg most L = (.error 1, L) := by unfold bgSlot; rw [if_neg hs]
  rw [G.to_bad h2]
structure OpP where
 x1 : Int
 x2 : Int
 a : Option Addr
 n : Nat
 cap : Nat
 mine : ByteArray
 m : Mg
 ps : List Pr
structure OpS where
 y : Sy
 peer : Int
 version : Int
 stamp : Int
 pub : Int
def OpP.rest (P : OpP) (s : OpS) : List Value := [.int .i64 P.x1, .int .i64 P.x2, .slice P.a P.n P.cap, .string P.mine, .int .i64 (P.m.i 0), .int .u64 (P.m.i 1), .int .u64 (P.m.i 2), .string P.m.s, .int .i64 (P.m.i 4), .int .i64 (P.m.i 5), .int .i64 (P.m.i 6), .int .i64 (P.m.i 7), .int .i64 (P.m.i 8), .int .i64 (P.m.i 9), .int .i64 (P.m.i 10), .int .u64 (P.m.i 11), .int .u64 (P.m.i 12), .int .i64 0, .int .i64 0, .int .i64 0, .int .u64 0, .int .i64 s.peer, .int .i64 s.version, .int .u64 s.stamp, .int .i64 0, .int .i64 0, .int .i64 s.pub]
def zeroOp : OpS := ⟨zeroY, 0, 0, 0, 0⟩
def opCheck (P : OpP) (s : OpS) : G OpS := fun _ L => (if P.m.i 0 = 1 ∧ Ms.rightM P.m = true then .ok s else .error 3, L)
def opVersion (P : OpP) (s : OpS) : G OpS := fun _ L => (if Ms.bestE P.mine.data.toList P.m.s.data.toList = 0 then .ok { s with version := Ms.bestV P.mine.data.toList P.m.s.data.toList } else .error (Ms.bestE P.mine.data.toList P.m.s.data.toList), L)
def opFirst (P : OpP) (s : OpS) : G OpS := (publicsG (P.x1, P.x2)).to fun p => (firstG P.m.s (P.m.i 4) p).to fun y => .of { s with y := y }
def opHear (P : OpP) (s : OpS) : G OpS := (sayG s.y (P.m.i 6)).to fun y => (sayG y (P.m.i 7)).to fun y => .of { s with y := y }
def opMixE (P : OpP) (s : OpS) : G OpS := (agreeG s.y P.x1 (P.m.i 6)).to fun y => .of { s with y := y }
def opUnwrap (P : OpP) (s : OpS) : G OpS := (unboxG s.y P.x2 (P.m.i 8)).to fun y => .of { s with y := y }
def opPub (P : OpP) (s : OpS) : G OpS := (unsealG s.y (P.m.i 9)).to fun q => .of { s with y := q.1, pub := q.2 }
def opFind (P : OpP) (s : OpS) : G OpS := fun _ L => (match whoF (P.ps.map Pr.dh) s.pub with | some i => .ok { s with peer := (i : Int) } | none => .error 5, L)
def opMixPub (P : OpP) (s : OpS) : G OpS := (agreeG s.y P.x1 s.pub).to fun y => .of { s with y := y }
def opPsk (P : OpP) (s : OpS) : G OpS := (turnG s.y ((P.ps.getD s.peer.toNat zeroPr).psk (P.m.i 4))).to fun y => .of { s with y := y }
def stampG (s : OpS) (r : Sy × Int) : G OpS := fun _ L => (match stampF L r.2 with | some n => .ok { s with y := r.1, stamp := (n : Int) } | none => .error 3, L)
def opStamp (P : OpP) (s : OpS) : G OpS := (unsealG s.y (P.m.i 10)).to fun r => stampG s r
def opAll (P : OpP) : List (OpS → G OpS) := [opCheck P, opVersion P, opFirst P, opHear P, opMixE P, opUnwrap P, opPub P, opFind P, opMixPub P, opPsk P, opStamp P]
theorem op_mid (P : OpP) (v : Int) : seqG [opFirst P, opHear P, opMixE P, opUnwrap P, opPub P, opFind P, opMixPub P, opPsk P, opStamp P] { zeroOp with version := v } =
  (openG (P.x1, P.x2) (P.ps.map Pr.dh) (fun i => (P.ps.getD i zeroPr).psk (P.m.i 4)) P.m.s (P.m.i 4) (P.m.i 6) (P.m.i 7) (P.m.i 8) (P.m.i 9) (P.m.i 10)).to fun r => stampG ⟨r.1, (r.2.2.1 : Int), v, 0, r.2.1⟩ (r.1, r.2.2.2) := by
 have hf : ∀ (q : Sy × Int), opFind P { y := q.1, peer := 0, version := v, stamp := 0, pub := q.2 } = match whoF (P.ps.map Pr.dh) q.2 with | some i => G.of ⟨q.1, (i : Int), v, 0, q.2⟩ | none => G.bad 5 := by
  intro q
  unfold opFind G.of G.bad
  cases whoF (P.ps.map Pr.dh) q.2 <;> rfl
 unfold openG
 simp only [seqG, opFirst, opHear, opMixE, opUnwrap, opPub, opMixPub, opPsk, opStamp, G.to_assoc, G.to_of, zeroOp, hf]
 refine G.to_congr fun p => G.to_congr fun y => G.to_congr fun y => G.to_congr fun y => G.to_congr fun y => G.to_congr fun y => G.to_congr fun q => ?_
 cases whoF (P.ps.map Pr.dh) q.2 with
 | none => rfl
 | some i =>
  simp only [G.to_assoc, G.to_of, Int.toNat_natCast, G.of_to_id]
  exact G.to_congr fun y => G.to_congr fun y => G.to_congr fun r => rfl
theorem op_all (P : OpP) {most : Int} {L : List Tm} : hOpen most L (P.x1, P.x2) P.ps P.mine P.m = match seqG (opAll P) zeroOp most L with
  | (.ok s, L') => (⟨s.y, s.peer, s.version, s.stamp, P.m.i 6, P.m.i 7, s.pub⟩, 0, L')
  | (.error e, L') => (zeroOpd, e, L') := by
 have h1 : seqG (opAll P) zeroOp = (opCheck P zeroOp).to fun s => (opVersion P s).to (seqG [opFirst P, opHear P, opMixE P, opUnwrap P, opPub P, opFind P, opMixPub P, opPsk P, opStamp P]) := rfl
 rw [h1]
 unfold hOpen
 by_cases hc : P.m.i 0 = 1 ∧ Ms.rightM P.m = true
 ·rw [if_neg (by simp [hc.1, hc.2])]
  have h2 : opCheck P zeroOp = G.of zeroOp := by unfold opCheck G.of; funext most L; rw [if_pos hc]
  rw [h2, G.to_of]
  by_cases hb : Ms.bestE P.mine.data.toList P.m.s.data.toList = 0
  ·rw [if_neg (by simp [hb])]
   have h3 : opVersion P zeroOp = G.of { zeroOp with version := Ms.bestV P.mine.data.toList P.m.s.data.toList } := by unfold opVersion G.of; funext most L; rw [if_pos hb]
   rw [h3, G.to_of, op_mid]
   cases hq : openG (P.x1, P.x2) (P.ps.map Pr.dh) (fun i => (P.ps.getD i zeroPr).psk (P.m.i 4)) P.m.s (P.m.i 4) (P.m.i 6) (P.m.i 7) (P.m.i 8) (P.m.i 9) (P.m.i 10) most L with
   | mk r L' =>
    cases r with
    | ok s =>
     rw [G.to_ok hq]
     unfold stampG
     simp only []
     cases stampF L' s.2.2.2 <;> rfl
    | error e => rw [G.to_bad hq]
  ·rw [if_pos hb]
   have h3 : opVersion P zeroOp most L = (.error (Ms.bestE P.mine.data.toList P.m.s.data.toList), L) := by unfold opVersion; rw [if_neg hb]
   rw [G.to_bad h3]
 ·rw [if_pos ((Classical.em (P.m.i 0 = 1)).elim (fun h => .inr (by cases hx : Ms.rightM P.m with | true => exact absurd ⟨h, hx⟩ hc | false => rfl)) .inl)]
  have h2 : opCheck P zeroOp most L = (.error 3, L) := by unfold opCheck; rw [if_neg hc]
  rw [G.to_bad h2]
structure AnP where
 o : Opd
 fr : Int
 tt : Int
 d0 : Int
 d1 : Int
structure AnS where
 y : Sy
 e : Int
 box : Int
 c1 : Int
 h : Int
 send : Int
 recv : Int
 version : Int
def AnP.rest (P : AnP) (s : AnS) : List Value := [.int .i64 P.o.y.CK, .int .i64 P.o.y.K, .int .i64 P.o.y.H, .int .u64 P.o.y.N, .int .i64 P.o.peer, .int .i64 P.o.version, .int .u64 P.o.stamp, .int .i64 P.o.e, .int .i64 P.o.ek, .int .i64 P.o.pub, .int .i64 2, .int .u64 P.fr, .int .u64 P.tt, .string ByteArray.empty, .int .i64 0, .int .i64 0, .int .i64 s.e, .int .i64 0, .int .i64 s.box, .int .i64 s.c1, .int .i64 0, .int .u64 0, .int .u64 0, .int .i64 P.d0, .int .i64 P.d1, .int .i64 s.h, .int .i64 s.send, .int .i64 s.recv, .int .i64 s.version]
def AnOk (s : AnS) : Prop := I64 s.e ∧ I64 s.box ∧ I64 s.c1
def AnP.start (P : AnP) : AnS := ⟨P.o.y, 0, 0, 0, 0, 0, 0, 0⟩
def AnP.m (P : AnP) (s : AnS) : Mg := respM P.fr P.tt s.e s.box s.c1
def anE (P : AnP) (s : AnS) : G AnS := (putG (pubT P.d0)).to fun e => (sayG s.y e).to fun y => .of { s with e := e, y := y }
def anMixE (P : AnP) (s : AnS) : G AnS := (agreeG s.y P.d0 P.o.e).to fun y => .of { s with y := y }
def anMixPub (P : AnP) (s : AnS) : G AnS := (agreeG s.y P.d0 P.o.pub).to fun y => .of { s with y := y }
def anWrap (P : AnP) (s : AnS) : G AnS := (boxG s.y P.o.ek P.d1).to fun b => .of { s with box := b.2, y := b.1 }
def anSeal (P : AnP) (s : AnS) : G AnS := (putG (textT (verS P.o.version))).to fun t => (sealG s.y t).to fun c => .of { s with c1 := c.2, y := c.1 }
def anEnd (P : AnP) (s : AnS) : G AnS := (splitG s.y).to fun k => .of { s with h := s.y.H, send := k.2, recv := k.1, version := P.o.version }
def anCheck (P : AnP) (s : AnS) : G AnS := fun _ L => (if Ms.rightM (P.m s) = true then .ok s else .error 3, L)
def anAll (P : AnP) : List (AnS → G AnS) := [anE P, anMixE P, anMixPub P, anWrap P, anSeal P, anEnd P, anCheck P]
theorem an_mid (P : AnP) : seqG [anE P, anMixE P, anMixPub P, anWrap P, anSeal P, anEnd P] P.start = (answerG P.o.y P.o.e P.o.pub P.o.ek (verS P.o.version) P.d0 P.d1).to fun r => .of ⟨r.y, r.e, r.box, r.c1, r.y.H, r.send, r.recv, P.o.version⟩ := by
 unfold answerG
 simp only [seqG, anE, anMixE, anMixPub, anWrap, anSeal, anEnd, G.to_assoc, G.to_of, AnP.start]
theorem an_all (P : AnP) {most : Int} {L : List Tm} : hAnswer most L P.o P.fr P.tt P.d0 P.d1 = match seqG (anAll P) P.start most L with
  | (.ok s, L') => (P.m s, ⟨s.h, s.send, s.recv, s.version⟩, 0, L')
  | (.error e, L') => (zeroMg, zeroSes, e, L') := by
 have h1 : seqG (anAll P) P.start = (seqG [anE P, anMixE P, anMixPub P, anWrap P, anSeal P, anEnd P] P.start).to (anCheck P) := seqG_snoc [anE P, anMixE P, anMixPub P, anWrap P, anSeal P, anEnd P] (anCheck P) P.start
 rw [h1, an_mid, G.to_assoc]
 unfold hAnswer
 cases hb : answerG P.o.y P.o.e P.o.pub P.o.ek (verS P.o.version) P.d0 P.d1 most L with
 | mk r L' =>
  cases r with
  | ok s =>
   rw [G.to_ok hb, G.to_of]
   show (if Ms.rightM (P.m ⟨s.y, s.e, s.box, s.c1, s.y.H, s.send, s.recv, P.o.version⟩) = true then _ else _) = _
   by_cases hr : Ms.rightM (P.m ⟨s.y, s.e, s.box, s.c1, s.y.H, s.send, s.recv, P.o.version⟩) = true
   ·have h3 : anCheck P ⟨s.y, s.e, s.box, s.c1, s.y.H, s.send, s.recv, P.o.version⟩ most L' = (.ok ⟨s.y, s.e, s.box, s.c1, s.y.H, s.send, s.recv, P.o.version⟩, L') := by unfold anCheck; rw [if_pos hr]
    rw [h3, if_pos hr]
    rfl
   ·have h3 : anCheck P ⟨s.y, s.e, s.box, s.c1, s.y.H, s.send, s.recv, P.o.version⟩ most L' = (.error 3, L') := by unfold anCheck; rw [if_neg hr]
    rw [h3, if_neg hr]
  | error e => rw [G.to_bad hb]
structure FiP where
 x1 : Int
 x2 : Int
 p : Pnd
 m : Mg
structure FiS where
 y : Sy
 h : Int
 send : Int
 recv : Int
 version : Int
def FiP.rest (P : FiP) (s : FiS) : List Value := [.int .i64 P.x1, .int .i64 P.x2, .int .i64 P.p.y.CK, .int .i64 P.p.y.K, .int .i64 P.p.y.H, .int .u64 P.p.y.N, .int .i64 P.p.e, .int .i64 P.p.ek, .string P.p.offer, .int .i64 (P.m.i 0), .int .u64 (P.m.i 1), .int .u64 (P.m.i 2), .string P.m.s, .int .i64 (P.m.i 4), .int .i64 (P.m.i 5), .int .i64 (P.m.i 6), .int .i64 (P.m.i 7), .int .i64 (P.m.i 8), .int .i64 (P.m.i 9), .int .i64 (P.m.i 10), .int .u64 (P.m.i 11), .int .u64 (P.m.i 12), .int .i64 s.h, .int .i64 s.send, .int .i64 s.recv, .int .i64 s.version]
def FiP.start (P : FiP) : FiS := ⟨P.p.y, 0, 0, 0, 0⟩
def fiCheck (P : FiP) (s : FiS) : G FiS := fun _ L => (if P.m.i 0 = 2 ∧ Ms.rightM P.m = true then .ok s else .error 3, L)
def fiHear (P : FiP) (s : FiS) : G FiS := (sayG s.y (P.m.i 6)).to fun y => .of { s with y := y }
def fiMixE (P : FiP) (s : FiS) : G FiS := (agreeG s.y P.p.e (P.m.i 6)).to fun y => .of { s with y := y }
def fiMixMe (P : FiP) (s : FiS) : G FiS := (agreeG s.y P.x1 (P.m.i 6)).to fun y => .of { s with y := y }
def fiUnwrap (P : FiP) (s : FiS) : G FiS := (unboxG s.y P.p.ek (P.m.i 8)).to fun y => .of { s with y := y }
def verF (offer : ByteArray) (b : Option UInt8) : Except Int UInt8 := match b with
 | some c => if c ∈ offer.data.toList then .ok c else .error 11
 | none => .error 3
def verG (offer : ByteArray) (s : FiS) (r : Sy × Int) : G FiS := fun _ L => (match verF offer (byteF L r.2) with | .ok c => .ok { s with y := r.1, version := (c.toNat : Int) } | .error e => .error e, L)
def fiVersion (P : FiP) (s : FiS) : G FiS := (unsealG s.y (P.m.i 9)).to fun r => verG P.p.offer s r
def fiEnd (P : FiP) (s : FiS) : G FiS := (splitG s.y).to fun k => .of { s with h := s.y.H, send := k.1, recv := k.2 }
def fiAll (P : FiP) : List (FiS → G FiS) := [fiCheck P, fiHear P, fiMixE P, fiMixMe P, fiUnwrap P, fiVersion P, fiEnd P]
theorem fi_mid (P : FiP) : seqG [fiHear P, fiMixE P, fiMixMe P, fiUnwrap P, fiVersion P, fiEnd P] P.start = (finishG P.x1 P.p.y P.p.e P.p.ek (P.m.i 6) (P.m.i 8) (P.m.i 9)).to fun r => (verG P.p.offer ⟨r.1, 0, 0, 0, 0⟩ r).to (fiEnd P) := by
 unfold finishG
 simp only [seqG, fiHear, fiMixE, fiMixMe, fiUnwrap, fiVersion, G.to_assoc, G.to_of, FiP.start, G.of_to_id]
 exact G.to_congr fun y => G.to_congr fun y => G.to_congr fun y => G.to_congr fun y => G.to_congr fun r => rfl
theorem fi_all (P : FiP) {most : Int} {L : List Tm} : hFinish most L P.x1 P.p P.m = match seqG (fiAll P) P.start most L with
  | (.ok s, L') => (⟨s.h, s.send, s.recv, s.version⟩, 0, L')
  | (.error e, L') => (zeroSes, e, L') := by
 have h1 : seqG (fiAll P) P.start = (fiCheck P P.start).to (seqG [fiHear P, fiMixE P, fiMixMe P, fiUnwrap P, fiVersion P, fiEnd P]) := rfl
 rw [h1]
 unfold hFinish
 by_cases hc : P.m.i 0 = 2 ∧ Ms.rightM P.m = true
 ·rw [if_neg (by simp [hc.1, hc.2])]
  have h2 : fiCheck P P.start = G.of P.start := by unfold fiCheck G.of; funext most L; rw [if_pos hc]
  rw [h2, G.to_of, fi_mid]
  cases hq : finishG P.x1 P.p.y P.p.e P.p.ek (P.m.i 6) (P.m.i 8) (P.m.i 9) most L with
  | mk r L' =>
   cases r with
   | error e => rw [G.to_bad hq]
   | ok s =>
    rw [G.to_ok hq]
    unfold G.to verG
    simp only []
    cases hb : byteF L' s.2 with
    | none => rfl
    | some c =>
     simp only [verF]
     by_cases hm : c ∈ P.p.offer.data.toList
     ·rw [if_pos hm, if_pos hm]
      simp only [fiEnd, G.to]
      cases hs : splitG s.1 most L' with
      | mk q L2 => cases q <;> rfl
     ·rw [if_neg hm, if_neg hm]
 ·rw [if_pos ((Classical.em (P.m.i 0 = 2)).elim (fun h => .inr (by cases hx : Ms.rightM P.m with | true => exact absurd ⟨h, hx⟩ hc | false => rfl)) .inl)]
  have h2 : fiCheck P P.start most L = (.error 3, L) := by unfold fiCheck; rw [if_neg hc]
  rw [G.to_bad h2]
end Go.Proofs.YtgeonppckeiceaaGreatDoor
