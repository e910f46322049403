/- The calls whose answers the document fixes: what they tell. -/
import Derived.Test.YtgeonppckeiceaaGreatDoorGp19
import Derived.Test.YtgeonppckeiceaaGreatDoorGp41
namespace Go.Proofs.YtgeonppckeiceaaGreatDoor
open Go.RowKit
set_option linter.unusedVariables false
set_option linter.unusedSimpArgs false
theorem Nm.i64 {L : List Tm} {t : Tr} {x : Int} (h : Nm L t x) (hl : L.length ≤ 5000) : I64 x := by
  cases h with
  | none => exact k0
  | mk _ _ _ hn => have := hn.in; exact i64_small (by omega) (by omega)
theorem StY.wf {L : List Tm} {y : Sy} {s : Ys} (h : StY L y s) (hl : L.length ≤ 5000) (h0 : 0 ≤ s.N) (h1 : s.N ≤ 1000) : y.Wf :=
  ⟨h.ck.i64 hl, h.k.i64 hl, h.h.i64 hl, by rw [h.n]; exact u64_small h0 (by omega)⟩
section
variable {L : List Tm} {A1 B1 B2 P D0 D1 D2 E0 E1 : Tr} {a1 b1 d0 d1 fr slot : Int} {offer : ByteArray} {stamp : Nat} {m : Mg} {p : Pnd}
theorem InitIs.wf (hI : InitIs L m p A1 B1 B2 P D0 D1 D2 a1 b1 d0 d1 fr slot offer stamp) (hl : L.length ≤ 5000) (hs : slot = 0 ∨ slot = 1) (hf : 0 ≤ fr ∧ fr ≤ 1000) (ho : offer.size ≤ 1000) : Ms.Ms.Wf m := by
  have h6 := hI.e.i64 hl
  have h7 := hI.ek.i64 hl
  have h8 := hI.box.i64 hl
  have h9 := hI.c1.i64 hl
  have h10 := hI.c2.i64 hl
  rw [hI.form]
  refine ⟨fun j hj => ?_, ?_⟩
  · have hlt : j < 13 := by simp [Ms.nCell] at hj; exact hj.1
    have hss : I64 slot := by rcases hs with rfl | rfl; exact k0; exact k1
    have z : U64 0 := u64_small (by omega) (by omega)
    match j, hj with
    | 0, _ => exact k1
    | 1, _ => exact u64_small (x := fr) hf.1 (by omega)
    | 2, _ => exact z
    | 3, h => simp [Ms.nCell] at h
    | 4, _ => exact hss
    | 5, _ => exact k0
    | 6, _ => exact h6
    | 7, _ => exact h7
    | 8, _ => exact h8
    | 9, _ => exact h9
    | 10, _ => exact h10
    | 11, _ => exact z
    | 12, _ => exact z
    | n + 13, _ => omega
  · show offer.size ≤ maxLen
    have : (1000 : Nat) ≤ maxLen := by decide
    omega
theorem RespIs.wf {s : Ses} {Y : Ys} {v tt : Int} (hR : RespIs L m s Y D1 E0 E1 v) (hm : m = respM fr tt (m.i 6) (m.i 8) (m.i 9)) (hl : L.length ≤ 5000) (hf : 0 ≤ fr ∧ fr ≤ 1000) (ht : 0 ≤ tt ∧ tt ≤ 1000) : Ms.Ms.Wf m := by
  have h6 := hR.e.i64 hl
  have h8 := hR.box.i64 hl
  have h9 := hR.c1.i64 hl
  rw [hm]
  refine ⟨fun j hj => ?_, by show (ByteArray.empty).size ≤ maxLen; decide⟩
  have hlt : j < 13 := by simp [Ms.nCell] at hj; exact hj.1
  have z : U64 0 := u64_small (by omega) (by omega)
  match j, hj with
  | 0, _ => exact k2
  | 1, _ => exact u64_small (x := fr) hf.1 (by omega)
  | 2, _ => exact u64_small (x := tt) ht.1 (by omega)
  | 3, h => simp [Ms.nCell] at h
  | 4, _ => exact k0
  | 5, _ => exact k0
  | 6, _ => exact h6
  | 7, _ => exact k0
  | 8, _ => exact h8
  | 9, _ => exact h9
  | 10, _ => exact k0
  | 11, _ => exact z
  | 12, _ => exact z
  | n + 13, _ => omega
end
theorem nm5 : Nm L18 (.nonce 104) 5 := nonce_nm 4 (by omega)
theorem nm6 : Nm L18 (.nonce 105) 6 := nonce_nm 5 (by omega)
theorem nm7 : Nm L18 (.nonce 106) 7 := nonce_nm 6 (by omega)
theorem nm8 : Nm L18 (.nonce 107) 8 := nonce_nm 7 (by omega)
theorem nm9 : Nm L18 (.nonce 108) 9 := nonce_nm 8 (by omega)
theorem nm10 : Nm L18 (.nonce 109) 10 := nonce_nm 9 (by omega)
theorem nm11 : Nm L18 (.nonce 110) 11 := nonce_nm 10 (by omega)
theorem nn (n : Int) : Tr.nonce n ≠ .none := by simp [Tr.nonce]
theorem nne {a b : Int} (h : a ≠ b) : Tr.nonce a ≠ Tr.nonce b := by simp [Tr.nonce, h]
structure FixIs (x : Mg) (q : Pnd) (o : Opd) (r : Mg) (u : Ses) (L1 L2 L3 L4 L5 L6 L7 : List Tm) : Prop where
  c1 : hBegin 5000 L18 (1, 2) pB 7 ⟨#[3, 1]⟩ 1 300 7 8 9 = (x, q, 0, L1)
  c2 : hOpen 5000 L1 (3, 4) [zeroPr, pA] ⟨#[2, 1]⟩ x = (o, 0, L2)
  c3 : hAnswer 5000 L2 o 9 7 10 11 = (r, u, 0, L3)
  c4 : hFinish 5000 L3 1 q r = (⟨u.h, u.recv, u.send, 1⟩, 0, L4)
  c5 : hOpen 5000 L4 (3, 4) [⟨15, 16, 5, 5⟩] ⟨#[2, 1]⟩ x = (zeroOpd, 9, L5)
  c6 : hOpen 5000 L5 (3, 4) [pB] ⟨#[2, 1]⟩ x = (zeroOpd, 5, L6)
  c7 : hOpen 5000 L6 (3, 4) [pA] ⟨#[2]⟩ x = (zeroOpd, 11, L6)
  c8 : hOpen 5000 L6 (1, 2) [pA] ⟨#[2, 1]⟩ x = (zeroOpd, 10, L7)
  c9 : hFinish 5000 L7 1 q x = (zeroSes, 3, L7)
  c10 : hBegin 5000 L7 (1, 2) pB 7 ⟨#[3]⟩ 2 300 7 8 9 = (zeroMg, zeroPnd, 1, L7)
  xw : Ms.Ms.Wf x
  x0 : x.i 0 = 1
  x1 : x.i 1 = 7
  rw : Ms.Ms.Wf r
  r0 : r.i 0 = 2
  r1 : r.i 1 = 9
  r2 : r.i 2 = 7
  qy : q.y.Wf
  qe : q.e = 7
  qk : q.ek = 8
  qo : q.offer = ⟨#[3, 1]⟩
  oy : o.y.Wf
  o1 : o.peer = 1
  o2 : o.version = 1
  o3 : o.stamp = 300
  o4 : I64 o.e ∧ I64 o.ek ∧ I64 o.pub
  u1 : u.version = 1
  us : u.send ≠ u.recv
theorem fix_is : ∃ x q o r u L1 L2 L3 L4 L5 L6 L7, FixIs x q o r u L1 L2 L3 L4 L5 L6 L7 := by
  have l18 := len18
  have hof : (⟨#[3, 1]⟩ : ByteArray).size ≤ 1000 := by decide
  have hb : Ms.bestE (⟨#[2, 1]⟩ : ByteArray).data.toList (⟨#[3, 1]⟩ : ByteArray).data.toList = 0 := by kernel_rfl
  have hb2 : Ms.bestE (⟨#[2]⟩ : ByteArray).data.toList (⟨#[3, 1]⟩ : ByteArray).data.toList = 11 := by kernel_rfl
  have hv : Ms.bestV (⟨#[2, 1]⟩ : ByteArray).data.toList (⟨#[3, 1]⟩ : ByteArray).data.toList = 1 := by kernel_rfl
  obtain ⟨x, q, L1, c1, hI, v1⟩ := hBegin_tr (most := 5000) (L := L18) (fr := 7) (slot := 1) (offer := ⟨#[3, 1]⟩) (stamp := 300) gd18 ends18 (P := .nonce 105) nm6 nm7 nm8 nm9 (nn _) (nn _) (nn _) (nn _) (.inr rfl) (by omega) (by kernel_rfl) (by omega) (by omega) (by omega)
  have g1 := v1.len
  have E1 := ends18.ext v1.ext
  obtain ⟨y, L2, c2, sy, v2⟩ := hOpen_tr (most := 5000) (mine := ⟨#[2, 1]⟩) (ps := [zeroPr, pA]) (i := 1) v1.gd E1 hI (nm6.ext v1.ext) (nm7.ext v1.ext) (nm9.ext v1.ext) (nn _) (nn _) (nn _) (nn _) (by decide) hof hb (by omega) (by omega)
  have g2 := v2.len
  have x2 := v1.ext.trans v2.ext
  have I2 := hI.ext v2.ext
  rw [hv] at c2
  obtain ⟨r, u, L3, c3, hR, hr, v3⟩ := hAnswer_tr (most := 5000) (o := ⟨y, 1, 1, 300, x.i 6, x.i 7, 15⟩) (fr := 9) (tt := 7) v2.gd sy (ends18.ext x2).sA1 (nm7.ext x2) (nm8.ext x2) (nm10.ext x2) (nm11.ext x2) I2.e (ends18.ext x2).pA1 I2.ek (ends18.ext x2).n1 (nn _) (nn _) (nn _) (nn _) (by omega) (by omega) (by omega) (by omega)
  have g3 := v3.len
  have x3 := x2.trans v3.ext
  have I3 := I2.ext v3.ext
  have hq1 := hI.p1
  have hq2 := hI.p2
  have hq3 := hI.p3
  obtain ⟨L4, c4, v4⟩ := hFinish_tr (most := 5000) (p := q) (v := 1) v3.gd I3.y (ends18.ext x3).sA1 (by rw [hq1]; exact nm7.ext x3) (nm10.ext x3) (by rw [hq2]; exact nm8.ext x3) (by rw [hq1]; exact hR) (ends18.ext x3).n1 (nn _) (nn _) (nn _) (nn _) (by omega) (by rw [hq3]; decide) (by omega)
  have g4 := v4.len
  have x4 := x3.trans v4.ext
  have I4 := I3.ext v4.ext
  obtain ⟨L5, c5, v5⟩ := hOpen_psk (most := 5000) (mine := ⟨#[2, 1]⟩) (ps := [⟨15, 16, 5, 5⟩]) (i := 0) (Q := .nonce 104) v4.gd (ends18.ext x4) I4 (nm5.ext x4) (nne (by decide)) (nn _) (nm7.ext x4) (nm9.ext x4) (nn _) (nn _) (nn _) (by decide) hof hb (by omega)
  have g5 := v5.len
  have x5 := x4.trans v5.ext
  have I5 := I4.ext v5.ext
  obtain ⟨L6, c6, v6⟩ := hOpen_who (most := 5000) (mine := ⟨#[2, 1]⟩) (ps := [pB]) v5.gd (ends18.ext x5) I5 (nm7.ext x5) (nm9.ext x5) (nn _) (nn _) (nn _) (by decide) hof hb (by omega)
  have g6 := v6.len
  have x6 := x5.trans v6.ext
  have I6 := I5.ext v6.ext
  have c7 := hOpen_ver (most := 5000) (mine := ⟨#[2]⟩) (ps := [pA]) (x := (3, 4)) I6 (by rw [hb2]; decide)
  rw [hb2] at c7
  obtain ⟨L7, c8, v7⟩ := hOpen_box (most := 5000) (mine := ⟨#[2, 1]⟩) (ps := [pA]) v6.gd I6 (ends18.ext x6).sA1 (ends18.ext x6).sA2 (nm7.ext x6) (nne (by decide)) (ends18.ext x6).n1 (ends18.ext x6).n2 (nn _) (nn _) (nn _) hof hb (by omega)
  have g7 := v7.len
  have kd := hI.kind
  have hus : u.send ≠ u.recv := fun e => by
    have hs := hR.send
    rw [e] at hs
    have := hs.inj hR.recv
    simp [Tr.key] at this
  refine ⟨x, q, _, r, u, L1, L2, L3, L4, L5, L6, L7, c1, c2, c3, c4, c5, c6, c7, c8, hFinish_kind (by rw [kd.1]; decide), hBegin_slot (by decide), hI.wf (by omega) (.inr rfl) (by omega) hof, kd.1, kd.2.2.2, hR.wf hr (by omega) (by omega) (by omega), hR.kind, ?_, ?_, hI.y.wf (by omega) ?_ ?_, hq1, hq2, hq3, sy.wf (by omega) ?_ ?_, rfl, rfl, rfl, ⟨hI.e.i64 (by omega), hI.ek.i64 (by omega), by show I64 15; unfold I64; decide⟩, hR.version, hus⟩
  · rw [hr]; rfl
  · rw [hr]; rfl
  all_goals (simp only [Ys.sealed, Yb2, beginY2, Ys.turn]; omega)
end Go.Proofs.YtgeonppckeiceaaGreatDoor
