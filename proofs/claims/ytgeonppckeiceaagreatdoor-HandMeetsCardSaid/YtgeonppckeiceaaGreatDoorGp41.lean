/- Whole messages: encoded and decoded, cut off, with more behind them; two of them. No program is named here. -/
/- The program's calls in one form. -/
/- Two endpoints: their names in trees. -/
/- Two endpoints in a store: what Two makes. -/
import Derived.Test.YtgeonppckeiceaaGreatDoorGp40
import Derived.Test.YtgeonppckeiceaaGreatDoorGp38
import Derived.Test.YtgeonppckeiceaaGreatDoorGp39
import Derived.Test.YtgeonppckeiceaaGreatDoorGp31
import Derived.Test.YtgeonppckeiceaaGreatDoorGp18
namespace Go.Proofs.YtgeonppckeiceaaGreatDoor.Ms
open Go.RowKit
set_option linter.unusedVariables false
set_option linter.unusedSimpArgs false
set_option maxRecDepth 20000

theorem right_oks {M : Ms} (h : rightM M = true) : ∀ f, f ∈ fds (M.i 0) → f.ok M = true := by
  rcases fds_cases (M.i 0) with e | e | e | e | ⟨_, _, _, _, e⟩
  · obtain ⟨h1, h2, h3, h4, h5, h6, h7, h8, _⟩ := (right1_iff M e).1 h
    intro f hf
    rw [e] at hf
    simp only [fds, List.mem_cons, List.not_mem_nil, or_false] at hf
    rcases hf with rfl | rfl | rfl | rfl | rfl | rfl | rfl | rfl <;> simp only [Fd.ok] <;> assumption
  · obtain ⟨h1, h2, h3, h4, h5, _⟩ := (right2_iff M e).1 h
    intro f hf
    rw [e] at hf
    simp only [fds, List.mem_cons, List.not_mem_nil, or_false] at hf
    rcases hf with rfl | rfl | rfl | rfl | rfl <;> simp only [Fd.ok] <;> assumption
  · obtain ⟨h1, h2, _⟩ := (right3_iff M e).1 h
    intro f hf
    rw [e] at hf
    simp only [fds, List.mem_cons, List.not_mem_nil, or_false] at hf
    rcases hf with rfl | rfl <;> simp only [Fd.ok] <;> assumption
  · obtain ⟨h1, h2, h3, h4, _⟩ := (right4_iff M e).1 h
    intro f hf
    rw [e] at hf
    simp only [fds, List.mem_cons, List.not_mem_nil, or_false] at hf
    rcases hf with rfl | rfl | rfl | rfl <;> simp only [Fd.ok] <;> assumption
  · rw [right_nofds e] at h; cases h
end Go.Proofs.YtgeonppckeiceaaGreatDoor.Ms
namespace Go.Proofs.YtgeonppckeiceaaGreatDoor
open Go.RowKit
set_option linter.unusedVariables false
set_option linter.unusedSimpArgs false
theorem right_slot {m : Mg} (h : Ms.rightM m = true) (h0 : m.i 0 = 1) : m.i 4 = 0 ∨ m.i 4 = 1 := by
  have := Ms.right_oks h (.int 4 0 1) (by rw [h0]; simp [Ms.fds])
  simp [Ms.Fd.ok, Ms.inIv] at this
  omega
theorem initM_wf {fr slot e ek box c1 c2 : Int} {offer : ByteArray} (hf : U64 fr) (hs : I64 slot) (h1 : I64 e) (h2 : I64 ek) (h3 : I64 box) (h4 : I64 c1) (h5 : I64 c2) (ho : offer.size ≤ maxLen) : Ms.Ms.Wf (initM fr offer slot e ek box c1 c2) := by
  refine ⟨fun j hj => ?_, ho⟩
  have hlt : j < 13 := by simp [Ms.nCell] at hj; exact hj.1
  have z : U64 0 := u64_small (by omega) (by omega)
  match j, hj with
  | 0, _ => exact i64_small (x := 1) (by omega) (by omega)
  | 1, _ => exact hf
  | 2, _ => exact z
  | 3, h => simp [Ms.nCell] at h
  | 4, _ => exact hs
  | 5, _ => exact k0
  | 6, _ => exact h1
  | 7, _ => exact h2
  | 8, _ => exact h3
  | 9, _ => exact h4
  | 10, _ => exact h5
  | 11, _ => exact z
  | 12, _ => exact z
  | n + 13, _ => omega
theorem respM_wf {fr tt e box c1 : Int} (hf : U64 fr) (ht : U64 tt) (h1 : I64 e) (h3 : I64 box) (h4 : I64 c1) : Ms.Ms.Wf (respM fr tt e box c1) := by
  refine ⟨fun j hj => ?_, Nat.zero_le _⟩
  have hlt : j < 13 := by simp [Ms.nCell] at hj; exact hj.1
  have z : U64 0 := u64_small (by omega) (by omega)
  match j, hj with
  | 0, _ => exact i64_small (x := 2) (by omega) (by omega)
  | 1, _ => exact hf
  | 2, _ => exact ht
  | 3, h => simp [Ms.nCell] at h
  | 4, _ => exact k0
  | 5, _ => exact k0
  | 6, _ => exact h1
  | 7, _ => exact k0
  | 8, _ => exact h3
  | 9, _ => exact h4
  | 10, _ => exact k0
  | 11, _ => exact z
  | 12, _ => exact z
  | n + 13, _ => omega
section
variable {base g : Nat} {most : Int} {Q2 : (Nat → Prop) → List Tm → World → Prop} {L L' L2 : List Tm} {bs : List (Nat × Obj)} {w0 w : World}
theorem Cs.hbegin (g2 : Good base Q2) (h : Cs base (PSq base g most) Q2 L L2 bs w0 w) {a1 a2 d0 d1 d2 e : Int} {p : Pr} {m0 m : Mg} {pn : Pnd} {stamp : Nat} (h1 : I64 a1) (h2 : I64 a2) (hp : p.Wf) (hm : Ms.Ms.Wf m0) (hst : (stamp : Int) ≤ 18446744073709551615) (h3 : I64 d0) (h4 : I64 d1) (h5 : I64 d2)
    (hf : hBegin most L (a1, a2) p (m0.i 1) m0.s (m0.i 4) stamp d0 d1 d2 = (m, pn, e, L')) :
    Calls Tryz.prog 17 #[.pointer (some ⟨g, 0, none⟩), .agg #[.int .i64 a1, .int .i64 a2], p.v, m0.v, .int .u64 stamp, .agg #[.int .i64 d0, .int .i64 d1, .int .i64 d2]] w fun e' w' => e' = .returned (.tuple #[m.v, pn.v, .int .i64 e]) ∧ Cs base (PSq base g most) Q2 L' L2 bs w0 w' := by
  have hz : (Ms.putS stamp).size ≤ maxLen := by
    have a := Ms.putS_size stamp hst
    have : (1000 : Nat) ≤ maxLen := by decide
    omega
  have := h.hbegin1 g2 (P := ⟨a1, a2, p, m0.i 1, m0.s, m0.i 4, stamp, d0, d1, d2⟩) (f0 := m0.i 0) (f2 := m0.i 2) (f5 := m0.i 5) (f6 := m0.i 6) (f7 := m0.i 7) (f8 := m0.i 8) (f9 := m0.i 9) (f10 := m0.i 10) (f11 := m0.i 11) (f12 := m0.i 12)
    ⟨hm.s, hp.1, hp.2.1, h3, h4, h5, h1, ⟨hp.2.2.1, hp.2.2.2⟩, hst, hz, fun s hs => initM_wf (hm.n 1 rfl) (hm.n 4 rfl) hs.1 hs.2.1 hs.2.2.1 hs.2.2.2.1 hs.2.2.2.2 hm.s⟩ hf
  exact this
theorem Cs.hopen (g2 : Good base Q2) (h : Cs base (PSq base g most) Q2 L L2 bs w0 w) {x y e : Int} {ps : List Pr} {a : Option Addr} {n cap : Nat} {offer : ByteArray} {m : Mg} {o : Opd} (h1 : I64 x) (h2 : I64 y) (hn : n = ps.length) (hl : n ≤ 1000000) (hr : RowB bs a ps) (hw : ∀ p, p ∈ ps → p.Wf) (ho : offer.size ≤ maxLen) (hm : Ms.Ms.Wf m)
    (hf : hOpen most L (x, y) ps offer m = (o, e, L')) :
    Calls Tryz.prog 22 #[.pointer (some ⟨g, 0, none⟩), .agg #[.int .i64 x, .int .i64 y], .slice a n cap, .string offer, m.v] w fun e' w' => e' = .returned (.tuple #[o.v, .int .i64 e]) ∧ Cs base (PSq base g most) Q2 L' L2 bs w0 w' :=
  h.hopen1 g2 (P := ⟨x, y, a, n, cap, offer, m, ps⟩) ⟨h1, h2, hm.s, hm, ho, hn, hl, hr, hw, right_slot, hm.n 6 rfl, hm.n 7 rfl, hm.n 8 rfl, hm.n 9 rfl, hm.n 10 rfl⟩ hf
theorem Cs.hanswer (g2 : Good base Q2) (h : Cs base (PSq base g most) Q2 L L2 bs w0 w) {fr tt d0 d1 e : Int} {o : Opd} {m : Mg} {s : Ses} (hy : o.y.Wf) (h2 : U64 fr) (h3 : U64 tt) (h4 : I64 d0) (h5 : I64 d1)
    (hf : hAnswer most L o fr tt d0 d1 = (m, s, e, L')) :
    Calls Tryz.prog 26 #[.pointer (some ⟨g, 0, none⟩), o.v, .int .u64 fr, .int .u64 tt, .agg #[.int .i64 d0, .int .i64 d1]] w fun e' w' => e' = .returned (.tuple #[m.v, s.v, .int .i64 e]) ∧ Cs base (PSq base g most) Q2 L' L2 bs w0 w' :=
  h.hanswer1 g2 (P := ⟨o, fr, tt, d0, d1⟩) ⟨hy, h4, h5, fun s hs => respM_wf h2 h3 hs.1 hs.2.1 hs.2.2⟩ hf
theorem Cs.hfinish (g2 : Good base Q2) (h : Cs base (PSq base g most) Q2 L L2 bs w0 w) {x y e : Int} {p : Pnd} {m : Mg} {s : Ses} (h1 : I64 x) (hy : p.y.Wf) (h3 : I64 p.e ∧ I64 p.ek) (hm : Ms.Ms.Wf m)
    (hf : hFinish most L x p m = (s, e, L')) :
    Calls Tryz.prog 29 #[.pointer (some ⟨g, 0, none⟩), .agg #[.int .i64 x, .int .i64 y], p.v, m.v] w fun e' w' => e' = .returned (.tuple #[s.v, .int .i64 e]) ∧ Cs base (PSq base g most) Q2 L' L2 bs w0 w' :=
  h.hfinish1 g2 (P := ⟨x, y, p, m⟩) ⟨h1, hy, h3.1, h3.2, hm, hm.n 6 rfl, hm.n 8 rfl, hm.n 9 rfl⟩ hf
end
end Go.Proofs.YtgeonppckeiceaaGreatDoor
namespace Go.Proofs.YtgeonppckeiceaaGreatDoor
open Go.RowKit
set_option linter.unusedVariables false
set_option linter.unusedSimpArgs false
set_option maxRecDepth 20000
/-! Two endpoints: their secrets are the names 1 to 4, the secrets of both 5 and 6, the draws 7 to 14. -/
def nonceT (n : Int) : Tm := ⟨2, ⟨#[]⟩, n, 0, 0, 0⟩
def nonces (k : Nat) : List Tm := (List.range k).map (fun (i : Nat) => nonceT (100 + (i : Int)))
def L18 : List Tm := nonces 14 ++ [pubT 1] ++ [kpubT 2] ++ [pubT 3] ++ [kpubT 4]
def pB : Pr := ⟨17, 18, 5, 6⟩
def pA : Pr := ⟨15, 16, 5, 6⟩
theorem put_fresh {L : List Tm} {most : Int} {t : Tm} (hm : t.may L.length = true) (hn : ∀ j, j < L.length → L.getD j zeroT ≠ t) (hr : (L.length : Int) < most) : putF L most t = ((L.length : Int) + 1, 0, L ++ [t]) := by
  have h0 : nameOf L t = 0 := nameOf_zero L t hn
  unfold putF
  rw [if_pos hm, if_neg (by rw [h0]; simp), if_neg (by omega)]
theorem may_nonce (n : Nat) (k : Int) : (nonceT k).may n = true := by
  rw [may_iff]
  simp [May, below3, BadP, many, prt, nonceT, sz0]
theorem nonces_put (k : Nat) (hk : k ≤ 14) : putF (nonces k) 5000 (nonceT (100 + k)) = ((k : Int) + 1, 0, nonces (k + 1)) := by
  have hl : (nonces k).length = k := by simp [nonces]
  have h := put_fresh (L := nonces k) (most := 5000) (t := nonceT (100 + k)) (may_nonce _ _) (fun j hj q => by
    rw [hl] at hj
    simp [nonces, List.getD, hj, nonceT] at q
    omega) (by rw [hl]; omega)
  rw [h, hl]
  simp [nonces, List.range_succ]
theorem put_freshM {L : List Tm} {most : Int} {t : Tm} (hm : t.may L.length = true) (hn : ∀ u, u ∈ L → u ≠ t) (hr : (L.length : Int) < most) : putF L most t = ((L.length : Int) + 1, 0, L ++ [t]) :=
  put_fresh hm (fun j hj => hn _ (by simp [List.getD, hj])) hr
theorem mem_nonces {k : Nat} {u : Tm} (h : u ∈ nonces k) : u.K = 2 := by
  simp [nonces] at h
  obtain ⟨i, _, rfl⟩ := h
  rfl
theorem len14 : (nonces 14).length = 14 := by simp [nonces]
theorem pub15 : putF (nonces 14) 5000 (pubT 1) = (15, 0, nonces 14 ++ [pubT 1]) :=
  put_freshM (may_pub (by omega) (by rw [len14]; omega)) (fun u hu e => by have := mem_nonces hu; rw [e] at this; simp [pubT] at this) (by rw [len14]; omega)
theorem kpub16 : putF (nonces 14 ++ [pubT 1]) 5000 (kpubT 2) = (16, 0, nonces 14 ++ [pubT 1] ++ [kpubT 2]) := by
  have hl : (nonces 14 ++ [pubT 1]).length = 15 := by rw [List.length_append, len14]; rfl
  have h := put_freshM (L := nonces 14 ++ [pubT 1]) (most := 5000) (t := kpubT 2) (may_kpub (by omega) (by rw [hl]; omega)) (fun u hu e => by
    rcases List.mem_append.1 hu with q | q
    · have := mem_nonces q; rw [e] at this; simp [kpubT] at this
    · rw [List.mem_singleton.1 q] at e; simp [pubT, kpubT] at e) (by rw [hl]; omega)
  rw [h, hl]
  rfl
theorem pub17 : putF (nonces 14 ++ [pubT 1] ++ [kpubT 2]) 5000 (pubT 3) = (17, 0, nonces 14 ++ [pubT 1] ++ [kpubT 2] ++ [pubT 3]) := by
  have hl : (nonces 14 ++ [pubT 1] ++ [kpubT 2]).length = 16 := by rw [List.length_append, List.length_append, len14]; rfl
  have h := put_freshM (L := nonces 14 ++ [pubT 1] ++ [kpubT 2]) (most := 5000) (t := pubT 3) (may_pub (by omega) (by rw [hl]; omega)) (fun u hu e => by
    rcases List.mem_append.1 hu with q | q
    · rcases List.mem_append.1 q with r | r
      · have := mem_nonces r; rw [e] at this; simp [pubT] at this
      · rw [List.mem_singleton.1 r] at e; simp [pubT] at e
    · rw [List.mem_singleton.1 q] at e; simp [pubT, kpubT] at e) (by rw [hl]; omega)
  rw [h, hl]
  rfl
theorem kpub18 : putF (nonces 14 ++ [pubT 1] ++ [kpubT 2] ++ [pubT 3]) 5000 (kpubT 4) = (18, 0, L18) := by
  have hl : (nonces 14 ++ [pubT 1] ++ [kpubT 2] ++ [pubT 3]).length = 17 := by rw [List.length_append, List.length_append, List.length_append, len14]; rfl
  have h := put_freshM (L := nonces 14 ++ [pubT 1] ++ [kpubT 2] ++ [pubT 3]) (most := 5000) (t := kpubT 4) (may_kpub (by omega) (by rw [hl]; omega)) (fun u hu e => by
    rcases List.mem_append.1 hu with q | q
    · rcases List.mem_append.1 q with r | r
      · rcases List.mem_append.1 r with v | v
        · have := mem_nonces v; rw [e] at this; simp [kpubT] at this
        · rw [List.mem_singleton.1 v] at e; simp [pubT, kpubT] at e
      · rw [List.mem_singleton.1 r] at e; simp [kpubT] at e
    · rw [List.mem_singleton.1 q] at e; simp [pubT, kpubT] at e) (by rw [hl]; omega)
  rw [h, hl]
  rfl
theorem publics1 : hPublics 5000 (nonces 14) (1, 2) = ((15, 16), 0, nonces 14 ++ [pubT 1] ++ [kpubT 2]) := by
  unfold hPublics publicsG
  rw [G.to_ok (putG_ok pub15), G.to_ok (putG_ok kpub16)]
  rfl
theorem publics2 : hPublics 5000 (nonces 14 ++ [pubT 1] ++ [kpubT 2]) (3, 4) = ((17, 18), 0, L18) := by
  unfold hPublics publicsG
  rw [G.to_ok (putG_ok pub17), G.to_ok (putG_ok kpub18)]
  rfl
/-- What a put that is known names. -/
theorem named_of {L L' : List Tm} {most x : Int} {t : Tm} (h : putF L most t = (x, 0, L')) (hm : t.may L.length = true) (hr : (L.length : Int) < most) : Named L' x t ∧ Ext L L' := by
  obtain ⟨a, M, e1, n1, x1, _⟩ := put_named L most t hm hr
  rw [h] at e1
  injection e1 with q1 q2
  injection q2 with q2 q3
  subst q1 q3
  exact ⟨n1, x1⟩
theorem nonces_gd : ∀ k, k ≤ 14 → Gd (nonces k)
  | 0, _ => Gd.nil
  | k + 1, h => by
    have h1 := (nonces_gd k (by omega)).put (most := 5000) (by simp [nonces]; omega) (nonceT (100 + k))
    rw [nonces_put k (by omega)] at h1
    exact h1
theorem nonces_ext : ∀ d k, k + d ≤ 14 → Ext (nonces k) (nonces (k + d))
  | 0, k, _ => Ext.refl _
  | d + 1, k, h => (nonces_ext d k (by omega)).trans (named_of (nonces_put (k + d) (by omega)) (may_nonce _ _) (by simp [nonces]; omega)).2
theorem ext18 : Ext (nonces 14) L18 := by
  have a := (named_of pub15 (may_pub (by omega) (by rw [len14]; omega)) (by rw [len14]; omega)).2
  have l1 : (nonces 14 ++ [pubT 1]).length = 15 := by rw [List.length_append, len14]; rfl
  have l2 : (nonces 14 ++ [pubT 1] ++ [kpubT 2]).length = 16 := by rw [List.length_append, l1]; rfl
  have l3 : (nonces 14 ++ [pubT 1] ++ [kpubT 2] ++ [pubT 3]).length = 17 := by rw [List.length_append, l2]; rfl
  have b := (named_of kpub16 (may_kpub (by omega) (by rw [l1]; omega)) (by rw [l1]; omega)).2
  have c := (named_of pub17 (may_pub (by omega) (by rw [l2]; omega)) (by rw [l2]; omega)).2
  have d := (named_of kpub18 (may_kpub (by omega) (by rw [l3]; omega)) (by rw [l3]; omega)).2
  exact ((a.trans b).trans c).trans d
theorem gd18 : Gd L18 := by
  have l0 := len14
  have l1 : (nonces 14 ++ [pubT 1]).length = 15 := by rw [List.length_append, len14]; rfl
  have l2 : (nonces 14 ++ [pubT 1] ++ [kpubT 2]).length = 16 := by rw [List.length_append, l1]; rfl
  have l3 : (nonces 14 ++ [pubT 1] ++ [kpubT 2] ++ [pubT 3]).length = 17 := by rw [List.length_append, l2]; rfl
  have a := (nonces_gd 14 (by omega)).put (most := 5000) (by omega) (pubT 1)
  rw [pub15] at a
  have b := a.put (most := 5000) (by show ((nonces 14 ++ [pubT 1]).length : Int) ≤ 5000; omega) (kpubT 2)
  have b' : Gd (nonces 14 ++ [pubT 1] ++ [kpubT 2]) := by have := kpub16; rw [show putF (15, 0, nonces 14 ++ [pubT 1]).2.2 5000 (kpubT 2) = putF (nonces 14 ++ [pubT 1]) 5000 (kpubT 2) from rfl, this] at b; exact b
  have c := b'.put (most := 5000) (by omega) (pubT 3)
  rw [pub17] at c
  have d := Gd.put (L := nonces 14 ++ [pubT 1] ++ [kpubT 2] ++ [pubT 3]) c (most := 5000) (by omega) (kpubT 4)
  rw [kpub18] at d
  exact d
theorem len18 : L18.length = 18 := by simp [L18, nonces]
/-- A nonce's name. -/
theorem nonce_nm (k : Nat) (h : k < 14) : Nm L18 (.nonce (100 + k)) (k + 1) := by
  have h1 := (named_of (nonces_put k (by omega)) (may_nonce _ _) (by simp [nonces]; omega)).1
  have h2 := (h1.ext (show Ext (nonces (k + 1)) (nonces 14) by have := nonces_ext (14 - (k + 1)) (k + 1) (by omega); rwa [show k + 1 + (14 - (k + 1)) = 14 by omega] at this)).ext ext18
  exact .mk .none .none .none h2
theorem ends18 : Ends L18 (.nonce 100) (.nonce 101) (.nonce 102) (.nonce 103) 1 2 3 4 pA pB := by
  have l1 : (nonces 14 ++ [pubT 1]).length = 15 := by rw [List.length_append, len14]; rfl
  have l2 : (nonces 14 ++ [pubT 1] ++ [kpubT 2]).length = 16 := by rw [List.length_append, l1]; rfl
  have l3 : (nonces 14 ++ [pubT 1] ++ [kpubT 2] ++ [pubT 3]).length = 17 := by rw [List.length_append, l2]; rfl
  have a := named_of pub15 (may_pub (by omega) (by rw [len14]; omega)) (by rw [len14]; omega)
  have b := named_of kpub16 (may_kpub (by omega) (by rw [l1]; omega)) (by rw [l1]; omega)
  have c := named_of pub17 (may_pub (by omega) (by rw [l2]; omega)) (by rw [l2]; omega)
  have d := named_of kpub18 (may_kpub (by omega) (by rw [l3]; omega)) (by rw [l3]; omega)
  have n0 := nonce_nm 0 (by omega)
  have n1 := nonce_nm 1 (by omega)
  have n2 := nonce_nm 2 (by omega)
  have n3 := nonce_nm 3 (by omega)
  exact ⟨n0, n1, n2, n3, .mk n0 .none .none (a.1.ext ((b.2.trans c.2).trans d.2)), .mk n1 .none .none (b.1.ext (c.2.trans d.2)), .mk n2 .none .none (c.1.ext d.2), .mk n3 .none .none d.1, by simp [Tr.nonce], by simp [Tr.nonce], by simp [Tr.nonce], by simp [Tr.nonce]⟩
end Go.Proofs.YtgeonppckeiceaaGreatDoor
namespace Go.Proofs.YtgeonppckeiceaaGreatDoor
open Go.RowKit
set_option linter.unusedVariables false
set_option linter.unusedSimpArgs false
set_option maxRecDepth 20000
theorem Pair.newK {base : Nat} {most : Int} {w0 w : World} {K : Nat → Prop} (h0 : base = w0.heap.size) (hb : Below base w0 w) (h1 : 0 ≤ most) (h2 : most ≤ 1048576) (hK : ∀ k, K k → k < w.heap.size) :
    Calls Tryz.prog 40 #[.int .i64 most] w fun e w' => ∃ g, e = .returned (.tuple #[.pointer (some ⟨g, 0, none⟩), .int .i64 0]) ∧ Pair base (PSq base g most) NoS [] [] K w0 w' ∧ ∀ k, K k → w'.heap[k]? = w.heap[k]? := by
  have hbs : base ≤ w.heap.size := by rw [h0]; exact hb.size
  refine (newP_good base most w h1 h2 hbs).mono ?_
  rintro e w' ⟨g, rfl, hp, hb'⟩
  exact ⟨g, rfl, ⟨_, fun _ => False, hp, fun _ q => q, fun _ _ q => q, fun k hk => ⟨fun q => by have := hK k hk; omega, fun q => q, Nat.lt_of_lt_of_le (hK k hk) hb'.size⟩, h0, hb.trans (hb'.mono hbs)⟩, fun k hk => hb'.block k (hK k hk)⟩
theorem Cs.new {base : Nat} {most : Int} {w0 w : World} {bs : List (Nat × Obj)} (h0 : base = w0.heap.size) (hb : Below base w0 w) (h1 : 0 ≤ most) (h2 : most ≤ 1048576) (hk : ∀ k o, (k, o) ∈ bs → w.heap[k]? = some o) :
    Calls Tryz.prog 40 #[.int .i64 most] w fun e w' => ∃ g, e = .returned (.tuple #[.pointer (some ⟨g, 0, none⟩), .int .i64 0]) ∧ Cs base (PSq base g most) NoS [] [] bs w0 w' := by
  refine (Pair.newK (K := fun k => ∃ o, (k, o) ∈ bs) h0 hb h1 h2 (fun k ⟨o, q⟩ => lt_some (hk k o q))).mono ?_
  rintro e w' ⟨g, rfl, hp, hq⟩
  exact ⟨g, rfl, hp, fun k o q => (hq k ⟨o, q⟩).trans (hk k o q), Sound.nil⟩
theorem Cs.put {base g : Nat} {most : Int} {Q2 : (Nat → Prop) → List Tm → World → Prop} {L L' L2 : List Tm} {bs : List (Nat × Obj)} {w0 w : World} {a b : Int} (g2 : Good base Q2) (h : Cs base (PSq base g most) Q2 L L2 bs w0 w) (t : Tm) (ht : Wf t) (hf : putF L most t = (a, b, L')) :
    Calls Tryz.prog 42 #[.pointer (some ⟨g, 0, none⟩), t.v] w fun e w' => e = .returned (.tuple #[.int .i64 a, .int .i64 b]) ∧ Cs base (PSq base g most) Q2 L' L2 bs w0 w' := by
  refine (h.pair.putP g2 t ht hf).mono ?_
  rintro e w' ⟨rfl, hp, hk⟩
  exact ⟨rfl, h.step hp hk (put_sd h.sound hf)⟩
theorem wf_nonce (k : Int) (h : U64 k) : Wf (nonceT k) := ⟨wf_emp, k2, h, k0, k0, k0⟩
theorem cells8 {u : World} {B : Nat} {a b c d x y z q : Value} {T : TypeId} (h : u.heap[B]? = some (.cells #[a, b, c, d, x, y, z, q] T (0, 0))) : u.cell? ⟨B, 0, none⟩ = some a ∧ u.cell? ⟨B, 1, none⟩ = some b ∧ u.cell? ⟨B, 2, none⟩ = some c ∧ u.cell? ⟨B, 3, none⟩ = some d ∧ u.cell? ⟨B, 4, none⟩ = some x ∧ u.cell? ⟨B, 5, none⟩ = some y ∧ u.cell? ⟨B, 6, none⟩ = some z ∧ u.cell? ⟨B, 7, none⟩ = some q := by
  refine ⟨?_, ?_, ?_, ?_, ?_, ?_, ?_, ?_⟩
  all_goals simp [World.cell?, h]
theorem thaw_of {u : World} {B off : Nat} {cs : Array Value} {T : TypeId} (h : u.heap[B]? = some (.cells cs T (0, 0))) : u.frozen? ⟨B, off, none⟩ = false := by
  simp [World.frozen?, h]
def set12 (u : World) (B : Nat) (v0 v1 v2 v3 v4 v5 v6 v7 v8 v9 v10 v11 : Value) : World := ((((((((((((u.setCell ⟨B, 0, none⟩ v0).setCell ⟨B, 1, none⟩ v1).setCell ⟨B, 2, none⟩ v2).setCell ⟨B, 3, none⟩ v3).setCell ⟨B + 1, 0, none⟩ v4).setCell ⟨B + 1, 1, none⟩ v5).setCell ⟨B + 1, 2, none⟩ v6).setCell ⟨B + 1, 3, none⟩ v7).setCell ⟨B + 1, 4, none⟩ v8).setCell ⟨B + 1, 5, none⟩ v9).setCell ⟨B + 1, 6, none⟩ v10).setCell ⟨B + 1, 7, none⟩ v11).drew
structure Set2 (u0 u : World) (B : Nat) (T U : TypeId) (cs ds : Array Value) : Prop where
  h1 : u.heap[B]? = some (.cells cs T (0, 0))
  h2 : u.heap[B + 1]? = some (.cells ds U (0, 0))
  hc : Chg (fun k => k = B ∨ k = B + 1) u0 u
theorem Set2.start {u : World} {B : Nat} {T U : TypeId} {cs ds : Array Value} (e1 : u.heap[B]? = some (.cells cs T (0, 0))) (e2 : u.heap[B + 1]? = some (.cells ds U (0, 0))) : Set2 u u B T U cs ds :=
  ⟨e1, e2, ⟨rfl, rfl, rfl, Nat.le_refl _, fun _ _ _ => rfl⟩⟩
theorem Set2.one {u0 u : World} {B : Nat} {T U : TypeId} {cs ds : Array Value} (h : Set2 u0 u B T U cs ds) (i : Nat) (v : Value) : Set2 u0 (u.setCell ⟨B, i, none⟩ v) B T U (cs.setIfInBounds i v) ds :=
  ⟨heap_setCell_same u B i _ _ v h.h1, by rw [heap_setCell_other _ _ _ _ (by simp)]; exact h.h2, h.hc.trans (chg_set u _ B i v (.inl rfl))⟩
theorem Set2.two {u0 u : World} {B : Nat} {T U : TypeId} {cs ds : Array Value} (h : Set2 u0 u B T U cs ds) (i : Nat) (v : Value) : Set2 u0 (u.setCell ⟨B + 1, i, none⟩ v) B T U cs (ds.setIfInBounds i v) :=
  ⟨by rw [heap_setCell_other _ _ _ _ (by simp)]; exact h.h1, heap_setCell_same u (B + 1) i _ _ v h.h2, h.hc.trans (chg_set u _ (B + 1) i v (.inr rfl))⟩
theorem Set2.drew {u0 u : World} {B : Nat} {T U : TypeId} {cs ds : Array Value} (h : Set2 u0 u B T U cs ds) : Set2 u0 u.drew B T U cs ds :=
  ⟨h.h1, h.h2, h.hc.trans ⟨rfl, rfl, rfl, Nat.le_refl _, fun _ _ _ => rfl⟩⟩
theorem set12_is {u : World} {B : Nat} {v0 v1 v2 v3 v4 v5 v6 v7 v8 v9 v10 v11 x0 x1 x2 x3 y0 y1 y2 y3 y4 y5 y6 y7 : Value} {T U : TypeId} (e1 : u.heap[B]? = some (.cells #[x0, x1, x2, x3] T (0, 0))) (e2 : u.heap[B + 1]? = some (.cells #[y0, y1, y2, y3, y4, y5, y6, y7] U (0, 0))) :
    Set2 u (set12 u B v0 v1 v2 v3 v4 v5 v6 v7 v8 v9 v10 v11) B T U #[v0, v1, v2, v3] #[v4, v5, v6, v7, v8, v9, v10, v11] := by
  have t0 := Set2.start (B := B) (T := T) (U := U) e1 e2
  have t1 := t0.one 0 v0
  have t2 := t1.one 1 v1
  have t3 := t2.one 2 v2
  have t4 := t3.one 3 v3
  have t5 := t4.two 0 v4
  have t6 := t5.two 1 v5
  have t7 := t6.two 2 v6
  have t8 := t7.two 3 v7
  have t9 := t8.two 4 v8
  have t10 := t9.two 5 v9
  have t11 := t10.two 6 v10
  have t12 := t11.two 7 v11
  have c1 : ((((#[x0, x1, x2, x3].setIfInBounds 0 v0).setIfInBounds 1 v1).setIfInBounds 2 v2).setIfInBounds 3 v3) = (#[v0, v1, v2, v3] : Array Value) := by simp
  have c2 : ((((((((#[y0, y1, y2, y3, y4, y5, y6, y7].setIfInBounds 0 v4).setIfInBounds 1 v5).setIfInBounds 2 v6).setIfInBounds 3 v7).setIfInBounds 4 v8).setIfInBounds 5 v9).setIfInBounds 6 v10).setIfInBounds 7 v11) = (#[v4, v5, v6, v7, v8, v9, v10, v11] : Array Value) := by simp
  rw [c1, c2] at t12
  exact t12.drew
/-- The boxes of Two. -/
abbrev o1 : Obj := .cells #[.int .i64 0, .int .i64 0, .int .i64 0, .int .i64 0] 90 (0, 0)
abbrev o4 : Obj := .cells #[.int .i64 1, .int .i64 2, .int .i64 3, .int .i64 4] 90 (0, 0)
abbrev o2 : Obj := .cells #[.int .i64 0, .int .i64 0, .int .i64 0, .int .i64 0, .int .i64 0, .int .i64 0, .int .i64 0, .int .i64 0] 91 (0, 0)
def bsT (b : Nat) : List (Nat × Obj) := [(b, o1), (b + 1, o2), (b + 1 + 1, o2), (b + 1 + 1 + 1, o4)]
theorem bsT_new (w : World) : ∀ k o, (k, o) ∈ bsT w.heap.size → ((((w.alloc o1).alloc o2).alloc o2).alloc o4).heap[k]? = some o := by
  intro k o h
  have z1 : (w.alloc o1).heap.size = w.heap.size + 1 := by simp
  have z2 : ((w.alloc o1).alloc o2).heap.size = w.heap.size + 1 + 1 := by simp
  have z3 : (((w.alloc o1).alloc o2).alloc o2).heap.size = w.heap.size + 1 + 1 + 1 := by simp
  have n1 := heap_alloc_new w o1
  have n2 := heap_alloc_new (w.alloc o1) o2
  have n3 := heap_alloc_new ((w.alloc o1).alloc o2) o2
  have n4 := heap_alloc_new (((w.alloc o1).alloc o2).alloc o2) o4
  have b2 := below_alloc (w.alloc o1) o2
  have b3 := below_alloc ((w.alloc o1).alloc o2) o2
  have b4 := below_alloc (((w.alloc o1).alloc o2).alloc o2) o4
  rw [z1] at n2 b2
  rw [z2] at n3 b3
  rw [z3] at n4 b4
  simp only [bsT, List.mem_cons, List.not_mem_nil, or_false, Prod.mk.injEq] at h
  rcases h with ⟨rfl, rfl⟩ | ⟨rfl, rfl⟩ | ⟨rfl, rfl⟩ | ⟨rfl, rfl⟩
  · rw [b4.block _ (by omega), b3.block _ (by omega), b2.block _ (by omega)]; exact n1
  · rw [b4.block _ (by omega), b3.block _ (by omega)]; exact n2
  · rw [b4.block _ (by omega)]; exact n3
  · exact n4
theorem bsT_low (w : World) : Below w.heap.size w ((((w.alloc o1).alloc o2).alloc o2).alloc o4) :=
  ((((Below.refl _ _).alloc (Nat.le_refl _) _).alloc (by simp) _).alloc (by simp; omega) _).alloc (by simp; omega) _
set_option maxHeartbeats 2000000 in
theorem two_k (w : World) : Calls Tryz.prog 33 #[] w fun e w' => ∃ g, e = .returned (.tuple #[.pointer (some ⟨g, 0, none⟩), .agg #[.int .i64 1, .int .i64 2, .int .i64 3, .int .i64 4], .agg #[.int .i64 17, .int .i64 18, .int .i64 5, .int .i64 6, .int .i64 15, .int .i64 16, .int .i64 5, .int .i64 6]]) ∧ Cs w.heap.size (PSq w.heap.size g 5000) NoS L18 [] [] w w' := by
  have gN := NoS.good w.heap.size
  have hbn := Lib.hid (bsT_new w)
  have hbl := Lib.hid (bsT_low w)
  go_enter Tryz.func33, Tryz.ntmps33
  go_wp2_with fail
  refine (Cs.new (base := w.heap.size) (w0 := w) (bs := bsT w.heap.size) rfl hbl.out (by omega) (by omega) hbn.out).mono ?_
  rintro e w1 ⟨g, rfl, h1⟩
  have gP := PSq.good w.heap.size g 5000
  have HC := Lib.hid h1
  clear h1 hbn hbl
  go_wp2_with fail
  go_loopw [7] (fun i wr => ∃ k : Nat, k ≤ 14 ∧ i = .int .i64 k ∧ Hid (Cs w.heap.size (PSq w.heap.size g 5000) NoS (nonces k) [] (bsT w.heap.size) w wr)) (fun i _ => 14 - (intOf i).toNat)
  case atStart => exact ⟨0, by omega, rfl, HC⟩
  case round =>
    obtain ⟨k, hk, rfl, HK⟩ := hrel
    clear HC
    by_cases hlt : k < 14
    · have hlt' : (k : Int) < 14 := by omega
      go_wp2_with fail
      refine (HK.out.put gN (nonceT (100 + k)) (wf_nonce _ (u64_small (by omega) (by omega))) (nonces_put k hk)).mono ?_
      rintro e w2 ⟨rfl, h⟩
      have HK2 := Lib.hid h
      clear h
      go_wp2_with fail
      go_roundw
      case rel => exact ⟨k + 1, by omega, by go_num, HK2⟩
      case measure => simp [intOf]; omega
    · have hk14 : k = 14 := by omega
      subst hk14
      have I1 : I64 1 := k1
      clear hk hlt
      obtain ⟨d0, d1, d2, d3⟩ := cells4 (HK.out.kept (w.heap.size + 1 + 1 + 1) o4 (by simp [bsT]))
      go_wp2_with fail
      clear d0 d1 d2 d3
      refine (HK.out.hpub gN (x := 1) (y := 2) (by unfold I64; decide) (by unfold I64; decide) publics1).mono ?_
      rintro e w2 ⟨rfl, h⟩
      have hX := h.pair.klt (w.heap.size + 1 + 1 + 1) ⟨o4, by simp [bsT]⟩
      have HC := Lib.hid (h.box gP gN #[.int .i64 15, .int .i64 16] 33)
      clear h
      obtain ⟨d0, d1, d2, d3⟩ := cells4 (HC.out.kept (w.heap.size + 1 + 1 + 1) o4 (by simp [bsT]))
      go_wp2_with fail
      clear d0 d1 d2 d3
      refine (HC.out.hpub gN (x := 3) (y := 4) (by unfold I64; decide) (by unfold I64; decide) publics2).mono ?_
      rintro e w3 ⟨rfl, h⟩
      have hY := h.pair.klt w2.heap.size ⟨_, List.mem_cons_self⟩
      replace HC := Lib.hid (h.box gP gN #[.int .i64 17, .int .i64 18] 33)
      clear h
      go_wp2_with fail
      generalize hwd : (w3.alloc (.cells #[.int .i64 17, .int .i64 18] 33 : Obj)) = wl at HC ⊢
      clear hwd
      generalize w3.heap.size = Y at HC hY ⊢
      generalize w2.heap.size = X at HC hX hY ⊢
      have e1 := HC.out.kept w.heap.size o1 (by simp [bsT])
      have e2 := HC.out.kept (w.heap.size + 1) o2 (by simp [bsT])
      obtain ⟨a0, a1, a2, a3⟩ := cells4 e1
      obtain ⟨b0, b1, b2, b3, b4, b5, b6, b7⟩ := cells8 e2
      have f0 := thaw_of (off := 0) e1
      have f1 := thaw_of (off := 1) e1
      have f2 := thaw_of (off := 2) e1
      have f3 := thaw_of (off := 3) e1
      have g0 := thaw_of (off := 0) e2
      have g1 := thaw_of (off := 1) e2
      have g2 := thaw_of (off := 2) e2
      have g3 := thaw_of (off := 3) e2
      have g4 := thaw_of (off := 4) e2
      have g5 := thaw_of (off := 5) e2
      have g6 := thaw_of (off := 6) e2
      have g7 := thaw_of (off := 7) e2
      obtain ⟨c0, c1, c2, c3⟩ := cells4 (HC.out.kept (w.heap.size + 1 + 1 + 1) o4 (by simp [bsT]))
      obtain ⟨x0, x1⟩ := cells2 (HC.out.kept X (.cells #[.int .i64 15, .int .i64 16] 33 (0, 0) : Obj) (by simp))
      obtain ⟨y0, y1⟩ := cells2 (HC.out.kept Y (.cells #[.int .i64 17, .int .i64 18] 33 (0, 0) : Obj) (by simp))
      have s0 := set12_is (v0 := .int .i64 1) (v1 := .int .i64 2) (v2 := .int .i64 3) (v3 := .int .i64 4) (v4 := .int .i64 17) (v5 := .int .i64 18) (v6 := .int .i64 5) (v7 := .int .i64 6) (v8 := .int .i64 15) (v9 := .int .i64 16) (v10 := .int .i64 5) (v11 := .int .i64 6) e1 e2
      have S1 := Lib.hid s0.h1
      have S2 := Lib.hid s0.h2
      have S3 := Lib.hid s0.hc
      clear e1 e2 s0
      go_region
      all_goals (try go_wp2)
      show bodyPost _ _ _ _ _ (set12 wl w.heap.size (.int .i64 1) (.int .i64 2) (.int .i64 3) (.int .i64 4) (.int .i64 17) (.int .i64 18) (.int .i64 5) (.int .i64 6) (.int .i64 15) (.int .i64 16) (.int .i64 5) (.int .i64 6))
      have hlast := HC.out.set gP gN (bs' := []) (fun k => k = w.heap.size ∨ k = w.heap.size + 1) (fun k q => by
        rcases q with rfl | rfl
        · exact ⟨Nat.le_refl _, o1, by simp [bsT]⟩
        · exact ⟨Nat.le_succ _, o2, by simp [bsT]⟩) S3.out (fun x q => by simp at q)
      clear a0 a1 a2 a3 b0 b1 b2 b3 b4 b5 b6 b7 c0 c1 c2 c3 x0 x1 y0 y1
      obtain ⟨a0, a1, a2, a3⟩ := cells4 S1.out
      obtain ⟨b0, b1, b2, b3, b4, b5, b6, b7⟩ := cells8 S2.out
      generalize set12 wl w.heap.size (.int .i64 1) (.int .i64 2) (.int .i64 3) (.int .i64 4) (.int .i64 17) (.int .i64 18) (.int .i64 5) (.int .i64 6) (.int .i64 15) (.int .i64 16) (.int .i64 5) (.int .i64 6) = wz at hlast a0 a1 a2 a3 b0 b1 b2 b3 b4 b5 b6 b7 ⊢
      have HL := Lib.hid hlast
      clear hlast S1 S2 S3
      exact bodyPost_ret (v := .tuple #[.pointer (some ⟨g, 0, none⟩), .agg #[.int .i64 1, .int .i64 2, .int .i64 3, .int .i64 4], .agg #[.int .i64 17, .int .i64 18, .int .i64 5, .int .i64 6, .int .i64 15, .int .i64 16, .int .i64 5, .int .i64 6]]) (by simp [results, Tryz.results33, go_sem, a0, a1, a2, a3, b0, b1, b2, b3, b4, b5, b6, b7]) rfl ⟨g, rfl, HL.out⟩
end Go.Proofs.YtgeonppckeiceaaGreatDoor
