/- What wrapping keys and wrapped secrets are named, where there is room. -/
import Derived.Test.YtlnpfeecaiecaaaKemC
namespace Go.Proofs.Ytlnpfeecaiecaaa
open Go.RowKit
set_option linter.unusedVariables false

theorem may_kpub {n : Nat} {x : Int} (h1 : 1 ≤ x) (h2 : x ≤ (n : Int)) : (kpubT x).may n = true := by
  rw [may_iff]
  simp [May, below3, BadP, many, prt, kpubT, sz0]
  omega
theorem may_box {n : Nat} {x y : Int} (h1 : 1 ≤ x) (h2 : x ≤ (n : Int)) (h3 : 1 ≤ y) (h4 : y ≤ (n : Int)) : (boxT x y).may n = true := by
  rw [may_iff]
  simp [May, below3, BadP, many, prt, boxT, sz0]
  omega
theorem may_kem {n : Nat} {x y : Int} (h1 : 1 ≤ x) (h2 : x ≤ (n : Int)) (h3 : 1 ≤ y) (h4 : y ≤ (n : Int)) : (kemT x y).may n = true := by
  rw [may_iff]
  simp [May, below3, BadP, many, prt, kemT, sz0]
  omega
theorem box_inj {x y z : Int} : boxT x y = boxT x z ↔ y = z := by
  constructor
  · intro h; unfold boxT at h; injection h
  · rintro rfl; rfl
theorem kem_inj {x y z : Int} : kemT x y = kemT x z ↔ y = z := by
  constructor
  · intro h; unfold kemT at h; injection h
  · rintro rfl; rfl
theorem box_ne_kem (x y z u : Int) : boxT x y ≠ kemT z u := by
  intro h; unfold boxT kemT at h; injection h with h1; omega
theorem kpub_step (L : List Tm) (most x : Int) (h1 : 1 ≤ x) (h2 : x ≤ (L.length : Int)) (hr : (L.length : Int) < most) :
    ∃ p L', putF L most (kpubT x) = (p, 0, L') ∧ Named L' p (kpubT x) ∧ Ext L L' ∧ L'.length ≤ L.length + 1 :=
  put_named L most _ (may_kpub h1 h2) hr
theorem named_in {L : List Tm} {a : Int} {t : Tm} (h : Named L a t) : getT L a = (t, true) := h.get
theorem getT_of2 {L : List Tm} {x : Int} (h1 : 1 ≤ x) (h2 : x ≤ (L.length : Int)) : ∃ t, getT L x = (t, true) := by
  unfold getT
  rw [if_pos ⟨h1, h2⟩]
  exact ⟨_, rfl⟩
theorem wrap_step {L : List Tm} {p x d : Int} (most : Int) (h : Named L p (kpubT x)) (hx1 : 1 ≤ x) (hx2 : x ≤ (L.length : Int)) (hd1 : 1 ≤ d) (hd2 : d ≤ (L.length : Int)) (hr : (L.length : Int) + 1 < most) :
    ∃ a b L', wrapF L most p d = (a, b, 0, L') ∧ Named L' a (boxT x d) ∧ Named L' b (kemT x d) ∧ Ext L L' ∧ L'.length ≤ L.length + 2 := by
  obtain ⟨td, hd⟩ := getT_of2 hd1 hd2
  obtain ⟨a, L1, e1, n1, x1, l1⟩ := put_named L most (boxT x d) (may_box hx1 hx2 hd1 hd2) (by omega)
  obtain ⟨b, L2, e2, n2, x2, l2⟩ := put_named L1 most (kemT x d) (may_kem hx1 (x1.len hx2) hd1 (x1.len hd2)) (by omega)
  exact ⟨a, b, L2, wrap_yes h.get hd rfl rfl e1 e2, n1.ext x2, n2, x1.trans x2, by omega⟩
theorem wrap_old {L : List Tm} {p x d a b : Int} (most : Int) (h : Named L p (kpubT x)) (ha : Named L a (boxT x d)) (hb : Named L b (kemT x d)) (hx1 : 1 ≤ x) (hx2 : x ≤ (L.length : Int)) (hd1 : 1 ≤ d) (hd2 : d ≤ (L.length : Int)) :
    wrapF L most p d = (a, b, 0, L) := by
  obtain ⟨td, hd⟩ := getT_of2 hd1 hd2
  exact wrap_yes h.get hd rfl rfl (put_old ha (may_box hx1 hx2 hd1 hd2)) (put_old hb (may_kem hx1 hx2 hd1 hd2))
theorem open_old {L : List Tm} {x d a b : Int} (most : Int) (ha : Named L a (boxT x d)) (hb : Named L b (kemT x d)) (hx1 : 1 ≤ x) (hx2 : x ≤ (L.length : Int)) (hd1 : 1 ≤ d) (hd2 : d ≤ (L.length : Int)) :
    openF L most x a = (b, 0, L) := by
  obtain ⟨tx, hx⟩ := getT_of2 hx1 hx2
  rw [open_yes hx ha.get ⟨rfl, rfl⟩ rfl]
  exact put_old hb (may_kem hx1 hx2 hd1 hd2)
theorem open_other {L : List Tm} {x z d a : Int} (most : Int) (ha : Named L a (boxT x d)) (hne : z ≠ x) (hz1 : 1 ≤ z) (hz2 : z ≤ (L.length : Int)) : openF L most z a = (0, 10, L) := by
  obtain ⟨tz, hz⟩ := getT_of2 hz1 hz2
  exact open_box hz ha.get (fun h => hne h.2.symm)
end Go.Proofs.Ytlnpfeecaiecaaa
