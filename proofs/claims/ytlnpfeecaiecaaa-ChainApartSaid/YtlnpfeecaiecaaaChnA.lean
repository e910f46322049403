/- Chains from two Nonces: no key in common. -/
import Derived.Test.YtlnpfeecaiecaaaChnO
namespace Go.Proofs.Ytlnpfeecaiecaaa
open Go.RowKit
set_option linter.unusedVariables false
set_option linter.unusedSimpArgs false
set_option maxRecDepth 20000
def nonT (n : Int) : Tm := ⟨2, ⟨#[]⟩, n, 0, 0, 0⟩
theorem non_wf {n : Int} (h : U64 n) : Wf (nonT n) := ⟨wf_emp, k2, h, k0, k0, k0⟩
theorem non_eq {a b : Int} : nonT a = nonT b ↔ a = b := by
  unfold nonT
  simp
theorem non_ne_key (n a b : Int) : nonT n ≠ keyT a b := by
  intro h; unfold nonT keyT at h; injection h with h1; omega
theorem may_non {n : Nat} {x : Int} : (nonT x).may n = true := by
  rw [may_iff]
  simp [May, below3, BadP, many, prt, nonT, sz0]
/-- The last step of so many. -/
theorem Link.last {L : List Tm} {n : Int} {m : Nat} {k b : Int} (h : Link L n (m + 1) k b) : ∃ a, Link L n m k a ∧ Named L b (keyT a n) := by
  obtain ⟨a, h1, y, h2, h3⟩ := Link.split (m := m) (j := 1) h
  have e : b = y := h3
  exact ⟨a, h1, by rw [e]; exact h2⟩
/-- Back to the beginnings. -/
theorem Link.back {L : List Tm} {n : Int} : ∀ {i j : Nat} {x y c : Int}, Link L n i x c → Link L n j y c → i ≤ j → Link L n (j - i) y x
  | 0, j, x, y, c, h, g, _ => by
    have e : c = x := h
    rw [← e]
    exact g
  | i + 1, 0, _, _, _, _, _, hij => absurd hij (by omega)
  | i + 1, j + 1, x, y, c, h, g, hij => by
    obtain ⟨p, h1, h2⟩ := h.last
    obtain ⟨q, g1, g2⟩ := g.last
    have e := (h2.inj g2).1 rfl
    rw [key_eq] at e
    obtain ⟨rfl, _⟩ := e
    have := Link.back h1 g1 (by omega)
    rwa [show j + 1 - (i + 1) = j - i by omega]
/-- A Nonce is no key: so both depth and Nonce are told by what lies there. -/
theorem Link.one {L : List Tm} {n a b : Int} {i j : Nat} {x y c : Int} (hx : Named L x (nonT a)) (hy : Named L y (nonT b)) (h : Link L n i x c) (g : Link L n j y c) : i = j ∧ x = y := by
  have key : ∀ {m : Nat} {u v p q : Int}, Named L u (nonT p) → Named L v (nonT q) → Link L n m u v → m = 0 ∧ u = v := fun {m u v p q} hu hv hl => by
    cases m with
    | zero => exact ⟨rfl, Eq.symm hl⟩
    | succ m =>
      obtain ⟨z, _, h2⟩ := hl.last
      exact absurd ((hv.inj h2).1 rfl) (non_ne_key _ _ _)
  rcases Nat.le_total i j with q | q
  · obtain ⟨e1, e2⟩ := key hy hx (Link.back h g q)
    exact ⟨by omega, e2.symm⟩
  · obtain ⟨e1, e2⟩ := key hx hy (Link.back g h q)
    exact ⟨by omega, e2⟩
/-- What the rows hold: chains' keys up to a depth, epochs' keys ahead of it. -/
def AtC (L : List Tm) (x y : Int) (i : Nat) (z : Int) : Prop := ∃ j, j ≤ i ∧ (Link L 2 j x z ∨ Link L 2 j y z)
def AtK (L : List Tm) (x y : Int) (i : Nat) (z : Int) : Prop := ∃ j c, j < i ∧ (Link L 2 j x c ∨ Link L 2 j y c) ∧ Named L z (keyT c 1)
theorem AtC.ext {L L' : List Tm} {x y z : Int} {i k : Nat} (h : AtC L x y i z) (e : Ext L L') (hk : i ≤ k) : AtC L' x y k z := by
  obtain ⟨j, h1, h2⟩ := h
  exact ⟨j, by omega, h2.imp (Link.ext e) (Link.ext e)⟩
theorem AtK.ext {L L' : List Tm} {x y z : Int} {i k : Nat} (h : AtK L x y i z) (e : Ext L L') (hk : i ≤ k) : AtK L' x y k z := by
  obtain ⟨j, c, h1, h2, h3⟩ := h
  exact ⟨j, c, by omega, h2.imp (Link.ext e) (Link.ext e), h3.ext e⟩
section
variable {L : List Tm} {x y a b z w p q : Int} {i : Nat}
/-- A chain's key at a depth: none of those at another one. -/
theorem link_depth (hx : Named L x (nonT p)) (hy : Named L y (nonT q)) {i j : Nat} {c : Int} (h : Link L 2 i x c ∨ Link L 2 i y c) (g : Link L 2 j x c ∨ Link L 2 j y c) : i = j := by
  rcases h with h | h <;> rcases g with g | g
  · exact (Link.one hx hx h g).1
  · exact (Link.one hx hy h g).1
  · exact (Link.one hy hx h g).1
  · exact (Link.one hy hy h g).1
/-- An epoch's key is no chain's. -/
theorem key_noC (hx : Named L x (nonT p)) (hy : Named L y (nonT q)) {c : Int} (h : Named L z (keyT c 1)) : ¬ AtC L x y i z := by
  rintro ⟨j, _, g⟩
  have no : ∀ {u r : Int}, Named L u (nonT r) → ¬ Link L 2 j u z := fun {u r} hu hl => by
    cases j with
    | zero =>
      have e : z = u := hl
      rw [e] at h
      exact non_ne_key _ _ _ ((hu.inj h).1 rfl)
    | succ j =>
      obtain ⟨m, _, h2⟩ := hl.last
      have := (h.inj h2).1 rfl
      rw [key_eq] at this
      omega
  rcases g with g | g
  · exact no hx g
  · exact no hy g
/-- An epoch's key is none of an earlier one. -/
theorem key_noK (hx : Named L x (nonT p)) (hy : Named L y (nonT q)) {c : Int} (hc : Link L 2 i x c ∨ Link L 2 i y c) (h : Named L z (keyT c 1)) : ¬ AtK L x y i z := by
  rintro ⟨j, m, hj, hm, g⟩
  have e := (h.inj g).1 rfl
  rw [key_eq] at e
  obtain ⟨rfl, _⟩ := e
  have := link_depth hx hy hc hm
  omega
/-- The next chain's key is none that was, nor any epoch's. -/
theorem next_noC (hx : Named L x (nonT p)) (hy : Named L y (nonT q)) (hc : Link L 2 (i + 1) x z ∨ Link L 2 (i + 1) y z) : ¬ AtC L x y i z := by
  rintro ⟨j, hj, g⟩
  have := link_depth hx hy hc g
  omega
theorem next_noK {c : Int} {k : Nat} (h : Named L z (keyT c 2)) : ¬ AtK L x y k z := by
  rintro ⟨j, m, _, _, g⟩
  have := (h.inj g).1 rfl
  rw [key_eq] at this
  omega
/-- Unlike Nonces have unlike chains' keys at each depth. -/
theorem link_eq (hx : Named L x (nonT p)) (hy : Named L y (nonT q)) {c d : Int} (h : Link L 2 i x c) (g : Link L 2 i y d) : c = d ↔ p = q := by
  constructor
  · intro e
    subst e
    have := (Link.one hx hy h g).2
    subst this
    exact non_eq.1 ((hx.inj hy).1 rfl)
  · intro e
    subst e
    have : x = y := (hx.inj hy).2 rfl
    subst this
    exact Link.fun h g
theorem Link.snoc {n : Int} {i : Nat} {c d : Int} (h : Link L n i x c) (g : Named L d (keyT c n)) : Link L n (i + 1) x d := Link.add h ⟨d, g, rfl⟩
end
end Go.Proofs.Ytlnpfeecaiecaaa
