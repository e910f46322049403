/- What is sealed is named, where there is room, and what opens it. -/
import Derived.Test.YtlejejeflgnglaaAeadP
namespace Go.Proofs.Ytlejejeflgnglaa
open Go.RowKit
set_option linter.unusedVariables false
set_option linter.unusedSimpArgs false

theorem may_textT {n : Nat} {S : ByteArray} (h : S.size ≤ 1000) : (textT S).may n = true := by
  rw [may_iff]
  simp [May, below3, BadP, many, prt, textT, sz0]
  omega
theorem may_seal {n : Nat} {k w b p : Int} (h1 : 1 ≤ k ∧ k ≤ (n : Int)) (h2 : 1 ≤ b ∧ b ≤ (n : Int)) (h3 : 1 ≤ p ∧ p ≤ (n : Int)) : (sealT k w b p).may n = true := by
  rw [may_iff]
  simp [May, below3, BadP, many, prt, sealT, sz0]
  omega
theorem seal_may {n : Nat} {k w b p : Int} (h : (sealT k w b p).may n = true) : (1 ≤ k ∧ k ≤ (n : Int)) ∧ (1 ≤ b ∧ b ≤ (n : Int)) ∧ 1 ≤ p ∧ p ≤ (n : Int) := by
  rw [may_iff] at h
  simp [May, below3, BadP, many, prt, sealT, sz0] at h
  omega
theorem seal_eq {k w b p k' w' b' p' : Int} : sealT k w b p = sealT k' w' b' p' ↔ k = k' ∧ w = w' ∧ b = b' ∧ p = p' := by
  unfold sealT
  simp only [Tm.mk.injEq, true_and]
  constructor
  · rintro ⟨a, b, c, d⟩; exact ⟨b, a, c, d⟩
  · rintro ⟨a, b, c, d⟩; exact ⟨b, a, c, d⟩
theorem text_step {L : List Tm} {most k w b : Int} {S : ByteArray} (hk : 1 ≤ k ∧ k ≤ (L.length : Int)) (hb : 1 ≤ b ∧ b ≤ (L.length : Int)) (hS : S.size ≤ 1000) (hr : (L.length : Int) + 1 < most) :
    ∃ t c L', textF L most k w b S = (c, 0, L') ∧ Named L' t (textT S) ∧ Named L' c (sealT k w b t) ∧ Ext L L' ∧ L'.length ≤ L.length + 2 := by
  obtain ⟨tk, gk⟩ := getT_of hk
  obtain ⟨tb, gb⟩ := getT_of hb
  obtain ⟨t, L1, e1, n1, x1, l1⟩ := put_named L most (textT S) (may_textT hS) (by omega)
  obtain ⟨c, L2, e2, n2, x2, l2⟩ := put_named L1 most (sealT k w b t) (may_seal ⟨hk.1, x1.len hk.2⟩ ⟨hb.1, x1.len hb.2⟩ ⟨n1.at.1, n1.at.2.1⟩) (by omega)
  refine ⟨t, c, L2, ?_, n1.ext x2, n2, x1.trans x2, by omega⟩
  unfold textF
  rw [gk, gb]
  simp only []
  rw [if_pos (by simp), e1]
  simp only []
  rw [if_neg (by simp)]
  exact e2
theorem open_at {L : List Tm} {k w b t c k' w' b' : Int} (h : Named L c (sealT k w b t)) (hk : 1 ≤ k' ∧ k' ≤ (L.length : Int)) (hb : 1 ≤ b' ∧ b' ≤ (L.length : Int)) :
    openF L k' w' b' c = if k' = k ∧ w' = w ∧ b' = b then (t, 0) else (0, 9) := by
  obtain ⟨tk, gk⟩ := getT_of hk
  obtain ⟨tb, gb⟩ := getT_of hb
  unfold openF
  rw [gk, gb, h.get]
  simp only []
  by_cases he : k' = k ∧ w' = w ∧ b' = b
  · rw [if_pos he, show eqB (sealT k w b t) (sealT k' w' b' (sealT k w b t).C) = true from (eqB_iff _ _).2 (by obtain ⟨rfl, rfl, rfl⟩ := he; rfl)]
    rfl
  · have : eqB (sealT k w b t) (sealT k' w' b' (sealT k w b t).C) = false := by
      cases hq : eqB (sealT k w b t) (sealT k' w' b' (sealT k w b t).C)
      · rfl
      · have := seal_eq.1 ((eqB_iff _ _).1 hq)
        exact absurd ⟨this.1.symm, this.2.1.symm, this.2.2.1.symm⟩ he
    rw [if_neg he, this]
    rfl
theorem read_at {L : List Tm} {k w b t c k' w' b' : Int} {S : ByteArray} (h : Named L c (sealT k w b t)) (ht : Named L t (textT S)) (hk : 1 ≤ k' ∧ k' ≤ (L.length : Int)) (hb : 1 ≤ b' ∧ b' ≤ (L.length : Int)) :
    readF L k' w' b' c = if k' = k ∧ w' = w ∧ b' = b then (S, 0) else (⟨#[]⟩, 9) := by
  obtain ⟨tk, gk⟩ := getT_of hk
  obtain ⟨tb, gb⟩ := getT_of hb
  unfold readF
  rw [gk, gb, h.get]
  simp only []
  rw [show (sealT k w b t).C = t from rfl, ht.get]
  simp only []
  by_cases he : k' = k ∧ w' = w ∧ b' = b
  · rw [if_pos he, show eqB (sealT k w b t) (sealT k' w' b' t) = true from (eqB_iff _ _).2 (by obtain ⟨rfl, rfl, rfl⟩ := he; rfl)]
    rfl
  · have : eqB (sealT k w b t) (sealT k' w' b' t) = false := by
      cases hq : eqB (sealT k w b t) (sealT k' w' b' t)
      · rfl
      · have := seal_eq.1 ((eqB_iff _ _).1 hq)
        exact absurd ⟨this.1.symm, this.2.1.symm, this.2.2.1.symm⟩ he
    rw [if_neg he, this]
    rfl
end Go.Proofs.Ytlejejeflgnglaa
