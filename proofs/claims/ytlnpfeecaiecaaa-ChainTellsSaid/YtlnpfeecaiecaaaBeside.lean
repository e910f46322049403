/- A store beside a row of integers that the call owns and appends to: as one thing that the other store's calls leave alone. -/
import Derived.Test.YtlnpfeecaiecaaaStores
namespace Go.Proofs.Ytlnpfeecaiecaaa
open Go.RowKit
set_option linter.unusedVariables false
set_option maxRecDepth 20000

def intsR (xs : List Int) : List Value := xs.map (Value.int .i64)
/-- A store beside a row of integers. -/
def WithRow (base : Nat) (Q : (Nat → Prop) → List Tm → World → Prop) (v : Value) (xs : List Int) : (Nat → Prop) → List Tm → World → Prop := fun F L w =>
  ∃ F2, Q F2 L w ∧ w.ownsRow base 3 1 v xs.length (intsR xs) ∧ (∀ k, v.ownBlock = some k → ¬ F2 k) ∧ (∀ k, F k ↔ (F2 k ∨ v.ownBlock = some k))
theorem WithRow.good {base : Nat} {Q : (Nat → Prop) → List Tm → World → Prop} (g : Good base Q) (v : Value) (xs : List Int) : Good base (WithRow base Q v xs) := by
  refine ⟨?_, ?_⟩
  · rintro F S L w w' ⟨F2, h1, h2, h3, h4⟩ hc hn
    exact ⟨F2, g.frame h1 hc (fun k hk => hn k ((h4 k).2 (.inl hk))), hc.row h2 (fun k hk => hn k ((h4 k).2 (.inr hk))), h3, h4⟩
  · rintro F L w ⟨F2, h1, h2, h3, h4⟩ k hk
    rcases (h4 k).1 hk with q | q
    · exact g.bounds h1 k q
    · exact h2.lt k q
section
variable {base : Nat} {Q1 Q2 : (Nat → Prop) → List Tm → World → Prop} {L1 L2 : List Tm} {K : Nat → Prop} {w0 w : World}
theorem Pair.addRow (h : Pair base Q1 Q2 L1 L2 K w0 w) : Pair base Q1 (WithRow base Q2 (.slice none 0 0) []) L1 L2 K w0 w := by
  obtain ⟨F1, F2, h1, h2, h3, h4, h5, h6⟩ := h
  exact ⟨F1, F2, h1, ⟨F2, h2, ⟨by simp [intsR], .inl ⟨rfl, rfl⟩⟩, fun k hk => by simp [Value.ownBlock] at hk, fun k => by simp [Value.ownBlock]⟩, h3, h4, h5, h6⟩
theorem Pair.dropRow {v : Value} {xs : List Int} (h : Pair base Q1 (WithRow base Q2 v xs) L1 L2 K w0 w) : Pair base Q1 Q2 L1 L2 K w0 w ∧ w.ownsRow base 3 1 v xs.length (intsR xs) := by
  obtain ⟨F1, F2, h1, ⟨F3, q1, q2, q3, q4⟩, h3, h4, h5, h6⟩ := h
  exact ⟨⟨F1, F3, h1, q1, fun k a b => h3 k a ((q4 k).2 (.inl b)), fun k hk => ⟨(h4 k hk).1, fun e => (h4 k hk).2.1 ((q4 k).2 (.inl e)), (h4 k hk).2.2⟩, h5, h6⟩, q2⟩
theorem Pair.rowOf {v : Value} {xs : List Int} (h : Pair base Q1 (WithRow base Q2 v xs) L1 L2 K w0 w) : w.ownsRow base 3 1 v xs.length (intsR xs) := h.dropRow.2
/-- A number is appended to the row. -/
theorem Pair.appRow {v : Value} {xs : List Int} {x : Int} {g cap : Nat} {o : Obj} {w' : World} (g1 : Good base Q1) (g2 : Good base Q2) (h : Pair base Q1 (WithRow base Q2 v xs) L1 L2 K w0 w)
    (hown : w'.ownsRow base 3 1 (.slice (some ⟨g, 0, none⟩) (xs.length + 1) cap) (xs.length + 1) (intsR xs ++ [.int .i64 x])) (hgrow : (w.alloc o).grownBy w' v.ownBlock)
    (hat : v.ownBlock = some g ∨ g = w.heap.size + 1) : Pair base Q1 (WithRow base Q2 (.slice (some ⟨g, 0, none⟩) (xs.length + 1) cap) (xs ++ [x])) L1 L2 K w0 w' ∧ ∀ k, K k → w'.heap[k]? = w.heap[k]? := by
  have hbl := h.base_le
  obtain ⟨F1, F2, h1, ⟨F3, q1, q2, q3, q4⟩, h3, h4, h5, h6⟩ := h
  have C : Chg (fun k => some k = v.ownBlock) w w' := (Chg.alloc w o _).trans (Chg.grown hgrow)
  have hnew : ∀ k, k < w.heap.size → k = g → v.ownBlock = some k := by
    intro k hk e
    rcases hat with q | q
    · rw [e]; exact q
    · omega
  have hown' : ∀ k, v.ownBlock = some k → base ≤ k ∧ k < w.heap.size := fun k hk => q2.lt k hk
  refine ⟨⟨F1, fun k => F3 k ∨ k = g, g1.frame h1 C (fun k hk e => h3 k hk ((q4 k).2 (.inr e.symm))), ⟨F3, g2.frame q1 C (fun k hk e => q3 k e.symm hk), by rw [show (xs ++ [x]).length = xs.length + 1 by simp, show intsR (xs ++ [x]) = intsR xs ++ [.int .i64 x] by simp [intsR]]; exact hown, ?_, ?_⟩, ?_, ?_, h5, ?_⟩, ?_⟩
  · intro k hk e
    have hk' : k = g := by simp [Value.ownBlock] at hk; exact hk.symm
    exact q3 k (hnew k (g2.bounds q1 k e).2 hk') e
  · intro k
    simp [Value.ownBlock]
    constructor
    · rintro (a | a)
      · exact .inl a
      · exact .inr a.symm
    · rintro (a | a)
      · exact .inl a
      · exact .inr a.symm
  · rintro k a (b | b)
    · exact h3 k a ((q4 k).2 (.inl b))
    · exact h3 k a ((q4 k).2 (.inr (hnew k (g1.bounds h1 k a).2 b)))
  · intro k hk
    obtain ⟨a, b, c⟩ := h4 k hk
    refine ⟨a, ?_, Nat.lt_of_lt_of_le c C.size⟩
    rintro (e | e)
    · exact b ((q4 k).2 (.inl e))
    · exact b ((q4 k).2 (.inr (hnew k c e)))
  · exact h6.trans (C.below (fun k hk => (hown' k hk.symm).1) hbl)
  · intro k hk
    obtain ⟨a, b, c⟩ := h4 k hk
    exact C.block k c (fun e => b ((q4 k).2 (.inr e.symm)))
end
end Go.Proofs.Ytlnpfeecaiecaaa
