/- Words for the laws: rows and texts that came in. -/
import Derived.Test.YtahlekcnleedhaaOffF
import Derived.Deep.Slices
namespace Go.Proofs.Ytahlekcnleedhaa
open Go.RowKit
open Go.ChangeShapes Go.WideShapes
set_option linter.unusedVariables false
set_option linter.unusedSimpArgs false
set_option maxRecDepth 20000

/-- A row of integers that came in, or nil. -/
def IsRow (k : IntKind) (w : World) (a : Option Addr) (len cap : Nat) (zs : List Int) : Prop :=
  (a = none ∧ len = 0 ∧ cap = 0 ∧ zs = []) ∨
  ∃ x, a = some x ∧ len ≤ cap ∧ cap ≤ maxLen ∧ zs.length = cap ∧ (∀ i, i < zs.length → w.cell? (x.add i) = some (.int k (zs.getD i 0))) ∧ ∀ n ∈ zs, (Lit.int k n).wf = true
/-- It is a row of as many numbers as it is long, each within its kind's bounds. -/
theorem IsRow.row {k : IntKind} {w : World} {a : Option Addr} {len cap : Nat} {zs : List Int} (h : IsRow k w a len cap zs) : ∃ ks : List Int, ks.length = len ∧ RowAt k w a cap ks ∧ (∀ x, x ∈ ks → (Lit.int k x).wf = true) ∧ ((a = none ∧ len = 0 ∧ cap = 0) ∨ ∃ x, a = some x) := by
  rcases h with ⟨rfl, rfl, rfl, rfl⟩ | ⟨x, rfl, hl, hm, hz, hc, hw⟩
  · exact ⟨[], rfl, RowAt.none k w, by simp, .inl ⟨rfl, rfl, rfl⟩⟩
  · have hlen : (zs.take len).length = len := by simp; omega
    refine ⟨zs.take len, hlen, ?_, fun y hy => hw y (List.mem_of_mem_take hy), .inr ⟨_, rfl⟩⟩
    by_cases hp : 0 < zs.length
    · obtain ⟨b, off, rfl, hcell⟩ := ints_at hc hp
      have hr : RowAt k w (some ⟨b, off, none⟩) cap zs := ⟨by omega, hm, b, off, fun j hj => ⟨rfl, hcell j hj⟩⟩
      exact hr.take len
    · have e : zs.take len = [] := List.eq_nil_of_length_eq_zero (by rw [hlen]; omega)
      rw [e]
      exact ⟨by simp, hm, 0, 0, fun j hj => absurd hj (Nat.not_lt_zero _)⟩
/-- A text's begin of so many bytes at most, as a letter: its facts ahead of a walk that cuts it. -/
theorem slice_facts (A : ByteArray) (k : Nat) : ∃ p : ByteArray, min (A.size : Int) k = p.size ∧ p.size ≤ A.size ∧ p.size ≤ k ∧ A.extract 0 p.size = p := by
  rcases Nat.le_total A.size k with h | h
  · exact ⟨A, by omega, Nat.le_refl _, h, by simp⟩
  · have e : (A.extract 0 k).size = k := by simp only [ByteArray.size_extract]; omega
    exact ⟨A.extract 0 k, by omega, by omega, by omega, by rw [e]⟩
theorem eqS (t : ByteArray) : (t.toList == t.toList) = true := by simp
end Go.Proofs.Ytahlekcnleedhaa
