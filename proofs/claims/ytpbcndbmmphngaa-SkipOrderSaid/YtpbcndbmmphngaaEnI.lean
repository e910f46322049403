/- Entries: rows of numbers that came in, and what the fourth law puts. -/
import Derived.Test.YtpbcndbmmphngaaEnC
import Derived.Deep.LoopGhost
namespace Go.Proofs.Ytpbcndbmmphngaa
open Go.RowKit
open Go.ChangeShapes Go.WideShapes
set_option linter.unusedVariables false
set_option linter.unusedSimpArgs false
set_option maxRecDepth 20000
/-- A row of integers that came in, or nil. -/
def IsRow (k : IntKind) (w : World) (a : Option Addr) (len cap : Nat) (zs : List Int) : Prop :=
  (a = none ∧ len = 0 ∧ cap = 0 ∧ zs = []) ∨
  ∃ x, a = some x ∧ len ≤ cap ∧ cap ≤ maxLen ∧ zs.length = cap ∧ (∀ i, i < zs.length → w.cell? (x.add i) = some (.int k (zs.getD i 0))) ∧ ∀ n ∈ zs, (Lit.int k n).wf = true
/-- It is a row of as many numbers as it is long, each within its kind's bounds. -/
theorem IsRow.row {k : IntKind} {w : World} {a : Option Addr} {len cap : Nat} {zs : List Int} (h : IsRow k w a len cap zs) : ∃ ks : List Int, ks.length = len ∧ RowAt k w a cap ks ∧ (∀ x, x ∈ ks → (Lit.int k x).wf = true) ∧ ((a = none ∧ len = 0 ∧ cap = 0) ∨ ∃ x, a = some x) := by
  rcases h with ⟨rfl, rfl, rfl, rfl⟩ | ⟨x, rfl, hl, hm, hz, hc, hw⟩
  · exact ⟨[], rfl, RowAt.none k w, by simp, .inl ⟨rfl, rfl, rfl⟩⟩
  · have hlen : (zs.take len).length = len := by simp; omega
    refine ⟨zs.take len, hlen, ?_, fun y hy => hw y (List.mem_of_mem_take hy), .inr ⟨_, rfl⟩⟩
    by_cases hp : 0 < zs.length
    · obtain ⟨b, off, rfl, hcell⟩ := ints_at hc hp
      have hr : RowAt k w (some ⟨b, off, none⟩) cap zs := ⟨by omega, hm, b, off, fun j hj => ⟨rfl, hcell j hj⟩⟩
      exact hr.take len
    · have e : zs.take len = [] := List.eq_nil_of_length_eq_zero (by rw [hlen]; omega)
      rw [e]
      exact ⟨by simp, hm, 0, 0, fun j hj => absurd hj (Nat.not_lt_zero _)⟩
theorem take_snoc {L : List Int} {i : Nat} (h : i < L.length) : L.take (i + 1) = L.take i ++ [L.getD i 0] := by
  rw [List.take_add_one, List.getD_eq_getElem?_getD, List.getElem?_eq_getElem h]
  rfl
theorem rev_snoc {L : List Int} {i : Nat} (h : i < L.length) : L.reverse.take (i + 1) = L.reverse.take i ++ [L.getD (L.length - 1 - i) 0] := by
  rw [take_snoc (by simpa using h)]
  congr 2
  rw [List.getD_eq_getElem?_getD, List.getD_eq_getElem?_getD, List.getElem?_reverse h]
theorem Of7.both {a b : List En} {L : List Int} (h : Of7 a L) (g : Of7 b L.reverse) : a = b := h.same g (fun k => by simp)
theorem getD_in {L : List Int} {i : Nat} (h : i < L.length) : L.getD i 0 ∈ L := by
  rw [List.getD_eq_getElem?_getD, List.getElem?_eq_getElem h]
  exact List.getElem_mem h
/-- What is left of what was put, when the first i have been dropped. -/
theorem left_step {L : List Int} {G : List En} {i : Nat} (h : i < L.length) (hG : ∀ x, x ∈ G → x.ep ∈ L.drop i) : ∀ x, x ∈ dropE G (L.getD i 0) → x.ep ∈ L.drop (i + 1) := fun x hx => by
  obtain ⟨h1, h2⟩ := mem_dropE.1 hx
  have h3 := hG x h1
  rw [List.drop_eq_getElem_cons h] at h3
  rw [List.getD_eq_getElem?_getD, List.getElem?_eq_getElem h] at h2
  rcases List.mem_cons.1 h3 with e | e
  · exact absurd e h2
  · exact e
theorem left_none {L : List Int} {G : List En} (hG : ∀ x, x ∈ G → x.ep ∈ L.drop L.length) : G = [] := by
  cases G with
  | nil => rfl
  | cons y r =>
    have := hG y (by simp)
    simp at this
end Go.Proofs.Ytpbcndbmmphngaa
