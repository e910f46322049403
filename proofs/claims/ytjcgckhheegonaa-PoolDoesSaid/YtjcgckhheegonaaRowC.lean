/- Rows of parts: the document's Cut. -/
import Derived.Test.YtjcgckhheegonaaRowR
namespace Go.Proofs.Ytjcgckhheegonaa
open Go.RowKit
set_option linter.unusedVariables false
set_option linter.unusedSimpArgs false
set_option maxRecDepth 20000

/-- The parts of a text, each of k bytes but the last one; how many there are stands in each as m. -/
def partAt (s : ByteArray) (id : Int) (k : Nat) (m : Int) (i : Nat) : Fr := ⟨id, i, m, s.extract (i * k) (min s.size (i * k + k))⟩
def many (n k : Nat) : Nat := (n + k - 1) / k
def parts (s : ByteArray) (id : Int) (k : Nat) (m : Nat) : List Fr := (List.range m).map (partAt s id k m)
def cutF (s : ByteArray) (id size : Int) : List Fr × Nat :=
  if id < 1 ∨ 4294967296 < id ∨ size < 1 ∨ 1000 < size ∨ s.size < 1 ∨ 4096 < s.size then ([], 1)
  else if 16 < many s.size size.toNat then ([], 4) else (parts s id size.toNat (many s.size size.toNat), 0)
theorem many_iff {n k i : Nat} (hk : 1 ≤ k) : i < many n k ↔ i * k < n := by
  unfold many
  rw [Nat.lt_div_iff_mul_lt (by omega)]
  constructor
  · intro h; omega
  · intro h; omega
/-- The parts, of which the first i have their number. -/
def some1 (s : ByteArray) (id : Int) (k m i : Nat) : List Fr := (List.range m).map fun j => partAt s id k (if j < i then (m : Int) else 0) j
theorem some1_all (s : ByteArray) (id : Int) (k m : Nat) : some1 s id k m m = parts s id k m := by
  unfold some1 parts
  apply List.map_congr_left
  intro j hj
  rw [if_pos (List.mem_range.1 hj)]
theorem some1_none (s : ByteArray) (id : Int) (k m : Nat) : some1 s id k m 0 = (List.range m).map (partAt s id k 0) := by
  unfold some1
  apply List.map_congr_left
  intro j hj
  rw [if_neg (by omega)]
theorem some1_len (s : ByteArray) (id : Int) (k m i : Nat) : (some1 s id k m i).length = m := by simp [some1]
theorem some1_next (s : ByteArray) (id : Int) (k m i : Nat) (hi : i < m) : some1 s id k m (i + 1) = (some1 s id k m i).set i { (some1 s id k m i).getD i zeroF with ct := m } := by
  have hg : (some1 s id k m i).getD i zeroF = partAt s id k 0 i := by simp [some1, List.getD, hi]
  rw [hg]
  apply List.ext_getElem?
  intro j
  rw [List.getElem?_set]
  by_cases hj : i = j
  · subst hj
    simp [some1, hi, partAt]
  · rw [if_neg hj]
    simp only [some1, List.getElem?_map]
    rcases Nat.lt_or_ge j m with q | q
    · rw [List.getElem?_range q]
      simp only [Option.map_some]
      have : (if j < i + 1 then (m : Int) else 0) = if j < i then (m : Int) else 0 := by
        by_cases h1 : j < i
        · rw [if_pos h1, if_pos (by omega)]
        · rw [if_neg h1, if_neg (by omega)]
      rw [this]
    · rw [List.getElem?_eq_none (by simpa using q)]; rfl
theorem cellsF_setCt (L : List Fr) : ∀ (i : Nat) (c : Int), i < L.length → cellsF (L.set i { L.getD i zeroF with ct := c }) = (cellsF L).set (i * 4 + 2) (.int .i64 c) := by
  induction L with
  | nil => intro i c h; simp at h
  | cons f r ih =>
    intro i c h
    cases i with
    | zero => rfl
    | succ i =>
      rw [List.set_cons_succ, cellsF, cellsF, List.set_append_right _ _ (by rw [cl_len]; omega), cl_len, show (i + 1) * 4 + 2 - 4 = i * 4 + 2 by omega, ← ih i c (by simpa using h)]
      simp
theorem OwnF.setAt {t : TypeId} {base g n cap : Nat} {fs gs : List Fr} {w : World} (h : OwnF t base (.slice (some ⟨g, 0, none⟩) n cap) fs w) (j : Nat) (u : Value) (hgs : cellsF gs = (cellsF fs).set j u) (hl : gs.length = fs.length) : OwnF t base (.slice (some ⟨g, 0, none⟩) n cap) gs (w.setCell ⟨g, j, none⟩ u) := by
  have h' : w.ownsRow base t 4 (.slice (some ⟨g, 0, none⟩) n cap) fs.length (cellsF fs) := h
  unfold OwnF
  rw [hl, hgs]
  rcases h'.2 with ⟨hv, _⟩ | ⟨g', cap', cur, hv, hg, hh, h1, h2, h3, h4⟩
  · cases hv
  · injection hv with e1 e2 e3
    injection e1 with e1
    injection e1 with e1
    subst e1; subst e3
    refine ⟨by rw [List.length_set]; exact h'.1, .inr ⟨g, cap, cur.setIfInBounds j u, by rw [e2], hg, heap_setCell_same w g j cur _ _ hh, h1, h2, by simpa using h3, ?_⟩⟩
    rw [Array.toList_setIfInBounds, List.take_set, h4]
theorem OwnF.ctAt {t : TypeId} {base g n cap : Nat} {fs : List Fr} {w : World} (h : OwnF t base (.slice (some ⟨g, 0, none⟩) n cap) fs w) {i : Nat} (hi : i < fs.length) : n = fs.length ∧ w.cell? ⟨g, i * 4 + 2, none⟩ = some (.int .i64 (fs.getD i zeroF).ct) ∧ w.frozen? ⟨g, i * 4 + 2, none⟩ = false := by
  obtain ⟨a, c, e, hr⟩ := h.at
  injection e with e1 e2 e3
  obtain ⟨b, off, q, _, _, c2, _⟩ := frow_cell hr hi
  have h' : w.ownsRow base t 4 (.slice (some ⟨g, 0, none⟩) n cap) fs.length (cellsF fs) := h
  rcases h'.2 with ⟨hv, _⟩ | ⟨g', cap', cur, hv, hg, hh, h1, h2, h3, h4⟩
  · cases hv
  · injection hv with f1 f2 f3
    injection f1 with f1
    injection f1 with f1
    subst f1
    refine ⟨e2, ?_, frz_of_row _ hh⟩
    have := h'.cells (g := g) rfl (i * 4 + 2) (.int .i64 (fs.getD i zeroF).ct) (by rw [cellsF_at fs i 2 (by omega) hi]; rfl)
    rw [addr_add] at this
    exact this
end Go.Proofs.Ytjcgckhheegonaa
