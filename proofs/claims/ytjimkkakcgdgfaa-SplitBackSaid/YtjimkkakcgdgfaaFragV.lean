/- Words for the laws of parts. -/
import Derived.Test.YtjimkkakcgdgfaaFragX
import Derived.Deep.Slices
namespace Go.Proofs.Ytjimkkakcgdgfaa
open Go.RowKit
set_option linter.unusedVariables false
set_option linter.unusedSimpArgs false
set_option maxRecDepth 20000
theorem FrAt.chg {t : TypeId} {w w' : World} {q r : Nat} {f : Fr} (h : FrAt t w q f) (hc : Chg (fun k => k = r) w w') (hne : q ≠ r) : FrAt t w' q f := hc.blk h hne
theorem FrAt.drewn {t : TypeId} {w : World} {q : Nat} {f : Fr} (h : FrAt t w q f) : FrAt t w.drew q f := h
theorem row_set {w : World} {b : Nat} {cs : Array Value} {t : TypeId} (i : Nat) (v : Value) (h : w.heap[b]? = some (.cells cs t (0, 0))) : (w.setCell ⟨b, i, none⟩ v).heap[b]? = some (.cells (cs.setIfInBounds i v) t (0, 0)) := by
  have hlt := blk_lt h
  have h' : w.heap[b] = .cells cs t (0, 0) := by simpa [Array.getElem?_eq_getElem hlt] using h
  show (w.heap.modify b _)[b]? = _
  rw [Array.getElem?_eq_getElem (by simpa using hlt), Array.getElem_modify_self, h']
  rfl
theorem row4 {w : World} {b : Nat} {t : TypeId} {cs : Array Value} (hc : cs.size = 4) (v0 v1 v2 v3 : Value) (h : w.heap[b]? = some (.cells cs t (0, 0))) :
    ((((w.setCell ⟨b, 0, none⟩ v0).setCell ⟨b, 1, none⟩ v1).setCell ⟨b, 2, none⟩ v2).setCell ⟨b, 3, none⟩ v3).heap[b]? = some (.cells #[v0, v1, v2, v3] t (0, 0)) := by
  obtain ⟨l⟩ := cs
  match l, hc, h with
  | [_, _, _, _], _, h =>
    have a0 := row_set 0 v0 h
    simp only [List.setIfInBounds_toArray, List.set_cons_zero, List.set_cons_succ] at a0
    have a1 := row_set 1 v1 a0
    simp only [List.setIfInBounds_toArray, List.set_cons_zero, List.set_cons_succ] at a1
    have a2 := row_set 2 v2 a1
    simp only [List.setIfInBounds_toArray, List.set_cons_zero, List.set_cons_succ] at a2
    have a3 := row_set 3 v3 a2
    simp only [List.setIfInBounds_toArray, List.set_cons_zero, List.set_cons_succ] at a3
    exact a3
theorem slice_facts (A : ByteArray) (k : Nat) : ∃ p : ByteArray, min (A.size : Int) k = p.size ∧ p.size ≤ A.size ∧ p.size ≤ k ∧ A.extract 0 p.size = p := by
  rcases Nat.le_total A.size k with h | h
  · exact ⟨A, by omega, Nat.le_refl _, h, by simp⟩
  · have e : (A.extract 0 k).size = k := by simp only [ByteArray.size_extract]; omega
    exact ⟨A.extract 0 k, by omega, by omega, by omega, by rw [e]⟩
theorem eqS (t : ByteArray) : (t.toList == t.toList) = true := by simp
theorem enc_full {f : Fr} (h : rightF f = true) : (encF f).toList.isEmpty = false := by
  rw [ByteArray.toList_eq]
  have := (enc_len h).1
  rw [← list_len] at this
  cases hq : (encF f).data.toList with
  | nil => rw [hq] at this; simp at this
  | cons a r => rfl
end Go.Proofs.Ytjimkkakcgdgfaa
