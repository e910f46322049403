/- Blocks of several cells that a call owns: what they hold behind stores; two of them beside two stores. -/
import Derived.Test.YtlejejeflgnglaaSymD
import Derived.ScopeJumps
import Derived.WalkMore
import Derived.Deep.RegionHeld3
namespace Go.Proofs.Ytlejejeflgnglaa
open Go.RowKit
set_option linter.unusedVariables false
set_option linter.unusedSimpArgs false

theorem frz_of_row {w : World} {g : Nat} (j : Nat) {cs : Array Value} {t : TypeId} (h : w.heap[g]? = some (.cells cs t (0, 0))) : w.frozen? ⟨g, j, none⟩ = false := by simp [World.frozen?, h]
theorem row_set {w : World} {b : Nat} {cs : Array Value} {t : TypeId} (i : Nat) (v : Value) (h : w.heap[b]? = some (.cells cs t (0, 0))) : (w.setCell ⟨b, i, none⟩ v).heap[b]? = some (.cells (cs.setIfInBounds i v) t (0, 0)) := by
  have hlt := lt_of_block h
  have h' : w.heap[b] = .cells cs t (0, 0) := by simpa [Array.getElem?_eq_getElem hlt] using h
  show (w.heap.modify b _)[b]? = _
  rw [Array.getElem?_eq_getElem (by simpa using hlt), Array.getElem_modify_self, h']
  rfl
/-- Four cells of a block set, one by one. -/
def set4 (w : World) (b o : Nat) (v0 v1 v2 v3 : Value) : World := (((w.setCell ⟨b, o, none⟩ v0).setCell ⟨b, o + 1, none⟩ v1).setCell ⟨b, o + 2, none⟩ v2).setCell ⟨b, o + 3, none⟩ v3
theorem row_set4 {w : World} {b : Nat} {t : TypeId} {a0 a1 a2 a3 : Value} (v0 v1 v2 v3 : Value) (h : w.heap[b]? = some (.cells #[a0, a1, a2, a3] t (0, 0))) : (set4 w b 0 v0 v1 v2 v3).heap[b]? = some (.cells #[v0, v1, v2, v3] t (0, 0)) := by
  have := row_set 3 v3 (row_set 2 v2 (row_set 1 v1 (row_set 0 v0 h)))
  simp at this
  exact this
theorem set4_other (w : World) (b o k : Nat) (v0 v1 v2 v3 : Value) (h : k ≠ b) : (set4 w b o v0 v1 v2 v3).heap[k]? = w.heap[k]? := by
  unfold set4
  rw [heap_setCell_other _ _ _ _ (by exact h), heap_setCell_other _ _ _ _ (by exact h), heap_setCell_other _ _ _ _ (by exact h), heap_setCell_other _ _ _ _ (by exact h)]
section
variable {base : Nat} {Q1 Q2 : (Nat → Prop) → List Tm → World → Prop} {L1 L2 : List Tm} {K : Nat → Prop} {w0 w : World}
theorem Pair.setAt (g1 : Good base Q1) (g2 : Good base Q2) (h : Pair base Q1 Q2 L1 L2 K w0 w) {b : Nat} (hk : K b) (hb : base ≤ b) (i : Nat) (v : Value) : Pair base Q1 Q2 L1 L2 K w0 (w.setCell ⟨b, i, none⟩ v) := by
  obtain ⟨F1, F2, h1, h2, h3, h4, h5, h6⟩ := h
  have C := Chg.setCell w b i v
  exact ⟨F1, F2, g1.frame h1 C (fun k a e => (h4 b hk).1 (e ▸ a)), g2.frame h2 C (fun k a e => (h4 b hk).2.1 (e ▸ a)), h3, fun k q => ⟨(h4 k q).1, (h4 k q).2.1, by simp; exact (h4 k q).2.2⟩, h5, h6.setCell hb v⟩
theorem Pair.set4 (g1 : Good base Q1) (g2 : Good base Q2) (h : Pair base Q1 Q2 L1 L2 K w0 w) {b : Nat} (hk : K b) (hb : base ≤ b) (o : Nat) (v0 v1 v2 v3 : Value) : Pair base Q1 Q2 L1 L2 K w0 (set4 w b o v0 v1 v2 v3) :=
  (((h.setAt g1 g2 hk hb o v0).setAt g1 g2 hk hb _ v1).setAt g1 g2 hk hb _ v2).setAt g1 g2 hk hb _ v3
/-- Beside two blocks more. -/
def Kb (K : Nat → Prop) (B : Nat) : Nat → Prop := fun k => K k ∨ k = B ∨ k = B + 1
theorem Pair.box1 (g1 : Good base Q1) (g2 : Good base Q2) (h : Pair base Q1 Q2 L1 L2 K w0 w) (a : Array Value) (t : TypeId) :
    Pair base Q1 Q2 L1 L2 (fun k => K k ∨ k = w.heap.size) w0 (w.alloc (.cells a t)) ∧ (w.alloc (.cells a t)).heap[w.heap.size]? = some (.cells a t (0, 0)) ∧ ∀ k, K k → (w.alloc (.cells a t)).heap[k]? = w.heap[k]? :=
  ⟨h.box g1 g2 _, heap_alloc_new w _, fun k hk => heap_alloc_old _ _ (h.klt k hk)⟩
theorem Pair.box2 (g1 : Good base Q1) (g2 : Good base Q2) (h : Pair base Q1 Q2 L1 L2 K w0 w) (a1 a2 : Array Value) (t1 t2 : TypeId) :
    Pair base Q1 Q2 L1 L2 (Kb K w.heap.size) w0 ((w.alloc (.cells a1 t1)).alloc (.cells a2 t2)) ∧ ((w.alloc (.cells a1 t1)).alloc (.cells a2 t2)).heap[w.heap.size]? = some (.cells a1 t1 (0, 0)) ∧
      ((w.alloc (.cells a1 t1)).alloc (.cells a2 t2)).heap[w.heap.size + 1]? = some (.cells a2 t2 (0, 0)) ∧ ∀ k, K k → ((w.alloc (.cells a1 t1)).alloc (.cells a2 t2)).heap[k]? = w.heap[k]? := by
  have hk := h.klt
  refine ⟨((h.box g1 g2 _).box g1 g2 _).less ?_, ?_, ?_, fun k q => ?_⟩
  · rintro k (q | q | q)
    · exact .inl (.inl q)
    · exact .inl (.inr q)
    · exact .inr (by rw [q]; simp)
  · rw [heap_alloc_old _ _ (by simp)]; exact heap_alloc_new w _
  · have := heap_alloc_new (w.alloc (.cells a1 t1)) (.cells a2 t2)
    simpa using this
  · have := hk k q
    rw [heap_alloc_old _ _ (by simp; omega), heap_alloc_old _ _ (by omega)]
end
end Go.Proofs.Ytlejejeflgnglaa
