/- Rows of names that lie in blocks that are kept; copies of them. -/
import Derived.Test.YtdhfnbajmjmlbaaKnowH
namespace Go.Proofs.Ytdhfnbajmjmlbaa
open Go.RowKit
set_option linter.unusedVariables false
set_option linter.unusedSimpArgs false
set_option maxRecDepth 20000

theorem OwnI.same_block {base g n cap : Nat} {M : List Int} {w w' : World} (h : OwnI base (.slice (some ⟨g, 0, none⟩) n cap) M w) (e : w'.heap[g]? = w.heap[g]?) : OwnI base (.slice (some ⟨g, 0, none⟩) n cap) M w' := by
  refine ⟨h.1, ?_⟩
  rcases h.2 with ⟨hv, hn⟩ | ⟨g', cap', cur, hv, hg, hh, r⟩
  · cases hv
  · injection hv with e1 e2 e3
    injection e1 with e1
    injection e1 with e1
    subst e1
    exact .inr ⟨g, cap', cur, by rw [e2, e3], hg, by rw [e]; exact hh, r⟩
theorem OwnI.cellsOf {base g n cap : Nat} {M : List Int} {w : World} (h : OwnI base (.slice (some ⟨g, 0, none⟩) n cap) M w) : ∀ j u, (intsR M)[j]? = some u → w.cell? ((⟨g, 0, none⟩ : Addr).add j) = some u := fun j u hu => World.ownsRow.cells h (g := g) rfl j u hu
theorem ints_one {M : List Int} : ∀ u ∈ intsR M, u.oneCell' = true := fun u hu => by
  obtain ⟨x, _, rfl⟩ := List.mem_map.1 hu
  simp [Value.oneCell']
theorem has_two {L : List Tm} {C : Int → Bool} {x y : Int} (hx : InL L x) (hy : InL L y) (cx : C x = true) (cy : C y = true) : ([x, y] : List Int).all (has (namesIn L C)) = true := by
  simp only [List.all_cons, List.all_nil, Bool.and_true, Bool.and_eq_true, has_iff, mem_namesIn]
  exact ⟨⟨hx, cx⟩, hy, cy⟩
theorem has_none {L : List Tm} {C : Int → Bool} {x : Int} (cx : C x = false) : ([x] : List Int).all (has (namesIn L C)) = false := by rw [has_one, cx, Bool.and_false]
theorem own_len {base n : Nat} {a : Option Addr} {cap : Nat} {M : List Int} {w : World} (e : M.length = n) (h : OwnI base (.slice a M.length cap) M w) : OwnI base (.slice a n cap) M w := by rw [e] at h; exact h
theorem own_lit {base n : Nat} {a : Option Addr} {cap : Nat} {M : List Int} {w : World} (x y : Int) (e : M.length = n) (h : OwnI base (.slice a n cap) M w) : (w.alloc (.cells #[.int .i64 x, .int .i64 y] 3)).ownsRow base 3 1 (.slice a n cap) n (intsR M) := by
  have h1 : (w.alloc (.cells #[.int .i64 x, .int .i64 y] 3)).ownsRow base 3 1 (.slice a n cap) M.length (intsR M) := h.below (below_alloc _ _)
  rw [e] at h1
  exact h1
theorem new_grown {w w' : World} {o : Obj} {v : Value} (h : (w.alloc o).grownBy w' v.ownBlock) (hv : v.ownBlock = some w.heap.size := by rfl) : Below w.heap.size w w' :=
  (below_alloc w o).trans ((Chg.grown h).below (fun k hk => by rw [hv] at hk; injection hk with hk; omega) (below_alloc w o).size)
theorem lit_size {w w' : World} {o : Obj} (h : Below w.heap.size w w') : w.heap.size ≤ (w'.alloc o).heap.size ∧ (w'.alloc o).heap.size = w'.heap.size + 1 := by
  have := h.size
  simp
  omega
theorem OwnI.app2 {base n : Nat} {M : List Int} {x y : Int} {g cap : Nat} {w' : World} (e : M.length = n) (h : w'.ownsRow base 3 1 (.slice (some ⟨g, 0, none⟩) (n + 2) cap) (n + 2) (intsR M ++ [.int .i64 x, .int .i64 y])) : IntsAt w' (some ⟨g, 0, none⟩) cap (M ++ [x, y]) := by
  have h8 : OwnI base (.slice (some ⟨g, 0, none⟩) (n + 2) cap) (M ++ [x, y]) w' := by
    unfold OwnI
    rw [show (M ++ [x, y]).length = n + 2 by simp; omega, show intsR (M ++ [x, y]) = intsR M ++ [.int .i64 x, .int .i64 y] by simp [intsR]]
    exact h
  exact h8.ints.2
end Go.Proofs.Ytdhfnbajmjmlbaa
