/- The program's sort of a row of names that the call owns. -/
import Derived.Test.YtlnpfeecaiecaaaKnowN
import Derived.Test.YtlnpfeecaiecaaaSort
import Derived.Sort.OwnSortedInts
namespace Go.Proofs.Ytlnpfeecaiecaaa
open Go.RowKit
open Go.Sort
set_option linter.unusedVariables false
set_option linter.unusedSimpArgs false
set_option maxRecDepth 20000

def sorted (M : List Int) : List Int := M.mergeSort fun x y => decide (x ≤ y)
theorem sorted_len (M : List Int) : (sorted M).length = M.length := by simp [sorted]
theorem sort_k {base : Nat} {v : Value} {M : List Int} {w : World} (h : OwnI base v M w) (hl : M.length ≤ 1048576) :
    Calls Try.prog 40 #[v] w fun e w' => e = .returned (.tuple #[]) ∧ OwnI base v (sorted M) w' ∧ Chg (fun k => some k = v.ownBlock) w w' := by
  rcases h.2 with ⟨hv, hn⟩ | ⟨g, cap, cur, hv, hb, hblk, h1, h2, h3, h4⟩
  · obtain rfl : M = [] := List.eq_nil_of_length_eq_zero hn
    subst hv
    refine (Go.Proofs.Try.slices_Sort_int_none none 0 w).mono ?_
    rintro e w' ⟨rfl, rfl⟩
    exact ⟨rfl, by simpa [sorted] using h, .of_below (Below.refl _ _)⟩
  · subst hv
    have hlt : g < w.heap.size := blk_lt hblk
    refine (Go.Proofs.Try.slices_Sort_int g 0 cap M w (holds_of_blockI hblk (by simpa [intsR] using h4)) hlt (by omega)).mono ?_
    rintro e w' ⟨rfl, n, os, rfl⟩
    refine ⟨rfl, ?_, Chg.grown (grownBy_sortedI _)⟩
    have := ownsRow_sortedI (n := n) (os := os) (ss := M) (ts := sorted M) (sorted_len M) hb hblk h1 h2 h3
    unfold OwnI
    rw [sorted_len]
    exact this
end Go.Proofs.Ytlnpfeecaiecaaa
