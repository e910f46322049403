/- The document's helper: whether a term is made at once of those of a list. -/
import Derived.Test.YtlnpfeecaiecaaaKnowR
import Derived.Deep.RegionHeld3
namespace Go.Proofs.Ytlnpfeecaiecaaa
open Go.RowKit
set_option linter.unusedVariables false
set_option linter.unusedSimpArgs false
set_option maxRecDepth 20000

/-- The box of the term, and what was there. -/
def HeldM (w0 : World) (b : Nat) (A B : Int) (w : World) : Prop := w.cell? ⟨b, 3, none⟩ = some (.int .i64 A) ∧ w.cell? ⟨b, 4, none⟩ = some (.int .i64 B) ∧ Hid (Below w0.heap.size w0 w)
theorem HeldM.below {w0 w w' : World} {b : Nat} {A B : Int} (hb : Below w.heap.size w w') (h : HeldM w0 b A B w) : HeldM w0 b A B w' :=
  ⟨(hb.cell (block_lt_of_cell h.1)).trans h.1, (hb.cell (block_lt_of_cell h.2.1)).trans h.2.1, Lib.hid (h.2.2.out.trans (hb.mono h.2.2.out.size))⟩











end Go.Proofs.Ytlnpfeecaiecaaa
