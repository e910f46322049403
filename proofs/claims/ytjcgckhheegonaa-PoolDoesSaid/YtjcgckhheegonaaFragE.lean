/- A part: the document's Encode and Decode. -/
import Derived.Test.YtjcgckhheegonaaFragR
namespace Go.Proofs.Ytjcgckhheegonaa
open Go.RowKit
set_option linter.unusedVariables false
set_option linter.unusedSimpArgs false
set_option maxRecDepth 20000

/-- A part's box. -/
def FrAt (t : TypeId) (w : World) (q : Nat) (f : Fr) : Prop := w.heap[q]? = some (.cells f.cl t (0, 0))
theorem FrAt.lt {t : TypeId} {w : World} {q : Nat} {f : Fr} (h : FrAt t w q f) : q < w.heap.size := blk_lt h
theorem FrAt.below {t : TypeId} {w w' : World} {q : Nat} {f : Fr} (h : FrAt t w q f) (hb : Below w.heap.size w w') : FrAt t w' q f := (hb.block q h.lt).trans h
theorem cell_at {w : World} {g : Nat} (j : Nat) {cs : Array Value} {t : TypeId} {p : Nat × Nat} (h : w.heap[g]? = some (.cells cs t p)) : w.cell? ⟨g, j, none⟩ = cs[j]? := by simp [World.cell?, h]
theorem frz_of_row {w : World} {g : Nat} (j : Nat) {cs : Array Value} {t : TypeId} (h : w.heap[g]? = some (.cells cs t (0, 0))) : w.frozen? ⟨g, j, none⟩ = false := by simp [World.frozen?, h]
theorem FrAt.cells {t : TypeId} {w : World} {q : Nat} {f : Fr} (h : FrAt t w q f) : w.cell? ⟨q, 0, none⟩ = some (.int .u64 f.id) ∧ w.cell? ⟨q, 1, none⟩ = some (.int .i64 f.ix) ∧ w.cell? ⟨q, 2, none⟩ = some (.int .i64 f.ct) ∧ w.cell? ⟨q, 3, none⟩ = some (.string f.s) := ⟨cell_at 0 h, cell_at 1 h, cell_at 2 h, cell_at 3 h⟩
theorem below_drewn {B : Nat} {w w' : World} (h : Below B w w') : Below B w w'.drew := ⟨h.os, h.tape, h.output, h.size, h.block⟩
theorem wrap_u64 {x : Int} (h0 : 0 ≤ x) (h1 : x ≤ 18446744073709551615) : IntKind.u64.wrap x = x := by
  simp [IntKind.wrap, IntKind.bits, IntKind.signed]; omega
end Go.Proofs.Ytjcgckhheegonaa
