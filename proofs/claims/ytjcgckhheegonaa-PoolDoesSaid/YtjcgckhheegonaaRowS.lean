/- Rows of parts: the document's Same and Join, the law's Refs. -/
import Derived.Test.YtjcgckhheegonaaRowF
namespace Go.Proofs.Ytjcgckhheegonaa
open Go.RowKit
set_option linter.unusedVariables false
set_option linter.unusedSimpArgs false
set_option maxRecDepth 20000

theorem drewN_below3 {B : Nat} {w : World} (h : B ≤ w.heap.size) (n : Nat) : Below B w (w.drewN n) := ⟨rfl, rfl, rfl, Nat.le_refl _, fun _ _ => rfl⟩
theorem RowF.len {w : World} {a : Option Addr} {cap : Nat} {fs : List Fr} (h : RowF w a cap fs) : fs.length ≤ 9223372036854775807 := by
  have := h.1
  have := h.2.1
  unfold maxLen at this
  omega
theorem frow_cell {w : World} {a : Option Addr} {cap : Nat} {fs : List Fr} (h : RowF w a cap fs) {j : Nat} (hj : j < fs.length) : ∃ b off, a = some ⟨b, off, none⟩ ∧ w.cell? ⟨b, off + j * 4, none⟩ = some (.int .u64 (fs.getD j zeroF).id) ∧ w.cell? ⟨b, off + j * 4 + 1, none⟩ = some (.int .i64 (fs.getD j zeroF).ix) ∧ w.cell? ⟨b, off + j * 4 + 2, none⟩ = some (.int .i64 (fs.getD j zeroF).ct) ∧ w.cell? ⟨b, off + j * 4 + 3, none⟩ = some (.string (fs.getD j zeroF).s) := by
  obtain ⟨_, _, b, off, h3⟩ := h
  obtain ⟨e, c⟩ := h3 j hj
  exact ⟨b, off, e, c⟩
end Go.Proofs.Ytjcgckhheegonaa
