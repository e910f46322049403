/- Rows of parts: the law's Refs. -/
import Derived.Test.YtjcgckhheegonaaRowS
namespace Go.Proofs.Ytjcgckhheegonaa
open Go.RowKit
set_option linter.unusedVariables false
set_option linter.unusedSimpArgs false
set_option maxRecDepth 20000

theorem take_getF {fs : List Fr} {k : Nat} (h : k < fs.length) : fs.take (k + 1) = fs.take k ++ [fs.getD k zeroF] := by
  rw [List.take_succ_eq_append_getElem h]; simp [List.getD, h]
end Go.Proofs.Ytjcgckhheegonaa
