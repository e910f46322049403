/- Rows of parts: the document's Join. -/
import Derived.Test.YtjcgckhheegonaaRowR
import Derived.Test.YtjcgckhheegonaaFragJ
namespace Go.Proofs.Ytjcgckhheegonaa
open Go.RowKit
set_option linter.unusedVariables false
set_option linter.unusedSimpArgs false
set_option maxRecDepth 20000

theorem jret {fs : List Fr} {t u : ByteArray} {E F : Nat} {x : Int} (h : joinF fs = (t, E)) (k : joinF fs = (u, F)) (hx : (F : Int) = x := by rfl) : Ending.returned (.tuple #[.string u, .int .i64 x]) = .returned (.tuple #[.string t, .int .i64 E]) := by
  subst hx
  rw [h] at k
  injection k with k1 k2
  subst k1 k2
  rfl
end Go.Proofs.Ytjcgckhheegonaa
