/- The name that both sides begin with; states whose names are there are well formed. -/
import Derived.Test.YtlejejeflgnglaaSymF
namespace Go.Proofs.Ytlejejeflgnglaa
open Go.RowKit
set_option linter.unusedVariables false
def nmS : ByteArray := { data := #[110, 97, 109, 101] }
theorem nm_wf : nmS.size ≤ maxLen := by decide
theorem nm_le : nmS.size ≤ 1000 := by decide
theorem wf_in {c k h n : Int} (h1 : 0 ≤ c ∧ c ≤ 1000) (h2 : 0 ≤ k ∧ k ≤ 1000) (h3 : 0 ≤ h ∧ h ≤ 1000) (h4 : 0 ≤ n ∧ n ≤ 1000) : Sy.Wf ⟨c, k, h, n⟩ :=
  ⟨i64_small (x := c) (by omega) (by omega), i64_small (x := k) (by omega) (by omega), i64_small (x := h) (by omega) (by omega), u64_small (x := n) h4.1 (by omega)⟩
end Go.Proofs.Ytlejejeflgnglaa
