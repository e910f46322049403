/- The document's Right. -/
import Derived.Test.YtifpahjlmnimnaaMsgDr1
import Derived.Test.YtifpahjlmnimnaaMsgDr2
import Derived.Test.YtifpahjlmnimnaaMsgDr4
namespace Go.Proofs.Ytifpahjlmnimnaa
open Go.RowKit
set_option linter.unusedVariables false
set_option linter.unusedSimpArgs false
set_option maxRecDepth 20000

theorem rright_k (M : Ms) (w : World) (hM : M.Wf) (b : Bool) (hb : Hid (rightM M = b)) :
    Calls Try.prog 13 #[M.v] w fun e w' => e = .returned (.bool b) ∧ Below w.heap.size w w' := by
  rcases fds_cases (M.i 0) with e | e | e | e | ⟨h1, h2, h3, h4, _⟩
  · exact rright_1 M w hM (Lib.hid e) b hb
  · exact rright_2 M w hM (Lib.hid e) b hb
  · exact rright_3 M w hM (Lib.hid e) b hb
  · exact rright_4 M w hM (Lib.hid e) b hb
  · by_cases h : M.i 0 < 1
    · exact rright_lo M w h b hb
    · exact rright_hi M w (by omega) b hb
end Go.Proofs.Ytifpahjlmnimnaa
