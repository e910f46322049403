/- Whether a message's bytes are none. -/
import Derived.Test.YtifpahjlmnimnaaMsgW
namespace Go.Proofs.Ytifpahjlmnimnaa
open Go.RowKit
theorem enc_full {M : Ms} (h : rightM M = true) : (encM M).toList.isEmpty = false := by
  rw [ByteArray.toList_eq]
  have := (enc_len h).1
  rw [← list_len] at this
  cases hq : (encM M).data.toList with
  | nil => rw [hq] at this; simp at this
  | cons a r => rfl
theorem MsgAt.chg {w w' : World} {q r : Nat} {M : Ms} (h : MsgAt w q M) (hc : Chg (fun k => k = r) w w') (hne : q ≠ r) : MsgAt w' q M := hc.blk h hne
end Go.Proofs.Ytifpahjlmnimnaa
