/- The document's Decode. -/
import Derived.Test.YtifpahjlmnimnaaMsgDf1
import Derived.Test.YtifpahjlmnimnaaMsgDf2
import Derived.Test.YtifpahjlmnimnaaMsgDf3
import Derived.Test.YtifpahjlmnimnaaMsgDf4
namespace Go.Proofs.Ytifpahjlmnimnaa
open Go.RowKit
set_option linter.unusedVariables false
set_option linter.unusedSimpArgs false

theorem rdecode_k (s : ByteArray) (w : World) (hs : s.size ≤ 1000000) (M : Ms) (E : Nat) (hd : Hid (decM s = (M, E))) :
    Calls Try.prog 11 #[.string s] w fun e w' => e = .returned (.tuple #[M.v, .int .i64 E]) ∧ Below w.heap.size w w' := by
  by_cases h : 4096 < s.size
  · exact rdecode_big s w hs h M E hd
  · obtain ⟨n, p, e, hg⟩ : ∃ n p e, getA s.data.toList 0 = (n, p, e) := ⟨_, _, _, rfl⟩
    by_cases he : e = 0
    · subst he
      by_cases h1 : n < 1
      · exact rdecode_lo s w hs h (Lib.hid hg) h1 M E hd
      by_cases h2 : 4 < n
      · exact rdecode_hi s w hs h (Lib.hid hg) h2 M E hd
      obtain rfl | rfl | rfl | rfl : n = 1 ∨ n = 2 ∨ n = 3 ∨ n = 4 := by omega
      · exact rdecode_1 s w hs h (Lib.hid hg) M E hd
      · exact rdecode_2 s w hs h (Lib.hid hg) M E hd
      · exact rdecode_3 s w hs h (Lib.hid hg) M E hd
      · exact rdecode_4 s w hs h (Lib.hid hg) M E hd
    · exact rdecode_err s w hs h (Lib.hid hg) he M E hd
end Go.Proofs.Ytifpahjlmnimnaa
