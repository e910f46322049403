/-
  No cell of these rows narrows 'for every input' (looked for: loops, veiled, ifaces, maps, wideKeys, modest, calm, conditions, laid).
  DERIVED. THE GIVEN ROWS OF THIS SEAT. 6 by the template 'for every input the law returns true; each argument reads behind the call as it read before'; 0 by the template 'total and deterministic' (their statements: YtgfnngpbngmalaaTotals.lean).
  GIVEN WITH THE SEED: the statements are not yours to turn. If you find one false, say at which input.
  Laid BY PROGRAM, IN A SANDBOX (cutbox-rows.mjs): the forced cells as the released guide's own fill.sh prints them over the translation 328ddbfc9d0a6a97… (all of the seat's roots in one cut). By AI agents, Wed Nov 11 2026. No macro, syntax, notation, axiom, sorry.
-/
import Derived.Test.YtgfnngpbngmalaaChecked
import GoSem.Claim
import GoSem.ClaimJoined
import GoSem.ClaimMapViews
import Derived.JoinedTies
import Derived.KernelRfl
namespace Go.Proofs.Ytgfnngpbngmalaa
/- THE CELL 'sum', in the pinned program and in every row, IS THE sha256 OF THE DUMP (.gsa) THAT YtgfnngpbngmalaaProg.lean LOADS. Nothing in Lean hashes anything: it is a label: what it is worth is what the hold of that sum in a sandbox is worth. -/
noncomputable def Try.pinned : Pinned := { name := "ytgfnngpbngmalaa", sum := "328ddbfc9d0a6a972ce36affd05b32eb1d8eceab1b59ef4d60514b8b955d292c", checked := Try.checked }
namespace Rows
def none {H : Type} : Left H := { results := [], args := [] }

/-- 'soughlaw05.AeadTells': WHATEVER THE INPUT: true; the input reads as it did. -/
def aeadTellsSpec : ChangeSpec := { name := "aeadTells", fn := fun _ => fun
  | [d1, d2] => { results := [.lit (.bool true)], args := [d1, d2] }
  | _ => none }
def aeadTellsRow : OpenClaim := { program := "ytgfnngpbngmalaa", sum := "328ddbfc9d0a6a972ce36affd05b32eb1d8eceab1b59ef4d60514b8b955d292c", func := "sough/soughlaw05.AeadTells", spec := "aeadTells", plainKeys := false, apart := false }
def AeadTellsSaid : Prop := aeadTellsRow.holds Try.pinned (OpenSpec.ofChange aeadTellsSpec)

/-- ITS FALSE NEIGHBOUR: 'it returns false'. Refute it at one input. -/
def aeadTellsWrong : ChangeSpec := { name := "aeadTells", fn := fun _ => fun
  | [d1, d2] => { results := [.lit (.bool false)], args := [d1, d2] }
  | _ => none }
def AeadTellsWrongFalsely : Prop := aeadTellsRow.holds Try.pinned (OpenSpec.ofChange aeadTellsWrong)

/-- 'soughlaw05.AeadTexts': WHATEVER THE INPUT: true; the input reads as it did. -/
def aeadTextsSpec : ChangeSpec := { name := "aeadTexts", fn := fun _ => fun
  | [d1, d2, d3] => { results := [.lit (.bool true)], args := [d1, d2, d3] }
  | _ => none }
def aeadTextsRow : OpenClaim := { program := "ytgfnngpbngmalaa", sum := "328ddbfc9d0a6a972ce36affd05b32eb1d8eceab1b59ef4d60514b8b955d292c", func := "sough/soughlaw05.AeadTexts", spec := "aeadTexts", plainKeys := false, apart := false }
def AeadTextsSaid : Prop := aeadTextsRow.holds Try.pinned (OpenSpec.ofChange aeadTextsSpec)

/-- ITS FALSE NEIGHBOUR: 'it returns false'. Refute it at one input. -/
def aeadTextsWrong : ChangeSpec := { name := "aeadTexts", fn := fun _ => fun
  | [d1, d2, d3] => { results := [.lit (.bool false)], args := [d1, d2, d3] }
  | _ => none }
def AeadTextsWrongFalsely : Prop := aeadTextsRow.holds Try.pinned (OpenSpec.ofChange aeadTextsWrong)

/-- 'soughlaw05.AeadBack': WHATEVER THE INPUT: true; the input reads as it did. -/
def aeadBackSpec : ChangeSpec := { name := "aeadBack", fn := fun _ => fun
  | [d1, d2, d3] => { results := [.lit (.bool true)], args := [d1, d2, d3] }
  | _ => none }
def aeadBackRow : OpenClaim := { program := "ytgfnngpbngmalaa", sum := "328ddbfc9d0a6a972ce36affd05b32eb1d8eceab1b59ef4d60514b8b955d292c", func := "sough/soughlaw05.AeadBack", spec := "aeadBack", plainKeys := false, apart := false }
def AeadBackSaid : Prop := aeadBackRow.holds Try.pinned (OpenSpec.ofChange aeadBackSpec)

/-- ITS FALSE NEIGHBOUR: 'it returns false'. Refute it at one input. -/
def aeadBackWrong : ChangeSpec := { name := "aeadBack", fn := fun _ => fun
  | [d1, d2, d3] => { results := [.lit (.bool false)], args := [d1, d2, d3] }
  | _ => none }
def AeadBackWrongFalsely : Prop := aeadBackRow.holds Try.pinned (OpenSpec.ofChange aeadBackWrong)

/-- 'soughlaw05.AeadPuts': WHATEVER THE INPUT: true; the input reads as it did. -/
def aeadPutsSpec : ChangeSpec := { name := "aeadPuts", fn := fun _ => fun
  | [d1, d2, d3] => { results := [.lit (.bool true)], args := [d1, d2, d3] }
  | _ => none }
def aeadPutsRow : OpenClaim := { program := "ytgfnngpbngmalaa", sum := "328ddbfc9d0a6a972ce36affd05b32eb1d8eceab1b59ef4d60514b8b955d292c", func := "sough/soughlaw05.AeadPuts", spec := "aeadPuts", plainKeys := false, apart := false }
def AeadPutsSaid : Prop := aeadPutsRow.holds Try.pinned (OpenSpec.ofChange aeadPutsSpec)

/-- ITS FALSE NEIGHBOUR: 'it returns false'. Refute it at one input. -/
def aeadPutsWrong : ChangeSpec := { name := "aeadPuts", fn := fun _ => fun
  | [d1, d2, d3] => { results := [.lit (.bool false)], args := [d1, d2, d3] }
  | _ => none }
def AeadPutsWrongFalsely : Prop := aeadPutsRow.holds Try.pinned (OpenSpec.ofChange aeadPutsWrong)

/-- 'soughlaw05.AeadOpens': WHATEVER THE INPUT: true; the input reads as it did. -/
def aeadOpensSpec : ChangeSpec := { name := "aeadOpens", fn := fun _ => fun
  | [d1, d2, d3] => { results := [.lit (.bool true)], args := [d1, d2, d3] }
  | _ => none }
def aeadOpensRow : OpenClaim := { program := "ytgfnngpbngmalaa", sum := "328ddbfc9d0a6a972ce36affd05b32eb1d8eceab1b59ef4d60514b8b955d292c", func := "sough/soughlaw05.AeadOpens", spec := "aeadOpens", plainKeys := false, apart := false }
def AeadOpensSaid : Prop := aeadOpensRow.holds Try.pinned (OpenSpec.ofChange aeadOpensSpec)

/-- ITS FALSE NEIGHBOUR: 'it returns false'. Refute it at one input. -/
def aeadOpensWrong : ChangeSpec := { name := "aeadOpens", fn := fun _ => fun
  | [d1, d2, d3] => { results := [.lit (.bool false)], args := [d1, d2, d3] }
  | _ => none }
def AeadOpensWrongFalsely : Prop := aeadOpensRow.holds Try.pinned (OpenSpec.ofChange aeadOpensWrong)

/-- 'soughlaw05.AeadRoom': WHATEVER THE INPUT: true; the input reads as it did. -/
def aeadRoomSpec : ChangeSpec := { name := "aeadRoom", fn := fun _ => fun
  | [d1, d2] => { results := [.lit (.bool true)], args := [d1, d2] }
  | _ => none }
def aeadRoomRow : OpenClaim := { program := "ytgfnngpbngmalaa", sum := "328ddbfc9d0a6a972ce36affd05b32eb1d8eceab1b59ef4d60514b8b955d292c", func := "sough/soughlaw05.AeadRoom", spec := "aeadRoom", plainKeys := false, apart := false }
def AeadRoomSaid : Prop := aeadRoomRow.holds Try.pinned (OpenSpec.ofChange aeadRoomSpec)

/-- ITS FALSE NEIGHBOUR: 'it returns false'. Refute it at one input. -/
def aeadRoomWrong : ChangeSpec := { name := "aeadRoom", fn := fun _ => fun
  | [d1, d2] => { results := [.lit (.bool false)], args := [d1, d2] }
  | _ => none }
def AeadRoomWrongFalsely : Prop := aeadRoomRow.holds Try.pinned (OpenSpec.ofChange aeadRoomWrong)

/- THE SECOND FORM. 'bulk': how many values and letters a reading holds, each counted each time it is reached (what is shared counts as often as it is met; a slice's spare places count too). A statement '..UptoSaid' is the law's where the arguments, and the package variables that the reading takes, are together of bulk at most 1048576: NARROWER than '..Said'. Prove '..Said' where nothing that the law and all that it calls make is longer than what came in: it says more and counts as full. Else prove '..UptoSaid'. A law counts once. -/
mutual
def uptoBulk {H : Type} : DataW H → Nat
  | .lit (.string bytes) => bytes.length + 1
  | .lit _ => 1
  | .nil => 1
  | .ptr d => uptoBulk d + 1
  | .slice elems spare => uptoBulkAll elems + uptoBulkAll spare + 1
  | .agg parts => uptoBulkAll parts + 1
  | .iface _ d => uptoBulk d + 1
  | .map entries => uptoBulkEntries entries + 1
  | .held _ => 1
def uptoBulkAll {H : Type} : List (DataW H) → Nat
  | [] => 0
  | d :: r => uptoBulk d + uptoBulkAll r
def uptoBulkEntries {H : Type} : List (Lit × DataW H) → Nat
  | [] => 0
  | x :: r => uptoBulkEntry x + uptoBulkEntries r
def uptoBulkEntry {H : Type} : Lit × DataW H → Nat
  | (.string bytes, d) => bytes.length + uptoBulk d + 1
  | (_, d) => uptoBulk d + 1
 end
def uptoSmall : (H : Type) → List (DataW H) → Bool := fun _ ds => decide (uptoBulkAll ds ≤ 1048576)
def OpenSpec.upto (s : _root_.Go.ChangeSpec) : _root_.Go.OpenSpec := { _root_.Go.OpenSpec.ofChange s with cond := some uptoSmall }

/-- 'soughlaw05.AeadTells', WHERE WHAT IT READS IS OF BULK AT MOST 1048576: true; the input reads as it did. -/
def aeadTellsUptoRow : OpenClaim := { program := "ytgfnngpbngmalaa", sum := "328ddbfc9d0a6a972ce36affd05b32eb1d8eceab1b59ef4d60514b8b955d292c", func := "sough/soughlaw05.AeadTells", spec := "aeadTells", plainKeys := false, apart := false, narrowed := true }
def AeadTellsUptoSaid : Prop := aeadTellsUptoRow.holds Try.pinned (OpenSpec.upto aeadTellsSpec)

/-- 'soughlaw05.AeadTexts', WHERE WHAT IT READS IS OF BULK AT MOST 1048576: true; the input reads as it did. -/
def aeadTextsUptoRow : OpenClaim := { program := "ytgfnngpbngmalaa", sum := "328ddbfc9d0a6a972ce36affd05b32eb1d8eceab1b59ef4d60514b8b955d292c", func := "sough/soughlaw05.AeadTexts", spec := "aeadTexts", plainKeys := false, apart := false, narrowed := true }
def AeadTextsUptoSaid : Prop := aeadTextsUptoRow.holds Try.pinned (OpenSpec.upto aeadTextsSpec)

/-- 'soughlaw05.AeadBack', WHERE WHAT IT READS IS OF BULK AT MOST 1048576: true; the input reads as it did. -/
def aeadBackUptoRow : OpenClaim := { program := "ytgfnngpbngmalaa", sum := "328ddbfc9d0a6a972ce36affd05b32eb1d8eceab1b59ef4d60514b8b955d292c", func := "sough/soughlaw05.AeadBack", spec := "aeadBack", plainKeys := false, apart := false, narrowed := true }
def AeadBackUptoSaid : Prop := aeadBackUptoRow.holds Try.pinned (OpenSpec.upto aeadBackSpec)

/-- 'soughlaw05.AeadPuts', WHERE WHAT IT READS IS OF BULK AT MOST 1048576: true; the input reads as it did. -/
def aeadPutsUptoRow : OpenClaim := { program := "ytgfnngpbngmalaa", sum := "328ddbfc9d0a6a972ce36affd05b32eb1d8eceab1b59ef4d60514b8b955d292c", func := "sough/soughlaw05.AeadPuts", spec := "aeadPuts", plainKeys := false, apart := false, narrowed := true }
def AeadPutsUptoSaid : Prop := aeadPutsUptoRow.holds Try.pinned (OpenSpec.upto aeadPutsSpec)

/-- 'soughlaw05.AeadOpens', WHERE WHAT IT READS IS OF BULK AT MOST 1048576: true; the input reads as it did. -/
def aeadOpensUptoRow : OpenClaim := { program := "ytgfnngpbngmalaa", sum := "328ddbfc9d0a6a972ce36affd05b32eb1d8eceab1b59ef4d60514b8b955d292c", func := "sough/soughlaw05.AeadOpens", spec := "aeadOpens", plainKeys := false, apart := false, narrowed := true }
def AeadOpensUptoSaid : Prop := aeadOpensUptoRow.holds Try.pinned (OpenSpec.upto aeadOpensSpec)

/-- 'soughlaw05.AeadRoom', WHERE WHAT IT READS IS OF BULK AT MOST 1048576: true; the input reads as it did. -/
def aeadRoomUptoRow : OpenClaim := { program := "ytgfnngpbngmalaa", sum := "328ddbfc9d0a6a972ce36affd05b32eb1d8eceab1b59ef4d60514b8b955d292c", func := "sough/soughlaw05.AeadRoom", spec := "aeadRoom", plainKeys := false, apart := false, narrowed := true }
def AeadRoomUptoSaid : Prop := aeadRoomUptoRow.holds Try.pinned (OpenSpec.upto aeadRoomSpec)

end Rows
end Go.Proofs.Ytgfnngpbngmalaa
