/-
  No cell of these rows narrows 'for every input' (looked for: loops, veiled, ifaces, maps, wideKeys, modest, calm, conditions, laid).
  DERIVED. THE GIVEN ROWS OF THIS SEAT. 5 by the template 'for every input the law returns true; each argument reads behind the call as it read before'; 0 by the template 'total and deterministic' (their statements: YtpfeonmgiekpfaaTotals.lean).
  GIVEN WITH THE SEED: the statements are not yours to turn. If you find one false, say at which input.
  Laid BY PROGRAM, IN A SANDBOX (cutbox-rows.mjs): the forced cells as the released guide's own fill.sh prints them over the translation f68e92287adf7eeb… (all of the seat's roots in one cut). By AI agents, Wed Nov 11 2026. No macro, syntax, notation, axiom, sorry.
-/
import Derived.Test.YtpfeonmgiekpfaaChecked
import GoSem.Claim
import GoSem.ClaimJoined
import GoSem.ClaimMapViews
import Derived.JoinedTies
import Derived.KernelRfl
namespace Go.Proofs.Ytpfeonmgiekpfaa
/- THE CELL 'sum', in the pinned program and in every row, IS THE sha256 OF THE DUMP (.gsa) THAT YtpfeonmgiekpfaaProg.lean LOADS. Nothing in Lean hashes anything: it is a label: what it is worth is what the hold of that sum in a sandbox is worth. -/
noncomputable def Try.pinned : Pinned := { name := "ytpfeonmgiekpfaa", sum := "f68e92287adf7eeb19865a9888c23710b28efbcf28d31e3314e147488f98d1bb", checked := Try.checked }
namespace Rows
def none {H : Type} : Left H := { results := [], args := [] }

/-- 'soughlaw04.KemTells': WHATEVER THE INPUT: true; the input reads as it did. -/
def kemTellsSpec : ChangeSpec := { name := "kemTells", fn := fun _ => fun
  | [d1, d2] => { results := [.lit (.bool true)], args := [d1, d2] }
  | _ => none }
def kemTellsRow : OpenClaim := { program := "ytpfeonmgiekpfaa", sum := "f68e92287adf7eeb19865a9888c23710b28efbcf28d31e3314e147488f98d1bb", func := "sough/soughlaw04.KemTells", spec := "kemTells", plainKeys := false, apart := false }
def KemTellsSaid : Prop := kemTellsRow.holds Try.pinned (OpenSpec.ofChange kemTellsSpec)

/-- ITS FALSE NEIGHBOUR: 'it returns false'. Refute it at one input. -/
def kemTellsWrong : ChangeSpec := { name := "kemTells", fn := fun _ => fun
  | [d1, d2] => { results := [.lit (.bool false)], args := [d1, d2] }
  | _ => none }
def KemTellsWrongFalsely : Prop := kemTellsRow.holds Try.pinned (OpenSpec.ofChange kemTellsWrong)

/-- 'soughlaw04.KemBack': WHATEVER THE INPUT: true; the input reads as it did. -/
def kemBackSpec : ChangeSpec := { name := "kemBack", fn := fun _ => fun
  | [d1, d2] => { results := [.lit (.bool true)], args := [d1, d2] }
  | _ => none }
def kemBackRow : OpenClaim := { program := "ytpfeonmgiekpfaa", sum := "f68e92287adf7eeb19865a9888c23710b28efbcf28d31e3314e147488f98d1bb", func := "sough/soughlaw04.KemBack", spec := "kemBack", plainKeys := false, apart := false }
def KemBackSaid : Prop := kemBackRow.holds Try.pinned (OpenSpec.ofChange kemBackSpec)

/-- ITS FALSE NEIGHBOUR: 'it returns false'. Refute it at one input. -/
def kemBackWrong : ChangeSpec := { name := "kemBack", fn := fun _ => fun
  | [d1, d2] => { results := [.lit (.bool false)], args := [d1, d2] }
  | _ => none }
def KemBackWrongFalsely : Prop := kemBackRow.holds Try.pinned (OpenSpec.ofChange kemBackWrong)

/-- 'soughlaw04.KemRoom': WHATEVER THE INPUT: true; the input reads as it did. -/
def kemRoomSpec : ChangeSpec := { name := "kemRoom", fn := fun _ => fun
  | [d] => { results := [.lit (.bool true)], args := [d] }
  | _ => none }
def kemRoomRow : OpenClaim := { program := "ytpfeonmgiekpfaa", sum := "f68e92287adf7eeb19865a9888c23710b28efbcf28d31e3314e147488f98d1bb", func := "sough/soughlaw04.KemRoom", spec := "kemRoom", plainKeys := false, apart := false }
def KemRoomSaid : Prop := kemRoomRow.holds Try.pinned (OpenSpec.ofChange kemRoomSpec)

/-- ITS FALSE NEIGHBOUR: 'it returns false'. Refute it at one input. -/
def kemRoomWrong : ChangeSpec := { name := "kemRoom", fn := fun _ => fun
  | [d] => { results := [.lit (.bool false)], args := [d] }
  | _ => none }
def KemRoomWrongFalsely : Prop := kemRoomRow.holds Try.pinned (OpenSpec.ofChange kemRoomWrong)

/-- 'soughlaw04.KemPuts': WHATEVER THE INPUT: true; the input reads as it did. -/
def kemPutsSpec : ChangeSpec := { name := "kemPuts", fn := fun _ => fun
  | [d1, d2] => { results := [.lit (.bool true)], args := [d1, d2] }
  | _ => none }
def kemPutsRow : OpenClaim := { program := "ytpfeonmgiekpfaa", sum := "f68e92287adf7eeb19865a9888c23710b28efbcf28d31e3314e147488f98d1bb", func := "sough/soughlaw04.KemPuts", spec := "kemPuts", plainKeys := false, apart := false }
def KemPutsSaid : Prop := kemPutsRow.holds Try.pinned (OpenSpec.ofChange kemPutsSpec)

/-- ITS FALSE NEIGHBOUR: 'it returns false'. Refute it at one input. -/
def kemPutsWrong : ChangeSpec := { name := "kemPuts", fn := fun _ => fun
  | [d1, d2] => { results := [.lit (.bool false)], args := [d1, d2] }
  | _ => none }
def KemPutsWrongFalsely : Prop := kemPutsRow.holds Try.pinned (OpenSpec.ofChange kemPutsWrong)

/-- 'soughlaw04.KemOpens': WHATEVER THE INPUT: true; the input reads as it did. -/
def kemOpensSpec : ChangeSpec := { name := "kemOpens", fn := fun _ => fun
  | [d1, d2] => { results := [.lit (.bool true)], args := [d1, d2] }
  | _ => none }
def kemOpensRow : OpenClaim := { program := "ytpfeonmgiekpfaa", sum := "f68e92287adf7eeb19865a9888c23710b28efbcf28d31e3314e147488f98d1bb", func := "sough/soughlaw04.KemOpens", spec := "kemOpens", plainKeys := false, apart := false }
def KemOpensSaid : Prop := kemOpensRow.holds Try.pinned (OpenSpec.ofChange kemOpensSpec)

/-- ITS FALSE NEIGHBOUR: 'it returns false'. Refute it at one input. -/
def kemOpensWrong : ChangeSpec := { name := "kemOpens", fn := fun _ => fun
  | [d1, d2] => { results := [.lit (.bool false)], args := [d1, d2] }
  | _ => none }
def KemOpensWrongFalsely : Prop := kemOpensRow.holds Try.pinned (OpenSpec.ofChange kemOpensWrong)

/- THE SECOND FORM. 'bulk': how many values and letters a reading holds, each counted each time it is reached (what is shared counts as often as it is met; a slice's spare places count too). A statement '..UptoSaid' is the law's where the arguments, and the package variables that the reading takes, are together of bulk at most 1048576: NARROWER than '..Said'. Prove '..Said' where nothing that the law and all that it calls make is longer than what came in: it says more and counts as full. Else prove '..UptoSaid'. A law counts once. -/
mutual
def uptoBulk {H : Type} : DataW H → Nat
  | .lit (.string bytes) => bytes.length + 1
  | .lit _ => 1
  | .nil => 1
  | .ptr d => uptoBulk d + 1
  | .slice elems spare => uptoBulkAll elems + uptoBulkAll spare + 1
  | .agg parts => uptoBulkAll parts + 1
  | .iface _ d => uptoBulk d + 1
  | .map entries => uptoBulkEntries entries + 1
  | .held _ => 1
def uptoBulkAll {H : Type} : List (DataW H) → Nat
  | [] => 0
  | d :: r => uptoBulk d + uptoBulkAll r
def uptoBulkEntries {H : Type} : List (Lit × DataW H) → Nat
  | [] => 0
  | x :: r => uptoBulkEntry x + uptoBulkEntries r
def uptoBulkEntry {H : Type} : Lit × DataW H → Nat
  | (.string bytes, d) => bytes.length + uptoBulk d + 1
  | (_, d) => uptoBulk d + 1
 end
def uptoSmall : (H : Type) → List (DataW H) → Bool := fun _ ds => decide (uptoBulkAll ds ≤ 1048576)
def OpenSpec.upto (s : _root_.Go.ChangeSpec) : _root_.Go.OpenSpec := { _root_.Go.OpenSpec.ofChange s with cond := some uptoSmall }

/-- 'soughlaw04.KemTells', WHERE WHAT IT READS IS OF BULK AT MOST 1048576: true; the input reads as it did. -/
def kemTellsUptoRow : OpenClaim := { program := "ytpfeonmgiekpfaa", sum := "f68e92287adf7eeb19865a9888c23710b28efbcf28d31e3314e147488f98d1bb", func := "sough/soughlaw04.KemTells", spec := "kemTells", plainKeys := false, apart := false, narrowed := true }
def KemTellsUptoSaid : Prop := kemTellsUptoRow.holds Try.pinned (OpenSpec.upto kemTellsSpec)

/-- 'soughlaw04.KemBack', WHERE WHAT IT READS IS OF BULK AT MOST 1048576: true; the input reads as it did. -/
def kemBackUptoRow : OpenClaim := { program := "ytpfeonmgiekpfaa", sum := "f68e92287adf7eeb19865a9888c23710b28efbcf28d31e3314e147488f98d1bb", func := "sough/soughlaw04.KemBack", spec := "kemBack", plainKeys := false, apart := false, narrowed := true }
def KemBackUptoSaid : Prop := kemBackUptoRow.holds Try.pinned (OpenSpec.upto kemBackSpec)

/-- 'soughlaw04.KemRoom', WHERE WHAT IT READS IS OF BULK AT MOST 1048576: true; the input reads as it did. -/
def kemRoomUptoRow : OpenClaim := { program := "ytpfeonmgiekpfaa", sum := "f68e92287adf7eeb19865a9888c23710b28efbcf28d31e3314e147488f98d1bb", func := "sough/soughlaw04.KemRoom", spec := "kemRoom", plainKeys := false, apart := false, narrowed := true }
def KemRoomUptoSaid : Prop := kemRoomUptoRow.holds Try.pinned (OpenSpec.upto kemRoomSpec)

/-- 'soughlaw04.KemPuts', WHERE WHAT IT READS IS OF BULK AT MOST 1048576: true; the input reads as it did. -/
def kemPutsUptoRow : OpenClaim := { program := "ytpfeonmgiekpfaa", sum := "f68e92287adf7eeb19865a9888c23710b28efbcf28d31e3314e147488f98d1bb", func := "sough/soughlaw04.KemPuts", spec := "kemPuts", plainKeys := false, apart := false, narrowed := true }
def KemPutsUptoSaid : Prop := kemPutsUptoRow.holds Try.pinned (OpenSpec.upto kemPutsSpec)

/-- 'soughlaw04.KemOpens', WHERE WHAT IT READS IS OF BULK AT MOST 1048576: true; the input reads as it did. -/
def kemOpensUptoRow : OpenClaim := { program := "ytpfeonmgiekpfaa", sum := "f68e92287adf7eeb19865a9888c23710b28efbcf28d31e3314e147488f98d1bb", func := "sough/soughlaw04.KemOpens", spec := "kemOpens", plainKeys := false, apart := false, narrowed := true }
def KemOpensUptoSaid : Prop := kemOpensUptoRow.holds Try.pinned (OpenSpec.upto kemOpensSpec)

end Rows
end Go.Proofs.Ytpfeonmgiekpfaa
