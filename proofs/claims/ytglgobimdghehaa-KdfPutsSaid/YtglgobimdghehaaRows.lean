/-
  No cell of these rows narrows 'for every input' (looked for: loops, veiled, ifaces, maps, wideKeys, modest, calm, conditions, laid).
  DERIVED. THE GIVEN ROWS OF THIS SEAT. 6 by the template 'for every input the law returns true; each argument reads behind the call as it read before'; 0 by the template 'total and deterministic' (their statements: YtglgobimdghehaaTotals.lean).
  GIVEN WITH THE SEED: the statements are not yours to turn. If you find one false, say at which input.
  Laid BY PROGRAM, IN A SANDBOX (cutbox-rows.mjs): the forced cells as the released guide's own fill.sh prints them over the translation 298ff7e21590e490… (all of the seat's roots in one cut). By AI agents, Wed Nov 11 2026. No macro, syntax, notation, axiom, sorry.
-/
import Derived.Test.YtglgobimdghehaaChecked
import GoSem.Claim
import GoSem.ClaimJoined
import GoSem.ClaimMapViews
import Derived.JoinedTies
import Derived.KernelRfl
namespace Go.Proofs.Ytglgobimdghehaa
/- THE CELL 'sum', in the pinned program and in every row, IS THE sha256 OF THE DUMP (.gsa) THAT YtglgobimdghehaaProg.lean LOADS. Nothing in Lean hashes anything: it is a label: what it is worth is what the hold of that sum in a sandbox is worth. -/
noncomputable def Try.pinned : Pinned := { name := "ytglgobimdghehaa", sum := "298ff7e21590e490e5e1a9b5bf65b38b808c7b08c3bb9aff14827cd22d6c4994", checked := Try.checked }
namespace Rows
def none {H : Type} : Left H := { results := [], args := [] }

/-- 'soughlaw06.KdfTells': WHATEVER THE INPUT: true; the input reads as it did. -/
def kdfTellsSpec : ChangeSpec := { name := "kdfTells", fn := fun _ => fun
  | [d1, d2, d3] => { results := [.lit (.bool true)], args := [d1, d2, d3] }
  | _ => none }
def kdfTellsRow : OpenClaim := { program := "ytglgobimdghehaa", sum := "298ff7e21590e490e5e1a9b5bf65b38b808c7b08c3bb9aff14827cd22d6c4994", func := "sough/soughlaw06.KdfTells", spec := "kdfTells", unfollowed := true, recurses := true, plainKeys := false, apart := false }
def KdfTellsSaid : Prop := kdfTellsRow.holds Try.pinned (OpenSpec.ofChange kdfTellsSpec)

/-- ITS FALSE NEIGHBOUR: 'it returns false'. Refute it at one input. -/
def kdfTellsWrong : ChangeSpec := { name := "kdfTells", fn := fun _ => fun
  | [d1, d2, d3] => { results := [.lit (.bool false)], args := [d1, d2, d3] }
  | _ => none }
def KdfTellsWrongFalsely : Prop := kdfTellsRow.holds Try.pinned (OpenSpec.ofChange kdfTellsWrong)

/-- 'soughlaw06.KdfChains': WHATEVER THE INPUT: true; the input reads as it did. -/
def kdfChainsSpec : ChangeSpec := { name := "kdfChains", fn := fun _ => fun
  | [d1, d2, d3] => { results := [.lit (.bool true)], args := [d1, d2, d3] }
  | _ => none }
def kdfChainsRow : OpenClaim := { program := "ytglgobimdghehaa", sum := "298ff7e21590e490e5e1a9b5bf65b38b808c7b08c3bb9aff14827cd22d6c4994", func := "sough/soughlaw06.KdfChains", spec := "kdfChains", unfollowed := true, recurses := true, plainKeys := false, apart := false }
def KdfChainsSaid : Prop := kdfChainsRow.holds Try.pinned (OpenSpec.ofChange kdfChainsSpec)

/-- ITS FALSE NEIGHBOUR: 'it returns false'. Refute it at one input. -/
def kdfChainsWrong : ChangeSpec := { name := "kdfChains", fn := fun _ => fun
  | [d1, d2, d3] => { results := [.lit (.bool false)], args := [d1, d2, d3] }
  | _ => none }
def KdfChainsWrongFalsely : Prop := kdfChainsRow.holds Try.pinned (OpenSpec.ofChange kdfChainsWrong)

/-- 'soughlaw06.KdfMixes': WHATEVER THE INPUT: true; the input reads as it did. -/
def kdfMixesSpec : ChangeSpec := { name := "kdfMixes", fn := fun _ => fun
  | [d1, d2] => { results := [.lit (.bool true)], args := [d1, d2] }
  | _ => none }
def kdfMixesRow : OpenClaim := { program := "ytglgobimdghehaa", sum := "298ff7e21590e490e5e1a9b5bf65b38b808c7b08c3bb9aff14827cd22d6c4994", func := "sough/soughlaw06.KdfMixes", spec := "kdfMixes", unfollowed := true, recurses := true, plainKeys := false, apart := false }
def KdfMixesSaid : Prop := kdfMixesRow.holds Try.pinned (OpenSpec.ofChange kdfMixesSpec)

/-- ITS FALSE NEIGHBOUR: 'it returns false'. Refute it at one input. -/
def kdfMixesWrong : ChangeSpec := { name := "kdfMixes", fn := fun _ => fun
  | [d1, d2] => { results := [.lit (.bool false)], args := [d1, d2] }
  | _ => none }
def KdfMixesWrongFalsely : Prop := kdfMixesRow.holds Try.pinned (OpenSpec.ofChange kdfMixesWrong)

/-- 'soughlaw06.KdfPuts': WHATEVER THE INPUT: true; the input reads as it did. -/
def kdfPutsSpec : ChangeSpec := { name := "kdfPuts", fn := fun _ => fun
  | [d1, d2, d3] => { results := [.lit (.bool true)], args := [d1, d2, d3] }
  | _ => none }
def kdfPutsRow : OpenClaim := { program := "ytglgobimdghehaa", sum := "298ff7e21590e490e5e1a9b5bf65b38b808c7b08c3bb9aff14827cd22d6c4994", func := "sough/soughlaw06.KdfPuts", spec := "kdfPuts", unfollowed := true, recurses := true, plainKeys := false, apart := false }
def KdfPutsSaid : Prop := kdfPutsRow.holds Try.pinned (OpenSpec.ofChange kdfPutsSpec)

/-- ITS FALSE NEIGHBOUR: 'it returns false'. Refute it at one input. -/
def kdfPutsWrong : ChangeSpec := { name := "kdfPuts", fn := fun _ => fun
  | [d1, d2, d3] => { results := [.lit (.bool false)], args := [d1, d2, d3] }
  | _ => none }
def KdfPutsWrongFalsely : Prop := kdfPutsRow.holds Try.pinned (OpenSpec.ofChange kdfPutsWrong)

/-- 'soughlaw06.KdfOrder': WHATEVER THE INPUT: true; the input reads as it did. -/
def kdfOrderSpec : ChangeSpec := { name := "kdfOrder", fn := fun _ => fun
  | [d1, d2] => { results := [.lit (.bool true)], args := [d1, d2] }
  | _ => none }
def kdfOrderRow : OpenClaim := { program := "ytglgobimdghehaa", sum := "298ff7e21590e490e5e1a9b5bf65b38b808c7b08c3bb9aff14827cd22d6c4994", func := "sough/soughlaw06.KdfOrder", spec := "kdfOrder", unfollowed := true, recurses := true, plainKeys := false, apart := false }
def KdfOrderSaid : Prop := kdfOrderRow.holds Try.pinned (OpenSpec.ofChange kdfOrderSpec)

/-- ITS FALSE NEIGHBOUR: 'it returns false'. Refute it at one input. -/
def kdfOrderWrong : ChangeSpec := { name := "kdfOrder", fn := fun _ => fun
  | [d1, d2] => { results := [.lit (.bool false)], args := [d1, d2] }
  | _ => none }
def KdfOrderWrongFalsely : Prop := kdfOrderRow.holds Try.pinned (OpenSpec.ofChange kdfOrderWrong)

/-- 'soughlaw06.KdfRoom': WHATEVER THE INPUT: true; the input reads as it did. -/
def kdfRoomSpec : ChangeSpec := { name := "kdfRoom", fn := fun _ => fun
  | [d1, d2] => { results := [.lit (.bool true)], args := [d1, d2] }
  | _ => none }
def kdfRoomRow : OpenClaim := { program := "ytglgobimdghehaa", sum := "298ff7e21590e490e5e1a9b5bf65b38b808c7b08c3bb9aff14827cd22d6c4994", func := "sough/soughlaw06.KdfRoom", spec := "kdfRoom", unfollowed := true, recurses := true, plainKeys := false, apart := false }
def KdfRoomSaid : Prop := kdfRoomRow.holds Try.pinned (OpenSpec.ofChange kdfRoomSpec)

/-- ITS FALSE NEIGHBOUR: 'it returns false'. Refute it at one input. -/
def kdfRoomWrong : ChangeSpec := { name := "kdfRoom", fn := fun _ => fun
  | [d1, d2] => { results := [.lit (.bool false)], args := [d1, d2] }
  | _ => none }
def KdfRoomWrongFalsely : Prop := kdfRoomRow.holds Try.pinned (OpenSpec.ofChange kdfRoomWrong)

/- THE SECOND FORM. 'bulk': how many values and letters a reading holds, each counted each time it is reached (what is shared counts as often as it is met; a slice's spare places count too). A statement '..UptoSaid' is the law's where the arguments, and the package variables that the reading takes, are together of bulk at most 1048576: NARROWER than '..Said'. Prove '..Said' where nothing that the law and all that it calls make is longer than what came in: it says more and counts as full. Else prove '..UptoSaid'. A law counts once. -/
mutual
def uptoBulk {H : Type} : DataW H → Nat
  | .lit (.string bytes) => bytes.length + 1
  | .lit _ => 1
  | .nil => 1
  | .ptr d => uptoBulk d + 1
  | .slice elems spare => uptoBulkAll elems + uptoBulkAll spare + 1
  | .agg parts => uptoBulkAll parts + 1
  | .iface _ d => uptoBulk d + 1
  | .map entries => uptoBulkEntries entries + 1
  | .held _ => 1
def uptoBulkAll {H : Type} : List (DataW H) → Nat
  | [] => 0
  | d :: r => uptoBulk d + uptoBulkAll r
def uptoBulkEntries {H : Type} : List (Lit × DataW H) → Nat
  | [] => 0
  | x :: r => uptoBulkEntry x + uptoBulkEntries r
def uptoBulkEntry {H : Type} : Lit × DataW H → Nat
  | (.string bytes, d) => bytes.length + uptoBulk d + 1
  | (_, d) => uptoBulk d + 1
 end
def uptoSmall : (H : Type) → List (DataW H) → Bool := fun _ ds => decide (uptoBulkAll ds ≤ 1048576)
def OpenSpec.upto (s : _root_.Go.ChangeSpec) : _root_.Go.OpenSpec := { _root_.Go.OpenSpec.ofChange s with cond := some uptoSmall }

/-- 'soughlaw06.KdfTells', WHERE WHAT IT READS IS OF BULK AT MOST 1048576: true; the input reads as it did. -/
def kdfTellsUptoRow : OpenClaim := { program := "ytglgobimdghehaa", sum := "298ff7e21590e490e5e1a9b5bf65b38b808c7b08c3bb9aff14827cd22d6c4994", func := "sough/soughlaw06.KdfTells", spec := "kdfTells", unfollowed := true, recurses := true, plainKeys := false, apart := false, narrowed := true }
def KdfTellsUptoSaid : Prop := kdfTellsUptoRow.holds Try.pinned (OpenSpec.upto kdfTellsSpec)

/-- 'soughlaw06.KdfChains', WHERE WHAT IT READS IS OF BULK AT MOST 1048576: true; the input reads as it did. -/
def kdfChainsUptoRow : OpenClaim := { program := "ytglgobimdghehaa", sum := "298ff7e21590e490e5e1a9b5bf65b38b808c7b08c3bb9aff14827cd22d6c4994", func := "sough/soughlaw06.KdfChains", spec := "kdfChains", unfollowed := true, recurses := true, plainKeys := false, apart := false, narrowed := true }
def KdfChainsUptoSaid : Prop := kdfChainsUptoRow.holds Try.pinned (OpenSpec.upto kdfChainsSpec)

/-- 'soughlaw06.KdfMixes', WHERE WHAT IT READS IS OF BULK AT MOST 1048576: true; the input reads as it did. -/
def kdfMixesUptoRow : OpenClaim := { program := "ytglgobimdghehaa", sum := "298ff7e21590e490e5e1a9b5bf65b38b808c7b08c3bb9aff14827cd22d6c4994", func := "sough/soughlaw06.KdfMixes", spec := "kdfMixes", unfollowed := true, recurses := true, plainKeys := false, apart := false, narrowed := true }
def KdfMixesUptoSaid : Prop := kdfMixesUptoRow.holds Try.pinned (OpenSpec.upto kdfMixesSpec)

/-- 'soughlaw06.KdfPuts', WHERE WHAT IT READS IS OF BULK AT MOST 1048576: true; the input reads as it did. -/
def kdfPutsUptoRow : OpenClaim := { program := "ytglgobimdghehaa", sum := "298ff7e21590e490e5e1a9b5bf65b38b808c7b08c3bb9aff14827cd22d6c4994", func := "sough/soughlaw06.KdfPuts", spec := "kdfPuts", unfollowed := true, recurses := true, plainKeys := false, apart := false, narrowed := true }
def KdfPutsUptoSaid : Prop := kdfPutsUptoRow.holds Try.pinned (OpenSpec.upto kdfPutsSpec)

/-- 'soughlaw06.KdfOrder', WHERE WHAT IT READS IS OF BULK AT MOST 1048576: true; the input reads as it did. -/
def kdfOrderUptoRow : OpenClaim := { program := "ytglgobimdghehaa", sum := "298ff7e21590e490e5e1a9b5bf65b38b808c7b08c3bb9aff14827cd22d6c4994", func := "sough/soughlaw06.KdfOrder", spec := "kdfOrder", unfollowed := true, recurses := true, plainKeys := false, apart := false, narrowed := true }
def KdfOrderUptoSaid : Prop := kdfOrderUptoRow.holds Try.pinned (OpenSpec.upto kdfOrderSpec)

/-- 'soughlaw06.KdfRoom', WHERE WHAT IT READS IS OF BULK AT MOST 1048576: true; the input reads as it did. -/
def kdfRoomUptoRow : OpenClaim := { program := "ytglgobimdghehaa", sum := "298ff7e21590e490e5e1a9b5bf65b38b808c7b08c3bb9aff14827cd22d6c4994", func := "sough/soughlaw06.KdfRoom", spec := "kdfRoom", unfollowed := true, recurses := true, plainKeys := false, apart := false, narrowed := true }
def KdfRoomUptoSaid : Prop := kdfRoomUptoRow.holds Try.pinned (OpenSpec.upto kdfRoomSpec)

end Rows
end Go.Proofs.Ytglgobimdghehaa
