/-
  No cell of these rows narrows 'for every input' (looked for: loops, veiled, ifaces, maps, wideKeys, modest, calm, conditions, laid).
  DERIVED. THE GIVEN ROWS OF THIS SEAT. 6 by the template 'for every input the law returns true; each argument reads behind the call as it read before'; 0 by the template 'total and deterministic' (their statements: YtlejejeflgnglaaTotals.lean).
  GIVEN WITH THE SEED: the statements are not yours to turn. If you find one false, say at which input.
  Laid BY PROGRAM, IN A SANDBOX (cutbox-rows.mjs): the forced cells as the released guide's own fill.sh prints them over the translation 33c667670ee437be… (all of the seat's roots in one cut). By AI agents, Wed Nov 11 2026. No macro, syntax, notation, axiom, sorry.
-/
import Derived.Test.YtlejejeflgnglaaChecked
import GoSem.Claim
import GoSem.ClaimJoined
import GoSem.ClaimMapViews
import Derived.JoinedTies
import Derived.KernelRfl
namespace Go.Proofs.Ytlejejeflgnglaa
/- THE CELL 'sum', in the pinned program and in every row, IS THE sha256 OF THE DUMP (.gsa) THAT YtlejejeflgnglaaProg.lean LOADS. Nothing in Lean hashes anything: it is a label: what it is worth is what the hold of that sum in a sandbox is worth. -/
noncomputable def Try.pinned : Pinned := { name := "ytlejejeflgnglaa", sum := "33c667670ee437bef4998ae6c532b20a03162de2f6d10522eef66a2b232165f7", checked := Try.checked }
namespace Rows
def none {H : Type} : Left H := { results := [], args := [] }

/-- 'soughlaw07.SymDoes': WHATEVER THE INPUT: true; the input reads as it did. -/
def symDoesSpec : ChangeSpec := { name := "symDoes", fn := fun _ => fun
  | [d1, d2, d3] => { results := [.lit (.bool true)], args := [d1, d2, d3] }
  | _ => none }
def symDoesRow : OpenClaim := { program := "ytlejejeflgnglaa", sum := "33c667670ee437bef4998ae6c532b20a03162de2f6d10522eef66a2b232165f7", func := "sough/soughlaw07.SymDoes", spec := "symDoes", unfollowed := true, recurses := true, plainKeys := false, apart := false }
def SymDoesSaid : Prop := symDoesRow.holds Try.pinned (OpenSpec.ofChange symDoesSpec)

/-- ITS FALSE NEIGHBOUR: 'it returns false'. Refute it at one input. -/
def symDoesWrong : ChangeSpec := { name := "symDoes", fn := fun _ => fun
  | [d1, d2, d3] => { results := [.lit (.bool false)], args := [d1, d2, d3] }
  | _ => none }
def SymDoesWrongFalsely : Prop := symDoesRow.holds Try.pinned (OpenSpec.ofChange symDoesWrong)

/-- 'soughlaw07.SymBoth': WHATEVER THE INPUT: true; the input reads as it did. -/
def symBothSpec : ChangeSpec := { name := "symBoth", fn := fun _ => fun
  | [d1, d2] => { results := [.lit (.bool true)], args := [d1, d2] }
  | _ => none }
def symBothRow : OpenClaim := { program := "ytlejejeflgnglaa", sum := "33c667670ee437bef4998ae6c532b20a03162de2f6d10522eef66a2b232165f7", func := "sough/soughlaw07.SymBoth", spec := "symBoth", unfollowed := true, recurses := true, plainKeys := false, apart := false }
def SymBothSaid : Prop := symBothRow.holds Try.pinned (OpenSpec.ofChange symBothSpec)

/-- ITS FALSE NEIGHBOUR: 'it returns false'. Refute it at one input. -/
def symBothWrong : ChangeSpec := { name := "symBoth", fn := fun _ => fun
  | [d1, d2] => { results := [.lit (.bool false)], args := [d1, d2] }
  | _ => none }
def SymBothWrongFalsely : Prop := symBothRow.holds Try.pinned (OpenSpec.ofChange symBothWrong)

/-- 'soughlaw07.SymApart': WHATEVER THE INPUT: true; the input reads as it did. -/
def symApartSpec : ChangeSpec := { name := "symApart", fn := fun _ => fun
  | [d1, d2] => { results := [.lit (.bool true)], args := [d1, d2] }
  | _ => none }
def symApartRow : OpenClaim := { program := "ytlejejeflgnglaa", sum := "33c667670ee437bef4998ae6c532b20a03162de2f6d10522eef66a2b232165f7", func := "sough/soughlaw07.SymApart", spec := "symApart", unfollowed := true, recurses := true, plainKeys := false, apart := false }
def SymApartSaid : Prop := symApartRow.holds Try.pinned (OpenSpec.ofChange symApartSpec)

/-- ITS FALSE NEIGHBOUR: 'it returns false'. Refute it at one input. -/
def symApartWrong : ChangeSpec := { name := "symApart", fn := fun _ => fun
  | [d1, d2] => { results := [.lit (.bool false)], args := [d1, d2] }
  | _ => none }
def SymApartWrongFalsely : Prop := symApartRow.holds Try.pinned (OpenSpec.ofChange symApartWrong)

/-- 'soughlaw07.SymCounts': WHATEVER THE INPUT: true; the input reads as it did. -/
def symCountsSpec : ChangeSpec := { name := "symCounts", fn := fun _ => fun
  | [d1, d2] => { results := [.lit (.bool true)], args := [d1, d2] }
  | _ => none }
def symCountsRow : OpenClaim := { program := "ytlejejeflgnglaa", sum := "33c667670ee437bef4998ae6c532b20a03162de2f6d10522eef66a2b232165f7", func := "sough/soughlaw07.SymCounts", spec := "symCounts", unfollowed := true, recurses := true, plainKeys := false, apart := false }
def SymCountsSaid : Prop := symCountsRow.holds Try.pinned (OpenSpec.ofChange symCountsSpec)

/-- ITS FALSE NEIGHBOUR: 'it returns false'. Refute it at one input. -/
def symCountsWrong : ChangeSpec := { name := "symCounts", fn := fun _ => fun
  | [d1, d2] => { results := [.lit (.bool false)], args := [d1, d2] }
  | _ => none }
def SymCountsWrongFalsely : Prop := symCountsRow.holds Try.pinned (OpenSpec.ofChange symCountsWrong)

/-- 'soughlaw07.SymOnce': WHATEVER THE INPUT: true; the input reads as it did. -/
def symOnceSpec : ChangeSpec := { name := "symOnce", fn := fun _ => fun
  | [d1, d2] => { results := [.lit (.bool true)], args := [d1, d2] }
  | _ => none }
def symOnceRow : OpenClaim := { program := "ytlejejeflgnglaa", sum := "33c667670ee437bef4998ae6c532b20a03162de2f6d10522eef66a2b232165f7", func := "sough/soughlaw07.SymOnce", spec := "symOnce", unfollowed := true, recurses := true, plainKeys := false, apart := false }
def SymOnceSaid : Prop := symOnceRow.holds Try.pinned (OpenSpec.ofChange symOnceSpec)

/-- ITS FALSE NEIGHBOUR: 'it returns false'. Refute it at one input. -/
def symOnceWrong : ChangeSpec := { name := "symOnce", fn := fun _ => fun
  | [d1, d2] => { results := [.lit (.bool false)], args := [d1, d2] }
  | _ => none }
def SymOnceWrongFalsely : Prop := symOnceRow.holds Try.pinned (OpenSpec.ofChange symOnceWrong)

/-- 'soughlaw07.SymSplits': WHATEVER THE INPUT: true; the input reads as it did. -/
def symSplitsSpec : ChangeSpec := { name := "symSplits", fn := fun _ => fun
  | [d1, d2] => { results := [.lit (.bool true)], args := [d1, d2] }
  | _ => none }
def symSplitsRow : OpenClaim := { program := "ytlejejeflgnglaa", sum := "33c667670ee437bef4998ae6c532b20a03162de2f6d10522eef66a2b232165f7", func := "sough/soughlaw07.SymSplits", spec := "symSplits", unfollowed := true, recurses := true, plainKeys := false, apart := false }
def SymSplitsSaid : Prop := symSplitsRow.holds Try.pinned (OpenSpec.ofChange symSplitsSpec)

/-- ITS FALSE NEIGHBOUR: 'it returns false'. Refute it at one input. -/
def symSplitsWrong : ChangeSpec := { name := "symSplits", fn := fun _ => fun
  | [d1, d2] => { results := [.lit (.bool false)], args := [d1, d2] }
  | _ => none }
def SymSplitsWrongFalsely : Prop := symSplitsRow.holds Try.pinned (OpenSpec.ofChange symSplitsWrong)

/- THE SECOND FORM. 'bulk': how many values and letters a reading holds, each counted each time it is reached (what is shared counts as often as it is met; a slice's spare places count too). A statement '..UptoSaid' is the law's where the arguments, and the package variables that the reading takes, are together of bulk at most 1048576: NARROWER than '..Said'. Prove '..Said' where nothing that the law and all that it calls make is longer than what came in: it says more and counts as full. Else prove '..UptoSaid'. A law counts once. -/
mutual
def uptoBulk {H : Type} : DataW H → Nat
  | .lit (.string bytes) => bytes.length + 1
  | .lit _ => 1
  | .nil => 1
  | .ptr d => uptoBulk d + 1
  | .slice elems spare => uptoBulkAll elems + uptoBulkAll spare + 1
  | .agg parts => uptoBulkAll parts + 1
  | .iface _ d => uptoBulk d + 1
  | .map entries => uptoBulkEntries entries + 1
  | .held _ => 1
def uptoBulkAll {H : Type} : List (DataW H) → Nat
  | [] => 0
  | d :: r => uptoBulk d + uptoBulkAll r
def uptoBulkEntries {H : Type} : List (Lit × DataW H) → Nat
  | [] => 0
  | x :: r => uptoBulkEntry x + uptoBulkEntries r
def uptoBulkEntry {H : Type} : Lit × DataW H → Nat
  | (.string bytes, d) => bytes.length + uptoBulk d + 1
  | (_, d) => uptoBulk d + 1
 end
def uptoSmall : (H : Type) → List (DataW H) → Bool := fun _ ds => decide (uptoBulkAll ds ≤ 1048576)
def OpenSpec.upto (s : _root_.Go.ChangeSpec) : _root_.Go.OpenSpec := { _root_.Go.OpenSpec.ofChange s with cond := some uptoSmall }

/-- 'soughlaw07.SymDoes', WHERE WHAT IT READS IS OF BULK AT MOST 1048576: true; the input reads as it did. -/
def symDoesUptoRow : OpenClaim := { program := "ytlejejeflgnglaa", sum := "33c667670ee437bef4998ae6c532b20a03162de2f6d10522eef66a2b232165f7", func := "sough/soughlaw07.SymDoes", spec := "symDoes", unfollowed := true, recurses := true, plainKeys := false, apart := false, narrowed := true }
def SymDoesUptoSaid : Prop := symDoesUptoRow.holds Try.pinned (OpenSpec.upto symDoesSpec)

/-- 'soughlaw07.SymBoth', WHERE WHAT IT READS IS OF BULK AT MOST 1048576: true; the input reads as it did. -/
def symBothUptoRow : OpenClaim := { program := "ytlejejeflgnglaa", sum := "33c667670ee437bef4998ae6c532b20a03162de2f6d10522eef66a2b232165f7", func := "sough/soughlaw07.SymBoth", spec := "symBoth", unfollowed := true, recurses := true, plainKeys := false, apart := false, narrowed := true }
def SymBothUptoSaid : Prop := symBothUptoRow.holds Try.pinned (OpenSpec.upto symBothSpec)

/-- 'soughlaw07.SymApart', WHERE WHAT IT READS IS OF BULK AT MOST 1048576: true; the input reads as it did. -/
def symApartUptoRow : OpenClaim := { program := "ytlejejeflgnglaa", sum := "33c667670ee437bef4998ae6c532b20a03162de2f6d10522eef66a2b232165f7", func := "sough/soughlaw07.SymApart", spec := "symApart", unfollowed := true, recurses := true, plainKeys := false, apart := false, narrowed := true }
def SymApartUptoSaid : Prop := symApartUptoRow.holds Try.pinned (OpenSpec.upto symApartSpec)

/-- 'soughlaw07.SymCounts', WHERE WHAT IT READS IS OF BULK AT MOST 1048576: true; the input reads as it did. -/
def symCountsUptoRow : OpenClaim := { program := "ytlejejeflgnglaa", sum := "33c667670ee437bef4998ae6c532b20a03162de2f6d10522eef66a2b232165f7", func := "sough/soughlaw07.SymCounts", spec := "symCounts", unfollowed := true, recurses := true, plainKeys := false, apart := false, narrowed := true }
def SymCountsUptoSaid : Prop := symCountsUptoRow.holds Try.pinned (OpenSpec.upto symCountsSpec)

/-- 'soughlaw07.SymOnce', WHERE WHAT IT READS IS OF BULK AT MOST 1048576: true; the input reads as it did. -/
def symOnceUptoRow : OpenClaim := { program := "ytlejejeflgnglaa", sum := "33c667670ee437bef4998ae6c532b20a03162de2f6d10522eef66a2b232165f7", func := "sough/soughlaw07.SymOnce", spec := "symOnce", unfollowed := true, recurses := true, plainKeys := false, apart := false, narrowed := true }
def SymOnceUptoSaid : Prop := symOnceUptoRow.holds Try.pinned (OpenSpec.upto symOnceSpec)

/-- 'soughlaw07.SymSplits', WHERE WHAT IT READS IS OF BULK AT MOST 1048576: true; the input reads as it did. -/
def symSplitsUptoRow : OpenClaim := { program := "ytlejejeflgnglaa", sum := "33c667670ee437bef4998ae6c532b20a03162de2f6d10522eef66a2b232165f7", func := "sough/soughlaw07.SymSplits", spec := "symSplits", unfollowed := true, recurses := true, plainKeys := false, apart := false, narrowed := true }
def SymSplitsUptoSaid : Prop := symSplitsUptoRow.holds Try.pinned (OpenSpec.upto symSplitsSpec)

end Rows
end Go.Proofs.Ytlejejeflgnglaa
