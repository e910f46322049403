/-
  No cell of these rows narrows 'for every input' (looked for: loops, veiled, ifaces, maps, wideKeys, modest, calm, conditions, laid).
  DERIVED. THE GIVEN ROWS OF THIS SEAT. 8 by the template 'for every input the law returns true; each argument reads behind the call as it read before'; 0 by the template 'total and deterministic' (their statements: YtdhfnbajmjmlbaaTotals.lean).
  GIVEN WITH THE SEED: the statements are not yours to turn. If you find one false, say at which input.
  Laid BY PROGRAM, IN A SANDBOX (cutbox-rows.mjs): the forced cells as the released guide's own fill.sh prints them over the translation 803f588e4de3dd35… (all of the seat's roots in one cut). By AI agents, Wed Nov 11 2026. No macro, syntax, notation, axiom, sorry.
-/
import Derived.Test.YtdhfnbajmjmlbaaChecked
import GoSem.Claim
import GoSem.ClaimJoined
import GoSem.ClaimMapViews
import Derived.JoinedTies
import Derived.KernelRfl
namespace Go.Proofs.Ytdhfnbajmjmlbaa
/- THE CELL 'sum', in the pinned program and in every row, IS THE sha256 OF THE DUMP (.gsa) THAT YtdhfnbajmjmlbaaProg.lean LOADS. Nothing in Lean hashes anything: it is a label: what it is worth is what the hold of that sum in a sandbox is worth. -/
noncomputable def Try.pinned : Pinned := { name := "ytdhfnbajmjmlbaa", sum := "803f588e4de3dd35f07e64501a3e7cf9d407cc48ff3a0eebac19a2e91a78aeee", checked := Try.checked }
namespace Rows
def none {H : Type} : Left H := { results := [], args := [] }

/-- 'soughlaw08.KnowAll': WHATEVER THE INPUT: true; the input reads as it did. -/
def knowAllSpec : ChangeSpec := { name := "knowAll", fn := fun _ => fun
  | [d1, d2, d3] => { results := [.lit (.bool true)], args := [d1, d2, d3] }
  | _ => none }
def knowAllRow : OpenClaim := { program := "ytdhfnbajmjmlbaa", sum := "803f588e4de3dd35f07e64501a3e7cf9d407cc48ff3a0eebac19a2e91a78aeee", func := "sough/soughlaw08.KnowAll", spec := "knowAll", unfollowed := true, recurses := true, plainKeys := false, apart := false }
def KnowAllSaid : Prop := knowAllRow.holds Try.pinned (OpenSpec.ofChange knowAllSpec)

/-- ITS FALSE NEIGHBOUR: 'it returns false'. Refute it at one input. -/
def knowAllWrong : ChangeSpec := { name := "knowAll", fn := fun _ => fun
  | [d1, d2, d3] => { results := [.lit (.bool false)], args := [d1, d2, d3] }
  | _ => none }
def KnowAllWrongFalsely : Prop := knowAllRow.holds Try.pinned (OpenSpec.ofChange knowAllWrong)

/-- 'soughlaw08.KnowGrows': WHATEVER THE INPUT: true; the input reads as it did. -/
def knowGrowsSpec : ChangeSpec := { name := "knowGrows", fn := fun _ => fun
  | [d1, d2, d3] => { results := [.lit (.bool true)], args := [d1, d2, d3] }
  | _ => none }
def knowGrowsRow : OpenClaim := { program := "ytdhfnbajmjmlbaa", sum := "803f588e4de3dd35f07e64501a3e7cf9d407cc48ff3a0eebac19a2e91a78aeee", func := "sough/soughlaw08.KnowGrows", spec := "knowGrows", unfollowed := true, recurses := true, plainKeys := false, apart := false }
def KnowGrowsSaid : Prop := knowGrowsRow.holds Try.pinned (OpenSpec.ofChange knowGrowsSpec)

/-- ITS FALSE NEIGHBOUR: 'it returns false'. Refute it at one input. -/
def knowGrowsWrong : ChangeSpec := { name := "knowGrows", fn := fun _ => fun
  | [d1, d2, d3] => { results := [.lit (.bool false)], args := [d1, d2, d3] }
  | _ => none }
def KnowGrowsWrongFalsely : Prop := knowGrowsRow.holds Try.pinned (OpenSpec.ofChange knowGrowsWrong)

/-- 'soughlaw08.KnowHides': WHATEVER THE INPUT: true; the input reads as it did. -/
def knowHidesSpec : ChangeSpec := { name := "knowHides", fn := fun _ => fun
  | [d1, d2] => { results := [.lit (.bool true)], args := [d1, d2] }
  | _ => none }
def knowHidesRow : OpenClaim := { program := "ytdhfnbajmjmlbaa", sum := "803f588e4de3dd35f07e64501a3e7cf9d407cc48ff3a0eebac19a2e91a78aeee", func := "sough/soughlaw08.KnowHides", spec := "knowHides", unfollowed := true, recurses := true, plainKeys := false, apart := false }
def KnowHidesSaid : Prop := knowHidesRow.holds Try.pinned (OpenSpec.ofChange knowHidesSpec)

/-- ITS FALSE NEIGHBOUR: 'it returns false'. Refute it at one input. -/
def knowHidesWrong : ChangeSpec := { name := "knowHides", fn := fun _ => fun
  | [d1, d2] => { results := [.lit (.bool false)], args := [d1, d2] }
  | _ => none }
def KnowHidesWrongFalsely : Prop := knowHidesRow.holds Try.pinned (OpenSpec.ofChange knowHidesWrong)

/-- 'soughlaw08.KnowSeals': WHATEVER THE INPUT: true; the input reads as it did. -/
def knowSealsSpec : ChangeSpec := { name := "knowSeals", fn := fun _ => fun
  | [d1, d2, d3] => { results := [.lit (.bool true)], args := [d1, d2, d3] }
  | _ => none }
def knowSealsRow : OpenClaim := { program := "ytdhfnbajmjmlbaa", sum := "803f588e4de3dd35f07e64501a3e7cf9d407cc48ff3a0eebac19a2e91a78aeee", func := "sough/soughlaw08.KnowSeals", spec := "knowSeals", unfollowed := true, recurses := true, plainKeys := false, apart := false }
def KnowSealsSaid : Prop := knowSealsRow.holds Try.pinned (OpenSpec.ofChange knowSealsSpec)

/-- ITS FALSE NEIGHBOUR: 'it returns false'. Refute it at one input. -/
def knowSealsWrong : ChangeSpec := { name := "knowSeals", fn := fun _ => fun
  | [d1, d2, d3] => { results := [.lit (.bool false)], args := [d1, d2, d3] }
  | _ => none }
def KnowSealsWrongFalsely : Prop := knowSealsRow.holds Try.pinned (OpenSpec.ofChange knowSealsWrong)

/-- 'soughlaw08.KnowOrder': WHATEVER THE INPUT: true; the input reads as it did. -/
def knowOrderSpec : ChangeSpec := { name := "knowOrder", fn := fun _ => fun
  | [d1, d2] => { results := [.lit (.bool true)], args := [d1, d2] }
  | _ => none }
def knowOrderRow : OpenClaim := { program := "ytdhfnbajmjmlbaa", sum := "803f588e4de3dd35f07e64501a3e7cf9d407cc48ff3a0eebac19a2e91a78aeee", func := "sough/soughlaw08.KnowOrder", spec := "knowOrder", unfollowed := true, recurses := true, plainKeys := false, apart := false }
def KnowOrderSaid : Prop := knowOrderRow.holds Try.pinned (OpenSpec.ofChange knowOrderSpec)

/-- ITS FALSE NEIGHBOUR: 'it returns false'. Refute it at one input. -/
def knowOrderWrong : ChangeSpec := { name := "knowOrder", fn := fun _ => fun
  | [d1, d2] => { results := [.lit (.bool false)], args := [d1, d2] }
  | _ => none }
def KnowOrderWrongFalsely : Prop := knowOrderRow.holds Try.pinned (OpenSpec.ofChange knowOrderWrong)

/-- 'soughlaw08.KnowAsks': WHATEVER THE INPUT: true; the input reads as it did. -/
def knowAsksSpec : ChangeSpec := { name := "knowAsks", fn := fun _ => fun
  | [d1, d2, d3] => { results := [.lit (.bool true)], args := [d1, d2, d3] }
  | _ => none }
def knowAsksRow : OpenClaim := { program := "ytdhfnbajmjmlbaa", sum := "803f588e4de3dd35f07e64501a3e7cf9d407cc48ff3a0eebac19a2e91a78aeee", func := "sough/soughlaw08.KnowAsks", spec := "knowAsks", unfollowed := true, recurses := true, plainKeys := false, apart := false }
def KnowAsksSaid : Prop := knowAsksRow.holds Try.pinned (OpenSpec.ofChange knowAsksSpec)

/-- ITS FALSE NEIGHBOUR: 'it returns false'. Refute it at one input. -/
def knowAsksWrong : ChangeSpec := { name := "knowAsks", fn := fun _ => fun
  | [d1, d2, d3] => { results := [.lit (.bool false)], args := [d1, d2, d3] }
  | _ => none }
def KnowAsksWrongFalsely : Prop := knowAsksRow.holds Try.pinned (OpenSpec.ofChange knowAsksWrong)

/-- 'soughlaw08.KnowShares': WHATEVER THE INPUT: true; the input reads as it did. -/
def knowSharesSpec : ChangeSpec := { name := "knowShares", fn := fun _ => fun
  | [d1, d2, d3] => { results := [.lit (.bool true)], args := [d1, d2, d3] }
  | _ => none }
def knowSharesRow : OpenClaim := { program := "ytdhfnbajmjmlbaa", sum := "803f588e4de3dd35f07e64501a3e7cf9d407cc48ff3a0eebac19a2e91a78aeee", func := "sough/soughlaw08.KnowShares", spec := "knowShares", unfollowed := true, recurses := true, plainKeys := false, apart := false }
def KnowSharesSaid : Prop := knowSharesRow.holds Try.pinned (OpenSpec.ofChange knowSharesSpec)

/-- ITS FALSE NEIGHBOUR: 'it returns false'. Refute it at one input. -/
def knowSharesWrong : ChangeSpec := { name := "knowShares", fn := fun _ => fun
  | [d1, d2, d3] => { results := [.lit (.bool false)], args := [d1, d2, d3] }
  | _ => none }
def KnowSharesWrongFalsely : Prop := knowSharesRow.holds Try.pinned (OpenSpec.ofChange knowSharesWrong)

/-- 'soughlaw08.KnowWraps': WHATEVER THE INPUT: true; the input reads as it did. -/
def knowWrapsSpec : ChangeSpec := { name := "knowWraps", fn := fun _ => fun
  | [d1, d2, d3] => { results := [.lit (.bool true)], args := [d1, d2, d3] }
  | _ => none }
def knowWrapsRow : OpenClaim := { program := "ytdhfnbajmjmlbaa", sum := "803f588e4de3dd35f07e64501a3e7cf9d407cc48ff3a0eebac19a2e91a78aeee", func := "sough/soughlaw08.KnowWraps", spec := "knowWraps", unfollowed := true, recurses := true, plainKeys := false, apart := false }
def KnowWrapsSaid : Prop := knowWrapsRow.holds Try.pinned (OpenSpec.ofChange knowWrapsSpec)

/-- ITS FALSE NEIGHBOUR: 'it returns false'. Refute it at one input. -/
def knowWrapsWrong : ChangeSpec := { name := "knowWraps", fn := fun _ => fun
  | [d1, d2, d3] => { results := [.lit (.bool false)], args := [d1, d2, d3] }
  | _ => none }
def KnowWrapsWrongFalsely : Prop := knowWrapsRow.holds Try.pinned (OpenSpec.ofChange knowWrapsWrong)

/- THE SECOND FORM. 'bulk': how many values and letters a reading holds, each counted each time it is reached (what is shared counts as often as it is met; a slice's spare places count too). A statement '..UptoSaid' is the law's where the arguments, and the package variables that the reading takes, are together of bulk at most 1048576: NARROWER than '..Said'. Prove '..Said' where nothing that the law and all that it calls make is longer than what came in: it says more and counts as full. Else prove '..UptoSaid'. A law counts once. -/
mutual
def uptoBulk {H : Type} : DataW H → Nat
  | .lit (.string bytes) => bytes.length + 1
  | .lit _ => 1
  | .nil => 1
  | .ptr d => uptoBulk d + 1
  | .slice elems spare => uptoBulkAll elems + uptoBulkAll spare + 1
  | .agg parts => uptoBulkAll parts + 1
  | .iface _ d => uptoBulk d + 1
  | .map entries => uptoBulkEntries entries + 1
  | .held _ => 1
def uptoBulkAll {H : Type} : List (DataW H) → Nat
  | [] => 0
  | d :: r => uptoBulk d + uptoBulkAll r
def uptoBulkEntries {H : Type} : List (Lit × DataW H) → Nat
  | [] => 0
  | x :: r => uptoBulkEntry x + uptoBulkEntries r
def uptoBulkEntry {H : Type} : Lit × DataW H → Nat
  | (.string bytes, d) => bytes.length + uptoBulk d + 1
  | (_, d) => uptoBulk d + 1
 end
def uptoSmall : (H : Type) → List (DataW H) → Bool := fun _ ds => decide (uptoBulkAll ds ≤ 1048576)
def OpenSpec.upto (s : _root_.Go.ChangeSpec) : _root_.Go.OpenSpec := { _root_.Go.OpenSpec.ofChange s with cond := some uptoSmall }

/-- 'soughlaw08.KnowAll', WHERE WHAT IT READS IS OF BULK AT MOST 1048576: true; the input reads as it did. -/
def knowAllUptoRow : OpenClaim := { program := "ytdhfnbajmjmlbaa", sum := "803f588e4de3dd35f07e64501a3e7cf9d407cc48ff3a0eebac19a2e91a78aeee", func := "sough/soughlaw08.KnowAll", spec := "knowAll", unfollowed := true, recurses := true, plainKeys := false, apart := false, narrowed := true }
def KnowAllUptoSaid : Prop := knowAllUptoRow.holds Try.pinned (OpenSpec.upto knowAllSpec)

/-- 'soughlaw08.KnowGrows', WHERE WHAT IT READS IS OF BULK AT MOST 1048576: true; the input reads as it did. -/
def knowGrowsUptoRow : OpenClaim := { program := "ytdhfnbajmjmlbaa", sum := "803f588e4de3dd35f07e64501a3e7cf9d407cc48ff3a0eebac19a2e91a78aeee", func := "sough/soughlaw08.KnowGrows", spec := "knowGrows", unfollowed := true, recurses := true, plainKeys := false, apart := false, narrowed := true }
def KnowGrowsUptoSaid : Prop := knowGrowsUptoRow.holds Try.pinned (OpenSpec.upto knowGrowsSpec)

/-- 'soughlaw08.KnowHides', WHERE WHAT IT READS IS OF BULK AT MOST 1048576: true; the input reads as it did. -/
def knowHidesUptoRow : OpenClaim := { program := "ytdhfnbajmjmlbaa", sum := "803f588e4de3dd35f07e64501a3e7cf9d407cc48ff3a0eebac19a2e91a78aeee", func := "sough/soughlaw08.KnowHides", spec := "knowHides", unfollowed := true, recurses := true, plainKeys := false, apart := false, narrowed := true }
def KnowHidesUptoSaid : Prop := knowHidesUptoRow.holds Try.pinned (OpenSpec.upto knowHidesSpec)

/-- 'soughlaw08.KnowSeals', WHERE WHAT IT READS IS OF BULK AT MOST 1048576: true; the input reads as it did. -/
def knowSealsUptoRow : OpenClaim := { program := "ytdhfnbajmjmlbaa", sum := "803f588e4de3dd35f07e64501a3e7cf9d407cc48ff3a0eebac19a2e91a78aeee", func := "sough/soughlaw08.KnowSeals", spec := "knowSeals", unfollowed := true, recurses := true, plainKeys := false, apart := false, narrowed := true }
def KnowSealsUptoSaid : Prop := knowSealsUptoRow.holds Try.pinned (OpenSpec.upto knowSealsSpec)

/-- 'soughlaw08.KnowOrder', WHERE WHAT IT READS IS OF BULK AT MOST 1048576: true; the input reads as it did. -/
def knowOrderUptoRow : OpenClaim := { program := "ytdhfnbajmjmlbaa", sum := "803f588e4de3dd35f07e64501a3e7cf9d407cc48ff3a0eebac19a2e91a78aeee", func := "sough/soughlaw08.KnowOrder", spec := "knowOrder", unfollowed := true, recurses := true, plainKeys := false, apart := false, narrowed := true }
def KnowOrderUptoSaid : Prop := knowOrderUptoRow.holds Try.pinned (OpenSpec.upto knowOrderSpec)

/-- 'soughlaw08.KnowAsks', WHERE WHAT IT READS IS OF BULK AT MOST 1048576: true; the input reads as it did. -/
def knowAsksUptoRow : OpenClaim := { program := "ytdhfnbajmjmlbaa", sum := "803f588e4de3dd35f07e64501a3e7cf9d407cc48ff3a0eebac19a2e91a78aeee", func := "sough/soughlaw08.KnowAsks", spec := "knowAsks", unfollowed := true, recurses := true, plainKeys := false, apart := false, narrowed := true }
def KnowAsksUptoSaid : Prop := knowAsksUptoRow.holds Try.pinned (OpenSpec.upto knowAsksSpec)

/-- 'soughlaw08.KnowShares', WHERE WHAT IT READS IS OF BULK AT MOST 1048576: true; the input reads as it did. -/
def knowSharesUptoRow : OpenClaim := { program := "ytdhfnbajmjmlbaa", sum := "803f588e4de3dd35f07e64501a3e7cf9d407cc48ff3a0eebac19a2e91a78aeee", func := "sough/soughlaw08.KnowShares", spec := "knowShares", unfollowed := true, recurses := true, plainKeys := false, apart := false, narrowed := true }
def KnowSharesUptoSaid : Prop := knowSharesUptoRow.holds Try.pinned (OpenSpec.upto knowSharesSpec)

/-- 'soughlaw08.KnowWraps', WHERE WHAT IT READS IS OF BULK AT MOST 1048576: true; the input reads as it did. -/
def knowWrapsUptoRow : OpenClaim := { program := "ytdhfnbajmjmlbaa", sum := "803f588e4de3dd35f07e64501a3e7cf9d407cc48ff3a0eebac19a2e91a78aeee", func := "sough/soughlaw08.KnowWraps", spec := "knowWraps", unfollowed := true, recurses := true, plainKeys := false, apart := false, narrowed := true }
def KnowWrapsUptoSaid : Prop := knowWrapsUptoRow.holds Try.pinned (OpenSpec.upto knowWrapsSpec)

end Rows
end Go.Proofs.Ytdhfnbajmjmlbaa
