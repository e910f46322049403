/-
  No cell of these rows narrows 'for every input' (looked for: loops, veiled, ifaces, maps, wideKeys, modest, calm, conditions, laid).
  DERIVED. THE GIVEN ROWS OF THIS SEAT. 5 by the template 'for every input the law returns true; each argument reads behind the call as it read before'; 0 by the template 'total and deterministic' (their statements: YtpbcndbmmphngaaTotals.lean).
  GIVEN WITH THE SEED: the statements are not yours to turn. If you find one false, say at which input.
  Laid BY PROGRAM, IN A SANDBOX (cutbox-rows.mjs): the forced cells as the released guide's own fill.sh prints them over the translation ebcd42d5ff641473… (all of the seat's roots in one cut). By AI agents, Wed Nov 11 2026. No macro, syntax, notation, axiom, sorry.
-/
import Derived.Test.YtpbcndbmmphngaaChecked
import GoSem.Claim
import GoSem.ClaimJoined
import GoSem.ClaimMapViews
import Derived.JoinedTies
import Derived.KernelRfl
namespace Go.Proofs.Ytpbcndbmmphngaa
/- THE CELL 'sum', in the pinned program and in every row, IS THE sha256 OF THE DUMP (.gsa) THAT YtpbcndbmmphngaaProg.lean LOADS. Nothing in Lean hashes anything: it is a label: what it is worth is what the hold of that sum in a sandbox is worth. -/
noncomputable def Try.pinned : Pinned := { name := "ytpbcndbmmphngaa", sum := "ebcd42d5ff641473ee601fbe574771dce28d0c2ce80acf3f090764693fe893fa", checked := Try.checked }
namespace Rows
def none {H : Type} : Left H := { results := [], args := [] }

/-- 'soughlaw16.SkipDoes': WHATEVER THE INPUT: true; the input reads as it did. -/
def skipDoesSpec : ChangeSpec := { name := "skipDoes", fn := fun _ => fun
  | [d1, d2] => { results := [.lit (.bool true)], args := [d1, d2] }
  | _ => none }
def skipDoesRow : OpenClaim := { program := "ytpbcndbmmphngaa", sum := "ebcd42d5ff641473ee601fbe574771dce28d0c2ce80acf3f090764693fe893fa", func := "sough/soughlaw16.SkipDoes", spec := "skipDoes", inPlace := ["slices.overlaps[sough/skip.Entry]"], unfollowed := true, recurses := true, apart := false }
def SkipDoesSaid : Prop := skipDoesRow.holds Try.pinned (OpenSpec.ofChange skipDoesSpec)

/-- ITS FALSE NEIGHBOUR: 'it returns false'. Refute it at one input. -/
def skipDoesWrong : ChangeSpec := { name := "skipDoes", fn := fun _ => fun
  | [d1, d2] => { results := [.lit (.bool false)], args := [d1, d2] }
  | _ => none }
def SkipDoesWrongFalsely : Prop := skipDoesRow.holds Try.pinned (OpenSpec.ofChange skipDoesWrong)

/-- 'soughlaw16.SkipBounds': WHATEVER THE INPUT: true; the input reads as it did. -/
def skipBoundsSpec : ChangeSpec := { name := "skipBounds", fn := fun _ => fun
  | [d] => { results := [.lit (.bool true)], args := [d] }
  | _ => none }
def skipBoundsRow : OpenClaim := { program := "ytpbcndbmmphngaa", sum := "ebcd42d5ff641473ee601fbe574771dce28d0c2ce80acf3f090764693fe893fa", func := "sough/soughlaw16.SkipBounds", spec := "skipBounds", inPlace := ["slices.overlaps[sough/skip.Entry]"], unfollowed := true, recurses := true, apart := false }
def SkipBoundsSaid : Prop := skipBoundsRow.holds Try.pinned (OpenSpec.ofChange skipBoundsSpec)

/-- ITS FALSE NEIGHBOUR: 'it returns false'. Refute it at one input. -/
def skipBoundsWrong : ChangeSpec := { name := "skipBounds", fn := fun _ => fun
  | [d] => { results := [.lit (.bool false)], args := [d] }
  | _ => none }
def SkipBoundsWrongFalsely : Prop := skipBoundsRow.holds Try.pinned (OpenSpec.ofChange skipBoundsWrong)

/-- 'soughlaw16.SkipCopies': WHATEVER THE INPUT: true; the input reads as it did. -/
def skipCopiesSpec : ChangeSpec := { name := "skipCopies", fn := fun _ => fun
  | [d1, d2] => { results := [.lit (.bool true)], args := [d1, d2] }
  | _ => none }
def skipCopiesRow : OpenClaim := { program := "ytpbcndbmmphngaa", sum := "ebcd42d5ff641473ee601fbe574771dce28d0c2ce80acf3f090764693fe893fa", func := "sough/soughlaw16.SkipCopies", spec := "skipCopies", inPlace := ["slices.overlaps[sough/skip.Entry]"], unfollowed := true, recurses := true, apart := false }
def SkipCopiesSaid : Prop := skipCopiesRow.holds Try.pinned (OpenSpec.ofChange skipCopiesSpec)

/-- ITS FALSE NEIGHBOUR: 'it returns false'. Refute it at one input. -/
def skipCopiesWrong : ChangeSpec := { name := "skipCopies", fn := fun _ => fun
  | [d1, d2] => { results := [.lit (.bool false)], args := [d1, d2] }
  | _ => none }
def SkipCopiesWrongFalsely : Prop := skipCopiesRow.holds Try.pinned (OpenSpec.ofChange skipCopiesWrong)

/-- 'soughlaw16.SkipOrder': WHATEVER THE INPUT: true; the input reads as it did. -/
def skipOrderSpec : ChangeSpec := { name := "skipOrder", fn := fun _ => fun
  | [d] => { results := [.lit (.bool true)], args := [d] }
  | _ => none }
def skipOrderRow : OpenClaim := { program := "ytpbcndbmmphngaa", sum := "ebcd42d5ff641473ee601fbe574771dce28d0c2ce80acf3f090764693fe893fa", func := "sough/soughlaw16.SkipOrder", spec := "skipOrder", inPlace := ["slices.overlaps[sough/skip.Entry]"], unfollowed := true, recurses := true, apart := false }
def SkipOrderSaid : Prop := skipOrderRow.holds Try.pinned (OpenSpec.ofChange skipOrderSpec)

/-- ITS FALSE NEIGHBOUR: 'it returns false'. Refute it at one input. -/
def skipOrderWrong : ChangeSpec := { name := "skipOrder", fn := fun _ => fun
  | [d] => { results := [.lit (.bool false)], args := [d] }
  | _ => none }
def SkipOrderWrongFalsely : Prop := skipOrderRow.holds Try.pinned (OpenSpec.ofChange skipOrderWrong)

/-- 'soughlaw16.SkipLeast': WHATEVER THE INPUT: true; the input reads as it did. -/
def skipLeastSpec : ChangeSpec := { name := "skipLeast", fn := fun _ => fun
  | [d1, d2] => { results := [.lit (.bool true)], args := [d1, d2] }
  | _ => none }
def skipLeastRow : OpenClaim := { program := "ytpbcndbmmphngaa", sum := "ebcd42d5ff641473ee601fbe574771dce28d0c2ce80acf3f090764693fe893fa", func := "sough/soughlaw16.SkipLeast", spec := "skipLeast", inPlace := ["slices.overlaps[sough/skip.Entry]"], unfollowed := true, recurses := true, apart := false }
def SkipLeastSaid : Prop := skipLeastRow.holds Try.pinned (OpenSpec.ofChange skipLeastSpec)

/-- ITS FALSE NEIGHBOUR: 'it returns false'. Refute it at one input. -/
def skipLeastWrong : ChangeSpec := { name := "skipLeast", fn := fun _ => fun
  | [d1, d2] => { results := [.lit (.bool false)], args := [d1, d2] }
  | _ => none }
def SkipLeastWrongFalsely : Prop := skipLeastRow.holds Try.pinned (OpenSpec.ofChange skipLeastWrong)

/- THE SECOND FORM. 'bulk': how many values and letters a reading holds, each counted each time it is reached (what is shared counts as often as it is met; a slice's spare places count too). A statement '..UptoSaid' is the law's where the arguments, and the package variables that the reading takes, are together of bulk at most 1048576: NARROWER than '..Said'. Prove '..Said' where nothing that the law and all that it calls make is longer than what came in: it says more and counts as full. Else prove '..UptoSaid'. A law counts once. -/
mutual
def uptoBulk {H : Type} : DataW H → Nat
  | .lit (.string bytes) => bytes.length + 1
  | .lit _ => 1
  | .nil => 1
  | .ptr d => uptoBulk d + 1
  | .slice elems spare => uptoBulkAll elems + uptoBulkAll spare + 1
  | .agg parts => uptoBulkAll parts + 1
  | .iface _ d => uptoBulk d + 1
  | .map entries => uptoBulkEntries entries + 1
  | .held _ => 1
def uptoBulkAll {H : Type} : List (DataW H) → Nat
  | [] => 0
  | d :: r => uptoBulk d + uptoBulkAll r
def uptoBulkEntries {H : Type} : List (Lit × DataW H) → Nat
  | [] => 0
  | x :: r => uptoBulkEntry x + uptoBulkEntries r
def uptoBulkEntry {H : Type} : Lit × DataW H → Nat
  | (.string bytes, d) => bytes.length + uptoBulk d + 1
  | (_, d) => uptoBulk d + 1
 end
def uptoSmall : (H : Type) → List (DataW H) → Bool := fun _ ds => decide (uptoBulkAll ds ≤ 1048576)
def OpenSpec.upto (s : _root_.Go.ChangeSpec) : _root_.Go.OpenSpec := { _root_.Go.OpenSpec.ofChange s with cond := some uptoSmall }

/-- 'soughlaw16.SkipDoes', WHERE WHAT IT READS IS OF BULK AT MOST 1048576: true; the input reads as it did. -/
def skipDoesUptoRow : OpenClaim := { program := "ytpbcndbmmphngaa", sum := "ebcd42d5ff641473ee601fbe574771dce28d0c2ce80acf3f090764693fe893fa", func := "sough/soughlaw16.SkipDoes", spec := "skipDoes", inPlace := ["slices.overlaps[sough/skip.Entry]"], unfollowed := true, recurses := true, apart := false, narrowed := true }
def SkipDoesUptoSaid : Prop := skipDoesUptoRow.holds Try.pinned (OpenSpec.upto skipDoesSpec)

/-- 'soughlaw16.SkipBounds', WHERE WHAT IT READS IS OF BULK AT MOST 1048576: true; the input reads as it did. -/
def skipBoundsUptoRow : OpenClaim := { program := "ytpbcndbmmphngaa", sum := "ebcd42d5ff641473ee601fbe574771dce28d0c2ce80acf3f090764693fe893fa", func := "sough/soughlaw16.SkipBounds", spec := "skipBounds", inPlace := ["slices.overlaps[sough/skip.Entry]"], unfollowed := true, recurses := true, apart := false, narrowed := true }
def SkipBoundsUptoSaid : Prop := skipBoundsUptoRow.holds Try.pinned (OpenSpec.upto skipBoundsSpec)

/-- 'soughlaw16.SkipCopies', WHERE WHAT IT READS IS OF BULK AT MOST 1048576: true; the input reads as it did. -/
def skipCopiesUptoRow : OpenClaim := { program := "ytpbcndbmmphngaa", sum := "ebcd42d5ff641473ee601fbe574771dce28d0c2ce80acf3f090764693fe893fa", func := "sough/soughlaw16.SkipCopies", spec := "skipCopies", inPlace := ["slices.overlaps[sough/skip.Entry]"], unfollowed := true, recurses := true, apart := false, narrowed := true }
def SkipCopiesUptoSaid : Prop := skipCopiesUptoRow.holds Try.pinned (OpenSpec.upto skipCopiesSpec)

/-- 'soughlaw16.SkipOrder', WHERE WHAT IT READS IS OF BULK AT MOST 1048576: true; the input reads as it did. -/
def skipOrderUptoRow : OpenClaim := { program := "ytpbcndbmmphngaa", sum := "ebcd42d5ff641473ee601fbe574771dce28d0c2ce80acf3f090764693fe893fa", func := "sough/soughlaw16.SkipOrder", spec := "skipOrder", inPlace := ["slices.overlaps[sough/skip.Entry]"], unfollowed := true, recurses := true, apart := false, narrowed := true }
def SkipOrderUptoSaid : Prop := skipOrderUptoRow.holds Try.pinned (OpenSpec.upto skipOrderSpec)

/-- 'soughlaw16.SkipLeast', WHERE WHAT IT READS IS OF BULK AT MOST 1048576: true; the input reads as it did. -/
def skipLeastUptoRow : OpenClaim := { program := "ytpbcndbmmphngaa", sum := "ebcd42d5ff641473ee601fbe574771dce28d0c2ce80acf3f090764693fe893fa", func := "sough/soughlaw16.SkipLeast", spec := "skipLeast", inPlace := ["slices.overlaps[sough/skip.Entry]"], unfollowed := true, recurses := true, apart := false, narrowed := true }
def SkipLeastUptoSaid : Prop := skipLeastUptoRow.holds Try.pinned (OpenSpec.upto skipLeastSpec)

end Rows
end Go.Proofs.Ytpbcndbmmphngaa
