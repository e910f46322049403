/-
  DERIVED. GIVEN WITH THE SEED: THE CARDS: each row of YtgeonppckeiceaaGreatDoorRows.lean that lists a variable, with what it lists TIED to the program's text (the seventh form; the later family's looks); each row that meets fmt, with fmt's text TOLD by the authors' own Lean function (tested against real Go, not proved from fmt's source: count such statements apart). THE CARD IS WHAT COUNTS. Prove the row's statement (the work); the ties are given (YtgeonppckeiceaaGreatDoorTie.lean); close each card by the builder's one call (the guide's Derived/Test/ToyasCard.lean, 'card_holds'). Laid BY PROGRAM, IN A SANDBOX (cutbox-door.mjs). By AI agents, Wed Nov 11 2026. No macro, syntax, notation, axiom, sorry.
-/
import Derived.Test.YtgeonppckeiceaaGreatDoorRows
import GoSem.ClaimSeven
namespace Go.Proofs.YtgeonppckeiceaaGreatDoor
namespace Rows

/-- THE TIED CARD OF 'soughlaw17.HandTells'. -/
def handTellsCard : Claim7 := { stood := { row := handTellsRow, standIns := [], harness := (true, "214d8958b74491cbef1c0d449ff4d349e3047b1a9571b3ced18372bfe132fcea"), looks := true }, kinds := [], alts := [], laidByText := true, laidKinds := [.data, .data, .data], laidTests := true, laidLooks := .later }
def HandTellsCardSaid : Prop := Claim7.holds Tryz.pinned (.plain (OpenSpec.ofChange handTellsSpec)) handTellsCard

/-- THE TIED CARD OF 'soughlaw17.HandMeets'. -/
def handMeetsCard : Claim7 := { stood := { row := handMeetsRow, standIns := [], harness := (true, "214d8958b74491cbef1c0d449ff4d349e3047b1a9571b3ced18372bfe132fcea"), looks := true }, kinds := [], alts := [], laidByText := true, laidKinds := [.data, .data, .data], laidTests := true, laidLooks := .later }
def HandMeetsCardSaid : Prop := Claim7.holds Tryz.pinned (.plain (OpenSpec.ofChange handMeetsSpec)) handMeetsCard

/-- THE TIED CARD OF 'soughlaw17.HandBinds'. -/
def handBindsCard : Claim7 := { stood := { row := handBindsRow, standIns := [], harness := (true, "214d8958b74491cbef1c0d449ff4d349e3047b1a9571b3ced18372bfe132fcea"), looks := true }, kinds := [], alts := [], laidByText := true, laidKinds := [.data, .data, .data], laidTests := true, laidLooks := .later }
def HandBindsCardSaid : Prop := Claim7.holds Tryz.pinned (.plain (OpenSpec.ofChange handBindsSpec)) handBindsCard

/-- THE TIED CARD OF 'soughlaw17.HandHides'. -/
def handHidesCard : Claim7 := { stood := { row := handHidesRow, standIns := [], harness := (true, "214d8958b74491cbef1c0d449ff4d349e3047b1a9571b3ced18372bfe132fcea"), looks := true }, kinds := [], alts := [], laidByText := true, laidKinds := [.data, .data, .data], laidTests := true, laidLooks := .later }
def HandHidesCardSaid : Prop := Claim7.holds Tryz.pinned (.plain (OpenSpec.ofChange handHidesSpec)) handHidesCard

/-- THE TIED CARD OF 'soughlaw17.HandErased'. -/
def handErasedCard : Claim7 := { stood := { row := handErasedRow, standIns := [], harness := (true, "214d8958b74491cbef1c0d449ff4d349e3047b1a9571b3ced18372bfe132fcea"), looks := true }, kinds := [], alts := [], laidByText := true, laidKinds := [.data, .data, .data], laidTests := true, laidLooks := .later }
def HandErasedCardSaid : Prop := Claim7.holds Tryz.pinned (.plain (OpenSpec.ofChange handErasedSpec)) handErasedCard

/-- THE TIED CARD OF 'soughlaw17.HandStranger'. -/
def handStrangerCard : Claim7 := { stood := { row := handStrangerRow, standIns := [], harness := (true, "214d8958b74491cbef1c0d449ff4d349e3047b1a9571b3ced18372bfe132fcea"), looks := true }, kinds := [], alts := [], laidByText := true, laidKinds := [.data, .data, .data], laidTests := true, laidLooks := .later }
def HandStrangerCardSaid : Prop := Claim7.holds Tryz.pinned (.plain (OpenSpec.ofChange handStrangerSpec)) handStrangerCard

/-- THE TIED CARD OF 'soughlaw17.HandTurned'. -/
def handTurnedCard : Claim7 := { stood := { row := handTurnedRow, standIns := [], harness := (true, "214d8958b74491cbef1c0d449ff4d349e3047b1a9571b3ced18372bfe132fcea"), looks := true }, kinds := [], alts := [], laidByText := true, laidKinds := [.data, .data, .data], laidTests := true, laidLooks := .later }
def HandTurnedCardSaid : Prop := Claim7.holds Tryz.pinned (.plain (OpenSpec.ofChange handTurnedSpec)) handTurnedCard

/-- THE TIED CARD OF 'soughlaw17.HandApart'. -/
def handApartCard : Claim7 := { stood := { row := handApartRow, standIns := [], harness := (true, "214d8958b74491cbef1c0d449ff4d349e3047b1a9571b3ced18372bfe132fcea"), looks := true }, kinds := [], alts := [], laidByText := true, laidKinds := [.data, .data, .data], laidTests := true, laidLooks := .later }
def HandApartCardSaid : Prop := Claim7.holds Tryz.pinned (.plain (OpenSpec.ofChange handApartSpec)) handApartCard

/-- THE TIED CARD OF 'soughlaw17.HandEnds'. -/
def handEndsCard : Claim7 := { stood := { row := handEndsRow, standIns := [], harness := (true, "214d8958b74491cbef1c0d449ff4d349e3047b1a9571b3ced18372bfe132fcea"), looks := true }, kinds := [], alts := [], laidByText := true, laidKinds := [.data, .data, .data], laidTests := true, laidLooks := .later }
def HandEndsCardSaid : Prop := Claim7.holds Tryz.pinned (.plain (OpenSpec.ofChange handEndsSpec)) handEndsCard

/-- THE SECOND FORM's CARD OF 'soughlaw17.HandTells'. -/
def handTellsUptoCard : Claim7 := { stood := { row := handTellsUptoRow, standIns := [], harness := (true, "214d8958b74491cbef1c0d449ff4d349e3047b1a9571b3ced18372bfe132fcea"), looks := true }, kinds := [], alts := [], laidByText := true, laidKinds := [.data, .data, .data], laidTests := true, laidLooks := .later }
def HandTellsUptoCardSaid : Prop := Claim7.holds Tryz.pinned (.plain (OpenSpec.upto handTellsSpec)) handTellsUptoCard

/-- THE SECOND FORM's CARD OF 'soughlaw17.HandMeets'. -/
def handMeetsUptoCard : Claim7 := { stood := { row := handMeetsUptoRow, standIns := [], harness := (true, "214d8958b74491cbef1c0d449ff4d349e3047b1a9571b3ced18372bfe132fcea"), looks := true }, kinds := [], alts := [], laidByText := true, laidKinds := [.data, .data, .data], laidTests := true, laidLooks := .later }
def HandMeetsUptoCardSaid : Prop := Claim7.holds Tryz.pinned (.plain (OpenSpec.upto handMeetsSpec)) handMeetsUptoCard

/-- THE SECOND FORM's CARD OF 'soughlaw17.HandBinds'. -/
def handBindsUptoCard : Claim7 := { stood := { row := handBindsUptoRow, standIns := [], harness := (true, "214d8958b74491cbef1c0d449ff4d349e3047b1a9571b3ced18372bfe132fcea"), looks := true }, kinds := [], alts := [], laidByText := true, laidKinds := [.data, .data, .data], laidTests := true, laidLooks := .later }
def HandBindsUptoCardSaid : Prop := Claim7.holds Tryz.pinned (.plain (OpenSpec.upto handBindsSpec)) handBindsUptoCard

/-- THE SECOND FORM's CARD OF 'soughlaw17.HandHides'. -/
def handHidesUptoCard : Claim7 := { stood := { row := handHidesUptoRow, standIns := [], harness := (true, "214d8958b74491cbef1c0d449ff4d349e3047b1a9571b3ced18372bfe132fcea"), looks := true }, kinds := [], alts := [], laidByText := true, laidKinds := [.data, .data, .data], laidTests := true, laidLooks := .later }
def HandHidesUptoCardSaid : Prop := Claim7.holds Tryz.pinned (.plain (OpenSpec.upto handHidesSpec)) handHidesUptoCard

/-- THE SECOND FORM's CARD OF 'soughlaw17.HandErased'. -/
def handErasedUptoCard : Claim7 := { stood := { row := handErasedUptoRow, standIns := [], harness := (true, "214d8958b74491cbef1c0d449ff4d349e3047b1a9571b3ced18372bfe132fcea"), looks := true }, kinds := [], alts := [], laidByText := true, laidKinds := [.data, .data, .data], laidTests := true, laidLooks := .later }
def HandErasedUptoCardSaid : Prop := Claim7.holds Tryz.pinned (.plain (OpenSpec.upto handErasedSpec)) handErasedUptoCard

/-- THE SECOND FORM's CARD OF 'soughlaw17.HandStranger'. -/
def handStrangerUptoCard : Claim7 := { stood := { row := handStrangerUptoRow, standIns := [], harness := (true, "214d8958b74491cbef1c0d449ff4d349e3047b1a9571b3ced18372bfe132fcea"), looks := true }, kinds := [], alts := [], laidByText := true, laidKinds := [.data, .data, .data], laidTests := true, laidLooks := .later }
def HandStrangerUptoCardSaid : Prop := Claim7.holds Tryz.pinned (.plain (OpenSpec.upto handStrangerSpec)) handStrangerUptoCard

/-- THE SECOND FORM's CARD OF 'soughlaw17.HandTurned'. -/
def handTurnedUptoCard : Claim7 := { stood := { row := handTurnedUptoRow, standIns := [], harness := (true, "214d8958b74491cbef1c0d449ff4d349e3047b1a9571b3ced18372bfe132fcea"), looks := true }, kinds := [], alts := [], laidByText := true, laidKinds := [.data, .data, .data], laidTests := true, laidLooks := .later }
def HandTurnedUptoCardSaid : Prop := Claim7.holds Tryz.pinned (.plain (OpenSpec.upto handTurnedSpec)) handTurnedUptoCard

/-- THE SECOND FORM's CARD OF 'soughlaw17.HandApart'. -/
def handApartUptoCard : Claim7 := { stood := { row := handApartUptoRow, standIns := [], harness := (true, "214d8958b74491cbef1c0d449ff4d349e3047b1a9571b3ced18372bfe132fcea"), looks := true }, kinds := [], alts := [], laidByText := true, laidKinds := [.data, .data, .data], laidTests := true, laidLooks := .later }
def HandApartUptoCardSaid : Prop := Claim7.holds Tryz.pinned (.plain (OpenSpec.upto handApartSpec)) handApartUptoCard

/-- THE SECOND FORM's CARD OF 'soughlaw17.HandEnds'. -/
def handEndsUptoCard : Claim7 := { stood := { row := handEndsUptoRow, standIns := [], harness := (true, "214d8958b74491cbef1c0d449ff4d349e3047b1a9571b3ced18372bfe132fcea"), looks := true }, kinds := [], alts := [], laidByText := true, laidKinds := [.data, .data, .data], laidTests := true, laidLooks := .later }
def HandEndsUptoCardSaid : Prop := Claim7.holds Tryz.pinned (.plain (OpenSpec.upto handEndsSpec)) handEndsUptoCard
end Rows
end Go.Proofs.YtgeonppckeiceaaGreatDoor
