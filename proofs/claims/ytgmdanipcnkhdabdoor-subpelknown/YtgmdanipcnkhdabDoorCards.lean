/-
  DERIVED. GIVEN WITH THE SEED: THE CARDS: each row of YtgmdanipcnkhdabDoorRows.lean that lists a variable, with what it lists TIED to the program's text (the seventh form; the later family's looks); each row that meets fmt, with fmt's text TOLD by the authors' own Lean function (tested against real Go, not proved from fmt's source: count such statements apart). THE CARD IS WHAT COUNTS. Prove the row's statement (the work); the ties are given (YtgmdanipcnkhdabDoorTie.lean); close each card by the builder's one call (the guide's Derived/Test/ToyasCard.lean, 'card_holds'). Laid BY PROGRAM, IN A SANDBOX (cutbox-door.mjs). By AI agents, Wed Nov 11 2026. No macro, syntax, notation, axiom, sorry.
-/
import Derived.Test.YtgmdanipcnkhdabDoorRows
import GoSem.ClaimSeven
namespace Go.Proofs.YtgmdanipcnkhdabDoor
namespace Rows

/-- THE TIED CARD OF 'zoetropelaw14.SubpelParts'. -/
def subpelPartsCard : Claim7 := { stood := { row := subpelPartsRow, standIns := [], harness := (true, "5b3440635c0ec2e4b703b909baab557bc0faa50a716b58a6ad27b791b5b06666"), looks := false }, kinds := [], alts := [], laidByText := true, laidKinds := [.data, .data], laidTests := true, laidLooks := .later }
def SubpelPartsCardSaid : Prop := Claim7.holds Tryd.pinned (.plain (OpenSpec.ofChange subpelPartsSpec)) subpelPartsCard

/-- THE TIED CARD OF 'zoetropelaw14.SubpelBetween'. -/
def subpelBetweenCard : Claim7 := { stood := { row := subpelBetweenRow, standIns := [], harness := (true, "5b3440635c0ec2e4b703b909baab557bc0faa50a716b58a6ad27b791b5b06666"), looks := false }, kinds := [], alts := [], laidByText := true, laidKinds := [.data, .data], laidTests := true, laidLooks := .later }
def SubpelBetweenCardSaid : Prop := Claim7.holds Tryd.pinned (.plain (OpenSpec.ofChange subpelBetweenSpec)) subpelBetweenCard

/-- THE TIED CARD OF 'zoetropelaw14.SubpelKnown'. -/
def subpelKnownCard : Claim7 := { stood := { row := subpelKnownRow, standIns := [], harness := (true, "5b3440635c0ec2e4b703b909baab557bc0faa50a716b58a6ad27b791b5b06666"), looks := false }, kinds := [], alts := [], laidByText := true, laidKinds := [.data, .data], laidTests := true, laidLooks := .later }
def SubpelKnownCardSaid : Prop := Claim7.holds Tryd.pinned (.plain (OpenSpec.ofChange subpelKnownSpec)) subpelKnownCard

/-- THE SECOND FORM's CARD OF 'zoetropelaw14.SubpelParts'. -/
def subpelPartsUptoCard : Claim7 := { stood := { row := subpelPartsUptoRow, standIns := [], harness := (true, "5b3440635c0ec2e4b703b909baab557bc0faa50a716b58a6ad27b791b5b06666"), looks := false }, kinds := [], alts := [], laidByText := true, laidKinds := [.data, .data], laidTests := true, laidLooks := .later }
def SubpelPartsUptoCardSaid : Prop := Claim7.holds Tryd.pinned (.plain (OpenSpec.upto subpelPartsSpec)) subpelPartsUptoCard

/-- THE SECOND FORM's CARD OF 'zoetropelaw14.SubpelBetween'. -/
def subpelBetweenUptoCard : Claim7 := { stood := { row := subpelBetweenUptoRow, standIns := [], harness := (true, "5b3440635c0ec2e4b703b909baab557bc0faa50a716b58a6ad27b791b5b06666"), looks := false }, kinds := [], alts := [], laidByText := true, laidKinds := [.data, .data], laidTests := true, laidLooks := .later }
def SubpelBetweenUptoCardSaid : Prop := Claim7.holds Tryd.pinned (.plain (OpenSpec.upto subpelBetweenSpec)) subpelBetweenUptoCard

/-- THE SECOND FORM's CARD OF 'zoetropelaw14.SubpelKnown'. -/
def subpelKnownUptoCard : Claim7 := { stood := { row := subpelKnownUptoRow, standIns := [], harness := (true, "5b3440635c0ec2e4b703b909baab557bc0faa50a716b58a6ad27b791b5b06666"), looks := false }, kinds := [], alts := [], laidByText := true, laidKinds := [.data, .data], laidTests := true, laidLooks := .later }
def SubpelKnownUptoCardSaid : Prop := Claim7.holds Tryd.pinned (.plain (OpenSpec.upto subpelKnownSpec)) subpelKnownUptoCard
end Rows
end Go.Proofs.YtgmdanipcnkhdabDoor
