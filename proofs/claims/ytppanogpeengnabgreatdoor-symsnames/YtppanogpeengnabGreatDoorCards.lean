/-
  DERIVED. GIVEN WITH THE SEED: THE CARDS: each row of YtppanogpeengnabGreatDoorRows.lean that lists a variable, with what it lists TIED to the program's text (the seventh form; the later family's looks); each row that meets fmt, with fmt's text TOLD by the authors' own Lean function (tested against real Go, not proved from fmt's source: count such statements apart). THE CARD IS WHAT COUNTS. Prove the row's statement (the work); the ties are given (YtppanogpeengnabGreatDoorTie.lean); close each card by the builder's one call (the guide's Derived/Test/ToyasCard.lean, 'card_holds'). Laid BY PROGRAM, IN A SANDBOX (cutbox-door.mjs). By AI agents, Wed Nov 11 2026. No macro, syntax, notation, axiom, sorry.
-/
import Derived.Test.YtppanogpeengnabGreatDoorRows
import GoSem.ClaimSeven
namespace Go.Proofs.YtppanogpeengnabGreatDoor
namespace Rows

/-- THE TIED CARD OF 'zoetropelaw04.SymsNames'. -/
def symsNamesCard : Claim7 := { stood := { row := symsNamesRow, standIns := [], harness := (true, "403da9c92c203bf72bde9a098fcecd73f3c2f03a9ceec2de3a05160e630f1842"), looks := false }, kinds := [], alts := [], laidByText := true, laidKinds := [.data, .data, .pinned], laidTests := true, laidLooks := .later }
def SymsNamesCardSaid : Prop := Claim7.holds Tryz.pinned (.plain (OpenSpec.ofChange symsNamesSpec)) symsNamesCard

/-- THE SECOND FORM's CARD OF 'zoetropelaw04.SymsNames'. -/
def symsNamesUptoCard : Claim7 := { stood := { row := symsNamesUptoRow, standIns := [], harness := (true, "403da9c92c203bf72bde9a098fcecd73f3c2f03a9ceec2de3a05160e630f1842"), looks := false }, kinds := [], alts := [], laidByText := true, laidKinds := [.data, .data, .pinned], laidTests := true, laidLooks := .later }
def SymsNamesUptoCardSaid : Prop := Claim7.holds Tryz.pinned (.plain (OpenSpec.upto symsNamesSpec)) symsNamesUptoCard
end Rows
end Go.Proofs.YtppanogpeengnabGreatDoor
