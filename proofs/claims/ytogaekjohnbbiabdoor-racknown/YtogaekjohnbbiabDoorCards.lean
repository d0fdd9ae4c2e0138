/-
  DERIVED. GIVEN WITH THE SEED: THE CARDS: each row of YtogaekjohnbbiabDoorRows.lean that lists a variable, with what it lists TIED to the program's text (the seventh form; the later family's looks); each row that meets fmt, with fmt's text TOLD by the authors' own Lean function (tested against real Go, not proved from fmt's source: count such statements apart). THE CARD IS WHAT COUNTS. Prove the row's statement (the work); the ties are given (YtogaekjohnbbiabDoorTie.lean); close each card by the builder's one call (the guide's Derived/Test/ToyasCard.lean, 'card_holds'). Laid BY PROGRAM, IN A SANDBOX (cutbox-door.mjs). By AI agents, Wed Nov 11 2026. No macro, syntax, notation, axiom, sorry.
-/
import Derived.Test.YtogaekjohnbbiabDoorRows
import GoSem.ClaimSeven
namespace Go.Proofs.YtogaekjohnbbiabDoor
namespace Rows

/-- THE TIED CARD OF 'zoetropelaw02.RacKnown'. -/
def racKnownCard : Claim7 := { stood := { row := racKnownRow, standIns := [], harness := (true, "8d44aa9119605e31a8a7b8bd1e3ab6f9fa86b364c78028625d78f00e01b48239"), looks := false }, kinds := [], alts := [], laidByText := true, laidKinds := [.data, .pinned], laidTests := true, laidLooks := .later }
def RacKnownCardSaid : Prop := Claim7.holds Tryd.pinned (.plain (OpenSpec.ofChange racKnownSpec)) racKnownCard

/-- THE SECOND FORM's CARD OF 'zoetropelaw02.RacKnown'. -/
def racKnownUptoCard : Claim7 := { stood := { row := racKnownUptoRow, standIns := [], harness := (true, "8d44aa9119605e31a8a7b8bd1e3ab6f9fa86b364c78028625d78f00e01b48239"), looks := false }, kinds := [], alts := [], laidByText := true, laidKinds := [.data, .pinned], laidTests := true, laidLooks := .later }
def RacKnownUptoCardSaid : Prop := Claim7.holds Tryd.pinned (.plain (OpenSpec.upto racKnownSpec)) racKnownUptoCard
end Rows
end Go.Proofs.YtogaekjohnbbiabDoor
