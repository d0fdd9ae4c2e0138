/-
  DERIVED. GIVEN WITH THE SEED: THE CARDS: each row of YtjbipejpegmmoabDoorRows.lean that lists a variable, with what it lists TIED to the program's text (the seventh form; the later family's looks); each row that meets fmt, with fmt's text TOLD by the authors' own Lean function (tested against real Go, not proved from fmt's source: count such statements apart). THE CARD IS WHAT COUNTS. Prove the row's statement (the work); the ties are given (YtjbipejpegmmoabDoorTie.lean); close each card by the builder's one call (the guide's Derived/Test/ToyasCard.lean, 'card_holds'). Laid BY PROGRAM, IN A SANDBOX (cutbox-door.mjs). By AI agents, Wed Nov 11 2026. No macro, syntax, notation, axiom, sorry.
-/
import Derived.Test.YtjbipejpegmmoabDoorRows
import GoSem.ClaimSeven
namespace Go.Proofs.YtjbipejpegmmoabDoor
namespace Rows

/-- THE TIED CARD OF 'zoetropelaw07.BasisKnown'. -/
def basisKnownCard : Claim7 := { stood := { row := basisKnownRow, standIns := [], harness := (true, "966e05ded8a71df059c3ff4ad27dff177bc2297076957a887ace0eadbd6746ef"), looks := false }, kinds := [], alts := [], laidByText := true, laidKinds := [.data], laidTests := true, laidLooks := .later }
def BasisKnownCardSaid : Prop := Claim7.holds Tryd.pinned (.plain (OpenSpec.ofChange basisKnownSpec)) basisKnownCard

/-- THE SECOND FORM's CARD OF 'zoetropelaw07.BasisKnown'. -/
def basisKnownUptoCard : Claim7 := { stood := { row := basisKnownUptoRow, standIns := [], harness := (true, "966e05ded8a71df059c3ff4ad27dff177bc2297076957a887ace0eadbd6746ef"), looks := false }, kinds := [], alts := [], laidByText := true, laidKinds := [.data], laidTests := true, laidLooks := .later }
def BasisKnownUptoCardSaid : Prop := Claim7.holds Tryd.pinned (.plain (OpenSpec.upto basisKnownSpec)) basisKnownUptoCard
end Rows
end Go.Proofs.YtjbipejpegmmoabDoor
