/-
  DERIVED. GIVEN WITH THE SEED: THE CARDS: each row of YtpideemiijhkgabDoorRows.lean that lists a variable, with what it lists TIED to the program's text (the seventh form; the later family's looks); each row that meets fmt, with fmt's text TOLD by the authors' own Lean function (tested against real Go, not proved from fmt's source: count such statements apart). THE CARD IS WHAT COUNTS. Prove the row's statement (the work); the ties are given (YtpideemiijhkgabDoorTie.lean); close each card by the builder's one call (the guide's Derived/Test/ToyasCard.lean, 'card_holds'). Laid BY PROGRAM, IN A SANDBOX (cutbox-door.mjs). By AI agents, Wed Nov 11 2026. No macro, syntax, notation, axiom, sorry.
-/
import Derived.Test.YtpideemiijhkgabDoorRows
import GoSem.ClaimSeven
namespace Go.Proofs.YtpideemiijhkgabDoor
namespace Rows

/-- THE TIED CARD OF 'zoetropelaw15.MotionTurned'. -/
def motionTurnedCard : Claim7 := { stood := { row := motionTurnedRow, standIns := [], harness := (true, "79f916fe56324ca4f5d286638a3b2ce9227c2116295545d0fd3c6ecc513e6882"), looks := false }, kinds := [], alts := [], laidByText := true, laidKinds := [.data, .data], laidTests := true, laidLooks := .later }
def MotionTurnedCardSaid : Prop := Claim7.holds Tryd.pinned (.plain (OpenSpec.ofChange motionTurnedSpec)) motionTurnedCard

/-- THE TIED CARD OF 'zoetropelaw15.MotionKnown'. -/
def motionKnownCard : Claim7 := { stood := { row := motionKnownRow, standIns := [], harness := (true, "79f916fe56324ca4f5d286638a3b2ce9227c2116295545d0fd3c6ecc513e6882"), looks := false }, kinds := [], alts := [], laidByText := true, laidKinds := [.data, .data], laidTests := true, laidLooks := .later }
def MotionKnownCardSaid : Prop := Claim7.holds Tryd.pinned (.plain (OpenSpec.ofChange motionKnownSpec)) motionKnownCard

/-- THE SECOND FORM's CARD OF 'zoetropelaw15.MotionTurned'. -/
def motionTurnedUptoCard : Claim7 := { stood := { row := motionTurnedUptoRow, standIns := [], harness := (true, "79f916fe56324ca4f5d286638a3b2ce9227c2116295545d0fd3c6ecc513e6882"), looks := false }, kinds := [], alts := [], laidByText := true, laidKinds := [.data, .data], laidTests := true, laidLooks := .later }
def MotionTurnedUptoCardSaid : Prop := Claim7.holds Tryd.pinned (.plain (OpenSpec.upto motionTurnedSpec)) motionTurnedUptoCard

/-- THE SECOND FORM's CARD OF 'zoetropelaw15.MotionKnown'. -/
def motionKnownUptoCard : Claim7 := { stood := { row := motionKnownUptoRow, standIns := [], harness := (true, "79f916fe56324ca4f5d286638a3b2ce9227c2116295545d0fd3c6ecc513e6882"), looks := false }, kinds := [], alts := [], laidByText := true, laidKinds := [.data, .data], laidTests := true, laidLooks := .later }
def MotionKnownUptoCardSaid : Prop := Claim7.holds Tryd.pinned (.plain (OpenSpec.upto motionKnownSpec)) motionKnownUptoCard
end Rows
end Go.Proofs.YtpideemiijhkgabDoor
