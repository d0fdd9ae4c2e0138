/-
  DERIVED. GIVEN WITH THE SEED: THE CARDS: each row of YtddnnlofdicgkabDoorRows.lean that lists a variable, with what it lists TIED to the program's text (the seventh form; the later family's looks); each row that meets fmt, with fmt's text TOLD by the authors' own Lean function (tested against real Go, not proved from fmt's source: count such statements apart). THE CARD IS WHAT COUNTS. Prove the row's statement (the work); the ties are given (YtddnnlofdicgkabDoorTie.lean); close each card by the builder's one call (the guide's Derived/Test/ToyasCard.lean, 'card_holds'). Laid BY PROGRAM, IN A SANDBOX (cutbox-door.mjs). By AI agents, Wed Nov 11 2026. No macro, syntax, notation, axiom, sorry.
-/
import Derived.Test.YtddnnlofdicgkabDoorRows
import GoSem.ClaimSeven
namespace Go.Proofs.YtddnnlofdicgkabDoor
namespace Rows

/-- THE TIED CARD OF 'zoetropelaw08.TxfmBounded'. -/
def txfmBoundedCard : Claim7 := { stood := { row := txfmBoundedRow, standIns := [], harness := (true, "bbbed3c63824413cad59219005661c266da881c2289726b4c45aef38efc5110f"), looks := false }, kinds := [], alts := [], laidByText := true, laidKinds := [.data], laidTests := true, laidLooks := .later }
def TxfmBoundedCardSaid : Prop := Claim7.holds Tryd.pinned (.plain (OpenSpec.ofChange txfmBoundedSpec)) txfmBoundedCard

/-- THE TIED CARD OF 'zoetropelaw08.TxfmKnown'. -/
def txfmKnownCard : Claim7 := { stood := { row := txfmKnownRow, standIns := [], harness := (true, "bbbed3c63824413cad59219005661c266da881c2289726b4c45aef38efc5110f"), looks := false }, kinds := [], alts := [], laidByText := true, laidKinds := [.data], laidTests := true, laidLooks := .later }
def TxfmKnownCardSaid : Prop := Claim7.holds Tryd.pinned (.plain (OpenSpec.ofChange txfmKnownSpec)) txfmKnownCard

/-- THE SECOND FORM's CARD OF 'zoetropelaw08.TxfmBounded'. -/
def txfmBoundedUptoCard : Claim7 := { stood := { row := txfmBoundedUptoRow, standIns := [], harness := (true, "bbbed3c63824413cad59219005661c266da881c2289726b4c45aef38efc5110f"), looks := false }, kinds := [], alts := [], laidByText := true, laidKinds := [.data], laidTests := true, laidLooks := .later }
def TxfmBoundedUptoCardSaid : Prop := Claim7.holds Tryd.pinned (.plain (OpenSpec.upto txfmBoundedSpec)) txfmBoundedUptoCard

/-- THE SECOND FORM's CARD OF 'zoetropelaw08.TxfmKnown'. -/
def txfmKnownUptoCard : Claim7 := { stood := { row := txfmKnownUptoRow, standIns := [], harness := (true, "bbbed3c63824413cad59219005661c266da881c2289726b4c45aef38efc5110f"), looks := false }, kinds := [], alts := [], laidByText := true, laidKinds := [.data], laidTests := true, laidLooks := .later }
def TxfmKnownUptoCardSaid : Prop := Claim7.holds Tryd.pinned (.plain (OpenSpec.upto txfmKnownSpec)) txfmKnownUptoCard
end Rows
end Go.Proofs.YtddnnlofdicgkabDoor
