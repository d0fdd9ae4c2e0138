/-
  DERIVED. GIVEN WITH THE SEED: THE CARDS: each row of YtkmnpechhdendaaGreatDoorRows.lean that lists a variable, with what it lists TIED to the program's text (the seventh form; the later family's looks); each row that meets fmt, with fmt's text TOLD by the authors' own Lean function (tested against real Go, not proved from fmt's source: count such statements apart). THE CARD IS WHAT COUNTS. Prove the row's statement (the work); the ties are given (YtkmnpechhdendaaGreatDoorTie.lean); close each card by the builder's one call (the guide's Derived/Test/ToyasCard.lean, 'card_holds'). Laid BY PROGRAM, IN A SANDBOX (cutbox-door.mjs). By AI agents, Wed Nov 11 2026. No macro, syntax, notation, axiom, sorry.
-/
import Derived.Test.YtkmnpechhdendaaGreatDoorRows
import GoSem.ClaimSeven
namespace Go.Proofs.YtkmnpechhdendaaGreatDoor
namespace Rows

/-- THE TIED CARD OF 'zoetropelaw11.CoefsWrites'. -/
def coefsWritesCard : Claim7 := { stood := { row := coefsWritesRow, standIns := [], harness := (true, "89ebc59b78f31be67bb399771637bb3f5853beb6be69e2105c7a097bb6031efa"), looks := true }, kinds := [], alts := [], laidByText := true, laidKinds := [.data, .data, .data, .pinned], laidTests := true, laidLooks := .later }
def CoefsWritesCardSaid : Prop := Claim7.holds Tryz.pinned (.plain (OpenSpec.ofChange coefsWritesSpec)) coefsWritesCard

/-- THE TIED CARD OF 'zoetropelaw11.CoefsReads'. -/
def coefsReadsCard : Claim7 := { stood := { row := coefsReadsRow, standIns := [], harness := (true, "89ebc59b78f31be67bb399771637bb3f5853beb6be69e2105c7a097bb6031efa"), looks := true }, kinds := [], alts := [], laidByText := true, laidKinds := [.data, .data, .data, .pinned], laidTests := true, laidLooks := .later }
def CoefsReadsCardSaid : Prop := Claim7.holds Tryz.pinned (.plain (OpenSpec.ofChange coefsReadsSpec)) coefsReadsCard

/-- THE TIED CARD OF 'zoetropelaw11.CoefsNames'. -/
def coefsNamesCard : Claim7 := { stood := { row := coefsNamesRow, standIns := [], harness := (true, "89ebc59b78f31be67bb399771637bb3f5853beb6be69e2105c7a097bb6031efa"), looks := true }, kinds := [], alts := [], laidByText := true, laidKinds := [.data, .data, .data, .pinned], laidTests := true, laidLooks := .later }
def CoefsNamesCardSaid : Prop := Claim7.holds Tryz.pinned (.plain (OpenSpec.ofChange coefsNamesSpec)) coefsNamesCard

/-- THE SECOND FORM's CARD OF 'zoetropelaw11.CoefsWrites'. -/
def coefsWritesUptoCard : Claim7 := { stood := { row := coefsWritesUptoRow, standIns := [], harness := (true, "89ebc59b78f31be67bb399771637bb3f5853beb6be69e2105c7a097bb6031efa"), looks := true }, kinds := [], alts := [], laidByText := true, laidKinds := [.data, .data, .data, .pinned], laidTests := true, laidLooks := .later }
def CoefsWritesUptoCardSaid : Prop := Claim7.holds Tryz.pinned (.plain (OpenSpec.upto coefsWritesSpec)) coefsWritesUptoCard

/-- THE SECOND FORM's CARD OF 'zoetropelaw11.CoefsReads'. -/
def coefsReadsUptoCard : Claim7 := { stood := { row := coefsReadsUptoRow, standIns := [], harness := (true, "89ebc59b78f31be67bb399771637bb3f5853beb6be69e2105c7a097bb6031efa"), looks := true }, kinds := [], alts := [], laidByText := true, laidKinds := [.data, .data, .data, .pinned], laidTests := true, laidLooks := .later }
def CoefsReadsUptoCardSaid : Prop := Claim7.holds Tryz.pinned (.plain (OpenSpec.upto coefsReadsSpec)) coefsReadsUptoCard

/-- THE SECOND FORM's CARD OF 'zoetropelaw11.CoefsNames'. -/
def coefsNamesUptoCard : Claim7 := { stood := { row := coefsNamesUptoRow, standIns := [], harness := (true, "89ebc59b78f31be67bb399771637bb3f5853beb6be69e2105c7a097bb6031efa"), looks := true }, kinds := [], alts := [], laidByText := true, laidKinds := [.data, .data, .data, .pinned], laidTests := true, laidLooks := .later }
def CoefsNamesUptoCardSaid : Prop := Claim7.holds Tryz.pinned (.plain (OpenSpec.upto coefsNamesSpec)) coefsNamesUptoCard
end Rows
end Go.Proofs.YtkmnpechhdendaaGreatDoor
