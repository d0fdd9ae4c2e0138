/-
  DERIVED. GIVEN WITH THE SEED: THE CARDS: each row of YtppanogpeengnaaDoorRows.lean that lists a variable, with what it lists TIED to the program's text (the seventh form; the later family's looks); each row that meets fmt, with fmt's text TOLD by the authors' own Lean function (tested against real Go, not proved from fmt's source: count such statements apart). THE CARD IS WHAT COUNTS. Prove the row's statement (the work); the ties are given (YtppanogpeengnaaDoorTie.lean); close each card by the builder's one call (the guide's Derived/Test/ToyasCard.lean, 'card_holds'). Laid BY PROGRAM, IN A SANDBOX (cutbox-door.mjs). By AI agents, Wed Nov 11 2026. No macro, syntax, notation, axiom, sorry.
-/
import Derived.Test.YtppanogpeengnaaDoorRows
import GoSem.ClaimSeven
namespace Go.Proofs.YtppanogpeengnaaDoor
namespace Rows

/-- THE TIED CARD OF 'zoetropelaw04.SymsWrites'. -/
def symsWritesCard : Claim7 := { stood := { row := symsWritesRow, standIns := [], harness := (true, "8843e189fe058560adbcf59bf96690bbfbf0a3e44aa5893299614a230a4c3a57"), looks := false }, kinds := [], alts := [], laidByText := true, laidKinds := [.data, .data, .pinned], laidTests := true, laidLooks := .later }
def SymsWritesCardSaid : Prop := Claim7.holds Tryd.pinned (.plain (OpenSpec.ofChange symsWritesSpec)) symsWritesCard

/-- THE TIED CARD OF 'zoetropelaw04.SymsReads'. -/
def symsReadsCard : Claim7 := { stood := { row := symsReadsRow, standIns := [], harness := (true, "8843e189fe058560adbcf59bf96690bbfbf0a3e44aa5893299614a230a4c3a57"), looks := false }, kinds := [], alts := [], laidByText := true, laidKinds := [.data, .data, .pinned], laidTests := true, laidLooks := .later }
def SymsReadsCardSaid : Prop := Claim7.holds Tryd.pinned (.plain (OpenSpec.ofChange symsReadsSpec)) symsReadsCard

/-- THE TIED CARD OF 'zoetropelaw04.SymsSets'. -/
def symsSetsCard : Claim7 := { stood := { row := symsSetsRow, standIns := [], harness := (true, "8843e189fe058560adbcf59bf96690bbfbf0a3e44aa5893299614a230a4c3a57"), looks := false }, kinds := [], alts := [], laidByText := true, laidKinds := [.data, .data, .pinned], laidTests := true, laidLooks := .later }
def SymsSetsCardSaid : Prop := Claim7.holds Tryd.pinned (.plain (OpenSpec.ofChange symsSetsSpec)) symsSetsCard

/-- THE TIED CARD OF 'zoetropelaw04.SymsBack'. -/
def symsBackCard : Claim7 := { stood := { row := symsBackRow, standIns := [], harness := (true, "8843e189fe058560adbcf59bf96690bbfbf0a3e44aa5893299614a230a4c3a57"), looks := false }, kinds := [], alts := [], laidByText := true, laidKinds := [.data, .data, .pinned], laidTests := true, laidLooks := .later }
def SymsBackCardSaid : Prop := Claim7.holds Tryd.pinned (.plain (OpenSpec.ofChange symsBackSpec)) symsBackCard

/-- THE TIED CARD OF 'zoetropelaw04.SymsAny'. -/
def symsAnyCard : Claim7 := { stood := { row := symsAnyRow, standIns := [], harness := (true, "8843e189fe058560adbcf59bf96690bbfbf0a3e44aa5893299614a230a4c3a57"), looks := false }, kinds := [], alts := [], laidByText := true, laidKinds := [.data, .data, .pinned], laidTests := true, laidLooks := .later }
def SymsAnyCardSaid : Prop := Claim7.holds Tryd.pinned (.plain (OpenSpec.ofChange symsAnySpec)) symsAnyCard

/-- THE TIED CARD OF 'zoetropelaw04.SymsLearn'. -/
def symsLearnCard : Claim7 := { stood := { row := symsLearnRow, standIns := [], harness := (true, "8843e189fe058560adbcf59bf96690bbfbf0a3e44aa5893299614a230a4c3a57"), looks := false }, kinds := [], alts := [], laidByText := true, laidKinds := [.data, .data, .pinned], laidTests := true, laidLooks := .later }
def SymsLearnCardSaid : Prop := Claim7.holds Tryd.pinned (.plain (OpenSpec.ofChange symsLearnSpec)) symsLearnCard

/-- THE SECOND FORM's CARD OF 'zoetropelaw04.SymsWrites'. -/
def symsWritesUptoCard : Claim7 := { stood := { row := symsWritesUptoRow, standIns := [], harness := (true, "8843e189fe058560adbcf59bf96690bbfbf0a3e44aa5893299614a230a4c3a57"), looks := false }, kinds := [], alts := [], laidByText := true, laidKinds := [.data, .data, .pinned], laidTests := true, laidLooks := .later }
def SymsWritesUptoCardSaid : Prop := Claim7.holds Tryd.pinned (.plain (OpenSpec.upto symsWritesSpec)) symsWritesUptoCard

/-- THE SECOND FORM's CARD OF 'zoetropelaw04.SymsReads'. -/
def symsReadsUptoCard : Claim7 := { stood := { row := symsReadsUptoRow, standIns := [], harness := (true, "8843e189fe058560adbcf59bf96690bbfbf0a3e44aa5893299614a230a4c3a57"), looks := false }, kinds := [], alts := [], laidByText := true, laidKinds := [.data, .data, .pinned], laidTests := true, laidLooks := .later }
def SymsReadsUptoCardSaid : Prop := Claim7.holds Tryd.pinned (.plain (OpenSpec.upto symsReadsSpec)) symsReadsUptoCard

/-- THE SECOND FORM's CARD OF 'zoetropelaw04.SymsSets'. -/
def symsSetsUptoCard : Claim7 := { stood := { row := symsSetsUptoRow, standIns := [], harness := (true, "8843e189fe058560adbcf59bf96690bbfbf0a3e44aa5893299614a230a4c3a57"), looks := false }, kinds := [], alts := [], laidByText := true, laidKinds := [.data, .data, .pinned], laidTests := true, laidLooks := .later }
def SymsSetsUptoCardSaid : Prop := Claim7.holds Tryd.pinned (.plain (OpenSpec.upto symsSetsSpec)) symsSetsUptoCard

/-- THE SECOND FORM's CARD OF 'zoetropelaw04.SymsBack'. -/
def symsBackUptoCard : Claim7 := { stood := { row := symsBackUptoRow, standIns := [], harness := (true, "8843e189fe058560adbcf59bf96690bbfbf0a3e44aa5893299614a230a4c3a57"), looks := false }, kinds := [], alts := [], laidByText := true, laidKinds := [.data, .data, .pinned], laidTests := true, laidLooks := .later }
def SymsBackUptoCardSaid : Prop := Claim7.holds Tryd.pinned (.plain (OpenSpec.upto symsBackSpec)) symsBackUptoCard

/-- THE SECOND FORM's CARD OF 'zoetropelaw04.SymsAny'. -/
def symsAnyUptoCard : Claim7 := { stood := { row := symsAnyUptoRow, standIns := [], harness := (true, "8843e189fe058560adbcf59bf96690bbfbf0a3e44aa5893299614a230a4c3a57"), looks := false }, kinds := [], alts := [], laidByText := true, laidKinds := [.data, .data, .pinned], laidTests := true, laidLooks := .later }
def SymsAnyUptoCardSaid : Prop := Claim7.holds Tryd.pinned (.plain (OpenSpec.upto symsAnySpec)) symsAnyUptoCard

/-- THE SECOND FORM's CARD OF 'zoetropelaw04.SymsLearn'. -/
def symsLearnUptoCard : Claim7 := { stood := { row := symsLearnUptoRow, standIns := [], harness := (true, "8843e189fe058560adbcf59bf96690bbfbf0a3e44aa5893299614a230a4c3a57"), looks := false }, kinds := [], alts := [], laidByText := true, laidKinds := [.data, .data, .pinned], laidTests := true, laidLooks := .later }
def SymsLearnUptoCardSaid : Prop := Claim7.holds Tryd.pinned (.plain (OpenSpec.upto symsLearnSpec)) symsLearnUptoCard
end Rows
end Go.Proofs.YtppanogpeengnaaDoor
