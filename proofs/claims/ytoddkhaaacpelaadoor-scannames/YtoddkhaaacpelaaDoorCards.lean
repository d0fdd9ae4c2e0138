/-
  DERIVED. GIVEN WITH THE SEED: THE CARDS: each row of YtoddkhaaacpelaaDoorRows.lean that lists a variable, with what it lists TIED to the program's text (the seventh form; the later family's looks); each row that meets fmt, with fmt's text TOLD by the authors' own Lean function (tested against real Go, not proved from fmt's source: count such statements apart). THE CARD IS WHAT COUNTS. Prove the row's statement (the work); the ties are given (YtoddkhaaacpelaaDoorTie.lean); close each card by the builder's one call (the guide's Derived/Test/ToyasCard.lean, 'card_holds'). Laid BY PROGRAM, IN A SANDBOX (cutbox-door.mjs). By AI agents, Wed Nov 11 2026. No macro, syntax, notation, axiom, sorry.
-/
import Derived.Test.YtoddkhaaacpelaaDoorRows
import GoSem.ClaimSeven
namespace Go.Proofs.YtoddkhaaacpelaaDoor
namespace Rows

/-- THE TIED CARD OF 'zoetropelaw10.ScanContexts'. -/
def scanContextsCard : Claim7 := { stood := { row := scanContextsRow, standIns := [], harness := (true, "7bbacd38a9dc6a31c7dfc1b859d2b5798f026ea4c500b73f07635ba09f359901"), looks := false }, kinds := [], alts := [], laidByText := true, laidKinds := [.data], laidTests := true, laidLooks := .later }
def ScanContextsCardSaid : Prop := Claim7.holds Tryd.pinned (.plain (OpenSpec.ofChange scanContextsSpec)) scanContextsCard

/-- THE TIED CARD OF 'zoetropelaw10.ScanSigns'. -/
def scanSignsCard : Claim7 := { stood := { row := scanSignsRow, standIns := [], harness := (true, "7bbacd38a9dc6a31c7dfc1b859d2b5798f026ea4c500b73f07635ba09f359901"), looks := false }, kinds := [], alts := [], laidByText := true, laidKinds := [.data], laidTests := true, laidLooks := .later }
def ScanSignsCardSaid : Prop := Claim7.holds Tryd.pinned (.plain (OpenSpec.ofChange scanSignsSpec)) scanSignsCard

/-- THE TIED CARD OF 'zoetropelaw10.ScanNames'. -/
def scanNamesCard : Claim7 := { stood := { row := scanNamesRow, standIns := [], harness := (true, "7bbacd38a9dc6a31c7dfc1b859d2b5798f026ea4c500b73f07635ba09f359901"), looks := false }, kinds := [], alts := [], laidByText := true, laidKinds := [.data], laidTests := true, laidLooks := .later }
def ScanNamesCardSaid : Prop := Claim7.holds Tryd.pinned (.plain (OpenSpec.ofChange scanNamesSpec)) scanNamesCard

/-- THE SECOND FORM's CARD OF 'zoetropelaw10.ScanContexts'. -/
def scanContextsUptoCard : Claim7 := { stood := { row := scanContextsUptoRow, standIns := [], harness := (true, "7bbacd38a9dc6a31c7dfc1b859d2b5798f026ea4c500b73f07635ba09f359901"), looks := false }, kinds := [], alts := [], laidByText := true, laidKinds := [.data], laidTests := true, laidLooks := .later }
def ScanContextsUptoCardSaid : Prop := Claim7.holds Tryd.pinned (.plain (OpenSpec.upto scanContextsSpec)) scanContextsUptoCard

/-- THE SECOND FORM's CARD OF 'zoetropelaw10.ScanSigns'. -/
def scanSignsUptoCard : Claim7 := { stood := { row := scanSignsUptoRow, standIns := [], harness := (true, "7bbacd38a9dc6a31c7dfc1b859d2b5798f026ea4c500b73f07635ba09f359901"), looks := false }, kinds := [], alts := [], laidByText := true, laidKinds := [.data], laidTests := true, laidLooks := .later }
def ScanSignsUptoCardSaid : Prop := Claim7.holds Tryd.pinned (.plain (OpenSpec.upto scanSignsSpec)) scanSignsUptoCard

/-- THE SECOND FORM's CARD OF 'zoetropelaw10.ScanNames'. -/
def scanNamesUptoCard : Claim7 := { stood := { row := scanNamesUptoRow, standIns := [], harness := (true, "7bbacd38a9dc6a31c7dfc1b859d2b5798f026ea4c500b73f07635ba09f359901"), looks := false }, kinds := [], alts := [], laidByText := true, laidKinds := [.data], laidTests := true, laidLooks := .later }
def ScanNamesUptoCardSaid : Prop := Claim7.holds Tryd.pinned (.plain (OpenSpec.upto scanNamesSpec)) scanNamesUptoCard
end Rows
end Go.Proofs.YtoddkhaaacpelaaDoor
