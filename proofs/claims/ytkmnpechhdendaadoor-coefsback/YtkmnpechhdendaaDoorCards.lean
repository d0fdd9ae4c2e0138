/-
  DERIVED. GIVEN WITH THE SEED: THE CARDS: each row of YtkmnpechhdendaaDoorRows.lean that lists a variable, with what it lists TIED to the program's text (the seventh form; the later family's looks); each row that meets fmt, with fmt's text TOLD by the authors' own Lean function (tested against real Go, not proved from fmt's source: count such statements apart). THE CARD IS WHAT COUNTS. Prove the row's statement (the work); the ties are given (YtkmnpechhdendaaDoorTie.lean); close each card by the builder's one call (the guide's Derived/Test/ToyasCard.lean, 'card_holds'). Laid BY PROGRAM, IN A SANDBOX (cutbox-door.mjs). By AI agents, Wed Nov 11 2026. No macro, syntax, notation, axiom, sorry.
-/
import Derived.Test.YtkmnpechhdendaaDoorRows
import GoSem.ClaimSeven
namespace Go.Proofs.YtkmnpechhdendaaDoor
namespace Rows

/-- THE TIED CARD OF 'zoetropelaw11.CoefsBack'. -/
def coefsBackCard : Claim7 := { stood := { row := coefsBackRow, standIns := [], harness := (true, "dd8927f31516846f6239f3842d1f8cd5f9952cf7e577fb0c5236f1564acf8719"), looks := true }, kinds := [], alts := [], laidByText := true, laidKinds := [.data, .data, .data, .pinned], laidTests := true, laidLooks := .later }
def CoefsBackCardSaid : Prop := Claim7.holds Tryd.pinned (.plain (OpenSpec.ofChange coefsBackSpec)) coefsBackCard

/-- THE TIED CARD OF 'zoetropelaw11.CoefsAny'. -/
def coefsAnyCard : Claim7 := { stood := { row := coefsAnyRow, standIns := [], harness := (true, "dd8927f31516846f6239f3842d1f8cd5f9952cf7e577fb0c5236f1564acf8719"), looks := true }, kinds := [], alts := [], laidByText := true, laidKinds := [.data, .data, .data, .pinned], laidTests := true, laidLooks := .later }
def CoefsAnyCardSaid : Prop := Claim7.holds Tryd.pinned (.plain (OpenSpec.ofChange coefsAnySpec)) coefsAnyCard

/-- THE TIED CARD OF 'zoetropelaw11.CoefsAmounts'. -/
def coefsAmountsCard : Claim7 := { stood := { row := coefsAmountsRow, standIns := [], harness := (true, "dd8927f31516846f6239f3842d1f8cd5f9952cf7e577fb0c5236f1564acf8719"), looks := true }, kinds := [], alts := [], laidByText := true, laidKinds := [.data, .data, .data, .pinned], laidTests := true, laidLooks := .later }
def CoefsAmountsCardSaid : Prop := Claim7.holds Tryd.pinned (.plain (OpenSpec.ofChange coefsAmountsSpec)) coefsAmountsCard

/-- THE SECOND FORM's CARD OF 'zoetropelaw11.CoefsBack'. -/
def coefsBackUptoCard : Claim7 := { stood := { row := coefsBackUptoRow, standIns := [], harness := (true, "dd8927f31516846f6239f3842d1f8cd5f9952cf7e577fb0c5236f1564acf8719"), looks := true }, kinds := [], alts := [], laidByText := true, laidKinds := [.data, .data, .data, .pinned], laidTests := true, laidLooks := .later }
def CoefsBackUptoCardSaid : Prop := Claim7.holds Tryd.pinned (.plain (OpenSpec.upto coefsBackSpec)) coefsBackUptoCard

/-- THE SECOND FORM's CARD OF 'zoetropelaw11.CoefsAny'. -/
def coefsAnyUptoCard : Claim7 := { stood := { row := coefsAnyUptoRow, standIns := [], harness := (true, "dd8927f31516846f6239f3842d1f8cd5f9952cf7e577fb0c5236f1564acf8719"), looks := true }, kinds := [], alts := [], laidByText := true, laidKinds := [.data, .data, .data, .pinned], laidTests := true, laidLooks := .later }
def CoefsAnyUptoCardSaid : Prop := Claim7.holds Tryd.pinned (.plain (OpenSpec.upto coefsAnySpec)) coefsAnyUptoCard

/-- THE SECOND FORM's CARD OF 'zoetropelaw11.CoefsAmounts'. -/
def coefsAmountsUptoCard : Claim7 := { stood := { row := coefsAmountsUptoRow, standIns := [], harness := (true, "dd8927f31516846f6239f3842d1f8cd5f9952cf7e577fb0c5236f1564acf8719"), looks := true }, kinds := [], alts := [], laidByText := true, laidKinds := [.data, .data, .data, .pinned], laidTests := true, laidLooks := .later }
def CoefsAmountsUptoCardSaid : Prop := Claim7.holds Tryd.pinned (.plain (OpenSpec.upto coefsAmountsSpec)) coefsAmountsUptoCard
end Rows
end Go.Proofs.YtkmnpechhdendaaDoor
