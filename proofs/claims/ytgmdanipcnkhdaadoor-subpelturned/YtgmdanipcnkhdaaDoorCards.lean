/-
  DERIVED. GIVEN WITH THE SEED: THE CARDS: each row of YtgmdanipcnkhdaaDoorRows.lean that lists a variable, with what it lists TIED to the program's text (the seventh form; the later family's looks); each row that meets fmt, with fmt's text TOLD by the authors' own Lean function (tested against real Go, not proved from fmt's source: count such statements apart). THE CARD IS WHAT COUNTS. Prove the row's statement (the work); the ties are given (YtgmdanipcnkhdaaDoorTie.lean); close each card by the builder's one call (the guide's Derived/Test/ToyasCard.lean, 'card_holds'). Laid BY PROGRAM, IN A SANDBOX (cutbox-door.mjs). By AI agents, Wed Nov 11 2026. No macro, syntax, notation, axiom, sorry.
-/
import Derived.Test.YtgmdanipcnkhdaaDoorRows
import GoSem.ClaimSeven
namespace Go.Proofs.YtgmdanipcnkhdaaDoor
namespace Rows

/-- THE TIED CARD OF 'zoetropelaw14.SubpelTaps'. -/
def subpelTapsCard : Claim7 := { stood := { row := subpelTapsRow, standIns := [], harness := (true, "2565ee80439dcff6106f7b81673a65cc5cf36658483a4664900c2cbda478b8cc"), looks := false }, kinds := [], alts := [], laidByText := true, laidKinds := [.data, .data], laidTests := true, laidLooks := .later }
def SubpelTapsCardSaid : Prop := Claim7.holds Tryd.pinned (.plain (OpenSpec.ofChange subpelTapsSpec)) subpelTapsCard

/-- THE TIED CARD OF 'zoetropelaw14.SubpelFetches'. -/
def subpelFetchesCard : Claim7 := { stood := { row := subpelFetchesRow, standIns := [], harness := (true, "2565ee80439dcff6106f7b81673a65cc5cf36658483a4664900c2cbda478b8cc"), looks := false }, kinds := [], alts := [], laidByText := true, laidKinds := [.data, .data], laidTests := true, laidLooks := .later }
def SubpelFetchesCardSaid : Prop := Claim7.holds Tryd.pinned (.plain (OpenSpec.ofChange subpelFetchesSpec)) subpelFetchesCard

/-- THE TIED CARD OF 'zoetropelaw14.SubpelKinds'. -/
def subpelKindsCard : Claim7 := { stood := { row := subpelKindsRow, standIns := [], harness := (true, "2565ee80439dcff6106f7b81673a65cc5cf36658483a4664900c2cbda478b8cc"), looks := false }, kinds := [], alts := [], laidByText := true, laidKinds := [.data, .data], laidTests := true, laidLooks := .later }
def SubpelKindsCardSaid : Prop := Claim7.holds Tryd.pinned (.plain (OpenSpec.ofChange subpelKindsSpec)) subpelKindsCard

/-- THE TIED CARD OF 'zoetropelaw14.SubpelWhole'. -/
def subpelWholeCard : Claim7 := { stood := { row := subpelWholeRow, standIns := [], harness := (true, "2565ee80439dcff6106f7b81673a65cc5cf36658483a4664900c2cbda478b8cc"), looks := false }, kinds := [], alts := [], laidByText := true, laidKinds := [.data, .data], laidTests := true, laidLooks := .later }
def SubpelWholeCardSaid : Prop := Claim7.holds Tryd.pinned (.plain (OpenSpec.ofChange subpelWholeSpec)) subpelWholeCard

/-- THE TIED CARD OF 'zoetropelaw14.SubpelFlat'. -/
def subpelFlatCard : Claim7 := { stood := { row := subpelFlatRow, standIns := [], harness := (true, "2565ee80439dcff6106f7b81673a65cc5cf36658483a4664900c2cbda478b8cc"), looks := false }, kinds := [], alts := [], laidByText := true, laidKinds := [.data, .data], laidTests := true, laidLooks := .later }
def SubpelFlatCardSaid : Prop := Claim7.holds Tryd.pinned (.plain (OpenSpec.ofChange subpelFlatSpec)) subpelFlatCard

/-- THE TIED CARD OF 'zoetropelaw14.SubpelTurned'. -/
def subpelTurnedCard : Claim7 := { stood := { row := subpelTurnedRow, standIns := [], harness := (true, "2565ee80439dcff6106f7b81673a65cc5cf36658483a4664900c2cbda478b8cc"), looks := false }, kinds := [], alts := [], laidByText := true, laidKinds := [.data, .data], laidTests := true, laidLooks := .later }
def SubpelTurnedCardSaid : Prop := Claim7.holds Tryd.pinned (.plain (OpenSpec.ofChange subpelTurnedSpec)) subpelTurnedCard

/-- THE SECOND FORM's CARD OF 'zoetropelaw14.SubpelTaps'. -/
def subpelTapsUptoCard : Claim7 := { stood := { row := subpelTapsUptoRow, standIns := [], harness := (true, "2565ee80439dcff6106f7b81673a65cc5cf36658483a4664900c2cbda478b8cc"), looks := false }, kinds := [], alts := [], laidByText := true, laidKinds := [.data, .data], laidTests := true, laidLooks := .later }
def SubpelTapsUptoCardSaid : Prop := Claim7.holds Tryd.pinned (.plain (OpenSpec.upto subpelTapsSpec)) subpelTapsUptoCard

/-- THE SECOND FORM's CARD OF 'zoetropelaw14.SubpelFetches'. -/
def subpelFetchesUptoCard : Claim7 := { stood := { row := subpelFetchesUptoRow, standIns := [], harness := (true, "2565ee80439dcff6106f7b81673a65cc5cf36658483a4664900c2cbda478b8cc"), looks := false }, kinds := [], alts := [], laidByText := true, laidKinds := [.data, .data], laidTests := true, laidLooks := .later }
def SubpelFetchesUptoCardSaid : Prop := Claim7.holds Tryd.pinned (.plain (OpenSpec.upto subpelFetchesSpec)) subpelFetchesUptoCard

/-- THE SECOND FORM's CARD OF 'zoetropelaw14.SubpelKinds'. -/
def subpelKindsUptoCard : Claim7 := { stood := { row := subpelKindsUptoRow, standIns := [], harness := (true, "2565ee80439dcff6106f7b81673a65cc5cf36658483a4664900c2cbda478b8cc"), looks := false }, kinds := [], alts := [], laidByText := true, laidKinds := [.data, .data], laidTests := true, laidLooks := .later }
def SubpelKindsUptoCardSaid : Prop := Claim7.holds Tryd.pinned (.plain (OpenSpec.upto subpelKindsSpec)) subpelKindsUptoCard

/-- THE SECOND FORM's CARD OF 'zoetropelaw14.SubpelWhole'. -/
def subpelWholeUptoCard : Claim7 := { stood := { row := subpelWholeUptoRow, standIns := [], harness := (true, "2565ee80439dcff6106f7b81673a65cc5cf36658483a4664900c2cbda478b8cc"), looks := false }, kinds := [], alts := [], laidByText := true, laidKinds := [.data, .data], laidTests := true, laidLooks := .later }
def SubpelWholeUptoCardSaid : Prop := Claim7.holds Tryd.pinned (.plain (OpenSpec.upto subpelWholeSpec)) subpelWholeUptoCard

/-- THE SECOND FORM's CARD OF 'zoetropelaw14.SubpelFlat'. -/
def subpelFlatUptoCard : Claim7 := { stood := { row := subpelFlatUptoRow, standIns := [], harness := (true, "2565ee80439dcff6106f7b81673a65cc5cf36658483a4664900c2cbda478b8cc"), looks := false }, kinds := [], alts := [], laidByText := true, laidKinds := [.data, .data], laidTests := true, laidLooks := .later }
def SubpelFlatUptoCardSaid : Prop := Claim7.holds Tryd.pinned (.plain (OpenSpec.upto subpelFlatSpec)) subpelFlatUptoCard

/-- THE SECOND FORM's CARD OF 'zoetropelaw14.SubpelTurned'. -/
def subpelTurnedUptoCard : Claim7 := { stood := { row := subpelTurnedUptoRow, standIns := [], harness := (true, "2565ee80439dcff6106f7b81673a65cc5cf36658483a4664900c2cbda478b8cc"), looks := false }, kinds := [], alts := [], laidByText := true, laidKinds := [.data, .data], laidTests := true, laidLooks := .later }
def SubpelTurnedUptoCardSaid : Prop := Claim7.holds Tryd.pinned (.plain (OpenSpec.upto subpelTurnedSpec)) subpelTurnedUptoCard
end Rows
end Go.Proofs.YtgmdanipcnkhdaaDoor
