/-
  DERIVED. GIVEN WITH THE SEED: THE CARDS: each row of YtogaekjohnbbiaaDoorRows.lean that lists a variable, with what it lists TIED to the program's text (the seventh form; the later family's looks); each row that meets fmt, with fmt's text TOLD by the authors' own Lean function (tested against real Go, not proved from fmt's source: count such statements apart). THE CARD IS WHAT COUNTS. Prove the row's statement (the work); the ties are given (YtogaekjohnbbiaaDoorTie.lean); close each card by the builder's one call (the guide's Derived/Test/ToyasCard.lean, 'card_holds'). Laid BY PROGRAM, IN A SANDBOX (cutbox-door.mjs). By AI agents, Wed Nov 11 2026. No macro, syntax, notation, axiom, sorry.
-/
import Derived.Test.YtogaekjohnbbiaaDoorRows
import GoSem.ClaimSeven
namespace Go.Proofs.YtogaekjohnbbiaaDoor
namespace Rows

/-- THE TIED CARD OF 'zoetropelaw02.RacPuts'. -/
def racPutsCard : Claim7 := { stood := { row := racPutsRow, standIns := [], harness := (true, "f2d6f4b9ccd32a247dc5f36e3abc098bfa78b15b9d1007e2580f656167e5294e"), looks := false }, kinds := [], alts := [], laidByText := true, laidKinds := [.data, .pinned], laidTests := true, laidLooks := .later }
def RacPutsCardSaid : Prop := Claim7.holds Tryd.pinned (.plain (OpenSpec.ofChange racPutsSpec)) racPutsCard

/-- THE TIED CARD OF 'zoetropelaw02.RacTakes'. -/
def racTakesCard : Claim7 := { stood := { row := racTakesRow, standIns := [], harness := (true, "f2d6f4b9ccd32a247dc5f36e3abc098bfa78b15b9d1007e2580f656167e5294e"), looks := false }, kinds := [], alts := [], laidByText := true, laidKinds := [.data, .pinned], laidTests := true, laidLooks := .later }
def RacTakesCardSaid : Prop := Claim7.holds Tryd.pinned (.plain (OpenSpec.ofChange racTakesSpec)) racTakesCard

/-- THE TIED CARD OF 'zoetropelaw02.RacBack'. -/
def racBackCard : Claim7 := { stood := { row := racBackRow, standIns := [], harness := (true, "f2d6f4b9ccd32a247dc5f36e3abc098bfa78b15b9d1007e2580f656167e5294e"), looks := false }, kinds := [], alts := [], laidByText := true, laidKinds := [.data, .pinned], laidTests := true, laidLooks := .later }
def RacBackCardSaid : Prop := Claim7.holds Tryd.pinned (.plain (OpenSpec.ofChange racBackSpec)) racBackCard

/-- THE TIED CARD OF 'zoetropelaw02.RacEndless'. -/
def racEndlessCard : Claim7 := { stood := { row := racEndlessRow, standIns := [], harness := (true, "f2d6f4b9ccd32a247dc5f36e3abc098bfa78b15b9d1007e2580f656167e5294e"), looks := false }, kinds := [], alts := [], laidByText := true, laidKinds := [.data, .pinned], laidTests := true, laidLooks := .later }
def RacEndlessCardSaid : Prop := Claim7.holds Tryd.pinned (.plain (OpenSpec.ofChange racEndlessSpec)) racEndlessCard

/-- THE TIED CARD OF 'zoetropelaw02.RacNoughts'. -/
def racNoughtsCard : Claim7 := { stood := { row := racNoughtsRow, standIns := [], harness := (true, "f2d6f4b9ccd32a247dc5f36e3abc098bfa78b15b9d1007e2580f656167e5294e"), looks := false }, kinds := [], alts := [], laidByText := true, laidKinds := [.data, .pinned], laidTests := true, laidLooks := .later }
def RacNoughtsCardSaid : Prop := Claim7.holds Tryd.pinned (.plain (OpenSpec.ofChange racNoughtsSpec)) racNoughtsCard

/-- THE TIED CARD OF 'zoetropelaw02.RacAll'. -/
def racAllCard : Claim7 := { stood := { row := racAllRow, standIns := [], harness := (true, "f2d6f4b9ccd32a247dc5f36e3abc098bfa78b15b9d1007e2580f656167e5294e"), looks := false }, kinds := [], alts := [], laidByText := true, laidKinds := [.data, .pinned], laidTests := true, laidLooks := .later }
def RacAllCardSaid : Prop := Claim7.holds Tryd.pinned (.plain (OpenSpec.ofChange racAllSpec)) racAllCard

/-- THE SECOND FORM's CARD OF 'zoetropelaw02.RacPuts'. -/
def racPutsUptoCard : Claim7 := { stood := { row := racPutsUptoRow, standIns := [], harness := (true, "f2d6f4b9ccd32a247dc5f36e3abc098bfa78b15b9d1007e2580f656167e5294e"), looks := false }, kinds := [], alts := [], laidByText := true, laidKinds := [.data, .pinned], laidTests := true, laidLooks := .later }
def RacPutsUptoCardSaid : Prop := Claim7.holds Tryd.pinned (.plain (OpenSpec.upto racPutsSpec)) racPutsUptoCard

/-- THE SECOND FORM's CARD OF 'zoetropelaw02.RacTakes'. -/
def racTakesUptoCard : Claim7 := { stood := { row := racTakesUptoRow, standIns := [], harness := (true, "f2d6f4b9ccd32a247dc5f36e3abc098bfa78b15b9d1007e2580f656167e5294e"), looks := false }, kinds := [], alts := [], laidByText := true, laidKinds := [.data, .pinned], laidTests := true, laidLooks := .later }
def RacTakesUptoCardSaid : Prop := Claim7.holds Tryd.pinned (.plain (OpenSpec.upto racTakesSpec)) racTakesUptoCard

/-- THE SECOND FORM's CARD OF 'zoetropelaw02.RacBack'. -/
def racBackUptoCard : Claim7 := { stood := { row := racBackUptoRow, standIns := [], harness := (true, "f2d6f4b9ccd32a247dc5f36e3abc098bfa78b15b9d1007e2580f656167e5294e"), looks := false }, kinds := [], alts := [], laidByText := true, laidKinds := [.data, .pinned], laidTests := true, laidLooks := .later }
def RacBackUptoCardSaid : Prop := Claim7.holds Tryd.pinned (.plain (OpenSpec.upto racBackSpec)) racBackUptoCard

/-- THE SECOND FORM's CARD OF 'zoetropelaw02.RacEndless'. -/
def racEndlessUptoCard : Claim7 := { stood := { row := racEndlessUptoRow, standIns := [], harness := (true, "f2d6f4b9ccd32a247dc5f36e3abc098bfa78b15b9d1007e2580f656167e5294e"), looks := false }, kinds := [], alts := [], laidByText := true, laidKinds := [.data, .pinned], laidTests := true, laidLooks := .later }
def RacEndlessUptoCardSaid : Prop := Claim7.holds Tryd.pinned (.plain (OpenSpec.upto racEndlessSpec)) racEndlessUptoCard

/-- THE SECOND FORM's CARD OF 'zoetropelaw02.RacNoughts'. -/
def racNoughtsUptoCard : Claim7 := { stood := { row := racNoughtsUptoRow, standIns := [], harness := (true, "f2d6f4b9ccd32a247dc5f36e3abc098bfa78b15b9d1007e2580f656167e5294e"), looks := false }, kinds := [], alts := [], laidByText := true, laidKinds := [.data, .pinned], laidTests := true, laidLooks := .later }
def RacNoughtsUptoCardSaid : Prop := Claim7.holds Tryd.pinned (.plain (OpenSpec.upto racNoughtsSpec)) racNoughtsUptoCard

/-- THE SECOND FORM's CARD OF 'zoetropelaw02.RacAll'. -/
def racAllUptoCard : Claim7 := { stood := { row := racAllUptoRow, standIns := [], harness := (true, "f2d6f4b9ccd32a247dc5f36e3abc098bfa78b15b9d1007e2580f656167e5294e"), looks := false }, kinds := [], alts := [], laidByText := true, laidKinds := [.data, .pinned], laidTests := true, laidLooks := .later }
def RacAllUptoCardSaid : Prop := Claim7.holds Tryd.pinned (.plain (OpenSpec.upto racAllSpec)) racAllUptoCard
end Rows
end Go.Proofs.YtogaekjohnbbiaaDoor
