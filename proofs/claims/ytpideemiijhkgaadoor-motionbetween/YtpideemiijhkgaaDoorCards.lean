/-
  DERIVED. GIVEN WITH THE SEED: THE CARDS: each row of YtpideemiijhkgaaDoorRows.lean that lists a variable, with what it lists TIED to the program's text (the seventh form; the later family's looks); each row that meets fmt, with fmt's text TOLD by the authors' own Lean function (tested against real Go, not proved from fmt's source: count such statements apart). THE CARD IS WHAT COUNTS. Prove the row's statement (the work); the ties are given (YtpideemiijhkgaaDoorTie.lean); close each card by the builder's one call (the guide's Derived/Test/ToyasCard.lean, 'card_holds'). Laid BY PROGRAM, IN A SANDBOX (cutbox-door.mjs). By AI agents, Wed Nov 11 2026. No macro, syntax, notation, axiom, sorry.
-/
import Derived.Test.YtpideemiijhkgaaDoorRows
import GoSem.ClaimSeven
namespace Go.Proofs.YtpideemiijhkgaaDoor
namespace Rows

/-- THE TIED CARD OF 'zoetropelaw15.MotionSingles'. -/
def motionSinglesCard : Claim7 := { stood := { row := motionSinglesRow, standIns := [], harness := (true, "35c6b5dd8eb4be457949d911a121a6d5690c1bd4cd1c00bbc2b4466e8a864199"), looks := false }, kinds := [], alts := [], laidByText := true, laidKinds := [.data, .data], laidTests := true, laidLooks := .later }
def MotionSinglesCardSaid : Prop := Claim7.holds Tryd.pinned (.plain (OpenSpec.ofChange motionSinglesSpec)) motionSinglesCard

/-- THE TIED CARD OF 'zoetropelaw15.MotionPairs'. -/
def motionPairsCard : Claim7 := { stood := { row := motionPairsRow, standIns := [], harness := (true, "35c6b5dd8eb4be457949d911a121a6d5690c1bd4cd1c00bbc2b4466e8a864199"), looks := false }, kinds := [], alts := [], laidByText := true, laidKinds := [.data, .data], laidTests := true, laidLooks := .later }
def MotionPairsCardSaid : Prop := Claim7.holds Tryd.pinned (.plain (OpenSpec.ofChange motionPairsSpec)) motionPairsCard

/-- THE TIED CARD OF 'zoetropelaw15.MotionBlends'. -/
def motionBlendsCard : Claim7 := { stood := { row := motionBlendsRow, standIns := [], harness := (true, "35c6b5dd8eb4be457949d911a121a6d5690c1bd4cd1c00bbc2b4466e8a864199"), looks := false }, kinds := [], alts := [], laidByText := true, laidKinds := [.data, .data], laidTests := true, laidLooks := .later }
def MotionBlendsCardSaid : Prop := Claim7.holds Tryd.pinned (.plain (OpenSpec.ofChange motionBlendsSpec)) motionBlendsCard

/-- THE TIED CARD OF 'zoetropelaw15.MotionWhole'. -/
def motionWholeCard : Claim7 := { stood := { row := motionWholeRow, standIns := [], harness := (true, "35c6b5dd8eb4be457949d911a121a6d5690c1bd4cd1c00bbc2b4466e8a864199"), looks := false }, kinds := [], alts := [], laidByText := true, laidKinds := [.data, .data], laidTests := true, laidLooks := .later }
def MotionWholeCardSaid : Prop := Claim7.holds Tryd.pinned (.plain (OpenSpec.ofChange motionWholeSpec)) motionWholeCard

/-- THE TIED CARD OF 'zoetropelaw15.MotionFurther'. -/
def motionFurtherCard : Claim7 := { stood := { row := motionFurtherRow, standIns := [], harness := (true, "35c6b5dd8eb4be457949d911a121a6d5690c1bd4cd1c00bbc2b4466e8a864199"), looks := false }, kinds := [], alts := [], laidByText := true, laidKinds := [.data, .data], laidTests := true, laidLooks := .later }
def MotionFurtherCardSaid : Prop := Claim7.holds Tryd.pinned (.plain (OpenSpec.ofChange motionFurtherSpec)) motionFurtherCard

/-- THE TIED CARD OF 'zoetropelaw15.MotionBetween'. -/
def motionBetweenCard : Claim7 := { stood := { row := motionBetweenRow, standIns := [], harness := (true, "35c6b5dd8eb4be457949d911a121a6d5690c1bd4cd1c00bbc2b4466e8a864199"), looks := false }, kinds := [], alts := [], laidByText := true, laidKinds := [.data, .data], laidTests := true, laidLooks := .later }
def MotionBetweenCardSaid : Prop := Claim7.holds Tryd.pinned (.plain (OpenSpec.ofChange motionBetweenSpec)) motionBetweenCard

/-- THE SECOND FORM's CARD OF 'zoetropelaw15.MotionSingles'. -/
def motionSinglesUptoCard : Claim7 := { stood := { row := motionSinglesUptoRow, standIns := [], harness := (true, "35c6b5dd8eb4be457949d911a121a6d5690c1bd4cd1c00bbc2b4466e8a864199"), looks := false }, kinds := [], alts := [], laidByText := true, laidKinds := [.data, .data], laidTests := true, laidLooks := .later }
def MotionSinglesUptoCardSaid : Prop := Claim7.holds Tryd.pinned (.plain (OpenSpec.upto motionSinglesSpec)) motionSinglesUptoCard

/-- THE SECOND FORM's CARD OF 'zoetropelaw15.MotionPairs'. -/
def motionPairsUptoCard : Claim7 := { stood := { row := motionPairsUptoRow, standIns := [], harness := (true, "35c6b5dd8eb4be457949d911a121a6d5690c1bd4cd1c00bbc2b4466e8a864199"), looks := false }, kinds := [], alts := [], laidByText := true, laidKinds := [.data, .data], laidTests := true, laidLooks := .later }
def MotionPairsUptoCardSaid : Prop := Claim7.holds Tryd.pinned (.plain (OpenSpec.upto motionPairsSpec)) motionPairsUptoCard

/-- THE SECOND FORM's CARD OF 'zoetropelaw15.MotionBlends'. -/
def motionBlendsUptoCard : Claim7 := { stood := { row := motionBlendsUptoRow, standIns := [], harness := (true, "35c6b5dd8eb4be457949d911a121a6d5690c1bd4cd1c00bbc2b4466e8a864199"), looks := false }, kinds := [], alts := [], laidByText := true, laidKinds := [.data, .data], laidTests := true, laidLooks := .later }
def MotionBlendsUptoCardSaid : Prop := Claim7.holds Tryd.pinned (.plain (OpenSpec.upto motionBlendsSpec)) motionBlendsUptoCard

/-- THE SECOND FORM's CARD OF 'zoetropelaw15.MotionWhole'. -/
def motionWholeUptoCard : Claim7 := { stood := { row := motionWholeUptoRow, standIns := [], harness := (true, "35c6b5dd8eb4be457949d911a121a6d5690c1bd4cd1c00bbc2b4466e8a864199"), looks := false }, kinds := [], alts := [], laidByText := true, laidKinds := [.data, .data], laidTests := true, laidLooks := .later }
def MotionWholeUptoCardSaid : Prop := Claim7.holds Tryd.pinned (.plain (OpenSpec.upto motionWholeSpec)) motionWholeUptoCard

/-- THE SECOND FORM's CARD OF 'zoetropelaw15.MotionFurther'. -/
def motionFurtherUptoCard : Claim7 := { stood := { row := motionFurtherUptoRow, standIns := [], harness := (true, "35c6b5dd8eb4be457949d911a121a6d5690c1bd4cd1c00bbc2b4466e8a864199"), looks := false }, kinds := [], alts := [], laidByText := true, laidKinds := [.data, .data], laidTests := true, laidLooks := .later }
def MotionFurtherUptoCardSaid : Prop := Claim7.holds Tryd.pinned (.plain (OpenSpec.upto motionFurtherSpec)) motionFurtherUptoCard

/-- THE SECOND FORM's CARD OF 'zoetropelaw15.MotionBetween'. -/
def motionBetweenUptoCard : Claim7 := { stood := { row := motionBetweenUptoRow, standIns := [], harness := (true, "35c6b5dd8eb4be457949d911a121a6d5690c1bd4cd1c00bbc2b4466e8a864199"), looks := false }, kinds := [], alts := [], laidByText := true, laidKinds := [.data, .data], laidTests := true, laidLooks := .later }
def MotionBetweenUptoCardSaid : Prop := Claim7.holds Tryd.pinned (.plain (OpenSpec.upto motionBetweenSpec)) motionBetweenUptoCard
end Rows
end Go.Proofs.YtpideemiijhkgaaDoor
