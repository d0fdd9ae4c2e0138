/-
  DERIVED. GIVEN WITH THE SEED: THE CARDS: each row of YtjbipejpegmmoaaDoorRows.lean that lists a variable, with what it lists TIED to the program's text (the seventh form; the later family's looks); each row that meets fmt, with fmt's text TOLD by the authors' own Lean function (tested against real Go, not proved from fmt's source: count such statements apart). THE CARD IS WHAT COUNTS. Prove the row's statement (the work); the ties are given (YtjbipejpegmmoaaDoorTie.lean); close each card by the builder's one call (the guide's Derived/Test/ToyasCard.lean, 'card_holds'). Laid BY PROGRAM, IN A SANDBOX (cutbox-door.mjs). By AI agents, Wed Nov 11 2026. No macro, syntax, notation, axiom, sorry.
-/
import Derived.Test.YtjbipejpegmmoaaDoorRows
import GoSem.ClaimSeven
namespace Go.Proofs.YtjbipejpegmmoaaDoor
namespace Rows

/-- THE TIED CARD OF 'zoetropelaw07.BasisCos'. -/
def basisCosCard : Claim7 := { stood := { row := basisCosRow, standIns := [], harness := (true, "9d0c714c118cafcfdecef8b420e8187530a8ecf9356ce8feec0e0504bb8fb161"), looks := false }, kinds := [], alts := [], laidByText := true, laidKinds := [.data], laidTests := true, laidLooks := .later }
def BasisCosCardSaid : Prop := Claim7.holds Tryd.pinned (.plain (OpenSpec.ofChange basisCosSpec)) basisCosCard

/-- THE TIED CARD OF 'zoetropelaw07.BasisTurns'. -/
def basisTurnsCard : Claim7 := { stood := { row := basisTurnsRow, standIns := [], harness := (true, "9d0c714c118cafcfdecef8b420e8187530a8ecf9356ce8feec0e0504bb8fb161"), looks := false }, kinds := [], alts := [], laidByText := true, laidKinds := [.data], laidTests := true, laidLooks := .later }
def BasisTurnsCardSaid : Prop := Claim7.holds Tryd.pinned (.plain (OpenSpec.ofChange basisTurnsSpec)) basisTurnsCard

/-- THE TIED CARD OF 'zoetropelaw07.BasisLossless'. -/
def basisLosslessCard : Claim7 := { stood := { row := basisLosslessRow, standIns := [], harness := (true, "9d0c714c118cafcfdecef8b420e8187530a8ecf9356ce8feec0e0504bb8fb161"), looks := false }, kinds := [], alts := [], laidByText := true, laidKinds := [.data], laidTests := true, laidLooks := .later }
def BasisLosslessCardSaid : Prop := Claim7.holds Tryd.pinned (.plain (OpenSpec.ofChange basisLosslessSpec)) basisLosslessCard

/-- THE TIED CARD OF 'zoetropelaw07.BasisNear'. -/
def basisNearCard : Claim7 := { stood := { row := basisNearRow, standIns := [], harness := (true, "9d0c714c118cafcfdecef8b420e8187530a8ecf9356ce8feec0e0504bb8fb161"), looks := false }, kinds := [], alts := [], laidByText := true, laidKinds := [.data], laidTests := true, laidLooks := .later }
def BasisNearCardSaid : Prop := Claim7.holds Tryd.pinned (.plain (OpenSpec.ofChange basisNearSpec)) basisNearCard

/-- THE TIED CARD OF 'zoetropelaw07.BasisAdds'. -/
def basisAddsCard : Claim7 := { stood := { row := basisAddsRow, standIns := [], harness := (true, "9d0c714c118cafcfdecef8b420e8187530a8ecf9356ce8feec0e0504bb8fb161"), looks := false }, kinds := [], alts := [], laidByText := true, laidKinds := [.data], laidTests := true, laidLooks := .later }
def BasisAddsCardSaid : Prop := Claim7.holds Tryd.pinned (.plain (OpenSpec.ofChange basisAddsSpec)) basisAddsCard

/-- THE TIED CARD OF 'zoetropelaw07.BasisBounded'. -/
def basisBoundedCard : Claim7 := { stood := { row := basisBoundedRow, standIns := [], harness := (true, "9d0c714c118cafcfdecef8b420e8187530a8ecf9356ce8feec0e0504bb8fb161"), looks := false }, kinds := [], alts := [], laidByText := true, laidKinds := [.data], laidTests := true, laidLooks := .later }
def BasisBoundedCardSaid : Prop := Claim7.holds Tryd.pinned (.plain (OpenSpec.ofChange basisBoundedSpec)) basisBoundedCard

/-- THE SECOND FORM's CARD OF 'zoetropelaw07.BasisCos'. -/
def basisCosUptoCard : Claim7 := { stood := { row := basisCosUptoRow, standIns := [], harness := (true, "9d0c714c118cafcfdecef8b420e8187530a8ecf9356ce8feec0e0504bb8fb161"), looks := false }, kinds := [], alts := [], laidByText := true, laidKinds := [.data], laidTests := true, laidLooks := .later }
def BasisCosUptoCardSaid : Prop := Claim7.holds Tryd.pinned (.plain (OpenSpec.upto basisCosSpec)) basisCosUptoCard

/-- THE SECOND FORM's CARD OF 'zoetropelaw07.BasisTurns'. -/
def basisTurnsUptoCard : Claim7 := { stood := { row := basisTurnsUptoRow, standIns := [], harness := (true, "9d0c714c118cafcfdecef8b420e8187530a8ecf9356ce8feec0e0504bb8fb161"), looks := false }, kinds := [], alts := [], laidByText := true, laidKinds := [.data], laidTests := true, laidLooks := .later }
def BasisTurnsUptoCardSaid : Prop := Claim7.holds Tryd.pinned (.plain (OpenSpec.upto basisTurnsSpec)) basisTurnsUptoCard

/-- THE SECOND FORM's CARD OF 'zoetropelaw07.BasisLossless'. -/
def basisLosslessUptoCard : Claim7 := { stood := { row := basisLosslessUptoRow, standIns := [], harness := (true, "9d0c714c118cafcfdecef8b420e8187530a8ecf9356ce8feec0e0504bb8fb161"), looks := false }, kinds := [], alts := [], laidByText := true, laidKinds := [.data], laidTests := true, laidLooks := .later }
def BasisLosslessUptoCardSaid : Prop := Claim7.holds Tryd.pinned (.plain (OpenSpec.upto basisLosslessSpec)) basisLosslessUptoCard

/-- THE SECOND FORM's CARD OF 'zoetropelaw07.BasisNear'. -/
def basisNearUptoCard : Claim7 := { stood := { row := basisNearUptoRow, standIns := [], harness := (true, "9d0c714c118cafcfdecef8b420e8187530a8ecf9356ce8feec0e0504bb8fb161"), looks := false }, kinds := [], alts := [], laidByText := true, laidKinds := [.data], laidTests := true, laidLooks := .later }
def BasisNearUptoCardSaid : Prop := Claim7.holds Tryd.pinned (.plain (OpenSpec.upto basisNearSpec)) basisNearUptoCard

/-- THE SECOND FORM's CARD OF 'zoetropelaw07.BasisAdds'. -/
def basisAddsUptoCard : Claim7 := { stood := { row := basisAddsUptoRow, standIns := [], harness := (true, "9d0c714c118cafcfdecef8b420e8187530a8ecf9356ce8feec0e0504bb8fb161"), looks := false }, kinds := [], alts := [], laidByText := true, laidKinds := [.data], laidTests := true, laidLooks := .later }
def BasisAddsUptoCardSaid : Prop := Claim7.holds Tryd.pinned (.plain (OpenSpec.upto basisAddsSpec)) basisAddsUptoCard

/-- THE SECOND FORM's CARD OF 'zoetropelaw07.BasisBounded'. -/
def basisBoundedUptoCard : Claim7 := { stood := { row := basisBoundedUptoRow, standIns := [], harness := (true, "9d0c714c118cafcfdecef8b420e8187530a8ecf9356ce8feec0e0504bb8fb161"), looks := false }, kinds := [], alts := [], laidByText := true, laidKinds := [.data], laidTests := true, laidLooks := .later }
def BasisBoundedUptoCardSaid : Prop := Claim7.holds Tryd.pinned (.plain (OpenSpec.upto basisBoundedSpec)) basisBoundedUptoCard
end Rows
end Go.Proofs.YtjbipejpegmmoaaDoor
