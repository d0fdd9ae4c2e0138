/-
  DERIVED. GIVEN WITH THE SEED: THE CARDS: each row of YtddnnlofdicgkaaDoorRows.lean that lists a variable, with what it lists TIED to the program's text (the seventh form; the later family's looks); each row that meets fmt, with fmt's text TOLD by the authors' own Lean function (tested against real Go, not proved from fmt's source: count such statements apart). THE CARD IS WHAT COUNTS. Prove the row's statement (the work); the ties are given (YtddnnlofdicgkaaDoorTie.lean); close each card by the builder's one call (the guide's Derived/Test/ToyasCard.lean, 'card_holds'). Laid BY PROGRAM, IN A SANDBOX (cutbox-door.mjs). By AI agents, Wed Nov 11 2026. No macro, syntax, notation, axiom, sorry.
-/
import Derived.Test.YtddnnlofdicgkaaDoorRows
import GoSem.ClaimSeven
namespace Go.Proofs.YtddnnlofdicgkaaDoor
namespace Rows

/-- THE TIED CARD OF 'zoetropelaw08.TxfmTypes'. -/
def txfmTypesCard : Claim7 := { stood := { row := txfmTypesRow, standIns := [], harness := (true, "607a2a7973080d1e28dfdb965f8b8b27da7c67e76f1d1d1c5d1018b5243f6d60"), looks := false }, kinds := [], alts := [], laidByText := true, laidKinds := [.data], laidTests := true, laidLooks := .later }
def TxfmTypesCardSaid : Prop := Claim7.holds Tryd.pinned (.plain (OpenSpec.ofChange txfmTypesSpec)) txfmTypesCard

/-- THE TIED CARD OF 'zoetropelaw08.TxfmInverts'. -/
def txfmInvertsCard : Claim7 := { stood := { row := txfmInvertsRow, standIns := [], harness := (true, "607a2a7973080d1e28dfdb965f8b8b27da7c67e76f1d1d1c5d1018b5243f6d60"), looks := false }, kinds := [], alts := [], laidByText := true, laidKinds := [.data], laidTests := true, laidLooks := .later }
def TxfmInvertsCardSaid : Prop := Claim7.holds Tryd.pinned (.plain (OpenSpec.ofChange txfmInvertsSpec)) txfmInvertsCard

/-- THE TIED CARD OF 'zoetropelaw08.TxfmForwards'. -/
def txfmForwardsCard : Claim7 := { stood := { row := txfmForwardsRow, standIns := [], harness := (true, "607a2a7973080d1e28dfdb965f8b8b27da7c67e76f1d1d1c5d1018b5243f6d60"), looks := false }, kinds := [], alts := [], laidByText := true, laidKinds := [.data], laidTests := true, laidLooks := .later }
def TxfmForwardsCardSaid : Prop := Claim7.holds Tryd.pinned (.plain (OpenSpec.ofChange txfmForwardsSpec)) txfmForwardsCard

/-- THE TIED CARD OF 'zoetropelaw08.TxfmLossless'. -/
def txfmLosslessCard : Claim7 := { stood := { row := txfmLosslessRow, standIns := [], harness := (true, "607a2a7973080d1e28dfdb965f8b8b27da7c67e76f1d1d1c5d1018b5243f6d60"), looks := false }, kinds := [], alts := [], laidByText := true, laidKinds := [.data], laidTests := true, laidLooks := .later }
def TxfmLosslessCardSaid : Prop := Claim7.holds Tryd.pinned (.plain (OpenSpec.ofChange txfmLosslessSpec)) txfmLosslessCard

/-- THE TIED CARD OF 'zoetropelaw08.TxfmFlat'. -/
def txfmFlatCard : Claim7 := { stood := { row := txfmFlatRow, standIns := [], harness := (true, "607a2a7973080d1e28dfdb965f8b8b27da7c67e76f1d1d1c5d1018b5243f6d60"), looks := false }, kinds := [], alts := [], laidByText := true, laidKinds := [.data], laidTests := true, laidLooks := .later }
def TxfmFlatCardSaid : Prop := Claim7.holds Tryd.pinned (.plain (OpenSpec.ofChange txfmFlatSpec)) txfmFlatCard

/-- THE TIED CARD OF 'zoetropelaw08.TxfmNear'. -/
def txfmNearCard : Claim7 := { stood := { row := txfmNearRow, standIns := [], harness := (true, "607a2a7973080d1e28dfdb965f8b8b27da7c67e76f1d1d1c5d1018b5243f6d60"), looks := false }, kinds := [], alts := [], laidByText := true, laidKinds := [.data], laidTests := true, laidLooks := .later }
def TxfmNearCardSaid : Prop := Claim7.holds Tryd.pinned (.plain (OpenSpec.ofChange txfmNearSpec)) txfmNearCard

/-- THE SECOND FORM's CARD OF 'zoetropelaw08.TxfmTypes'. -/
def txfmTypesUptoCard : Claim7 := { stood := { row := txfmTypesUptoRow, standIns := [], harness := (true, "607a2a7973080d1e28dfdb965f8b8b27da7c67e76f1d1d1c5d1018b5243f6d60"), looks := false }, kinds := [], alts := [], laidByText := true, laidKinds := [.data], laidTests := true, laidLooks := .later }
def TxfmTypesUptoCardSaid : Prop := Claim7.holds Tryd.pinned (.plain (OpenSpec.upto txfmTypesSpec)) txfmTypesUptoCard

/-- THE SECOND FORM's CARD OF 'zoetropelaw08.TxfmInverts'. -/
def txfmInvertsUptoCard : Claim7 := { stood := { row := txfmInvertsUptoRow, standIns := [], harness := (true, "607a2a7973080d1e28dfdb965f8b8b27da7c67e76f1d1d1c5d1018b5243f6d60"), looks := false }, kinds := [], alts := [], laidByText := true, laidKinds := [.data], laidTests := true, laidLooks := .later }
def TxfmInvertsUptoCardSaid : Prop := Claim7.holds Tryd.pinned (.plain (OpenSpec.upto txfmInvertsSpec)) txfmInvertsUptoCard

/-- THE SECOND FORM's CARD OF 'zoetropelaw08.TxfmForwards'. -/
def txfmForwardsUptoCard : Claim7 := { stood := { row := txfmForwardsUptoRow, standIns := [], harness := (true, "607a2a7973080d1e28dfdb965f8b8b27da7c67e76f1d1d1c5d1018b5243f6d60"), looks := false }, kinds := [], alts := [], laidByText := true, laidKinds := [.data], laidTests := true, laidLooks := .later }
def TxfmForwardsUptoCardSaid : Prop := Claim7.holds Tryd.pinned (.plain (OpenSpec.upto txfmForwardsSpec)) txfmForwardsUptoCard

/-- THE SECOND FORM's CARD OF 'zoetropelaw08.TxfmLossless'. -/
def txfmLosslessUptoCard : Claim7 := { stood := { row := txfmLosslessUptoRow, standIns := [], harness := (true, "607a2a7973080d1e28dfdb965f8b8b27da7c67e76f1d1d1c5d1018b5243f6d60"), looks := false }, kinds := [], alts := [], laidByText := true, laidKinds := [.data], laidTests := true, laidLooks := .later }
def TxfmLosslessUptoCardSaid : Prop := Claim7.holds Tryd.pinned (.plain (OpenSpec.upto txfmLosslessSpec)) txfmLosslessUptoCard

/-- THE SECOND FORM's CARD OF 'zoetropelaw08.TxfmFlat'. -/
def txfmFlatUptoCard : Claim7 := { stood := { row := txfmFlatUptoRow, standIns := [], harness := (true, "607a2a7973080d1e28dfdb965f8b8b27da7c67e76f1d1d1c5d1018b5243f6d60"), looks := false }, kinds := [], alts := [], laidByText := true, laidKinds := [.data], laidTests := true, laidLooks := .later }
def TxfmFlatUptoCardSaid : Prop := Claim7.holds Tryd.pinned (.plain (OpenSpec.upto txfmFlatSpec)) txfmFlatUptoCard

/-- THE SECOND FORM's CARD OF 'zoetropelaw08.TxfmNear'. -/
def txfmNearUptoCard : Claim7 := { stood := { row := txfmNearUptoRow, standIns := [], harness := (true, "607a2a7973080d1e28dfdb965f8b8b27da7c67e76f1d1d1c5d1018b5243f6d60"), looks := false }, kinds := [], alts := [], laidByText := true, laidKinds := [.data], laidTests := true, laidLooks := .later }
def TxfmNearUptoCardSaid : Prop := Claim7.holds Tryd.pinned (.plain (OpenSpec.upto txfmNearSpec)) txfmNearUptoCard
end Rows
end Go.Proofs.YtddnnlofdicgkaaDoor
