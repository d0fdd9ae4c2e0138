/- DERIVED. The walk of same, of two sets that have the same numbers. -/
import Derived.Test.YtppanogpeengnabGreatDoorSr
namespace Go.Proofs.YtppanogpeengnabGreatDoor
open Go.RowKit L3

/-- two tables in variables -/
def Tw (B : Nat) (W V : World) (a b : Nat) (va vb : Value) (n : Int) : Prop := (∀ v, Below V.heap.size V v → v.cell? ⟨a, 0, none⟩ = some va ∧ v.cell? ⟨a, 1, none⟩ = some (.int .i64 n) ∧ v.cell? ⟨b, 0, none⟩ = some vb ∧ v.cell? ⟨b, 1, none⟩ = some (.int .i64 n)) ∧ Below B W V


end Go.Proofs.YtppanogpeengnabGreatDoor
