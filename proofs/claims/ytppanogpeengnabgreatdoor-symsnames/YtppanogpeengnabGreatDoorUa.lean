/- DERIVED. The walk of SymsAny. -/
import Derived.Test.YtppanogpeengnabGreatDoorSr
import Derived.Test.YtppanogpeengnabGreatDoorSv
namespace Go.Proofs.YtppanogpeengnabGreatDoor
open Go.RowKit L3

/-- something to code -/
structure Dx where
  b : Bool
  n : Int
  k : Int
  c : Int
  v : Int
def dz : Dx := ⟨false, 0, 0, 0, 0⟩
/-- a list of things to code that lies in memory -/
def DoAt (w : World) (a : Option Addr) (L : List Dx) : Prop :=
  L = [] ∨ ∃ b off, a = some ⟨b, off, none⟩ ∧ b < w.heap.size ∧
    ∀ j, j < L.length → w.cell? ⟨b, off + j * 5, none⟩ = some (.bool (L.getD j dz).b) ∧ w.cell? ⟨b, off + j * 5 + 1, none⟩ = some (.int .i64 (L.getD j dz).n) ∧ w.cell? ⟨b, off + j * 5 + 2, none⟩ = some (.int .i64 (L.getD j dz).k) ∧ w.cell? ⟨b, off + j * 5 + 3, none⟩ = some (.int .i64 (L.getD j dz).c) ∧ w.cell? ⟨b, off + j * 5 + 4, none⟩ = some (.int .i64 (L.getD j dz).v)
theorem DoAt.cells {w : World} {a : Option Addr} {L : List Dx} (h : DoAt w a L) {j : Nat} (hj : j < L.length) : ∃ b off, a = some ⟨b, off, none⟩ ∧
    ∀ v, Below w.heap.size w v → v.cell? ⟨b, off + j * 5, none⟩ = some (.bool (L.getD j dz).b) ∧ v.cell? ⟨b, off + j * 5 + 1, none⟩ = some (.int .i64 (L.getD j dz).n) ∧ v.cell? ⟨b, off + j * 5 + 2, none⟩ = some (.int .i64 (L.getD j dz).k) ∧ v.cell? ⟨b, off + j * 5 + 3, none⟩ = some (.int .i64 (L.getD j dz).c) ∧ v.cell? ⟨b, off + j * 5 + 4, none⟩ = some (.int .i64 (L.getD j dz).v) := by
  rcases h with rfl | ⟨b, off, h1, h2, h3⟩
  · simp at hj
  · exact ⟨b, off, h1, fun v hv => by rw [newCell hv _ _ h2, newCell hv _ _ h2, newCell hv _ _ h2, newCell hv _ _ h2, newCell hv _ _ h2]; exact h3 j hj⟩

structure AnI (W : World) (lo x bt xd b : Nat) (zs : List Nat) (len : Nat) (nv iv : Value) (wr : World) : Prop where
  ex : ∃ (Z : Nat → Option Obj) (i : Nat) (cnt : Int) (K : List (Nat × List Tb)) (q c g : Nat), i ≤ len ∧ i ≤ 300 ∧ iv = .int .i64 i ∧ nv = .int .i64 cnt ∧ 0 ≤ cnt ∧ cnt ≤ 16 * i ∧ CR Z wr lo x bt K true cnt xd b zs q c g ∧ Below lo W wr


end Go.Proofs.YtppanogpeengnabGreatDoor
