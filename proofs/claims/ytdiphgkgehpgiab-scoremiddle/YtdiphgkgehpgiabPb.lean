/- DERIVED. What may turn (Kb), copy as a law over rows; the walks of At, blank, fill, New, within, line. -/
import Derived.Test.YtdiphgkgehpgiabPa
namespace Go.Proofs.Ytdiphgkgehpgiab
open Go.RowKit

/-- of the old blocks only g has turned, and none is new -/
structure Kb (g : Nat) (w w' : World) : Prop where
  os : w'.os = w.os
  tape : w'.tape = w.tape
  output : w'.output = w.output
  size : w'.heap.size = w.heap.size
  block : ∀ i, i ≠ g → w'.heap[i]? = w.heap[i]?
theorem Kb.refl (g : Nat) (w : World) : Kb g w w := ⟨rfl, rfl, rfl, rfl, fun _ _ => rfl⟩
theorem Kb.trans {g : Nat} {a b c : World} (h : Kb g a b) (k : Kb g b c) : Kb g a c := ⟨k.os.trans h.os, k.tape.trans h.tape, k.output.trans h.output, k.size.trans h.size, fun i hi => (k.block i hi).trans (h.block i hi)⟩
theorem Kb.below {g B : Nat} {w w' : World} (h : Kb g w w') (hg : B ≤ g) : Below B w w' := ⟨h.os, h.tape, h.output, by rw [h.size]; exact Nat.le_refl _, fun i hi => h.block i (by omega)⟩
theorem Kb.cell {g : Nat} {w w' : World} (h : Kb g w w') (i o : Nat) (hi : i ≠ g) : w'.cell? ⟨i, o, none⟩ = w.cell? ⟨i, o, none⟩ := World.cell?_of_block (w := w) (a := ⟨i, o, none⟩) (h.block i hi)
theorem Kb.frozen {g : Nat} {w w' : World} (h : Kb g w w') (i o : Nat) (hi : i ≠ g) : w'.frozen? ⟨i, o, none⟩ = w.frozen? ⟨i, o, none⟩ := World.frozen?_of_block (w := w) (a := ⟨i, o, none⟩) (h.block i hi)
theorem Kb.setCell (g k : Nat) (w : World) (v : Value) : Kb g w (w.setCell ⟨g, k, none⟩ v) := ⟨rfl, rfl, rfl, by simp, fun i hi => Below.heap_setCell _ _ _ _ (fun e => hi e)⟩
theorem Kb.setRow (w : World) (g : Nat) (cs : Array Value) : Kb g w (w.setRow g cs) := ⟨rfl, rfl, rfl, by simp [World.setRow], fun i hi => setRow_other w g i cs hi⟩

theorem ns_splice (k : IntKind) (C : List Nat) (o : Nat) (D : List Nat) : ns k (splice C o D) = splice (ns k C) o (ns k D) := by simp [ns, splice]

/-- the same in a region that draws its order -/
theorem Rw.madeAt (u : World) (n : Nat) {g : Nat} (h : u.heap.size = g) : Rw (u.alloc (.cells (madeCells #[.int .u8 0] n) 5)) g (List.replicate n 0) := by subst h; exact Rw.made u n

end Go.Proofs.Ytdiphgkgehpgiab
