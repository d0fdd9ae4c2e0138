/- DERIVED. Cut refused; the walk of Lay. -/
import Derived.Test.YtdiphgkgehpgiaaPb
namespace Go.Proofs.Ytdiphgkgehpgiaa
open Go.RowKit

set_option maxHeartbeats 1000000 in
set_option maxHeartbeats 1000000 in
/-- of the blocks of v only g has turned -/
structure Kf (g : Nat) (v w : World) : Prop where
  os : w.os = v.os
  tape : w.tape = v.tape
  output : w.output = v.output
  size : v.heap.size ≤ w.heap.size
  block : ∀ i, i < v.heap.size → i ≠ g → w.heap[i]? = v.heap[i]?
theorem Kf.refl (g : Nat) (v : World) : Kf g v v := ⟨rfl, rfl, rfl, Nat.le_refl _, fun _ _ _ => rfl⟩
theorem Kf.step {g : Nat} {v w w' : World} (h : Kf g v w) (hb : Below w.heap.size w w') : Kf g v w' := ⟨hb.os.trans h.os, hb.tape.trans h.tape, hb.output.trans h.output, Nat.le_trans h.size hb.size, fun i hi hg => (hb.block i (Nat.lt_of_lt_of_le hi h.size)).trans (h.block i hi hg)⟩
theorem Kf.kb {g : Nat} {v w w' : World} (h : Kf g v w) (k : Kb g w w') : Kf g v w' := ⟨k.os.trans h.os, k.tape.trans h.tape, k.output.trans h.output, by rw [k.size]; exact h.size, fun i hi hg => (k.block i hg).trans (h.block i hi hg)⟩
theorem Kf.drew {g : Nat} {v w : World} (h : Kf g v w) : Kf g v w.drew := ⟨h.os, h.tape, h.output, h.size, h.block⟩
theorem Kf.drewN {g : Nat} {v w : World} (h : Kf g v w) (n : Nat) : Kf g v (w.drewN n) := ⟨h.os, h.tape, h.output, h.size, h.block⟩
theorem Kf.cell {g : Nat} {v w : World} (h : Kf g v w) (i o : Nat) (hi : i < v.heap.size) (hg : i ≠ g) : w.cell? ⟨i, o, none⟩ = v.cell? ⟨i, o, none⟩ := World.cell?_of_block (w := v) (a := ⟨i, o, none⟩) (h.block i hi hg)
theorem Kf.frozen {g : Nat} {v w : World} (h : Kf g v w) (i o : Nat) (hi : i < v.heap.size) (hg : i ≠ g) : w.frozen? ⟨i, o, none⟩ = v.frozen? ⟨i, o, none⟩ := World.frozen?_of_block (w := v) (a := ⟨i, o, none⟩) (h.block i hi hg)
theorem Kf.below {g B : Nat} {v w : World} (h : Kf g v w) (h1 : B ≤ g) (h2 : B ≤ v.heap.size) : Below B v w := ⟨h.os, h.tape, h.output, h.size, fun i hi => h.block i (by omega) (by omega)⟩
theorem Rw.kf {g i : Nat} {C : List Nat} {v w : World} (h : Rw v i C) (k : Kf g v w) (hi : i ≠ g) : Rw w i C := h.carry (k.block i h.lt hi)
/-- a slice that does not lie in block g -/
theorem Sl.kf {g : Nat} {v w : World} {k : IntKind} {a : Option Addr} {C : List Nat} (h : Sl v k a C) (f : Kf g v w) (hg : ∀ b o, a = some ⟨b, o, none⟩ → b ≠ g) : Sl w k a C := by
  rcases h with h | ⟨b, o, h1, h2, h3⟩
  · exact Or.inl h
  · exact Or.inr ⟨b, o, h1, Nat.lt_of_lt_of_le h2 f.size, fun j hj => by rw [f.cell b _ h2 (hg b o h1)]; exact h3 j hj⟩
theorem Sl.low {u v w : World} {k : IntKind} {a : Option Addr} {C : List Nat} {g : Nat} (h : Sl u k a C) (hb : Below u.heap.size u v) (f : Kf g v w) (hg : u.heap.size ≤ g) : Sl w k a C := by
  rcases h with h | ⟨b, o, h1, h2, h3⟩
  · exact Or.inl h
  · have h4 := hb.size
    exact Or.inr ⟨b, o, h1, by have := f.size; omega, fun j hj => by rw [f.cell b _ (by omega) (by omega), newCell hb _ _ h2]; exact h3 j hj⟩

end Go.Proofs.Ytdiphgkgehpgiaa
