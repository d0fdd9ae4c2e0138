/- DERIVED. A bits.Reader in memory (Rd), what a method may touch (Kp), and the walks of look and Fixed over it. -/
import Derived.Test.YtkippnfijjhobabRdA
import Derived.Test.YtkippnfijjhobabMa
namespace Go.Proofs.Ytkippnfijjhobab
open Go.RowKit

/-- a byte slice's cells: nil, or a row of cells -/
def Dat (w : World) (v : Value) (r : Nat) (zs : List Nat) : Prop :=
  (zs = [] ∧ v = .slice none 0 0) ∨ ∃ g c, g ≠ r ∧ g < w.heap.size ∧ zs.length ≤ c ∧ v = .slice (some ⟨g, 0, none⟩) zs.length c ∧
    ∀ i, i < zs.length → w.cell? ⟨g, i, none⟩ = some (.int .u8 (zs.getD i 0 : Nat))

/-- a reader of the bytes zs at the place p lies in block r -/
structure Rd (w : World) (r : Nat) (v : Value) (zs : List Nat) (p : Nat) : Prop where
  made : w.cell? ⟨r, 0, none⟩ = some (.bool true)
  data : w.cell? ⟨r, 1, none⟩ = some v
  cells : Dat w v r zs
  place : w.cell? ⟨r, 2, none⟩ = some (.int .i64 p)
  thaw : w.frozen? ⟨r, 2, none⟩ = false
  low : r < w.heap.size
  byt : ∀ i, zs.getD i 0 < 256
  len : zs.length ≤ 140737488355328
  bnd : p ≤ 8 * zs.length

theorem Rd.sl {w : World} {r : Nat} {v : Value} {zs : List Nat} {p : Nat} (h : Rd w r v zs p) : ∃ a c, v = .slice a zs.length c := by
  rcases h.cells with ⟨rfl, rfl⟩ | ⟨g, c, _, _, _, rfl, _⟩
  · exact ⟨_, _, rfl⟩
  · exact ⟨_, _, rfl⟩

/-- of all blocks r alone may have turned; nothing was made -/
structure Kp (r : Nat) (w w' : World) : Prop where
  os : w'.os = w.os
  tape : w'.tape = w.tape
  output : w'.output = w.output
  size : w'.heap.size = w.heap.size
  block : ∀ k, k ≠ r → w'.heap[k]? = w.heap[k]?

theorem Kp.refl (r : Nat) (w : World) : Kp r w w := ⟨rfl, rfl, rfl, rfl, fun _ _ => rfl⟩
theorem Kp.trans {r : Nat} {a b c : World} (h : Kp r a b) (k : Kp r b c) : Kp r a c :=
  ⟨k.os.trans h.os, k.tape.trans h.tape, k.output.trans h.output, k.size.trans h.size, fun i hi => (k.block i hi).trans (h.block i hi)⟩
theorem Kp.drewN (r : Nat) (w : World) (n : Nat) : Kp r w (w.drewN n) := by
  induction n generalizing w with
  | zero => exact Kp.refl _ _
  | succ n ih => exact ⟨rfl, rfl, rfl, rfl, fun _ _ => rfl⟩

theorem Rd.same {w w' : World} {r : Nat} {v : Value} {zs : List Nat} {p : Nat} (h : Rd w r v zs p) (e : w'.heap = w.heap) : Rd w' r v zs p := by
  have ec : ∀ a, w'.cell? a = w.cell? a := fun a => World.cell?_of_block (w := w) (by rw [e])
  have ef : ∀ a, w'.frozen? a = w.frozen? a := fun a => World.frozen?_of_block (w := w) (by rw [e])
  refine ⟨by rw [ec]; exact h.made, by rw [ec]; exact h.data, ?_, by rw [ec]; exact h.place, by rw [ef]; exact h.thaw, by rw [e]; exact h.low, h.byt, h.len, h.bnd⟩
  rcases h.cells with h1 | ⟨g, c, h1, h2, h3, h4, h5⟩
  · exact Or.inl h1
  · exact Or.inr ⟨g, c, h1, by rw [e]; exact h2, h3, h4, fun i hi => by rw [ec]; exact h5 i hi⟩

theorem Rd.set {w : World} {r : Nat} {v : Value} {zs : List Nat} {p : Nat} (h : Rd w r v zs p) {q : Nat} (hq : q ≤ 8 * zs.length) : Rd (w.setCell ⟨r, 2, none⟩ (.int .i64 q)) r v zs q := by
  have hf : ∀ a, (w.setCell ⟨r, 2, none⟩ (.int .i64 q)).frozen? a = w.frozen? a := fun a => by simp
  refine ⟨?_, ?_, ?_, ?_, by rw [hf]; exact h.thaw, by have := h.low; simp [World.setCell]; exact this, h.byt, h.len, hq⟩
  · rw [World.cell?_setCell_other _ _ _ _ (by simp)]; exact h.made
  · rw [World.cell?_setCell_other _ _ _ _ (by simp)]; exact h.data
  · rcases h.cells with h1 | ⟨g, c, h1, h2, h3, h4, h5⟩
    · exact Or.inl h1
    · exact Or.inr ⟨g, c, h1, by simp [World.setCell]; exact h2, h3, h4, fun i hi => by rw [World.cell?_setCell_other _ _ _ _ (by simp)]; exact h5 i hi⟩
  · exact World.cell?_setCell_same _ _ _ h.place

theorem Kp.set (r o : Nat) (w : World) (u : Value) : Kp r w (w.setCell ⟨r, o, none⟩ u) :=
  ⟨rfl, rfl, rfl, by simp [World.setCell], fun k hk => Below.heap_setCell _ _ _ _ (by simpa using hk)⟩

end Go.Proofs.Ytkippnfijjhobab
