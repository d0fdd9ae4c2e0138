/- DERIVED. Rows of whole numbers with a sign, in memory. -/
import Derived.Test.YtpideemiijhkgabDoorRows
import Derived.Test.YtpideemiijhkgabDoorGa
import Derived.Deep.OwnRows
namespace Go.Proofs.YtpideemiijhkgabDoor
open Go.RowKit

theorem addr_add (g k j : Nat) : (⟨g, k, none⟩ : Addr).add j = ⟨g, k + j, none⟩ := by unfold Addr.add; split <;> simp_all
theorem from_alloc (w : World) (o : Obj) : Below w.heap.size w (w.alloc o) := (Below.refl _ _).alloc (Nat.le_refl _) _
theorem to_alloc {w u : World} (h : Below w.heap.size w u) (o : Obj) : Below w.heap.size w (u.alloc o) := below_alloc h (Nat.le_refl _) o
theorem below_drew {B : Nat} {w u : World} (h : Below B w u) : Below B w u.drew := ⟨h.os, h.tape, h.output, h.size, h.block⟩
/-- whole numbers, as cells -/
def is (xs : List Int) : List Value := xs.map fun z : Int => .int .i64 z
theorem is_length (xs : List Int) : (is xs).length = xs.length := by simp [is]
theorem is_get (xs : List Int) (j : Nat) (h : j < xs.length) : (is xs)[j]? = some (.int .i64 (xs.getD j 0)) := by simp [is, List.getElem?_eq_getElem h]
theorem is_set (xs : List Int) (q : Nat) (b : Int) : is (xs.set q b) = (is xs).set q (.int .i64 b) := by simp [is]
theorem is_append (xs ys : List Int) : is (xs ++ ys) = is xs ++ is ys := by simp [is]
theorem is_one (xs : List Int) : ∀ u ∈ is xs, u.oneCell' = true := by
  intro u hu
  obtain ⟨z, _, rfl⟩ := List.mem_map.1 hu
  rfl
/-- a row of numbers of type t, alone in its block -/
structure Ri (t : Nat) (w : World) (g : Nat) (C : List Int) : Prop where
  heap : w.heap[g]? = some (.cells (is C).toArray t (0, 0))
theorem Ri.lt {t : Nat} {w : World} {g : Nat} {C : List Int} (h : Ri t w g C) : g < w.heap.size := (Array.getElem?_eq_some_iff.1 h.heap).1
theorem Ri.cell {t : Nat} {w : World} {g : Nat} {C : List Int} (h : Ri t w g C) (j : Nat) (hj : j < C.length) : w.cell? ⟨g, j, none⟩ = some (.int .i64 (C.getD j 0)) := by
  simp only [World.cell?, h.heap]
  have := is_get C j hj
  simpa using this
theorem Ri.thaw {t : Nat} {w : World} {g : Nat} {C : List Int} (h : Ri t w g C) (j : Nat) : w.frozen? ⟨g, j, none⟩ = false := by simp [World.frozen?, h.heap]
theorem Ri.carry {t : Nat} {w w' : World} {g : Nat} {C : List Int} (h : Ri t w g C) (hb : w'.heap[g]? = w.heap[g]?) : Ri t w' g C := ⟨by rw [hb]; exact h.heap⟩
theorem Ri.below {t : Nat} {w w' : World} {g B : Nat} {C : List Int} (h : Ri t w g C) (hb : Below B w w') (hg : g < B) : Ri t w' g C := h.carry (hb.block g hg)
theorem Ri.to {t : Nat} {w w' : World} {g : Nat} {C : List Int} (h : Ri t w g C) (hb : Below w.heap.size w w') : Ri t w' g C := h.below hb h.lt
theorem Ri.far {t : Nat} {w : World} {g : Nat} {C : List Int} (h : Ri t w g C) {a : Addr} (ha : g ≠ a.block) (u : Value) : Ri t (w.setCell a u) g C := h.carry (Below.heap_setCell _ _ _ _ (fun e => ha (by rw [e])))
theorem Ri.set {t : Nat} {w : World} {g : Nat} {C : List Int} (h : Ri t w g C) (k : Nat) (x : Int) : Ri t (w.setCell ⟨g, k, none⟩ (.int .i64 x)) g (C.set k x) := by
  refine ⟨?_⟩
  rw [setCell_eq_setRow w g k _ _ _ _ h.heap, setRow_heap w g _ _ _ _ h.heap, is_set]
  simp
theorem Ri.drew {t : Nat} {w : World} {g : Nat} {C : List Int} (h : Ri t w g C) : Ri t w.drew g C := ⟨h.heap⟩
theorem zeros_cells (n : Nat) : madeCells #[.int .i64 0] n = (is (List.replicate n 0)).toArray := by
  refine Array.ext (by simp [madeCells, is]) fun j h1 h2 => ?_
  simp [madeCells, is, Nat.mod_one]
theorem Ri.made (t : Nat) (w : World) (n : Nat) {g : Nat} (h : w.heap.size = g) : Ri t (w.alloc (.cells (madeCells #[.int .i64 0] n) t)) g (List.replicate n 0) := by subst h; exact ⟨by rw [zeros_cells]; exact heap_alloc_new w _⟩
theorem Ri.built (t : Nat) (w : World) (C : List Int) {g : Nat} (h : w.heap.size = g) : Ri t (w.alloc (.cells (is C).toArray t)) g C := by subst h; exact ⟨heap_alloc_new w _⟩
/-- a slice from address a holds the numbers C -/
def Si (w : World) (a : Option Addr) (C : List Int) : Prop :=
  C = [] ∨ ∃ b o, a = some ⟨b, o, none⟩ ∧ b < w.heap.size ∧ ∀ j, j < C.length → w.cell? ⟨b, o + j, none⟩ = some (.int .i64 (C.getD j 0))
theorem Si.nil (w : World) (a : Option Addr) : Si w a [] := Or.inl rfl
theorem Si.below {w w' : World} {a : Option Addr} {C : List Int} (h : Si w a C) {B : Nat} (hb : Below B w w') (hB : w.heap.size ≤ B) : Si w' a C := by
  rcases h with h | ⟨b, o, h1, h2, h3⟩
  · exact Or.inl h
  · exact Or.inr ⟨b, o, h1, Nat.lt_of_lt_of_le h2 hb.size, fun j hj => by rw [newCell hb b _ (by omega)]; exact h3 j hj⟩
theorem Si.to {w w' : World} {a : Option Addr} {C : List Int} (h : Si w a C) (hb : Below w.heap.size w w') : Si w' a C := h.below hb (Nat.le_refl _)
theorem Si.form {w : World} {a : Option Addr} {C : List Int} (h : Si w a C) (h0 : 0 < C.length) : ∃ b o, a = some ⟨b, o, none⟩ ∧ b < w.heap.size ∧ ∀ j, j < C.length → w.cell? ⟨b, o + j, none⟩ = some (.int .i64 (C.getD j 0)) := by
  rcases h with rfl | h
  · simp at h0
  · exact h
theorem Si.drew {w : World} {a : Option Addr} {C : List Int} (h : Si w a C) : Si w.drew a C := h.below (B := w.heap.size) (below_drew (Below.refl _ _)) (Nat.le_refl _)
theorem Ri.si {t : Nat} {w : World} {g : Nat} {C : List Int} (h : Ri t w g C) : Si w (some ⟨g, 0, none⟩) C := Or.inr ⟨g, 0, rfl, h.lt, fun j hj => by rw [Nat.zero_add]; exact h.cell j hj⟩
end Go.Proofs.YtpideemiijhkgabDoor
