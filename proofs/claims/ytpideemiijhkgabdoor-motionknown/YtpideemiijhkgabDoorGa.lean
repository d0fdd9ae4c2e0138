/- DERIVED. Plain laws of worlds and rows of numbers, of no program in particular. -/
import Derived.WalkKit
import Derived.WalkSpells
import Derived.WalkLawsBesides
import Derived.Deep.QuietTactic
import Derived.BigQuiet
import Derived.BigRegion
import Derived.Deep.AppendLies
import Derived.Deep.RegionHeld3
import Derived.Deep.RegionLaw
import Derived.WalkMore
import Derived.Handy
namespace Go.Proofs.YtpideemiijhkgabDoor
open Go.RowKit

theorem ret_int {k : IntKind} {a b : Int} (h : a = b) : Ending.returned (.int k a) = .returned (.int k b) := by rw [h]
theorem ret_two {k k' : IntKind} {a b c d : Int} (h : a = c) (h' : b = d) : Ending.returned (.tuple #[.int k a, .int k' b]) = .returned (.tuple #[.int k c, .int k' d]) := by rw [h, h']
theorem ret_three {k k' k'' : IntKind} {a b c d x y : Int} (h : a = c) (h' : b = d) (h'' : x = y) : Ending.returned (.tuple #[.int k a, .int k' b, .int k'' x]) = .returned (.tuple #[.int k c, .int k' d, .int k'' y]) := by rw [h, h', h'']
/-- a fact that no step of a walk may unfold -/
structure Bx (p : Prop) : Prop where
  out : p

theorem drewN_drewN (w : World) (a b : Nat) : (w.drewN a).drewN b = w.drewN (a + b) := by simp [World.drewN, Nat.add_assoc]
theorem below_drewN {B : Nat} {w u : World} (h : Below B w u) (n : Nat) : Below B w (u.drewN n) := ⟨h.os, h.tape, h.output, h.size, h.block⟩
theorem below_alloc {B : Nat} {w u : World} (h : Below B w u) (hs : B ≤ w.heap.size) (o : Obj) : Below B w (u.alloc o) := h.alloc (Nat.le_trans hs h.size) o
theorem below_set {B : Nat} {w u : World} (h : Below B w u) {a : Addr} (ha : B ≤ a.block) (v : Value) : Below B w (u.setCell a v) := h.setCell ha v
theorem below_to {w u v : World} (h : Below w.heap.size w u) (k : Below u.heap.size u v) : Below w.heap.size w v := h.trans (k.mono h.size)
theorem newCell {B : Nat} {u u' : World} (h : Below B u u') (i o : Nat) (hs : i < B) : u'.cell? ⟨i, o, none⟩ = u.cell? ⟨i, o, none⟩ := World.cell?_of_block (w := u) (a := ⟨i, o, none⟩) (h.block i hs)
theorem newFrozen {B : Nat} {u u' : World} (h : Below B u u') (i o : Nat) (hs : i < B) : u'.frozen? ⟨i, o, none⟩ = u.frozen? ⟨i, o, none⟩ := World.frozen?_of_block (w := u) (a := ⟨i, o, none⟩) (h.block i hs)
theorem undrew {a b : World} {row : Option Nat} (h : a.drew.grownBy b row) : a.grownBy b row := ⟨h.os, h.tape, h.output, h.size, h.block⟩

/-- numbers, as cells -/
def ns (k : IntKind) (xs : List Nat) : List Value := xs.map fun z : Nat => .int k (z : Int)
theorem ns_length (k : IntKind) (xs : List Nat) : (ns k xs).length = xs.length := by simp [ns]
theorem ns_get (k : IntKind) (xs : List Nat) (j : Nat) (h : j < xs.length) : (ns k xs)[j]? = some (.int k (xs.getD j 0 : Nat)) := by simp [ns, List.getElem?_eq_getElem h]
theorem ns_one (k : IntKind) (xs : List Nat) : ∀ u ∈ ns k xs, u.oneCell' = true := by
  intro u hu
  obtain ⟨z, _, rfl⟩ := List.mem_map.1 hu
  rfl
theorem ns_set (k : IntKind) (xs : List Nat) (q b : Nat) : ns k (xs.set q b) = (ns k xs).set q (.int k (b : Int)) := by simp [ns]
theorem ns_append (k : IntKind) (xs ys : List Nat) : ns k (xs ++ ys) = ns k xs ++ ns k ys := by simp [ns]

/-- a slice from address a holds the numbers C -/
def Sl (w : World) (k : IntKind) (a : Option Addr) (C : List Nat) : Prop :=
  C = [] ∨ ∃ b o, a = some ⟨b, o, none⟩ ∧ b < w.heap.size ∧ ∀ j, j < C.length → w.cell? ⟨b, o + j, none⟩ = some (.int k (C.getD j 0 : Nat))
theorem Sl.nil (w : World) (k : IntKind) (a : Option Addr) : Sl w k a [] := Or.inl rfl
theorem Sl.below {w w' : World} {k : IntKind} {a : Option Addr} {C : List Nat} (h : Sl w k a C) {B : Nat} (hb : Below B w w') (hB : w.heap.size ≤ B) : Sl w' k a C := by
  rcases h with h | ⟨b, o, h1, h2, h3⟩
  · exact Or.inl h
  · exact Or.inr ⟨b, o, h1, Nat.lt_of_lt_of_le h2 hb.size, fun j hj => by rw [newCell hb b _ (by omega)]; exact h3 j hj⟩
theorem Sl.to {w w' : World} {k : IntKind} {a : Option Addr} {C : List Nat} (h : Sl w k a C) (hb : Below w.heap.size w w') : Sl w' k a C := h.below hb (Nat.le_refl _)
theorem Sl.alloc {w : World} {k : IntKind} {a : Option Addr} {C : List Nat} (h : Sl w k a C) (o : Obj) : Sl (w.alloc o) k a C := h.to ((Below.refl _ _).alloc (Nat.le_refl _) _)
theorem Sl.form {w : World} {k : IntKind} {a : Option Addr} {C : List Nat} (h : Sl w k a C) (h0 : 0 < C.length) : ∃ b o, a = some ⟨b, o, none⟩ ∧ b < w.heap.size ∧ ∀ j, j < C.length → w.cell? ⟨b, o + j, none⟩ = some (.int k (C.getD j 0 : Nat)) := by
  rcases h with rfl | h
  · simp at h0
  · exact h
theorem own_slice {w : World} {B e size n : Nat} {v : Value} {xs : List Value} (h : w.ownsRow B e size v n xs) : ∃ a c, v = .slice a n c := by
  rcases h.2 with ⟨rfl, rfl⟩ | ⟨g, cap, cur, rfl, _⟩
  · exact ⟨_, _, rfl⟩
  · exact ⟨_, _, rfl⟩
theorem Sl.ofOwn {w : World} {k : IntKind} {B e n c : Nat} {a : Option Addr} {C : List Nat} (h : w.ownsRow B e 1 (.slice a n c) C.length (ns k C)) : Sl w k a C := by
  by_cases h0 : C.length = 0
  · exact Or.inl (List.eq_nil_of_length_eq_zero h0)
  · obtain ⟨b, cap, hv, _, hlt⟩ := h.form (by omega)
    simp only [Value.slice.injEq] at hv
    obtain ⟨rfl, rfl, rfl⟩ := hv
    exact Or.inr ⟨b, 0, rfl, hlt, fun j hj => by rw [Nat.zero_add, h.cellAt j (by omega)]; exact ns_get k C j hj⟩
theorem own_set_far {w : World} {B e size n : Nat} {v : Value} {xs : List Value} (h : w.ownsRow B e size v n xs) {a : Addr} (ha : v.ownBlock ≠ some a.block) (u : Value) : (w.setCell a u).ownsRow B e size v n xs := by
  refine ⟨h.1, ?_⟩
  rcases h.2 with h1 | ⟨g, cap, cur, rfl, h2, h3, h4⟩
  · exact Or.inl h1
  · exact Or.inr ⟨g, cap, cur, rfl, h2, by rw [Below.heap_setCell _ _ _ _ (fun e => ha (by simp [Value.ownBlock, e]))]; exact h3, h4⟩
/-- what is owned stays owned where its block stays -/
theorem own_carry {w w' : World} {B e size n : Nat} {v : Value} {xs : List Value} (h : w.ownsRow B e size v n xs) (hb : ∀ g, v.ownBlock = some g → w'.heap[g]? = w.heap[g]?) : w'.ownsRow B e size v n xs := by
  refine ⟨h.1, ?_⟩
  rcases h.2 with h1 | ⟨g, cap, cur, rfl, h2, h3, h4⟩
  · exact Or.inl h1
  · exact Or.inr ⟨g, cap, cur, rfl, h2, by rw [hb g rfl]; exact h3, h4⟩
theorem own_below {w w' : World} {B e size n : Nat} {v : Value} {xs : List Value} (h : w.ownsRow B e size v n xs) (hb : Below w.heap.size w w') : w'.ownsRow B e size v n xs := own_carry h fun g hg => hb.block g (h.lt g hg).2
theorem own_thaw {w : World} {B e size n g c : Nat} {xs : List Value} (h : w.ownsRow B e size (.slice (some ⟨g, 0, none⟩) n c) n xs) (j : Nat) : w.frozen? ⟨g, j, none⟩ = false := by
  rcases h.2 with ⟨h1, _⟩ | ⟨g', cap, cur, h1, _, h3, _⟩
  · cases h1
  · simp only [Value.slice.injEq, Option.some.injEq, Addr.mk.injEq] at h1
    obtain ⟨⟨rfl, _⟩, _⟩ := h1
    simp [World.frozen?, h3]
theorem own_cap {w : World} {B e size n g c : Nat} {xs : List Value} (h : w.ownsRow B e size (.slice (some ⟨g, 0, none⟩) n c) n xs) : n ≤ c := by
  rcases h.2 with ⟨h1, _⟩ | ⟨g', cap, cur, h1, _, h3, h4, _⟩
  · cases h1
  · simp only [Value.slice.injEq] at h1
    omega

end Go.Proofs.YtpideemiijhkgabDoor
