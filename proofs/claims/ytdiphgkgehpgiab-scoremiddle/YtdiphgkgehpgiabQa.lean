/- DERIVED. The document's Check, Same, At, Apart; CopyBytes, CopyPlane. -/
import Derived.Test.YtdiphgkgehpgiabLa
namespace Go.Proofs.Ytdiphgkgehpgiab
open Go.RowKit

/-- samples that may be written, from a block's head on -/
structure Wp (w : World) (g : Nat) (C : List Nat) : Prop where
  lt : g < w.heap.size
  cell : ∀ j, j < C.length → w.cell? ⟨g, j, none⟩ = some (.int .u8 (C.getD j 0 : Nat))
  th : ∀ j, w.frozen? ⟨g, j, none⟩ = false
theorem Wp.to {w w' : World} {g : Nat} {C : List Nat} (h : Wp w g C) (hb : Below w.heap.size w w') : Wp w' g C :=
  ⟨Nat.lt_of_lt_of_le h.lt hb.size, fun j hj => by rw [newCell hb _ _ h.lt]; exact h.cell j hj, fun j => by rw [newFrozen hb _ _ h.lt]; exact h.th j⟩
theorem Wp.sl {w : World} {g : Nat} {C : List Nat} (h : Wp w g C) : Sl w .u8 (some ⟨g, 0, none⟩) C := Or.inr ⟨g, 0, rfl, h.lt, fun j hj => by rw [Nat.zero_add]; exact h.cell j hj⟩
theorem Rw.wp {w : World} {g : Nat} {C : List Nat} (h : Rw w g C) : Wp w g C := ⟨h.lt, h.cell, h.thaw⟩
theorem Wp.drew {w : World} {g : Nat} {C : List Nat} (h : Wp w g C) : Wp w.drew g C := ⟨h.lt, h.cell, h.th⟩
theorem Wp.far {w : World} {g : Nat} {C : List Nat} (h : Wp w g C) {b o : Nat} (hb : g ≠ b) (v : Value) : Wp (w.setCell ⟨b, o, none⟩ v) g C :=
  ⟨by simpa using h.lt, fun j hj => by rw [World.cell?_setCell_other _ _ _ _ (by simp <;> omega)]; exact h.cell j hj, fun j => by rw [World.frozen?_setCell]; exact h.th j⟩
theorem Wp.set {w : World} {g : Nat} {C : List Nat} (h : Wp w g C) {k : Nat} (hk : k < C.length) (v : Nat) : Wp (w.setCell ⟨g, k, none⟩ (.int .u8 (v : Int))) g (C.set k v) := by
  refine ⟨by simpa using h.lt, fun j hj => ?_, fun j => by rw [World.frozen?_setCell]; exact h.th j⟩
  rw [List.length_set] at hj
  by_cases e : k = j
  · subst e
    rw [World.cell?_setCell_same _ _ _ (h.cell k hk), List.getD_eq_getElem?_getD, List.getElem?_set, if_pos rfl, if_pos hk]; rfl
  · rw [World.cell?_setCell_other _ _ _ _ (by simp <;> omega), h.cell j hj, List.getD_eq_getElem?_getD, List.getD_eq_getElem?_getD, List.getElem?_set, if_neg e]

/-- samples in new memory -/
structure Nw (u w' : World) (a : Option Addr) (c : Nat) (C : List Nat) : Prop where
  sl : Sl w' .u8 a C
  cap : C.length ≤ c
  new : ∀ b o s, a = some ⟨b, o, s⟩ → u.heap.size ≤ b
  wp : 0 < C.length → ∃ g, a = some ⟨g, 0, none⟩ ∧ Wp w' g C
theorem Nw.to {u w w' : World} {a : Option Addr} {c : Nat} {C : List Nat} (h : Nw u w a c C) (hb : Below w.heap.size w w') : Nw u w' a c C :=
  ⟨h.sl.to hb, h.cap, h.new, fun h0 => by obtain ⟨g, e, hw⟩ := h.wp h0; exact ⟨g, e, hw.to hb⟩⟩
theorem Nw.drew {u w : World} {a : Option Addr} {c : Nat} {C : List Nat} (h : Nw u w a c C) : Nw u w.drew a c C := h.to (below_drew (Below.refl _ _))
theorem Nw.mono {u u' w : World} {a : Option Addr} {c : Nat} {C : List Nat} (h : Nw u w a c C) (hu : u'.heap.size ≤ u.heap.size) : Nw u' w a c C := ⟨h.sl, h.cap, fun b o s e => Nat.le_trans hu (h.new b o s e), h.wp⟩
/-- what does not lie in the block that is written -/
theorem Nw.far {u w : World} {a : Option Addr} {c : Nat} {C : List Nat} (h : Nw u w a c C) {b o : Nat} (hb : b < u.heap.size) (v : Value) : Nw u (w.setCell ⟨b, o, none⟩ v) a c C := by
  refine ⟨?_, h.cap, h.new, fun h0 => ?_⟩
  · rcases h.sl with h1 | ⟨b', o', e, h2, h3⟩
    · exact Or.inl h1
    · have := h.new b' o' none e
      exact Or.inr ⟨b', o', e, by simpa using h2, fun j hj => by rw [World.cell?_setCell_other _ _ _ _ (by simp <;> omega)]; exact h3 j hj⟩
  · obtain ⟨g, e, hw⟩ := h.wp h0
    have := h.new g 0 none e
    exact ⟨g, e, hw.far (by omega) v⟩

end Go.Proofs.Ytdiphgkgehpgiab
