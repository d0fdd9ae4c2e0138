/- DERIVED. Several texts in one: Plain laws of worlds and rows of numbers, of no program in particular. Rows of whole numbers with a sign, in memory. Rows that a call makes: make, append; EqInts, Bring. The order of a block's places, and classes of ends, as plain arithmetic. The contexts of a place, as plain arithmetic. The walks of sideOf, Side and both Classes. The walk of the program's Order. The table of neighbours; the walks of amount, some, asked, around. The walks of around, Base, More. The walk of the document's Order. The walks of the document's asked, Base, More. -/
import Derived.WalkKit
import Derived.WalkSpells
import Derived.WalkLawsBesides
import Derived.Deep.QuietTactic
import Derived.BigQuiet
import Derived.BigRegion
import Derived.Deep.AppendLies
import Derived.Deep.RegionHeld3
import Derived.Deep.RegionLaw
import Derived.WalkMore
import Derived.Handy
import Derived.Test.YtkmnpechhdendaaGreatDoorRows
import Derived.Deep.OwnRows
import Derived.Deep.LoopGhost
namespace Go.Proofs.YtkmnpechhdendaaGreatDoor.L10
open Go.RowKit

theorem ret_int {k : IntKind} {a b : Int} (h : a = b) : Ending.returned (.int k a) = .returned (.int k b) := by rw [h]
theorem ret_two {k k' : IntKind} {a b c d : Int} (h : a = c) (h' : b = d) : Ending.returned (.tuple #[.int k a, .int k' b]) = .returned (.tuple #[.int k c, .int k' d]) := by rw [h, h']
theorem ret_three {k k' k'' : IntKind} {a b c d x y : Int} (h : a = c) (h' : b = d) (h'' : x = y) : Ending.returned (.tuple #[.int k a, .int k' b, .int k'' x]) = .returned (.tuple #[.int k c, .int k' d, .int k'' y]) := by rw [h, h', h'']
/-- a fact that no step of a walk may unfold -/
structure Bx (p : Prop) : Prop where
  out : p

theorem drewN_drewN (w : World) (a b : Nat) : (w.drewN a).drewN b = w.drewN (a + b) := by simp [World.drewN, Nat.add_assoc]
theorem below_drewN {B : Nat} {w u : World} (h : Below B w u) (n : Nat) : Below B w (u.drewN n) := ⟨h.os, h.tape, h.output, h.size, h.block⟩
theorem below_alloc {B : Nat} {w u : World} (h : Below B w u) (hs : B ≤ w.heap.size) (o : Obj) : Below B w (u.alloc o) := h.alloc (Nat.le_trans hs h.size) o
theorem below_set {B : Nat} {w u : World} (h : Below B w u) {a : Addr} (ha : B ≤ a.block) (v : Value) : Below B w (u.setCell a v) := h.setCell ha v
theorem below_to {w u v : World} (h : Below w.heap.size w u) (k : Below u.heap.size u v) : Below w.heap.size w v := h.trans (k.mono h.size)
theorem newCell {B : Nat} {u u' : World} (h : Below B u u') (i o : Nat) (hs : i < B) : u'.cell? ⟨i, o, none⟩ = u.cell? ⟨i, o, none⟩ := World.cell?_of_block (w := u) (a := ⟨i, o, none⟩) (h.block i hs)
theorem newFrozen {B : Nat} {u u' : World} (h : Below B u u') (i o : Nat) (hs : i < B) : u'.frozen? ⟨i, o, none⟩ = u.frozen? ⟨i, o, none⟩ := World.frozen?_of_block (w := u) (a := ⟨i, o, none⟩) (h.block i hs)
theorem undrew {a b : World} {row : Option Nat} (h : a.drew.grownBy b row) : a.grownBy b row := ⟨h.os, h.tape, h.output, h.size, h.block⟩

/-- numbers, as cells -/
def ns (k : IntKind) (xs : List Nat) : List Value := xs.map fun z : Nat => .int k (z : Int)
theorem ns_length (k : IntKind) (xs : List Nat) : (ns k xs).length = xs.length := by simp [ns]
theorem ns_get (k : IntKind) (xs : List Nat) (j : Nat) (h : j < xs.length) : (ns k xs)[j]? = some (.int k (xs.getD j 0 : Nat)) := by simp [ns, List.getElem?_eq_getElem h]
theorem ns_one (k : IntKind) (xs : List Nat) : ∀ u ∈ ns k xs, u.oneCell' = true := by
  intro u hu
  obtain ⟨z, _, rfl⟩ := List.mem_map.1 hu
  rfl
theorem ns_set (k : IntKind) (xs : List Nat) (q b : Nat) : ns k (xs.set q b) = (ns k xs).set q (.int k (b : Int)) := by simp [ns]
theorem ns_append (k : IntKind) (xs ys : List Nat) : ns k (xs ++ ys) = ns k xs ++ ns k ys := by simp [ns]

/-- a slice from address a holds the numbers C -/
def Sl (w : World) (k : IntKind) (a : Option Addr) (C : List Nat) : Prop :=
  C = [] ∨ ∃ b o, a = some ⟨b, o, none⟩ ∧ b < w.heap.size ∧ ∀ j, j < C.length → w.cell? ⟨b, o + j, none⟩ = some (.int k (C.getD j 0 : Nat))
theorem Sl.nil (w : World) (k : IntKind) (a : Option Addr) : Sl w k a [] := Or.inl rfl
theorem Sl.below {w w' : World} {k : IntKind} {a : Option Addr} {C : List Nat} (h : Sl w k a C) {B : Nat} (hb : Below B w w') (hB : w.heap.size ≤ B) : Sl w' k a C := by
  rcases h with h | ⟨b, o, h1, h2, h3⟩
  · exact Or.inl h
  · exact Or.inr ⟨b, o, h1, Nat.lt_of_lt_of_le h2 hb.size, fun j hj => by rw [newCell hb b _ (by omega)]; exact h3 j hj⟩
theorem Sl.to {w w' : World} {k : IntKind} {a : Option Addr} {C : List Nat} (h : Sl w k a C) (hb : Below w.heap.size w w') : Sl w' k a C := h.below hb (Nat.le_refl _)
theorem Sl.alloc {w : World} {k : IntKind} {a : Option Addr} {C : List Nat} (h : Sl w k a C) (o : Obj) : Sl (w.alloc o) k a C := h.to ((Below.refl _ _).alloc (Nat.le_refl _) _)
theorem Sl.form {w : World} {k : IntKind} {a : Option Addr} {C : List Nat} (h : Sl w k a C) (h0 : 0 < C.length) : ∃ b o, a = some ⟨b, o, none⟩ ∧ b < w.heap.size ∧ ∀ j, j < C.length → w.cell? ⟨b, o + j, none⟩ = some (.int k (C.getD j 0 : Nat)) := by
  rcases h with rfl | h
  · simp at h0
  · exact h
theorem own_slice {w : World} {B e size n : Nat} {v : Value} {xs : List Value} (h : w.ownsRow B e size v n xs) : ∃ a c, v = .slice a n c := by
  rcases h.2 with ⟨rfl, rfl⟩ | ⟨g, cap, cur, rfl, _⟩
  · exact ⟨_, _, rfl⟩
  · exact ⟨_, _, rfl⟩
theorem Sl.ofOwn {w : World} {k : IntKind} {B e n c : Nat} {a : Option Addr} {C : List Nat} (h : w.ownsRow B e 1 (.slice a n c) C.length (ns k C)) : Sl w k a C := by
  by_cases h0 : C.length = 0
  · exact Or.inl (List.eq_nil_of_length_eq_zero h0)
  · obtain ⟨b, cap, hv, _, hlt⟩ := h.form (by omega)
    simp only [Value.slice.injEq] at hv
    obtain ⟨rfl, rfl, rfl⟩ := hv
    exact Or.inr ⟨b, 0, rfl, hlt, fun j hj => by rw [Nat.zero_add, h.cellAt j (by omega)]; exact ns_get k C j hj⟩
theorem own_set_far {w : World} {B e size n : Nat} {v : Value} {xs : List Value} (h : w.ownsRow B e size v n xs) {a : Addr} (ha : v.ownBlock ≠ some a.block) (u : Value) : (w.setCell a u).ownsRow B e size v n xs := by
  refine ⟨h.1, ?_⟩
  rcases h.2 with h1 | ⟨g, cap, cur, rfl, h2, h3, h4⟩
  · exact Or.inl h1
  · exact Or.inr ⟨g, cap, cur, rfl, h2, by rw [Below.heap_setCell _ _ _ _ (fun e => ha (by simp [Value.ownBlock, e]))]; exact h3, h4⟩
/-- what is owned stays owned where its block stays -/
theorem own_carry {w w' : World} {B e size n : Nat} {v : Value} {xs : List Value} (h : w.ownsRow B e size v n xs) (hb : ∀ g, v.ownBlock = some g → w'.heap[g]? = w.heap[g]?) : w'.ownsRow B e size v n xs := by
  refine ⟨h.1, ?_⟩
  rcases h.2 with h1 | ⟨g, cap, cur, rfl, h2, h3, h4⟩
  · exact Or.inl h1
  · exact Or.inr ⟨g, cap, cur, rfl, h2, by rw [hb g rfl]; exact h3, h4⟩
theorem own_below {w w' : World} {B e size n : Nat} {v : Value} {xs : List Value} (h : w.ownsRow B e size v n xs) (hb : Below w.heap.size w w') : w'.ownsRow B e size v n xs := own_carry h fun g hg => hb.block g (h.lt g hg).2
theorem own_thaw {w : World} {B e size n g c : Nat} {xs : List Value} (h : w.ownsRow B e size (.slice (some ⟨g, 0, none⟩) n c) n xs) (j : Nat) : w.frozen? ⟨g, j, none⟩ = false := by
  rcases h.2 with ⟨h1, _⟩ | ⟨g', cap, cur, h1, _, h3, _⟩
  · cases h1
  · simp only [Value.slice.injEq, Option.some.injEq, Addr.mk.injEq] at h1
    obtain ⟨⟨rfl, _⟩, _⟩ := h1
    simp [World.frozen?, h3]
theorem own_cap {w : World} {B e size n g c : Nat} {xs : List Value} (h : w.ownsRow B e size (.slice (some ⟨g, 0, none⟩) n c) n xs) : n ≤ c := by
  rcases h.2 with ⟨h1, _⟩ | ⟨g', cap, cur, h1, _, h3, h4, _⟩
  · cases h1
  · simp only [Value.slice.injEq] at h1
    omega

end Go.Proofs.YtkmnpechhdendaaGreatDoor.L10

namespace Go.Proofs.YtkmnpechhdendaaGreatDoor.L10
open Go.RowKit

theorem addr_add (g k j : Nat) : (⟨g, k, none⟩ : Addr).add j = ⟨g, k + j, none⟩ := by unfold Addr.add; split <;> simp_all
theorem from_alloc (w : World) (o : Obj) : Below w.heap.size w (w.alloc o) := (Below.refl _ _).alloc (Nat.le_refl _) _
theorem to_alloc {w u : World} (h : Below w.heap.size w u) (o : Obj) : Below w.heap.size w (u.alloc o) := below_alloc h (Nat.le_refl _) o
theorem below_drew {B : Nat} {w u : World} (h : Below B w u) : Below B w u.drew := ⟨h.os, h.tape, h.output, h.size, h.block⟩
/-- whole numbers, as cells -/
def is (xs : List Int) : List Value := xs.map fun z : Int => .int .i64 z
theorem is_length (xs : List Int) : (is xs).length = xs.length := by simp [is]
theorem is_get (xs : List Int) (j : Nat) (h : j < xs.length) : (is xs)[j]? = some (.int .i64 (xs.getD j 0)) := by simp [is, List.getElem?_eq_getElem h]
theorem is_set (xs : List Int) (q : Nat) (b : Int) : is (xs.set q b) = (is xs).set q (.int .i64 b) := by simp [is]
theorem is_append (xs ys : List Int) : is (xs ++ ys) = is xs ++ is ys := by simp [is]
theorem is_one (xs : List Int) : ∀ u ∈ is xs, u.oneCell' = true := by
  intro u hu
  obtain ⟨z, _, rfl⟩ := List.mem_map.1 hu
  rfl
/-- a row of numbers of type t, alone in its block -/
structure Ri (t : Nat) (w : World) (g : Nat) (C : List Int) : Prop where
  heap : w.heap[g]? = some (.cells (is C).toArray t (0, 0))
theorem Ri.lt {t : Nat} {w : World} {g : Nat} {C : List Int} (h : Ri t w g C) : g < w.heap.size := (Array.getElem?_eq_some_iff.1 h.heap).1
theorem Ri.cell {t : Nat} {w : World} {g : Nat} {C : List Int} (h : Ri t w g C) (j : Nat) (hj : j < C.length) : w.cell? ⟨g, j, none⟩ = some (.int .i64 (C.getD j 0)) := by
  simp only [World.cell?, h.heap]
  have := is_get C j hj
  simpa using this
theorem Ri.thaw {t : Nat} {w : World} {g : Nat} {C : List Int} (h : Ri t w g C) (j : Nat) : w.frozen? ⟨g, j, none⟩ = false := by simp [World.frozen?, h.heap]
theorem Ri.carry {t : Nat} {w w' : World} {g : Nat} {C : List Int} (h : Ri t w g C) (hb : w'.heap[g]? = w.heap[g]?) : Ri t w' g C := ⟨by rw [hb]; exact h.heap⟩
theorem Ri.below {t : Nat} {w w' : World} {g B : Nat} {C : List Int} (h : Ri t w g C) (hb : Below B w w') (hg : g < B) : Ri t w' g C := h.carry (hb.block g hg)
theorem Ri.to {t : Nat} {w w' : World} {g : Nat} {C : List Int} (h : Ri t w g C) (hb : Below w.heap.size w w') : Ri t w' g C := h.below hb h.lt
theorem Ri.far {t : Nat} {w : World} {g : Nat} {C : List Int} (h : Ri t w g C) {a : Addr} (ha : g ≠ a.block) (u : Value) : Ri t (w.setCell a u) g C := h.carry (Below.heap_setCell _ _ _ _ (fun e => ha (by rw [e])))
theorem Ri.set {t : Nat} {w : World} {g : Nat} {C : List Int} (h : Ri t w g C) (k : Nat) (x : Int) : Ri t (w.setCell ⟨g, k, none⟩ (.int .i64 x)) g (C.set k x) := by
  refine ⟨?_⟩
  rw [setCell_eq_setRow w g k _ _ _ _ h.heap, setRow_heap w g _ _ _ _ h.heap, is_set]
  simp
theorem Ri.drew {t : Nat} {w : World} {g : Nat} {C : List Int} (h : Ri t w g C) : Ri t w.drew g C := ⟨h.heap⟩
theorem zeros_cells (n : Nat) : madeCells #[.int .i64 0] n = (is (List.replicate n 0)).toArray := by
  refine Array.ext (by simp [madeCells, is]) fun j h1 h2 => ?_
  simp [madeCells, is, Nat.mod_one]
theorem Ri.made (t : Nat) (w : World) (n : Nat) {g : Nat} (h : w.heap.size = g) : Ri t (w.alloc (.cells (madeCells #[.int .i64 0] n) t)) g (List.replicate n 0) := by subst h; exact ⟨by rw [zeros_cells]; exact heap_alloc_new w _⟩
theorem Ri.built (t : Nat) (w : World) (C : List Int) {g : Nat} (h : w.heap.size = g) : Ri t (w.alloc (.cells (is C).toArray t)) g C := by subst h; exact ⟨heap_alloc_new w _⟩
/-- a slice from address a holds the numbers C -/
def Si (w : World) (a : Option Addr) (C : List Int) : Prop :=
  C = [] ∨ ∃ b o, a = some ⟨b, o, none⟩ ∧ b < w.heap.size ∧ ∀ j, j < C.length → w.cell? ⟨b, o + j, none⟩ = some (.int .i64 (C.getD j 0))
theorem Si.nil (w : World) (a : Option Addr) : Si w a [] := Or.inl rfl
theorem Si.below {w w' : World} {a : Option Addr} {C : List Int} (h : Si w a C) {B : Nat} (hb : Below B w w') (hB : w.heap.size ≤ B) : Si w' a C := by
  rcases h with h | ⟨b, o, h1, h2, h3⟩
  · exact Or.inl h
  · exact Or.inr ⟨b, o, h1, Nat.lt_of_lt_of_le h2 hb.size, fun j hj => by rw [newCell hb b _ (by omega)]; exact h3 j hj⟩
theorem Si.to {w w' : World} {a : Option Addr} {C : List Int} (h : Si w a C) (hb : Below w.heap.size w w') : Si w' a C := h.below hb (Nat.le_refl _)
theorem Si.form {w : World} {a : Option Addr} {C : List Int} (h : Si w a C) (h0 : 0 < C.length) : ∃ b o, a = some ⟨b, o, none⟩ ∧ b < w.heap.size ∧ ∀ j, j < C.length → w.cell? ⟨b, o + j, none⟩ = some (.int .i64 (C.getD j 0)) := by
  rcases h with rfl | h
  · simp at h0
  · exact h
theorem Si.drew {w : World} {a : Option Addr} {C : List Int} (h : Si w a C) : Si w.drew a C := h.below (B := w.heap.size) (below_drew (Below.refl _ _)) (Nat.le_refl _)
theorem Ri.si {t : Nat} {w : World} {g : Nat} {C : List Int} (h : Ri t w g C) : Si w (some ⟨g, 0, none⟩) C := Or.inr ⟨g, 0, rfl, h.lt, fun j hj => by rw [Nat.zero_add]; exact h.cell j hj⟩

end Go.Proofs.YtkmnpechhdendaaGreatDoor.L10

namespace Go.Proofs.YtkmnpechhdendaaGreatDoor.L10
open Go.RowKit

theorem Tryz.info3 : (Tryz.prog.info? 3).map (fun i => (i.zero, i.size, i.bytes)) = some (some (.int .i64 0), 1, 8) := by kernel_rfl
theorem mk_ints {n : Nat} (hn : n ≤ 1048576) (u : World) : (Instr.makeSlice 34 (.int .i64 (n : Int)) (.int .i64 (n : Int))).run Tryz.prog u = .ok (.slice (some ⟨u.heap.size, 0, none⟩) n n) (u.alloc (.cells (madeCells #[.int .i64 0] n) 3)) :=
  run_make_row' 34 3 (.int .i64 0) 8 Tryz.underlying34 Tryz.info3 rfl .i64 .i64 n (by omega) (by omega) u
theorem mk_room {n : Nat} (hn : n ≤ 1048576) (u : World) : (Instr.makeSlice 34 (.int .i64 0) (.int .i64 (n : Int))).run Tryz.prog u = .ok (.slice (some ⟨u.heap.size, 0, none⟩) 0 n) (u.alloc (.cells (madeCells #[.int .i64 0] n) 3)) := by
  obtain ⟨i, hi, hz0, hz1, hz2⟩ := info_parts Tryz.info3
  have := run_make (P := Tryz.prog) u 34 3 i (.int .i64 0) Tryz.underlying34 hi hz0 .i64 .i64 0 n (by omega) (by omega) (by rw [hz2]; omega) (by omega)
  rw [hz1, show (Value.int .i64 0).cells = #[.int .i64 0] from rfl] at this
  simpa using this
theorem ext_getD {C D : List Int} (hl : C.length = D.length) (h : ∀ j, j < C.length → C.getD j 0 = D.getD j 0) : C = D := by
  refine List.ext_getElem hl fun j h1 h2 => ?_
  have := h j h1
  simpa [List.getD_eq_getElem?_getD, List.getElem?_eq_getElem h1, List.getElem?_eq_getElem h2] using this
theorem getD_set (C : List Int) (k j : Nat) (x : Int) (hk : k < C.length) : (C.set k x).getD j 0 = if k = j then x else C.getD j 0 := by
  rw [List.getD_eq_getElem?_getD, List.getD_eq_getElem?_getD, List.getElem?_set]
  by_cases e : k = j
  · subst e; simp [hk]
  · simp [e]
/-- are two lists the same? -/
def eqI (C D : List Int) : Bool := decide (C = D)
theorem eqI_yes {C D : List Int} (h : C = D) : eqI C D = true := by simp [eqI, h]
theorem eqI_no {C D : List Int} (h : ¬ C = D) : eqI C D = false := by simp [eqI, h]
theorem eqI_self (C : List Int) : eqI C C = true := eqI_yes rfl

set_option maxRecDepth 100000 in
set_option maxHeartbeats 1000000 in
theorem eqInts_any {w : World} {a b : Option Addr} {c d : Nat} {C D : List Int} (h1 : Si w a C) (h2 : Si w b D) (hl : C.length ≤ 140737488355328) (hl2 : D.length ≤ 140737488355328) :
    Calls Tryz.prog 13 #[.slice a C.length c, .slice b D.length d] w fun e w' => e = .returned (.bool (eqI C D)) ∧ Below w.heap.size w w' := by
  by_cases hn : C.length = D.length
  · by_cases h0 : C.length = 0
    · obtain rfl : C = [] := List.eq_nil_of_length_eq_zero h0
      obtain rfl : D = [] := List.eq_nil_of_length_eq_zero (by simpa using hn.symm)
      rw [eqI_self]
      simp only [List.length_nil]
      go_enter Tryz.func13, Tryz.ntmps13
      go_wp2
      go_loop [5] (fun i => i = .int .i64 0) (fun _ => 0)
      case atStart => rfl
      case round =>
        subst hrel
        go_wp2
        go_ret
        exact ⟨rfl, Below.refl _ _⟩
    · obtain ⟨b1, o1, rfl, hbl, hc1⟩ := h1.form (by omega)
      obtain ⟨b2, o2, rfl, hbl2, hc2⟩ := h2.form (by omega)
      have hne : ((C.length : Int) != (D.length : Int)) = false := by simp [hn]
      have Q1 : Hid (∀ m j, j < C.length → (w.drewN m).cell? ⟨b1, o1 + j, none⟩ = some (.int .i64 (C.getD j 0))) := fun m j hj => hc1 j hj
      have Q2 : Hid (∀ m j, j < C.length → (w.drewN m).cell? ⟨b2, o2 + j, none⟩ = some (.int .i64 (D.getD j 0))) := fun m j hj => hc2 j (by omega)
      have HN : Hid (C.length = D.length) := hn
      clear hn h1 h2 hc1 hc2
      go_enter Tryz.func13, Tryz.ntmps13
      go_wp2
      go_loopw [5] (fun i wr => ∃ k m : Nat, k ≤ C.length ∧ i = .int .i64 k ∧ wr = w.drewN m ∧ Hid (∀ j, j < k → C.getD j 0 = D.getD j 0)) (fun i _ => C.length - (intOf i).toNat)
      case atStart => exact ⟨0, 0, by omega, rfl, rfl, fun j hj => by omega⟩
      case round =>
        obtain ⟨k, m, hk, rfl, rfl, HK⟩ := hrel
        by_cases hlt : k < C.length
        · have r1 := Q1.out m k hlt
          have r2 := Q2.out m k hlt
          have b0 : 0 ≤ (k : Int) := by omega
          have b1 : (k : Int) < (C.length : Int) := by omega
          have b2 : (k : Int) < (D.length : Int) := by have := HN.out; omega
          generalize he1 : C.getD k 0 = p1 at *
          generalize he2 : D.getD k 0 = p2 at *
          have HE1 : Hid (C.getD k 0 = p1) := he1
          have HE2 : Hid (D.getD k 0 = p2) := he2
          clear he1 he2
          generalize hW : w.drewN m = v at *
          have HW : Hid (w.drewN m = v) := hW
          clear hW
          by_cases hp : p1 = p2
          · have hp' : (p1 != p2) = false := by simp [hp]
            have HP : Hid (p1 = p2) := hp
            clear hp
            go_wp2
            go_quiet (fail)
            go_wp2
            go_roundw
            case rel => exact ⟨k + 1, m + nq, by omega, by go_num, by rw [← HW.out]; exact drewN_drewN _ _ _, fun j hj => by
              by_cases e : j = k
              · rw [e, HE1.out, HE2.out]; exact HP.out
              · exact HK.out j (by omega)⟩
            case measure => simp [intOf]; omega
          · have hp' : (p1 != p2) = true := by rw [bne_iff_ne]; exact hp
            have HF : Hid (eqI C D = false) := eqI_no (fun e => hp (by rw [← HE1.out, ← HE2.out, e]))
            clear hp
            go_wp2
            go_quiet (fail)
            go_wp2
            go_ret
            exact ⟨by rw [HF.out]; rfl, by rw [← HW.out]; exact below_drewN (below_drewN (Below.refl _ _) _) _⟩
        · go_wp2
          go_ret
          exact ⟨by rw [eqI_yes (ext_getD HN.out fun j hj => HK.out j (by omega))]; rfl, below_drewN (Below.refl _ _) _⟩
  · rw [eqI_no (fun e => hn (by rw [e]))]
    have hne : ((C.length : Int) != (D.length : Int)) = true := by rw [bne_iff_ne]; omega
    clear hn
    go_enter Tryz.func13, Tryz.ntmps13
    go_wp2
    go_ret
    exact ⟨rfl, Below.refl _ _⟩

theorem eqInts_at {w : World} {a b : Option Addr} {c d n m : Nat} {C D : List Int} (h1 : Si w a C) (h2 : Si w b D) (e1 : C.length = n) (e2 : D.length = m) (hl : n ≤ 140737488355328) (hl2 : m ≤ 140737488355328) :
    Calls Tryz.prog 13 #[.slice a n c, .slice b m d] w fun e w' => e = .returned (.bool (eqI C D)) ∧ Below w.heap.size w w' := by
  subst e1 e2
  exact eqInts_any h1 h2 hl hl2

theorem tmod_fix (i n : Int) (h : 0 < n) : (if i.tmod n < 0 then i.tmod n + n else i.tmod n) = i % n := by
  have h1 := Int.tmod_lt_of_pos i h
  rcases Int.lt_or_le i 0 with hi | hi
  · have e := Int.tmod_eq_emod (a := i) (b := n)
    have h2 := Int.emod_nonneg i (by omega : n ≠ 0)
    have h3 := Int.emod_lt_of_pos i h
    rw [e]
    split <;> split at * <;> first | omega | skip
    all_goals simp_all
    all_goals omega
  · have e := Int.tmod_eq_emod_of_nonneg (a := i) (b := n) hi
    have h2 := Int.emod_nonneg i (by omega : n ≠ 0)
    rw [e, if_neg (by omega)]

set_option maxRecDepth 100000 in
set_option maxHeartbeats 400000 in
/-- a row grows, and again -/
theorem grown_trans {a b c : World} {r r' : Option Nat} (h : a.grownBy b r) (k : b.grownBy c r') (hr : ∀ g, r' = some g → r = some g ∨ a.heap.size ≤ g) : a.grownBy c r :=
  ⟨k.os.trans h.os, k.tape.trans h.tape, k.output.trans h.output, Nat.le_trans h.size k.size, fun i hi hne => by
    rw [k.block i (Nat.lt_of_lt_of_le hi h.size) (fun e => by rcases hr i e.symm with e | e; exact hne e.symm; omega)]
    exact h.block i hi hne⟩
theorem grown_below {B : Nat} {a b : World} {r : Option Nat} (h : a.grownBy b r) (hB : B ≤ a.heap.size) (hr : ∀ g, r = some g → B ≤ g) : Below B a b :=
  ⟨h.os, h.tape, h.output, h.size, fun i hi => h.block i (by omega) (fun e => by have := hr i e.symm; omega)⟩
theorem below_grown {a b : World} (h : Below a.heap.size a b) (r : Option Nat) : a.grownBy b r := ⟨h.os, h.tape, h.output, h.size, fun i hi _ => h.block i hi⟩

/-- a row of numbers that the call itself made -/
structure Oi (w : World) (B : Nat) (a : Option Addr) (n c : Nat) (C : List Int) : Prop where
  own : w.ownsRow B 3 1 (.slice a n c) n (is C)
theorem Oi.len {w : World} {B n c : Nat} {a : Option Addr} {C : List Int} (h : Oi w B a n c C) : C.length = n := by have := h.own.1; rw [is_length] at this; omega
theorem Oi.nil (w : World) (B : Nat) : Oi w B none 0 0 [] := ⟨World.ownsRow_nil _ _ _ _⟩
theorem Oi.drewN {w : World} {B n c : Nat} {a : Option Addr} {C : List Int} (h : Oi w B a n c C) (m : Nat) : Oi (w.drewN m) B a n c C := ⟨own_carry h.own fun _ _ => rfl⟩
theorem Oi.to {w w' : World} {B n c : Nat} {a : Option Addr} {C : List Int} (h : Oi w B a n c C) (hb : Below w.heap.size w w') : Oi w' B a n c C := ⟨own_below h.own hb⟩
theorem Oi.si {w : World} {B n c : Nat} {a : Option Addr} {C : List Int} (h : Oi w B a n c C) : Si w a C := by
  have hl := h.len
  by_cases h0 : C.length = 0
  · exact Or.inl (List.eq_nil_of_length_eq_zero h0)
  · obtain ⟨b, cap, hv, _, hlt⟩ := h.own.form (by omega)
    simp only [Value.slice.injEq] at hv
    obtain ⟨rfl, _, rfl⟩ := hv
    exact Or.inr ⟨b, 0, rfl, hlt, fun j hj => by rw [Nat.zero_add, h.own.cellAt j (by omega)]; exact is_get C j hj⟩

/-- 'append(c, x)' on a row of numbers -/
theorem wpList_append_int (wr : World) {ops : Array Oper} {rest : List Oper} {o : Oper} {a : Act} {Q : Exit → Act → World → Prop} (hgd : o.guard = none) (s x : Operand)
    (ho : o.op = .call { callee := .builtin .append, args := #[s, x], argTypes := #[34, 34] })
    (B n c : Nat) (C : List Int) (ad : Option Addr) (y : Int) (hown : Oi wr B ad n c C) (hB : B ≤ wr.heap.size) (hL : n < 1099511627776)
    (hs : a.eval s = .slice ad n c) (hx : a.eval x = .slice (some ⟨wr.heap.size, 0, none⟩) 1 1)
    (h : ∀ g cap w', Oi w' B (some ⟨g, 0, none⟩) (n + 1) cap (C ++ [y]) → Below B wr w' → B ≤ w'.heap.size → wpList Tryz.prog ops Q rest (a.put o.dst (.slice (some ⟨g, 0, none⟩) (n + 1) cap)) w') :
    wpList Tryz.prog ops Q (o :: rest) a (wr.alloc (.cells #[.int .i64 y] 3)) := by
  obtain ⟨i, hi, hz0, hz1, hz2⟩ := info_parts Tryz.info3
  have hnews : ∀ j u, (is [y])[j]? = some u → (wr.alloc (.cells #[.int .i64 y] 3)).cell? ((⟨wr.heap.size, 0, none⟩ : Addr).add j) = some u := World.news_of_block (cs := #[.int .i64 y]) (heap_alloc_new wr _)
  refine wpList_append_lies _ hgd s x 34 ho B 3 i (.int .i64 0) 1 8 Tryz.underlying34 hi hz0 hz1 hz2 rfl (by omega) (.slice ad n c) n (is C) hs (hown.own.alloc _) ⟨wr.heap.size, 0, none⟩ 1 1 (is [y]) hx (by rfl) hnews (is_one _) (by omega) (by unfold maxLen; omega) (by omega) (by simp; omega) (wr.heap.size + 1) (by simp) ?_
  intro g cap w' hown' hgrow hat _
  have hgr := grown_trans (below_grown (from_alloc wr _) (Value.slice ad n c).ownBlock) hgrow (fun g hg => Or.inl hg)
  have hbb := grown_below hgr hB (fun g hg => (hown.own.lt g hg).1)
  exact h g cap w' ⟨by rw [is_append]; exact hown'⟩ hbb (Nat.le_trans hB hbb.size)

theorem Ri.oi {w : World} {g B : Nat} {C : List Int} (h : Ri 3 w g C) (hB : B ≤ g) (hl : C.length ≤ 1048576) : Oi w B (some ⟨g, 0, none⟩) C.length C.length C :=
  ⟨by rw [is_length, Nat.mul_one], Or.inr ⟨g, C.length, (is C).toArray, rfl, hB, h.heap, Nat.le_refl _, by unfold maxLen; omega, by simp [is_length], by rw [Nat.mul_one]; simp [is_length, List.take_of_length_le]⟩⟩
theorem Oi.cellAt {w : World} {B n c g : Nat} {C : List Int} (h : Oi w B (some ⟨g, 0, none⟩) n c C) (j : Nat) (hj : j < n) : w.cell? ⟨g, j, none⟩ = some (.int .i64 (C.getD j 0)) := by
  have hl := h.len
  rw [h.own.cellAt j (by omega)]; exact is_get C j (by omega)
theorem Oi.lt {w : World} {B n c g : Nat} {C : List Int} (h : Oi w B (some ⟨g, 0, none⟩) n c C) : B ≤ g ∧ g < w.heap.size := h.own.lt g rfl
theorem Oi.cap {w : World} {B n c g : Nat} {C : List Int} (h : Oi w B (some ⟨g, 0, none⟩) n c C) : n ≤ c := own_cap h.own
theorem Oi.room (w : World) {n : Nat} (hn : n ≤ 1048576) {B : Nat} (hB : B ≤ w.heap.size) : Oi (w.alloc (.cells (madeCells #[.int .i64 0] n) 3)) B (some ⟨w.heap.size, 0, none⟩) 0 n [] :=
  ⟨World.ownsRow_made w _ n hB (by unfold maxLen; omega) (by rw [size_madeCells, Nat.mul_one])⟩
theorem Oi.ri {w : World} {B g n c : Nat} {C : List Int} (h : Oi w B (some ⟨g, 0, none⟩) n c C) : ∀ j, w.frozen? ⟨g, j, none⟩ = false := own_thaw h.own

end Go.Proofs.YtkmnpechhdendaaGreatDoor.L10

namespace Go.Proofs.YtkmnpechhdendaaGreatDoor.L10

/-- the places of diagonal s in the rows ahead of r -/
def dg (n s : Nat) : Nat → List Int
  | 0 => []
  | r + 1 => dg n s r ++ (if r ≤ s ∧ s < n + r then [((r * n + (s - r) : Nat) : Int)] else [])
/-- the places of the diagonals ahead of s -/
def ods (n : Nat) : Nat → List Int
  | 0 => []
  | s + 1 => ods n s ++ dg n s n
/-- the order -/
def ord (n : Nat) : List Int := ods n (2 * n - 1)
/-- how many places the diagonals ahead of s have -/
def lnS (n : Nat) : Nat → Nat
  | 0 => 0
  | s + 1 => lnS n s + (min n (s + 1) - (s + 1 - n))

theorem dg_len (n s : Nat) : ∀ r, r ≤ n → (dg n s r).length = min r (s + 1) - (s + 1 - n)
  | 0, _ => by simp [dg]
  | r + 1, h => by
    rw [dg, List.length_append, dg_len n s r (by omega)]
    split <;> simp <;> omega
theorem ods_len (n : Nat) : ∀ s, (ods n s).length = lnS n s
  | 0 => rfl
  | s + 1 => by rw [ods, List.length_append, ods_len n s, dg_len n s n (Nat.le_refl _), lnS]
theorem lnS_mono (n : Nat) {s t : Nat} (h : s ≤ t) : lnS n s ≤ lnS n t := by
  induction t with
  | zero => simp_all
  | succ t ih =>
    by_cases e : s = t + 1
    · rw [e]; exact Nat.le_refl _
    · exact Nat.le_trans (ih (by omega)) (by rw [lnS]; omega)
theorem dg_nil (n s : Nat) : ∀ r, r ≤ s + 1 - n → dg n s r = []
  | 0, _ => rfl
  | r + 1, h => by rw [dg, dg_nil n s r (by omega), if_neg (by omega)]; rfl
theorem dg_far (n s : Nat) : ∀ r k, s < r → dg n s (r + k) = dg n s r
  | _, 0, _ => rfl
  | r, k + 1, h => by rw [← Nat.add_assoc, dg, dg_far n s r k h, if_neg (by omega), List.append_nil]
theorem dg_end (n s r : Nat) (h : s < r) (hr : r ≤ n) : dg n s n = dg n s r := by
  have := dg_far n s r (n - r) h
  rw [show r + (n - r) = n by omega] at this
  exact this
theorem dg_step (n s r : Nat) (h : r ≤ s) (h' : s < n + r) : dg n s (r + 1) = dg n s r ++ [((r * n + (s - r) : Nat) : Int)] := by rw [dg, if_pos ⟨h, h'⟩]
theorem dg_skip (n s r : Nat) (h : ¬ (r ≤ s ∧ s < n + r)) : dg n s (r + 1) = dg n s r := by rw [dg, if_neg h, List.append_nil]
theorem ods_step (n s : Nat) : ods n s ++ dg n s n = ods n (s + 1) := rfl
theorem getD_app_left (C D : List Int) (j : Nat) (h : j < C.length) : (C ++ D).getD j 0 = C.getD j 0 := by rw [List.getD_eq_getElem?_getD, List.getElem?_append_left h, ← List.getD_eq_getElem?_getD]
theorem getD_app_right (C D : List Int) (j : Nat) (h : C.length ≤ j) : (C ++ D).getD j 0 = D.getD (j - C.length) 0 := by rw [List.getD_eq_getElem?_getD, List.getElem?_append_right h, ← List.getD_eq_getElem?_getD]
theorem dg_get (n s k : Nat) (hk : k ≤ s) (hk2 : s < n + k) : ∀ r, k < r → r ≤ n → (dg n s r).getD (k - (s + 1 - n)) 0 = ((k * n + (s - k) : Nat) : Int)
  | 0, h, _ => by omega
  | r + 1, h, hr => by
    by_cases e : k = r
    · subst e
      have hl := dg_len n s k (by omega)
      rw [dg_step n s k hk hk2, getD_app_right _ _ _ (by omega), hl]
      rw [show k - (s + 1 - n) - (min k (s + 1) - (s + 1 - n)) = 0 by omega]
      rfl
    · have hl := dg_len n s r (by omega)
      rw [dg, getD_app_left _ _ _ (by omega)]
      exact dg_get n s k hk hk2 r (by omega) (by omega)
theorem ods_get (n s k : Nat) (hk : k ≤ s) (hk2 : s < n + k) (hn : k < n) : ∀ t, s < t → (ods n t).getD (lnS n s + (k - (s + 1 - n))) 0 = ((k * n + (s - k) : Nat) : Int)
  | 0, h => by omega
  | t + 1, h => by
    have hl := ods_len n t
    by_cases e : s = t
    · subst e
      rw [ods, getD_app_right _ _ _ (by omega), hl, show lnS n s + (k - (s + 1 - n)) - lnS n s = k - (s + 1 - n) by omega]
      exact dg_get n s k hk hk2 n hn (Nat.le_refl _)
    · have hm := lnS_mono n (s := s + 1) (t := t) (by omega)
      rw [lnS] at hm
      rw [ods, getD_app_left _ _ _ (by omega)]
      exact ods_get n s k hk hk2 hn t (by omega)
/-- which diagonal an index is of -/
theorem lnS_find (n i : Nat) : ∀ t, i < lnS n t → ∃ s, s < t ∧ lnS n s ≤ i ∧ i < lnS n (s + 1)
  | 0, h => by simp [lnS] at h
  | t + 1, h => by
    by_cases e : i < lnS n t
    · obtain ⟨s, h1, h2, h3⟩ := lnS_find n i t e
      exact ⟨s, by omega, h2, h3⟩
    · exact ⟨t, by omega, by omega, h⟩
/-- a side -/
def Sd (n : Nat) : Prop := n = 4 ∨ n = 8 ∨ n = 16 ∨ n = 32
theorem Sd.lo {n : Nat} (h : Sd n) : 4 ≤ n := by rcases h with rfl | rfl | rfl | rfl <;> omega
theorem Sd.hi {n : Nat} (h : Sd n) : n ≤ 32 := by rcases h with rfl | rfl | rfl | rfl <;> omega
theorem Sd.sq {n : Nat} (h : Sd n) : n * n ≤ 1024 := by rcases h with rfl | rfl | rfl | rfl <;> omega
theorem Sd.all {n : Nat} (h : Sd n) : lnS n (2 * n - 1) = n * n := by rcases h with rfl | rfl | rfl | rfl <;> decide +kernel
theorem Sd.but {n : Nat} (h : Sd n) : lnS n (2 * n - 2) = n * n - 1 := by rcases h with rfl | rfl | rfl | rfl <;> decide +kernel
theorem ord_len {n : Nat} (h : Sd n) : (ord n).length = n * n := by rw [ord, ods_len, h.all]
/-- where a place stands in the order -/
def pos (n at' : Nat) : Nat := lnS n (at' / n + at' % n) + (at' / n - (at' / n + at' % n + 1 - n))
theorem pos_rc {n r c : Nat} (hc : c < n) : pos n (r * n + c) = lnS n (r + c) + (r - (r + c + 1 - n)) := by
  have h1 : (r * n + c) / n = r := by rw [Nat.mul_comm, Nat.mul_add_div (by omega), Nat.div_eq_of_lt hc, Nat.add_zero]
  have h2 : (r * n + c) % n = c := by rw [Nat.mul_comm, Nat.mul_add_mod, Nat.mod_eq_of_lt hc]
  rw [pos, h1, h2]
theorem rc_lt {n r c : Nat} (hr : r < n) (hc : c < n) : r * n + c < n * n := by
  have : (r + 1) * n ≤ n * n := Nat.mul_le_mul_right _ hr
  rw [Nat.add_mul] at this
  omega
theorem pos_lt {n r c : Nat} (h : Sd n) (hr : r < n) (hc : c < n) : lnS n (r + c) + (r - (r + c + 1 - n)) < n * n := by
  have h1 := lnS_mono n (s := r + c + 1) (t := 2 * n - 1) (by omega)
  rw [h.all, lnS] at h1
  omega
/-- the order at an index -/
theorem ord_at {n i : Nat} (h : Sd n) (hi : i < n * n) : ∃ r c, r < n ∧ c < n ∧ (ord n).getD i 0 = ((r * n + c : Nat) : Int) ∧ pos n (r * n + c) = i := by
  obtain ⟨s, hs, h1, h2⟩ := lnS_find n i (2 * n - 1) (by rw [h.all]; exact hi)
  rw [lnS] at h2
  have hr : (i - lnS n s) + (s + 1 - n) ≤ s := by omega
  have hc : s - ((i - lnS n s) + (s + 1 - n)) < n := by omega
  have hrn : (i - lnS n s) + (s + 1 - n) < n := by omega
  refine ⟨(i - lnS n s) + (s + 1 - n), s - ((i - lnS n s) + (s + 1 - n)), hrn, hc, ?_, ?_⟩
  · have := ods_get n s ((i - lnS n s) + (s + 1 - n)) hr (by omega) hrn (2 * n - 1) hs
    rw [show lnS n s + (i - lnS n s + (s + 1 - n) - (s + 1 - n)) = i by omega] at this
    exact this
  · rw [pos_rc hc, show i - lnS n s + (s + 1 - n) + (s - (i - lnS n s + (s + 1 - n))) = s by omega]
    omega
theorem pos_inj {n r c r' c' : Nat} (hr : r < n) (hc : c < n) (hr' : r' < n) (hc' : c' < n) (e : pos n (r * n + c) = pos n (r' * n + c')) : r * n + c = r' * n + c' := by
  have h1 := ods_get n (r + c) r (by omega) (by omega) hr (2 * n - 1) (by omega)
  have h2 := ods_get n (r' + c') r' (by omega) (by omega) hr' (2 * n - 1) (by omega)
  rw [pos_rc hc, pos_rc hc'] at e
  rw [e, h2, show r + c - r = c by omega, show r' + c' - r' = c' by omega] at h1
  exact (Int.ofNat_inj.1 h1).symm
/-- what lies on a later diagonal stands behind -/
theorem pos_rise {n r c r' c' : Nat} (hr : r < n) (hc : c < n) (hc' : c' < n) (e : r + c < r' + c') : pos n (r * n + c) < pos n (r' * n + c') := by
  have h1 := lnS_mono n (s := r + c + 1) (t := r' + c') e
  rw [lnS] at h1
  rw [pos_rc hc, pos_rc hc']
  omega
/-- within the diagonals the list is not whole yet -/
theorem part_lt {n s r : Nat} (h : Sd n) (hs : s < 2 * n - 2) (hr : r ≤ n) : (ods n s ++ dg n s r).length < n * n := by
  have h1 := lnS_mono n (s := s + 1) (t := 2 * n - 2) (by omega)
  rw [h.but, lnS] at h1
  have := h.lo
  have h3 : 4 * 4 ≤ n * n := Nat.mul_le_mul this this
  rw [List.length_append, ods_len, dg_len n s r hr]
  omega
theorem part_end {n : Nat} (h : Sd n) : ods n (2 * n - 2) ++ dg n (2 * n - 2) n = ord n := by
  have := h.lo
  rw [ods_step, ord, show 2 * n - 2 + 1 = 2 * n - 1 by omega]

end Go.Proofs.YtkmnpechhdendaaGreatDoor.L10

namespace Go.Proofs.YtkmnpechhdendaaGreatDoor.L10

/-- a level without its sign, at most m -/
def amt (v m : Int) : Int := if v < -m ∨ m < v then m else if v < 0 then -v else v
theorem amt_lo {v m : Int} (h : 0 ≤ m) : 0 ≤ amt v m := by unfold amt; split <;> (try split) <;> omega
theorem amt_hi {v m : Int} : amt v m ≤ m := by unfold amt; split <;> (try split) <;> omega
theorem amt_neg (v m : Int) : amt (-v) m = amt v m := by
  unfold amt
  by_cases h : v < -m ∨ m < v
  · rw [if_pos h, if_pos (by omega)]
  · rw [if_neg h, if_neg (by omega)]
    by_cases h2 : v < 0
    · rw [if_pos h2, if_neg (by omega)]
    · rw [if_neg h2]
      by_cases h3 : v = 0
      · subst h3; rfl
      · rw [if_pos (by omega)]; omega
/-- how far down and how far right the k-th neighbour is -/
def dn : Nat → Nat
  | 1 => 1
  | 2 => 1
  | 4 => 2
  | _ => 0
def rt : Nat → Nat
  | 0 => 1
  | 2 => 1
  | 3 => 2
  | _ => 0
/-- what the place (r, c) counts -/
def som (L : List Int) (n r c : Nat) (m : Int) : Int := if r < n ∧ c < n then amt (L.getD (r * n + c) 0) m else 0
theorem som_lo {L : List Int} {n r c : Nat} {m : Int} (h : 0 ≤ m) : 0 ≤ som L n r c m := by unfold som; split; exact amt_lo h; omega
theorem som_hi {L : List Int} {n r c : Nat} {m : Int} (h : 0 ≤ m) : som L n r c m ≤ m := by unfold som; split; exact amt_hi; omega
theorem som_in {L : List Int} {n r c : Nat} {m : Int} (h : r < n) (h' : c < n) : som L n r c m = amt (L.getD (r * n + c) 0) m := by unfold som; rw [if_pos ⟨h, h'⟩]
theorem som_out {L : List Int} {n r c : Nat} {m : Int} (h : ¬ (r < n ∧ c < n)) : som L n r c m = 0 := by unfold som; rw [if_neg h]
/-- the sum over the first k neighbours -/
def sml (L : List Int) (n a : Nat) (m : Int) : Nat → Int
  | 0 => 0
  | k + 1 => sml L n a m k + som L n (a / n + dn k) (a % n + rt k) m
theorem sml_lo {L : List Int} {n a : Nat} {m : Int} (h : 0 ≤ m) : ∀ k, 0 ≤ sml L n a m k
  | 0 => Int.le_refl _
  | k + 1 => by have := sml_lo (L := L) (n := n) (a := a) h k; have := som_lo (L := L) (n := n) (r := a / n + dn k) (c := a % n + rt k) h; rw [sml]; omega
theorem sml_hi {L : List Int} {n a : Nat} {m : Int} (h : 0 ≤ m) (h' : m ≤ 15) : ∀ k : Nat, sml L n a m k ≤ 15 * (k : Int)
  | 0 => by simp [sml]
  | k + 1 => by have := sml_hi (L := L) (n := n) (a := a) h h' k; have := som_hi (L := L) (n := n) (r := a / n + dn k) (c := a % n + rt k) h; rw [sml]; omega
theorem sml_five (L : List Int) (n a : Nat) (m : Int) : sml L n a m 5 = som L n (a / n) (a % n + 1) m + som L n (a / n + 1) (a % n) m + som L n (a / n + 1) (a % n + 1) m + som L n (a / n) (a % n + 2) m + som L n (a / n + 2) (a % n) m := by simp [sml, dn, rt]
theorem sml_three (L : List Int) (n a : Nat) (m : Int) : sml L n a m 3 = som L n (a / n) (a % n + 1) m + som L n (a / n + 1) (a % n) m + som L n (a / n + 1) (a % n + 1) m := by simp [sml, dn, rt]
/-- the context of a sum -/
def ctx (M s : Int) : Int := if (s + 1) / 2 < M then (s + 1) / 2 else M
theorem ctx_lo {M s : Int} (h : 0 ≤ M) (hs : 0 ≤ s) : 0 ≤ ctx M s := by unfold ctx; split <;> omega
theorem ctx_hi {M s : Int} : ctx M s ≤ M := by unfold ctx; split <;> omega
def bas (L : List Int) (n a : Nat) : Int := ctx 4 (sml L n a 3 5)
def mor (L : List Int) (n a : Nat) : Int := ctx 6 (sml L n a 15 3)
/-- sums do not hang on signs, nor on what stands ahead -/
theorem sml_signs {L D : List Int} {n a : Nat} (h0 : 0 < n) (hl : ∀ r c, r < n → c < n → a / n + a % n < r + c → D.getD (r * n + c) 0 = -(L.getD (r * n + c) 0)) (m : Int) : ∀ k, k ≤ 5 → sml D n a m k = sml L n a m k
  | 0, _ => rfl
  | k + 1, hk => by
    rw [sml, sml, sml_signs h0 hl m k (by omega)]
    congr 1
    by_cases h : a / n + dn k < n ∧ a % n + rt k < n
    · have hs : 0 < dn k + rt k := by
        have : k = 0 ∨ k = 1 ∨ k = 2 ∨ k = 3 ∨ k = 4 := by omega
        rcases this with rfl | rfl | rfl | rfl | rfl <;> decide
      rw [som_in h.1 h.2, som_in h.1 h.2, hl _ _ h.1 h.2 (by omega), amt_neg]
    · rw [som_out h, som_out h]

end Go.Proofs.YtkmnpechhdendaaGreatDoor.L10

namespace Go.Proofs.YtkmnpechhdendaaGreatDoor.L10
open Go.RowKit

/-- a size and its side -/
def Sz (s : Int) (n : Nat) : Prop := (s = 4 ∧ n = 4) ∨ (s = 8 ∧ n = 8) ∨ (s = 16 ∧ n = 16) ∨ (s = 32 ∧ n = 32) ∨ (s = 64 ∧ n = 32)
/-- no size -/
structure Nz (s : Int) : Prop where
  a : (s == 4) = false
  b : (s == 8) = false
  c : (s == 16) = false
  d : (s == 32) = false
  e : (s == 64) = false
theorem Sz.sd {s : Int} {n : Nat} (h : Sz s n) : Sd n := by rcases h with ⟨_, rfl⟩ | ⟨_, rfl⟩ | ⟨_, rfl⟩ | ⟨_, rfl⟩ | ⟨_, rfl⟩ <;> simp [Sd]
theorem size_any (s : Int) : (∃ n, Sz s n) ∨ Nz s := by
  by_cases h4 : s = 4
  · exact Or.inl ⟨4, Or.inl ⟨h4, rfl⟩⟩
  by_cases h8 : s = 8
  · exact Or.inl ⟨8, Or.inr (Or.inl ⟨h8, rfl⟩)⟩
  by_cases h16 : s = 16
  · exact Or.inl ⟨16, Or.inr (Or.inr (Or.inl ⟨h16, rfl⟩))⟩
  by_cases h32 : s = 32
  · exact Or.inl ⟨32, Or.inr (Or.inr (Or.inr (Or.inl ⟨h32, rfl⟩)))⟩
  by_cases h64 : s = 64
  · exact Or.inl ⟨32, Or.inr (Or.inr (Or.inr (Or.inr ⟨h64, rfl⟩)))⟩
  exact Or.inr ⟨by simp [h4], by simp [h8], by simp [h16], by simp [h32], by simp [h64]⟩

theorem sideOf_yes {w : World} {s : Int} {n : Nat} (h : Sz s n) : Calls Tryz.prog 67 #[.int .i64 s] w fun e w' => e = .returned (.tuple #[.int .i64 (n : Int), .int .i64 0]) ∧ w = w' := by
  rcases h with ⟨rfl, rfl⟩ | ⟨rfl, rfl⟩ | ⟨rfl, rfl⟩ | ⟨rfl, rfl⟩ | ⟨rfl, rfl⟩
  all_goals
    go_enter Tryz.func67, Tryz.ntmps67
    go_wp2
    go_returns
    exact ⟨rfl, rfl⟩
theorem sideOf_no {w : World} {s : Int} (h : Nz s) : Calls Tryz.prog 67 #[.int .i64 s] w fun e w' => e = .returned (.tuple #[.int .i64 0, .int .i64 2]) ∧ w = w' := by
  obtain ⟨h1, h2, h3, h4, h5⟩ := h
  go_enter Tryz.func67, Tryz.ntmps67
  go_wp2
  go_returns
  exact ⟨rfl, rfl⟩
theorem side_yes {w : World} {s : Int} {n : Nat} (h : Sz s n) : Calls Tryz.prog 44 #[.int .i64 s] w fun e w' => e = .returned (.int .i64 (n : Int)) ∧ w = w' := by
  rcases h with ⟨rfl, rfl⟩ | ⟨rfl, rfl⟩ | ⟨rfl, rfl⟩ | ⟨rfl, rfl⟩ | ⟨rfl, rfl⟩
  all_goals
    go_enter Tryz.func44, Tryz.ntmps44
    go_wp2
    go_ret
    exact ⟨rfl, rfl⟩
theorem side_no {w : World} {s : Int} (h : Nz s) : Calls Tryz.prog 44 #[.int .i64 s] w fun e w' => e = .returned (.int .i64 0) ∧ w = w' := by
  obtain ⟨h1, h2, h3, h4, h5⟩ := h
  go_enter Tryz.func44, Tryz.ntmps44
  go_wp2
  go_ret
  exact ⟨rfl, rfl⟩

/-- the end z has the class c -/
structure Cl (z : Int) (c : Nat) : Prop where
  le : c ≤ 10
  hi : z ≤ 2 ^ c
  lo : ∀ k, k < c → (2 : Int) ^ k < z
theorem pow_le {k c : Nat} (h : k ≤ c) : (2 : Int) ^ k ≤ 2 ^ c := by
  have := Nat.pow_le_pow_right (n := 2) (by omega) h
  have e : ∀ m : Nat, (2 : Int) ^ m = ((2 ^ m : Nat) : Int) := fun m => by simp
  rw [e, e]; omega
theorem cl_any {z : Int} (h1 : z ≤ 1024) : ∃ c, Cl z c := by
  have : ∀ m : Nat, m ≤ 10 → z ≤ 2 ^ m → ∃ c, Cl z c := by
    intro m
    induction m with
    | zero => exact fun _ h => ⟨0, by omega, h, fun k hk => by omega⟩
    | succ m ih =>
      intro hm h
      by_cases e : z ≤ 2 ^ m
      · exact ih (by omega) e
      · exact ⟨m + 1, hm, h, fun k hk => by have := pow_le (k := k) (c := m) (by omega); omega⟩
  exact this 10 (by omega) (by simpa using h1)
theorem Cl.uniq {z : Int} {c d : Nat} (h : Cl z c) (k : Cl z d) : c = d := by
  rcases Nat.lt_trichotomy c d with e | e | e
  · have := k.lo c e; have := h.hi; omega
  · exact e
  · have := h.lo d e; have := k.hi; omega
/-- what Class answers: class, bits, number -/
def clE (z : Int) (c : Nat) : Int := if c = 0 then 0 else z - (2 ^ (c - 1) + 1)
def clB (c : Nat) : Int := if c = 0 then 0 else (c : Int) - 1

theorem pow_at {k : Nat} (h : k ≤ 10) : (1 : Int) ≤ 2 ^ k ∧ (2 : Int) ^ k ≤ 1024 := ⟨pow_le (k := 0) (by omega), pow_le (c := 10) h⟩

set_option maxRecDepth 100000 in
set_option maxHeartbeats 1000000 in
theorem class_yes {w : World} {z : Int} {c : Nat} (h0 : 1 ≤ z) (h1 : z ≤ 1024) (h : Cl z c) : Calls Tryz.prog 100 #[.int .i64 z] w fun e w' => e = .returned (.tuple #[.int .i64 (c : Int), .int .i64 (clB c), .int .i64 (clE z c), .int .i64 0]) ∧ Below w.heap.size w w' := by
  have H : Hid (Cl z c) := h
  have hc := h.le
  clear h
  go_enter Tryz.func100, Tryz.ntmps100
  go_wp2
  go_loop [2] (fun i => ∃ k : Nat, k ≤ c ∧ i = .int .i64 k) (fun i => c - (intOf i).toNat)
  case atStart => exact ⟨0, by omega, rfl⟩
  case round =>
    obtain ⟨k, hk, rfl⟩ := hrel
    obtain ⟨p0, p1⟩ := pow_at (k := k) (by omega)
    have k0 : 0 ≤ (k : Int) := by omega
    have k1 : (k : Int) < 64 := by omega
    by_cases hlt : k < c
    · have hz := H.out.lo k hlt
      go_wp2
      go_round
      case rel => exact ⟨k + 1, by omega, by go_num⟩
      case measure => simp [intOf]; omega
    · obtain rfl : k = c := by omega
      have hz : ¬ (2 : Int) ^ k < z := by have := H.out.hi; omega
      by_cases hz0 : k = 0
      · subst hz0
        go_wp2
        go_returns
        exact ⟨rfl, Below.refl _ _⟩
      · have z0 : ((k : Int) == 0) = false := by rw [beq_eq_false_iff_ne]; omega
        have HE : Hid (clE z k = z - (2 ^ (k - 1) + 1)) := by show _ = _; rw [clE, if_neg hz0]
        have HB : Hid (clB k = (k : Int) - 1) := by show _ = _; rw [clB, if_neg hz0]
        obtain ⟨q0, q1⟩ := pow_at (k := k - 1) (by omega)
        have e1 : (k : Int) - 1 = ((k - 1 : Nat) : Int) := by omega
        have k2 : 0 ≤ ((k - 1 : Nat) : Int) := by omega
        have k3 : ((k - 1 : Nat) : Int) < 64 := by omega
        go_wp2
        go_quiet (fail)
        go_wp2
        go_returns
        exact ⟨by rw [HE.out, HB.out, e1], below_drewN (Below.refl _ _) _⟩

theorem class_no {w : World} {z : Int} (h : z < 1 ∨ 1024 < z) : Calls Tryz.prog 100 #[.int .i64 z] w fun e w' => e = .returned (.tuple #[.int .i64 0, .int .i64 0, .int .i64 0, .int .i64 2]) ∧ Below w.heap.size w w' := by
  by_cases h1 : z < 1
  · clear h
    go_enter Tryz.func100, Tryz.ntmps100
    go_wp2
    go_returns
    exact ⟨rfl, Below.refl _ _⟩
  · have h2 : 1024 < z := by omega
    clear h
    go_enter Tryz.func100, Tryz.ntmps100
    go_wp2
    go_returns
    exact ⟨rfl, Below.refl _ _⟩

theorem pow_next (k : Nat) (h : k ≠ 0) : (2 : Int) * 2 ^ (k - 1) = 2 ^ k := by
  obtain ⟨m, rfl⟩ : ∃ m, k = m + 1 := ⟨k - 1, by omega⟩
  rw [Nat.add_sub_cancel, Int.pow_succ, Int.mul_comm]

set_option maxRecDepth 100000 in
set_option maxHeartbeats 1000000 in
theorem rclass_yes {w : World} {z : Int} {c : Nat} (h0 : 1 ≤ z) (h1 : z ≤ 1024) (h : Cl z c) : Calls Tryz.prog 48 #[.int .i64 z] w fun e w' => e = .returned (.tuple #[.int .i64 (c : Int), .int .i64 (clB c), .int .i64 (clE z c), .int .i64 0]) ∧ Below w.heap.size w w' := by
  have H : Hid (Cl z c) := h
  have hc := h.le
  clear h
  by_cases hz1 : z = 1
  · have hc0 : c = 0 := by
      by_cases e : c = 0
      · exact e
      · have := H.out.lo 0 (by omega); simp at this; omega
    subst hz1 hc0
    go_enter Tryz.func48, Tryz.ntmps48
    go_wp2
    go_returns
    exact ⟨rfl, Below.refl _ _⟩
  · have hc0 : c ≠ 0 := by
      intro e
      have := H.out.hi
      rw [e] at this
      simp at this
      omega
    have z1 : (z == 1) = false := by rw [beq_eq_false_iff_ne]; exact hz1
    clear hz1
    go_enter Tryz.func48, Tryz.ntmps48
    go_wp2
    go_loop [6, 7] (fun i f => ∃ k : Nat, k ≤ c ∧ k ≠ 0 ∧ i = .int .i64 k ∧ f = .int .i64 (2 ^ (k - 1) + 1)) (fun i _ => c - (intOf i).toNat)
    case atStart => exact ⟨1, by omega, by omega, rfl, rfl⟩
    case round =>
      obtain ⟨k, hk, hk0, rfl, rfl⟩ := hrel
      obtain ⟨q0, q1⟩ := pow_at (k := k - 1) (by omega)
      have hn := pow_next k hk0
      have k0 : 0 ≤ (k : Int) := by omega
      have k1 : (k : Int) < 64 := by omega
      by_cases hlt : k < c
      · have hz := H.out.lo k hlt
        have HR : Hid (2 * 2 ^ (k - 1) + 1 = (2 : Int) ^ (k + 1 - 1) + 1) := by show _ = _; rw [hn]; rfl
        rw [← hn] at hz
        clear hn
        generalize (2 : Int) ^ (k - 1) = q at *
        go_wp2
        go_round
        case rel => exact ⟨k + 1, by omega, by omega, by go_num, by rw [← HR.out]⟩
        case measure => simp [intOf]; omega
      · obtain rfl : k = c := by omega
        have hz : ¬ (2 : Int) ^ k < z := by have := H.out.hi; omega
        have HE : Hid (clE z k = z - (2 ^ (k - 1) + 1)) := by show _ = _; rw [clE, if_neg hk0]
        have HB : Hid (clB k = (k : Int) - 1) := by show _ = _; rw [clB, if_neg hk0]
        rw [← hn] at hz
        clear hn
        generalize (2 : Int) ^ (k - 1) = q at *
        go_wp2
        go_returns
        exact ⟨by rw [HE.out, HB.out], Below.refl _ _⟩

theorem rclass_no {w : World} {z : Int} (h : z < 1 ∨ 1024 < z) : Calls Tryz.prog 48 #[.int .i64 z] w fun e w' => e = .returned (.tuple #[.int .i64 0, .int .i64 0, .int .i64 0, .int .i64 2]) ∧ Below w.heap.size w w' := by
  by_cases h1 : z < 1
  · clear h
    go_enter Tryz.func48, Tryz.ntmps48
    go_wp2
    go_returns
    exact ⟨rfl, Below.refl _ _⟩
  · have h2 : 1024 < z := by omega
    clear h
    go_enter Tryz.func48, Tryz.ntmps48
    go_wp2
    go_returns
    exact ⟨rfl, Below.refl _ _⟩
/-- one answer of both -/
theorem class_both (z : Int) : ∃ c b x e : Int, (∀ w : World, Calls Tryz.prog 100 #[.int .i64 z] w fun en w' => en = .returned (.tuple #[.int .i64 c, .int .i64 b, .int .i64 x, .int .i64 e]) ∧ Below w.heap.size w w') ∧
    (∀ w : World, Calls Tryz.prog 48 #[.int .i64 z] w fun en w' => en = .returned (.tuple #[.int .i64 c, .int .i64 b, .int .i64 x, .int .i64 e]) ∧ Below w.heap.size w w') := by
  by_cases h : 1 ≤ z ∧ z ≤ 1024
  · obtain ⟨c, hc⟩ := cl_any h.2
    exact ⟨_, _, _, _, fun w => class_yes h.1 h.2 hc, fun w => rclass_yes h.1 h.2 hc⟩
  · exact ⟨_, _, _, _, fun w => class_no (by omega), fun w => rclass_no (by omega)⟩

end Go.Proofs.YtkmnpechhdendaaGreatDoor.L10

namespace Go.Proofs.YtkmnpechhdendaaGreatDoor.L10
open Go.RowKit

/-- the order of a side, alone in new memory -/
def On (w w' : World) (e : Ending) (n : Nat) : Prop := ∃ g c, e = .returned (.tuple #[.slice (some ⟨g, 0, none⟩) (n * n) c, .int .i64 0]) ∧ Oi w' w.heap.size (some ⟨g, 0, none⟩) (n * n) c (ord n) ∧ Below w.heap.size w w'

/-- a list of the call's own, in diagonal s ahead of row r -/
structure Og (w : World) (n : Nat) (s r : Nat) (l : Value) (wr : World) : Prop where
  ex : ∃ (a : Option Addr) (m c : Nat), l = .slice a m c ∧ m = (ods n s ++ dg n s r).length ∧ Oi wr w.heap.size a m c (ods n s ++ dg n s r) ∧ Below w.heap.size w wr
theorem Og.start {w wr : World} {n c : Nat} {a : Option Addr} (h : Oi wr w.heap.size a 0 c []) (hb : Below w.heap.size w wr) : Og w n 0 0 (.slice a 0 c) wr := ⟨a, 0, c, rfl, rfl, h, hb⟩
theorem Og.skip {w wr : World} {n s r : Nat} {l : Value} (h : Og w n s r l wr) (hs : ¬ (r ≤ s ∧ s < n + r)) : Og w n s (r + 1) l wr := by
  obtain ⟨a, m, c, h1, h2, h3, h4⟩ := h
  exact ⟨a, m, c, h1, by rw [dg_skip n s r hs]; exact h2, by rw [dg_skip n s r hs]; exact h3, h4⟩
theorem Og.first {w wr : World} {n s : Nat} {l : Value} (h : Og w n s 0 l wr) : Og w n s (s + 1 - n) l wr := by
  obtain ⟨a, m, c, h1, h2, h3, h4⟩ := h
  have e : dg n s (s + 1 - n) = dg n s 0 := by rw [dg_nil n s (s + 1 - n) (Nat.le_refl _)]; rfl
  exact ⟨a, m, c, h1, by rw [e]; exact h2, by rw [e]; exact h3, h4⟩
theorem Og.next {w wr : World} {n s : Nat} {l : Value} (h : Og w n s n l wr) : Og w n (s + 1) 0 l wr := by
  obtain ⟨a, m, c, h1, h2, h3, h4⟩ := h
  have e : ods n (s + 1) ++ dg n (s + 1) 0 = ods n s ++ dg n s n := by rw [ods_step]; simp [dg]
  exact ⟨a, m, c, h1, by rw [e]; exact h2, by rw [e]; exact h3, h4⟩
theorem Og.over {w wr : World} {n s r : Nat} {l : Value} (h : Og w n s r l wr) (hs : s < r) (hr : r ≤ n) : Og w n (s + 1) 0 l wr := by
  refine Og.next ?_
  obtain ⟨a, m, c, h1, h2, h3, h4⟩ := h
  exact ⟨a, m, c, h1, by rw [dg_end n s r hs hr]; exact h2, by rw [dg_end n s r hs hr]; exact h3, h4⟩
theorem Og.put {w wr w' : World} {n s r g m c : Nat} {C : List Int} {x : Int} (hC : C = ods n s ++ dg n s r) (hm : m = C.length) (h : Oi w' w.heap.size (some ⟨g, 0, none⟩) (m + 1) c (C ++ [x])) (hb : Below w.heap.size w wr) (hb' : Below w.heap.size wr w') (hs : r ≤ s) (hs' : s < n + r)
    (hx : x = ((r * n + (s - r) : Nat) : Int)) : Og w n s (r + 1) (.slice (some ⟨g, 0, none⟩) (m + 1) c) w' := by
  subst hC hm hx
  exact ⟨_, _, c, rfl, by rw [dg_step n s r hs hs', ← List.append_assoc, List.length_append (bs := [_])]; rfl, by rw [dg_step n s r hs hs', ← List.append_assoc]; exact h, hb.trans hb'⟩

/-- n squared, by a name -/
theorem sq_name {n : Nat} (h : Sd n) : ∃ q : Nat, q = n * n ∧ (n : Int) * (n : Int) = (q : Int) ∧ 16 ≤ q ∧ q ≤ 1024 := ⟨n * n, rfl, by simp, by have := Nat.mul_le_mul h.lo h.lo; omega, h.sq⟩

set_option maxRecDepth 100000 in
set_option maxHeartbeats 1000000 in
theorem order_yes {w : World} {z : Int} {n : Nat} (h : Sz z n) : Calls Tryz.prog 39 #[.int .i64 z] w fun e w' => On w w' e n := by
  have HS : Hid (Sz z n) := h
  have HD : Hid (Sd n) := h.sd
  have n0 : (4 : Int) ≤ (n : Int) := by have := h.sd.lo; omega
  have n1 : (n : Int) ≤ 32 := by have := h.sd.hi; omega
  obtain ⟨q, hqn, hq, q0, q1⟩ := sq_name h.sd
  have HQ : Hid (q = n * n) := hqn
  have hmk := fun u => mk_room (n := q) (by omega) u
  have HO : Hid (Og w n 0 0 (.slice (some ⟨w.heap.size, 0, none⟩) 0 q) (w.alloc (.cells (madeCells #[.int .i64 0] q) 3))) := Og.start (Oi.room w (by omega) (Nat.le_refl _)) (from_alloc _ _)
  clear h hqn
  go_enter Tryz.func39, Tryz.ntmps39
  go_wp2
  go_step3
  go_wp2_with fail
  refine (sideOf_yes HS.out).mono ?_
  rintro e w' ⟨rfl, rfl⟩
  go_wp2_with fail
  go_step3
  go_wp2_with fail
  clear hmk
  generalize hW : World.alloc _ _ = w1 at *
  clear hW
  go_loopg [6, 7] (2 * n - 1) (fun g l i wr => ∃ s : Nat, s + g = 2 * n - 1 ∧ 1 ≤ g ∧ i = .int .i64 s ∧ Og w n s 0 l wr)
  case atStart => exact ⟨0, by omega, by omega, rfl, HO.out⟩
  case round =>
    obtain ⟨s, hs, hg, rfl, ho⟩ := hrel
    clear HO
    have HF : Hid (Og w n s (s + 1 - n) u6 wr) := ho.first
    have HR : Hid (∀ l' wr', Og w n (s + 1) 0 l' wr' → s < 2 * n - 2 → ∃ s' : Nat, s' + (2 * n - 2 - s) = 2 * n - 1 ∧ 1 ≤ 2 * n - 2 - s ∧ Value.int .i64 ((s : Int) + 1) = .int .i64 (s' : Int) ∧ Og w n s' 0 l' wr') := fun l' wr' h h2 => ⟨s + 1, by omega, by omega, by go_num, h⟩
    clear ho
    have s0 : 0 ≤ (s : Int) := by omega
    have s1 : (s : Int) ≤ 2 * (n : Int) - 2 := by omega
    have HE : Hid (gk = 2 * n - 1 - s) := by show _ = _; omega
    clear hs hg
    go_wp2_with fail
    all_goals
      go_loopg [6, 8] (n - (s + 1 - n)) (fun g l' i wr' => ∃ r : Nat, r + g = n ∧ s + 1 - n ≤ r ∧ (s = 2 * n - 2 → r = n - 1) ∧ i = .int .i64 r ∧ Og w n s r l' wr')
      case atStart => exact ⟨s + 1 - n, by omega, by omega, by omega, by congr 1; omega, HF.out⟩
      case round =>
        clear HF
        obtain ⟨r, hr, hr1, hr2, rfl, ho⟩ := hrel
        have HO : Hid (Og w n s r u6 wr) := ho
        have r0 : 0 ≤ (r : Int) := by omega
        have r1 : (r : Int) ≤ (n : Int) := by omega
        by_cases hrn : r < n
        · have r2 : (r : Int) < (n : Int) := by omega
          by_cases hc : s < r
          · have c0 : (s : Int) - (r : Int) < 0 := by omega
            have HX := HR.out u6 wr (ho.over hc (by omega)) (by omega)
            clear ho
            go_wp2_with fail
            go_roundg (2 * n - 2 - s)
            case measure => have := HE.out; omega
            case rel => exact HX
          · have c0 : ¬ (s : Int) - (r : Int) < 0 := by omega
            obtain ⟨ad, m, cp, rfl, hm, hoi, hbel⟩ := ho
            have HOi : Hid (Oi wr w.heap.size ad m cp (ods n s ++ dg n s r)) := hoi
            have HB : Hid (Below w.heap.size w wr) := hbel
            have HBs : Hid (w.heap.size ≤ wr.heap.size) := hbel.size
            obtain ⟨p, hpn⟩ : ∃ p : Nat, p = r * n := ⟨_, rfl⟩
            have hp : (r : Int) * (n : Int) = (p : Int) := by rw [hpn]; simp
            have p1 : (p : Int) ≤ 1024 := by
              have h1 : r * n ≤ n * n := Nat.mul_le_mul_right _ (by omega)
              have := HD.out.sq
              omega
            have HX : Hid ((p : Int) + ((s : Int) - (r : Int)) = ((r * n + (s - r) : Nat) : Int)) := by show _ = _; rw [← hpn]; omega
            have HP : Hid (∀ g c w', Oi w' w.heap.size (some ⟨g, 0, none⟩) (m + 1) c ((ods n s ++ dg n s r) ++ [(p : Int) + ((s : Int) - (r : Int))]) → Below w.heap.size wr w' → Og w n s (r + 1) (.slice (some ⟨g, 0, none⟩) (m + 1) c) w') := fun g c w' h1 h2 => Og.put rfl hm h1 hbel h2 (by omega) (by omega) HX.out
            have m1 : m < 1024 := by
              have h1 := lnS_mono n (s := s + 1) (t := 2 * n - 1) (by omega)
              rw [HD.out.all, lnS] at h1
              have h2 := HD.out.sq
              rw [hm, List.length_append, ods_len, dg_len n s r (by omega)]
              omega
            by_cases hend : s = 2 * n - 2
            · have hm1 : m + 1 = q := by
                have h1 := HD.out.but
                have h2 := HQ.out
                rw [hm, hend, List.length_append, ods_len, dg_len n (2 * n - 2) r (by omega), h1]
                have := hr2 hend
                omega
              have em : (((m : Int) + 1) == (q : Int)) = true := by rw [beq_iff_eq]; omega
              have HF2 : Hid (∀ g c w', Og w n s (r + 1) (.slice (some ⟨g, 0, none⟩) (m + 1) c) w' → On w w' (.returned (.tuple #[.slice (some ⟨g, 0, none⟩) (m + 1) c, .int .i64 0])) n) := by
                intro g c w' hog
                obtain ⟨a', m', c', e1, e2, e3, e4⟩ := hog
                have e5 : ods n s ++ dg n s (r + 1) = ord n := by rw [hend, show r + 1 = n by omega]; exact part_end HD.out
                rw [e5] at e3
                simp only [Value.slice.injEq] at e1
                obtain ⟨rfl, rfl, rfl⟩ := e1
                exact ⟨g, c, by rw [hm1, HQ.out], by rw [← HQ.out, ← hm1]; exact e3, e4⟩
              clear hm hoi hbel hm1 hpn hend hr2 hr1 hr
              go_wp2_with (at_builtin; refine wpList_append_int _ (by rfl) _ _ (by rfl) w.heap.size m cp (ods n s ++ dg n s r) ad _ HOi.out HBs.out (by omega) (by rfl) (by rfl) ?_; intro g cap w5 how hb5 _)
              go_returns
              exact HF2.out _ _ _ (HP.out _ _ _ how hb5)
            · have em : (((m : Int) + 1) == (q : Int)) = false := by
                have h1 := part_lt HD.out (s := s) (r := r + 1) (by omega) (by omega)
                rw [dg_step n s r (by omega) (by omega), ← List.append_assoc, List.length_append, ← hm, ← HQ.out] at h1
                simp at h1
                rw [beq_eq_false_iff_ne]; omega
              have HI : Hid (∀ l' w', Og w n s (r + 1) l' w' → ∃ r' : Nat, r' + (n - (r + 1)) = n ∧ s + 1 - n ≤ r' ∧ (s = 2 * n - 2 → r' = n - 1) ∧ Value.int .i64 ((r : Int) + 1) = .int .i64 (r' : Int) ∧ Og w n s r' l' w') := fun l' w' h => ⟨r + 1, by omega, by omega, by omega, by go_num, h⟩
              have HM : Hid (n - (r + 1) < gk) := by show _ < _; omega
              clear hm hoi hbel hpn hend hr2 hr1 hr
              go_wp2_with (at_builtin; refine wpList_append_int _ (by rfl) _ _ (by rfl) w.heap.size m cp (ods n s ++ dg n s r) ad _ HOi.out HBs.out (by omega) (by rfl) (by rfl) ?_; intro g cap w5 how hb5 _)
              go_roundg (n - (r + 1))
              case measure => exact HM.out
              case rel => exact HI.out _ _ (HP.out _ _ _ how hb5)
        · obtain rfl : r = n := by omega
          have HX := HR.out u6 wr ho.next (by omega)
          clear ho hr hr1 hr2
          go_wp2_with fail
          go_roundg (2 * r - 2 - s)
          case measure => have := HE.out; omega
          case rel => exact HX

theorem order_no {w : World} {z : Int} (h : Nz z) : Calls Tryz.prog 39 #[.int .i64 z] w fun e w' => e = .returned (.tuple #[.slice none 0 0, .int .i64 2]) ∧ w = w' := by
  have HS : Hid (Nz z) := h
  clear h
  go_enter Tryz.func39, Tryz.ntmps39
  go_wp2
  go_step3
  go_wp2_with fail
  refine (sideOf_no HS.out).mono ?_
  rintro e w' ⟨rfl, rfl⟩
  go_wp2_with fail
  rw [Exit.noGoto_ret]
  go_returns
  exact ⟨rfl, rfl⟩

end Go.Proofs.YtkmnpechhdendaaGreatDoor.L10

namespace Go.Proofs.YtkmnpechhdendaaGreatDoor.L10
open Go.RowKit

/-- the table of neighbours lies in its block -/
structure Nt (w : World) : Prop where
  low : 1 < w.heap.size
  d : ∀ k, k < 5 → w.cell? ⟨1, k * 2, none⟩ = some (.int .i64 (dn k : Nat))
  r : ∀ k, k < 5 → w.cell? ⟨1, k * 2 + 1, none⟩ = some (.int .i64 (rt k : Nat))
theorem Nt.below {B : Nat} {w w' : World} (h : Nt w) (hb : Below B w w') (hB : 1 < B) : Nt w' := ⟨Nat.lt_of_lt_of_le h.low hb.size, fun k hk => by rw [newCell hb _ _ hB]; exact h.d k hk, fun k hk => by rw [newCell hb _ _ hB]; exact h.r k hk⟩
theorem Nt.to {w w' : World} (h : Nt w) (hb : Below w.heap.size w w') : Nt w' := h.below hb h.low

set_option maxRecDepth 100000 in
theorem amount_any {w : World} {v m : Int} (h0 : 0 ≤ m) (h1 : m ≤ 15) : Calls Tryz.prog 133 #[.int .i64 v, .int .i64 m] w fun e w' => e = .returned (.int .i64 (amt v m)) ∧ w = w' := by
  by_cases ha : v < -m
  · have HA : Hid (amt v m = m) := by show _ = _; rw [amt, if_pos (Or.inl ha)]
    go_enter Tryz.func133, Tryz.ntmps133
    go_wp2
    go_ret
    exact ⟨by rw [HA.out]; rfl, rfl⟩
  · by_cases hb : m < v
    · have HA : Hid (amt v m = m) := by show _ = _; rw [amt, if_pos (Or.inr hb)]
      go_enter Tryz.func133, Tryz.ntmps133
      go_wp2
      go_ret
      exact ⟨by rw [HA.out]; rfl, rfl⟩
    · by_cases hc : v < 0
      · have HA : Hid (amt v m = -v) := by show _ = _; rw [amt, if_neg (by omega), if_pos hc]
        have hd : v < -v := by omega
        have hd2 : ¬ -v < v := by omega
        go_enter Tryz.func133, Tryz.ntmps133
        go_wp2
        all_goals
          go_ret
          exact ⟨by rw [HA.out]; first | rfl | (congr 1; omega), rfl⟩
      · have HA : Hid (amt v m = v) := by show _ = _; rw [amt, if_neg (by omega), if_neg hc]
        have hd : ¬ v < -v := by omega
        go_enter Tryz.func133, Tryz.ntmps133
        go_wp2
        all_goals
          go_ret
          exact ⟨by rw [HA.out]; first | rfl | (congr 1; omega), rfl⟩

/-- a slice's cell by its index -/
theorem Si.at {w : World} {a : Option Addr} {C : List Int} (h : Si w a C) (h0 : 0 < C.length) : ∃ b o, a = some ⟨b, o, none⟩ ∧ ∀ j, j < C.length → w.cell? ⟨b, o + j, none⟩ = some (.int .i64 (C.getD j 0)) := by
  obtain ⟨b, o, h1, _, h3⟩ := h.form h0
  exact ⟨b, o, h1, h3⟩

set_option maxRecDepth 100000 in
set_option maxHeartbeats 1000000 in
theorem some_any {w : World} {a : Option Addr} {cp q n r c : Nat} {L : List Int} {m : Int} (hs : Si w a L) (hl : L.length = q) (hq : q = n * n) (hn0 : 0 < n) (hn : n ≤ 32) (h0 : 0 ≤ m) (h1 : m ≤ 15) :
    Calls Tryz.prog 81 #[.slice a q cp, .int .i64 (n : Int), .int .i64 (r : Int), .int .i64 (c : Int), .int .i64 m] w fun e w' => e = .returned (.int .i64 (som L n r c m)) ∧ w = w' := by
  have hq0 : 0 < q := by rw [hq]; exact Nat.mul_pos hn0 hn0
  obtain ⟨b, o, rfl, hcell⟩ := hs.at (by omega)
  by_cases hrn : r < n
  · have r1 : ¬ (n : Int) ≤ (r : Int) := by omega
    by_cases hcn : c < n
    · have c1 : ¬ (n : Int) ≤ (c : Int) := by omega
      obtain ⟨p, hp⟩ : ∃ p : Nat, p = r * n := ⟨_, rfl⟩
      have ep : (r : Int) * (n : Int) = (p : Int) := by rw [hp]; simp
      have hlt := rc_lt hrn hcn
      have p1 : p + c < q := by omega
      have p3 : (p : Int) ≤ 1024 := by have : n * n ≤ 32 * 32 := Nat.mul_le_mul hn hn; omega
      obtain ⟨x, hx⟩ : ∃ x : Nat, x = p + c := ⟨_, rfl⟩
      have ex : (p : Int) + (c : Int) = (x : Int) := by omega
      have x0 : (0 : Int) ≤ (x : Int) := by omega
      have x1 : (x : Int) < (q : Int) := by omega
      have hv := hcell x (by omega)
      have HS : Hid (som L n r c m = amt (L.getD x 0) m) := by show _ = _; rw [som_in hrn hcn, hx, hp]
      generalize L.getD x 0 = v at *
      clear hcell hs hl hq p1 hx hp hlt
      by_cases hb : m < v
      · have HA : Hid (amt v m = m) := by show _ = _; rw [amt, if_pos (Or.inr hb)]
        go_enter Tryz.func81, Tryz.ntmps81
        go_wp2
        go_ret
        exact ⟨by rw [HS.out, HA.out]; rfl, rfl⟩
      · by_cases ha : v < -m
        · have HA : Hid (amt v m = m) := by show _ = _; rw [amt, if_pos (Or.inl ha)]
          go_enter Tryz.func81, Tryz.ntmps81
          go_wp2
          go_ret
          exact ⟨by rw [HS.out, HA.out]; rfl, rfl⟩
        · by_cases hv0 : v < 0
          · have HA : Hid (amt v m = -v) := by show _ = _; rw [amt, if_neg (by omega), if_pos hv0]
            go_enter Tryz.func81, Tryz.ntmps81
            go_wp2
            go_ret
            exact ⟨by rw [HS.out, HA.out]; rfl, rfl⟩
          · have HA : Hid (amt v m = v) := by show _ = _; rw [amt, if_neg (by omega), if_neg hv0]
            go_enter Tryz.func81, Tryz.ntmps81
            go_wp2
            go_ret
            exact ⟨by rw [HS.out, HA.out]; rfl, rfl⟩
    · have c1 : (n : Int) ≤ (c : Int) := by omega
      have HS : Hid (som L n r c m = 0) := som_out (by omega)
      clear hcell hs hl
      go_enter Tryz.func81, Tryz.ntmps81
      go_wp2
      go_ret
      exact ⟨by rw [HS.out]; rfl, rfl⟩
  · have r1 : (n : Int) ≤ (r : Int) := by omega
    have HS : Hid (som L n r c m = 0) := som_out (by omega)
    clear hcell hs hl
    go_enter Tryz.func81, Tryz.ntmps81
    go_wp2
    go_ret
    exact ⟨by rw [HS.out]; rfl, rfl⟩

end Go.Proofs.YtkmnpechhdendaaGreatDoor.L10

namespace Go.Proofs.YtkmnpechhdendaaGreatDoor.L10
open Go.RowKit

/-- a place by its row and column -/
theorem rc_of {n a : Nat} (h0 : 0 < n) (h : a < n * n) : ∃ r c, r < n ∧ c < n ∧ a / n = r ∧ a % n = c ∧ (a : Int) / (n : Int) = (r : Int) ∧ (a : Int) % (n : Int) = (c : Int) ∧ (a : Int).tdiv (n : Int) = (r : Int) ∧ (a : Int).tmod (n : Int) = (c : Int) := by
  refine ⟨a / n, a % n, (Nat.div_lt_iff_lt_mul h0).2 h, Nat.mod_lt _ h0, rfl, rfl, by simp, by simp, ?_, ?_⟩
  · rw [Int.tdiv_eq_ediv_of_nonneg (by omega)]; simp
  · rw [Int.tmod_eq_emod_of_nonneg (by omega)]; simp
theorem dn_le (k : Nat) : dn k ≤ 2 := by unfold dn; split <;> omega
theorem rt_le (k : Nat) : rt k ≤ 2 := by unfold rt; split <;> omega

/-- the loop over the neighbours -/
structure Ar (w : World) (L : List Int) (n p many : Nat) (m : Int) (s i : Value) (wr : World) : Prop where
  ex : ∃ (k j : Nat), k ≤ many ∧ i = .int .i64 k ∧ s = .int .i64 (sml L n p m k) ∧ wr = w.drewN j

set_option maxRecDepth 100000 in
set_option maxHeartbeats 1000000 in
theorem around_yes {w : World} {a : Option Addr} {cp q n p many : Nat} {L : List Int} {z m : Int} (hN : Nt w) (hz : Sz z n) (hs : Si w a L) (hl : L.length = q) (hq : q = n * n) (hp : p < q) (hk : many ≤ 5) (h0 : 0 ≤ m) (h1 : m ≤ 15) :
    Calls Tryz.prog 129 #[.slice a q cp, .int .i64 z, .int .i64 (p : Int), .int .i64 (many : Int), .int .i64 m] w fun e w' => e = .returned (.tuple #[.int .i64 (sml L n p m many), .int .i64 0]) ∧ ∃ k, w' = w.drewN k := by
  have HS : Hid (Sz z n) := hz
  have n0 : (4 : Int) ≤ (n : Int) := by have := hz.sd.lo; omega
  have n1 : (n : Int) ≤ 32 := by have := hz.sd.hi; omega
  have eq : (n : Int) * (n : Int) = (q : Int) := by rw [hq]; simp
  have q0 : (q : Int) ≤ 1024 := by have := hz.sd.sq; omega
  have qq : ((q : Int) != (q : Int)) = false := by simp
  have p0 : ¬ (p : Int) < 0 := by omega
  have p1 : ¬ (q : Int) ≤ (p : Int) := by omega
  have p2 : decide ((p : Int) < 0) = false := by rw [decide_eq_false_iff_not]; omega
  have p3 : decide (q ≤ p) = false := by rw [decide_eq_false_iff_not]; omega
  have p4 : decide ((q : Int) ≤ (p : Int)) = false := by rw [decide_eq_false_iff_not]; omega
  obtain ⟨b, o, rfl, hcell⟩ := hs.at (by omega)
  obtain ⟨r, c, hr, hc, hr1, hc1, hdv, hmd, hdt, hmt⟩ := rc_of (n := n) (a := p) (by omega) (by omega)
  have HL : Hid (∀ k j, j < q → (w.drewN k).cell? ⟨b, o + j, none⟩ = some (.int .i64 (L.getD j 0))) := fun k j hj => hcell j (by omega)
  have HNt : Hid (∀ k, Nt (w.drewN k)) := fun k => ⟨hN.low, hN.d, hN.r⟩
  have HQ : Hid (q = n * n) := hq
  have HM : Hid (∀ i, sml L n p m (i + 1) = sml L n p m i + som L n (r + dn i) (c + rt i) m) := fun i => by rw [sml, hr1, hc1]
  have HB : Hid (∀ i : Nat, 0 ≤ sml L n p m i ∧ sml L n p m i ≤ 15 * (i : Int)) := fun i => ⟨sml_lo h0 i, sml_hi h0 h1 i⟩
  clear hN hz hs hl hq hp hcell hr1 hc1
  have nz : (n : Int) ≠ 0 := by omega
  have nn : (0 : Int) < (n : Int) := by omega
  go_enter Tryz.func129, Tryz.ntmps129
  go_wp2_with fail
  refine (sideOf_yes HS.out).mono ?_
  rintro e w' ⟨rfl, rfl⟩
  go_wp2_with fail
  go_loopw [14, 44] (fun s i wr => Ar w L n p many m s i wr) (fun _ i _ => many - (intOf i).toNat)
  case atStart => exact ⟨⟨0, 0, by omega, rfl, rfl, rfl⟩⟩
  case round =>
    obtain ⟨k, j, hkm, rfl, rfl, hwr⟩ := hrel
    have k0 : (0 : Int) ≤ (k : Int) := by omega
    by_cases hlt : k < many
    · have k1 : (k : Int) < (many : Int) := by omega
      have k2 : (k : Int) < 5 := by omega
      have hd := (HNt.out j).d k (by omega)
      have he := (HNt.out j).r k (by omega)
      rw [← hwr] at hd he
      have HM1 := HM.out k
      obtain ⟨b1, b2⟩ := HB.out k
      have HLw : Hid (∀ j, j < q → wr.cell? ⟨b, o + j, none⟩ = some (.int .i64 (L.getD j 0))) := fun i hi => by rw [hwr]; exact HL.out j i hi
      have HW : Hid (wr = w.drewN j) := hwr
      have d2 := dn_le k
      have t2 := rt_le k
      clear hwr
      generalize sml L n p m k = s at *
      obtain ⟨s', HS'⟩ : ∃ s', s' = sml L n p m (k + 1) := ⟨_, rfl⟩
      rw [← HS'] at HM1
      generalize dn k = D at *
      generalize rt k = R at *
      have wr1 : IntKind.i64.wrap ((r : Int) + (D : Int)) = (r : Int) + (D : Int) := by rw [IntKind.wrap_i64]; omega
      have wc1 : IntKind.i64.wrap ((c : Int) + (R : Int)) = (c : Int) + (R : Int) := by rw [IntKind.wrap_i64]; omega
      have HX : Hid (∀ nq, Ar w L n p many m (.int .i64 s') (.int .i64 ((k : Int) + 1)) (wr.drewN nq)) := fun nq => ⟨⟨k + 1, j + nq, by omega, by go_num, by rw [HS'], by rw [HW.out]; exact drewN_drewN _ _ _⟩⟩
      obtain ⟨x, hx⟩ : ∃ x : Nat, x = r + D := ⟨_, rfl⟩
      obtain ⟨y, hy⟩ : ∃ y : Nat, y = c + R := ⟨_, rfl⟩
      have ex : (r : Int) + (D : Int) = (x : Int) := by omega
      have ey : (c : Int) + (R : Int) = (y : Int) := by omega
      rw [← hx, ← hy] at HM1
      have x5 : (x : Int) ≤ 40 := by omega
      have y5 : (y : Int) ≤ 40 := by omega
      have wx : IntKind.i64.wrap (x : Int) = (x : Int) := by rw [IntKind.wrap_i64]; omega
      have wy : IntKind.i64.wrap (y : Int) = (y : Int) := by rw [IntKind.wrap_i64]; omega
      by_cases hin : x < n ∧ y < n
      · have x1 : (x : Int) < (n : Int) := by omega
        have y1 : (y : Int) < (n : Int) := by omega
        obtain ⟨f, hf⟩ : ∃ f : Nat, f = x * n := ⟨_, rfl⟩
        have ef : (x : Int) * (n : Int) = (f : Int) := by rw [hf]; simp
        have hlt2 := rc_lt hin.1 hin.2
        have hq := HQ.out
        have f2 : (f : Int) ≤ 1024 := by omega
        obtain ⟨u, hu⟩ : ∃ u : Nat, u = f + y := ⟨_, rfl⟩
        have eu : (f : Int) + (y : Int) = (u : Int) := by omega
        have u0 : (0 : Int) ≤ (u : Int) := by omega
        have u1 : (u : Int) < (q : Int) := by omega
        have hv := HLw.out u (by omega)
        rw [som_in hin.1 hin.2, ← hf, ← hu] at HM1
        generalize L.getD u 0 = v at *
        have a1 := amt_lo (v := v) h0
        have a2 := amt_hi (v := v) (m := m)
        have HM2 : Hid (s' = s + amt v m) := HM1
        clear hin hf hu hlt2 hq HM1 hx hy HLw HM HB hr hc
        go_wp2_with fail
        go_quiet (fail)
        go_wp2_with (go_at_call 133; refine (amount_any h0 h1).mono ?_; rintro e w' ⟨rfl, rfl⟩)
        go_roundw
        case rel => (have h := HX.out nq; rw [HM2.out] at h; exact h)
        case measure => simp [intOf]; omega
      · have HM2 : Hid (s' = s) := by show _ = _; rw [HM1, som_out hin, Int.add_zero]
        by_cases x1 : (x : Int) < (n : Int)
        · have y1 : ¬ (y : Int) < (n : Int) := by omega
          have y2 : decide (y < n) = false := by rw [decide_eq_false_iff_not]; omega
          have y3 : decide ((y : Int) < (n : Int)) = false := by rw [decide_eq_false_iff_not]; omega
          have x2 : x < n := by omega
          clear hin HM1 hx hy HLw HM HB hr hc
          go_wp2_with fail
          go_quiet (fail)
          go_wp2_with fail
          go_roundw
          case rel => (have h := HX.out nq; rw [HM2.out] at h; exact h)
          case measure => simp [intOf]; omega
        · have x2 : decide (x < n) = false := by rw [decide_eq_false_iff_not]; omega
          have x3 : decide ((x : Int) < (n : Int)) = false := by rw [decide_eq_false_iff_not]; omega
          clear hin HM1 hx hy HLw HM HB hr hc
          go_wp2_with fail
          go_quiet (fail)
          go_wp2_with fail
          go_roundw
          case rel => (have h := HX.out nq; rw [HM2.out] at h; exact h)
          case measure => simp [intOf]; omega
    · obtain rfl : k = many := by omega
      have HW : Hid (wr = w.drewN j) := hwr
      clear hwr
      go_wp2_with fail
      go_returns
      exact ⟨rfl, j, HW.out⟩

/-- may a place be asked for? -/
def Ask (z : Int) (len : Nat) (p : Int) : Prop := ∃ n : Nat, Sz z n ∧ len = n * n ∧ 0 ≤ p ∧ p < ((n * n : Nat) : Int)
theorem sz_uniq {z : Int} {n n' : Nat} (h : Sz z n) (h' : Sz z n') : n = n' := by
  rcases h with ⟨h1, h2⟩ | ⟨h1, h2⟩ | ⟨h1, h2⟩ | ⟨h1, h2⟩ | ⟨h1, h2⟩ <;> rcases h' with ⟨k1, k2⟩ | ⟨k1, k2⟩ | ⟨k1, k2⟩ | ⟨k1, k2⟩ | ⟨k1, k2⟩ <;> omega

set_option maxRecDepth 100000 in
set_option maxHeartbeats 1000000 in
theorem around_no {w : World} {a : Option Addr} {cp len many : Nat} {z p m : Int} (hl : len ≤ 140737488355328) (h : ¬ Ask z len p) :
    Calls Tryz.prog 129 #[.slice a len cp, .int .i64 z, .int .i64 p, .int .i64 (many : Int), .int .i64 m] w fun e w' => e = .returned (.tuple #[.int .i64 0, .int .i64 2]) ∧ w = w' := by
  rcases size_any z with ⟨n, hz⟩ | hz
  · have HS : Hid (Sz z n) := hz
    have n0 : (4 : Int) ≤ (n : Int) := by have := hz.sd.lo; omega
    have n1 : (n : Int) ≤ 32 := by have := hz.sd.hi; omega
    obtain ⟨q, hqn, eq, q0, q1⟩ := sq_name hz.sd
    by_cases hlen : len = q
    · subst hlen
      have qq : ((len : Int) != (len : Int)) = false := by simp
      by_cases hp : p < 0
      · clear h hqn hz
        go_enter Tryz.func129, Tryz.ntmps129
        go_wp2_with fail
        refine (sideOf_yes HS.out).mono ?_
        rintro e w' ⟨rfl, rfl⟩
        go_wp2_with fail
        go_returns
        exact ⟨rfl, rfl⟩
      · have hp2 : (len : Int) ≤ p := by
          by_cases e : (len : Int) ≤ p
          · exact e
          · exact absurd ⟨n, hz, hqn, by omega, by rw [← hqn]; omega⟩ h
        clear h hqn hz
        go_enter Tryz.func129, Tryz.ntmps129
        go_wp2_with fail
        refine (sideOf_yes HS.out).mono ?_
        rintro e w' ⟨rfl, rfl⟩
        go_wp2_with fail
        go_returns
        exact ⟨rfl, rfl⟩
    · have qq : ((len : Int) != (q : Int)) = true := by rw [bne_iff_ne]; omega
      clear h hqn hz hlen
      go_enter Tryz.func129, Tryz.ntmps129
      go_wp2_with fail
      refine (sideOf_yes HS.out).mono ?_
      rintro e w' ⟨rfl, rfl⟩
      go_wp2_with fail
      go_returns
      exact ⟨rfl, rfl⟩
  · have HS : Hid (Nz z) := hz
    clear h hz
    go_enter Tryz.func129, Tryz.ntmps129
    go_wp2_with fail
    refine (sideOf_no HS.out).mono ?_
    rintro e w' ⟨rfl, rfl⟩
    go_wp2_with fail
    go_returns
    exact ⟨rfl, rfl⟩

theorem half_ctx {M s : Int} (h0 : 0 ≤ s) : ∃ t, (s + 1) / 2 = t ∧ (s + 1).tdiv 2 = t ∧ 0 ≤ t ∧ t ≤ s + 1 ∧ (t < M ∧ ctx M s = t ∨ ¬ t < M ∧ ctx M s = M) := by
  refine ⟨(s + 1) / 2, rfl, Int.tdiv_eq_ediv_of_nonneg (by omega), by omega, by omega, ?_⟩
  by_cases h : (s + 1) / 2 < M
  · exact Or.inl ⟨h, by rw [ctx, if_pos h]⟩
  · exact Or.inr ⟨h, by rw [ctx, if_neg h]⟩

set_option maxRecDepth 100000 in
set_option maxHeartbeats 1000000 in
theorem base_yes {w : World} {a : Option Addr} {cp q n p : Nat} {L : List Int} {z : Int} (hN : Nt w) (hz : Sz z n) (hs : Si w a L) (hl : L.length = q) (hq : q = n * n) (hp : p < q) :
    Calls Tryz.prog 120 #[.slice a q cp, .int .i64 z, .int .i64 (p : Int)] w fun e w' => e = .returned (.tuple #[.int .i64 (bas L n p), .int .i64 0]) ∧ ∃ k, w' = w.drewN k := by
  have HA : Hid (Nt w ∧ Sz z n ∧ Si w a L ∧ L.length = q ∧ q = n * n ∧ p < q) := ⟨hN, hz, hs, hl, hq, hp⟩
  have s0 := sml_lo (L := L) (n := n) (a := p) (m := 3) (by omega) 5
  have s1 := sml_hi (L := L) (n := n) (a := p) (m := 3) (by omega) (by omega) 5
  have HC : Hid (bas L n p = ctx 4 (sml L n p 3 5)) := rfl
  obtain ⟨s, hs1⟩ : ∃ s, sml L n p 3 5 = s := ⟨_, rfl⟩
  rw [hs1] at s0 s1 HC
  obtain ⟨t, ht, ht', t0, t1, hc⟩ := half_ctx (M := 4) s0
  have HS1 : Hid (sml L n p 3 5 = s) := hs1
  clear hN hz hs hl hq hp hs1
  rcases hc  with ⟨h1, h2⟩ | ⟨h1, h2⟩
  all_goals
    have HE : Hid (bas L n p = _) := HC.out.trans h2
    clear h2
    go_enter Tryz.func120, Tryz.ntmps120
    go_wp2_with fail
    refine (around_yes (many := 5) (m := 3) HA.out.1 HA.out.2.1 HA.out.2.2.1 HA.out.2.2.2.1 HA.out.2.2.2.2.1 HA.out.2.2.2.2.2 (by omega) (by omega) (by omega)).mono ?_
    rintro e w' ⟨rfl, k, rfl⟩
    rw [HS1.out]
    go_wp2_with fail
    go_returns
    exact ⟨by rw [HE.out]; rfl, k, rfl⟩
theorem base_no {w : World} {a : Option Addr} {cp len : Nat} {z p : Int} (hl : len ≤ 140737488355328) (h : ¬ Ask z len p) :
    Calls Tryz.prog 120 #[.slice a len cp, .int .i64 z, .int .i64 p] w fun e w' => e = .returned (.tuple #[.int .i64 0, .int .i64 2]) ∧ w = w' := by
  have HA : Hid (¬ Ask z len p) := h
  clear h
  go_enter Tryz.func120, Tryz.ntmps120
  go_wp2_with fail
  refine (around_no (many := 5) (m := 3) hl HA.out).mono ?_
  rintro e w' ⟨rfl, rfl⟩
  go_wp2_with fail
  go_returns
  exact ⟨rfl, rfl⟩

set_option maxRecDepth 100000 in
set_option maxHeartbeats 1000000 in
theorem more_yes {w : World} {a : Option Addr} {cp q n p : Nat} {L : List Int} {z : Int} (hN : Nt w) (hz : Sz z n) (hs : Si w a L) (hl : L.length = q) (hq : q = n * n) (hp : p < q) :
    Calls Tryz.prog 121 #[.slice a q cp, .int .i64 z, .int .i64 (p : Int)] w fun e w' => e = .returned (.tuple #[.int .i64 (mor L n p), .int .i64 0]) ∧ ∃ k, w' = w.drewN k := by
  have HA : Hid (Nt w ∧ Sz z n ∧ Si w a L ∧ L.length = q ∧ q = n * n ∧ p < q) := ⟨hN, hz, hs, hl, hq, hp⟩
  have s0 := sml_lo (L := L) (n := n) (a := p) (m := 15) (by omega) 3
  have s1 := sml_hi (L := L) (n := n) (a := p) (m := 15) (by omega) (by omega) 3
  have HC : Hid (mor L n p = ctx 6 (sml L n p 15 3)) := rfl
  obtain ⟨s, hs1⟩ : ∃ s, sml L n p 15 3 = s := ⟨_, rfl⟩
  rw [hs1] at s0 s1 HC
  obtain ⟨t, ht, ht', t0, t1, hc⟩ := half_ctx (M := 6) s0
  have HS1 : Hid (sml L n p 15 3 = s) := hs1
  clear hN hz hs hl hq hp hs1
  rcases hc  with ⟨h1, h2⟩ | ⟨h1, h2⟩
  all_goals
    have HE : Hid (mor L n p = _) := HC.out.trans h2
    clear h2
    go_enter Tryz.func121, Tryz.ntmps121
    go_wp2_with fail
    refine (around_yes (many := 3) (m := 15) HA.out.1 HA.out.2.1 HA.out.2.2.1 HA.out.2.2.2.1 HA.out.2.2.2.2.1 HA.out.2.2.2.2.2 (by omega) (by omega) (by omega)).mono ?_
    rintro e w' ⟨rfl, k, rfl⟩
    rw [HS1.out]
    go_wp2_with fail
    go_returns
    exact ⟨by rw [HE.out]; rfl, k, rfl⟩
theorem more_no {w : World} {a : Option Addr} {cp len : Nat} {z p : Int} (hl : len ≤ 140737488355328) (h : ¬ Ask z len p) :
    Calls Tryz.prog 121 #[.slice a len cp, .int .i64 z, .int .i64 p] w fun e w' => e = .returned (.tuple #[.int .i64 0, .int .i64 2]) ∧ w = w' := by
  have HA : Hid (¬ Ask z len p) := h
  clear h
  go_enter Tryz.func121, Tryz.ntmps121
  go_wp2_with fail
  refine (around_no (many := 3) (m := 15) hl HA.out).mono ?_
  rintro e w' ⟨rfl, rfl⟩
  go_wp2_with fail
  go_returns
  exact ⟨rfl, rfl⟩

end Go.Proofs.YtkmnpechhdendaaGreatDoor.L10

namespace Go.Proofs.YtkmnpechhdendaaGreatDoor.L10
open Go.RowKit

set_option maxRecDepth 100000 in
set_option maxHeartbeats 1000000 in
theorem rorder_yes {w : World} {z : Int} {n : Nat} (h : Sz z n) : Calls Tryz.prog 45 #[.int .i64 z] w fun e w' => On w w' e n := by
  have HS : Hid (Sz z n) := h
  have HD : Hid (Sd n) := h.sd
  have n0 : (4 : Int) ≤ (n : Int) := by have := h.sd.lo; omega
  have n1 : (n : Int) ≤ 32 := by have := h.sd.hi; omega
  have nz : ((n : Int) == 0) = false := by rw [beq_eq_false_iff_ne]; omega
  clear h
  go_enter Tryz.func45, Tryz.ntmps45
  go_wp2_with fail
  refine (side_yes HS.out).mono ?_
  rintro e w' ⟨rfl, rfl⟩
  go_wp2_with fail
  go_loopg [5, 6] (2 * n - 1) (fun g l i wr => ∃ s : Nat, s + g = 2 * n - 1 ∧ i = .int .i64 s ∧ Og w n s 0 l wr)
  case atStart => exact ⟨0, by omega, rfl, Og.start (Oi.nil _ _) (Below.refl _ _)⟩
  case round =>
    obtain ⟨s, hs, rfl, ho⟩ := hrel
    have s0 : 0 ≤ (s : Int) := by omega
    by_cases hlt : s < 2 * n - 1
    · have s1 : (s : Int) ≤ 2 * (n : Int) - 2 := by omega
      have HF : Hid (Og w n s 0 u5 wr) := ho
      have HE : Hid (2 * n - 2 - s < gk) := by show _ < _; omega
      have HR : Hid (∀ l' wr', Og w n (s + 1) 0 l' wr' → ∃ s' : Nat, s' + (2 * n - 2 - s) = 2 * n - 1 ∧ Value.int .i64 ((s : Int) + 1) = .int .i64 (s' : Int) ∧ Og w n s' 0 l' wr') := fun l' wr' h => ⟨s + 1, by omega, by go_num, h⟩
      clear ho hs
      go_wp2_with fail
      go_loopg [5, 7] n (fun g l' i wr' => ∃ r : Nat, r + g = n ∧ i = .int .i64 r ∧ Og w n s r l' wr')
      case atStart => exact ⟨0, by omega, rfl, HF.out⟩
      case round =>
        clear HF
        obtain ⟨r, hr, rfl, ho⟩ := hrel
        have r0 : 0 ≤ (r : Int) := by omega
        have r1 : (r : Int) ≤ (n : Int) := by omega
        by_cases hrn : r < n
        · have r2 : (r : Int) < (n : Int) := by omega
          have HI : Hid (∀ l' w', Og w n s (r + 1) l' w' → ∃ r' : Nat, r' + (n - (r + 1)) = n ∧ Value.int .i64 ((r : Int) + 1) = .int .i64 (r' : Int) ∧ Og w n s r' l' w') := fun l' w' h => ⟨r + 1, by omega, by go_num, h⟩
          have HM : Hid (n - (r + 1) < gk) := by show _ < _; omega
          by_cases hc : r ≤ s ∧ s < n + r
          · have c0 : 0 ≤ (s : Int) - (r : Int) := by omega
            have c1 : (s : Int) - (r : Int) < (n : Int) := by omega
            obtain ⟨ad, m, cp, rfl, hm, hoi, hbel⟩ := ho
            have HOi : Hid (Oi wr w.heap.size ad m cp (ods n s ++ dg n s r)) := hoi
            have HBs : Hid (w.heap.size ≤ wr.heap.size) := hbel.size
            obtain ⟨p, hpn⟩ : ∃ p : Nat, p = r * n := ⟨_, rfl⟩
            have hp : (r : Int) * (n : Int) = (p : Int) := by rw [hpn]; simp
            have p1 : (p : Int) ≤ 1024 := by
              have h1 : r * n ≤ n * n := Nat.mul_le_mul_right _ (by omega)
              have := HD.out.sq
              omega
            have HX : Hid ((p : Int) + ((s : Int) - (r : Int)) = ((r * n + (s - r) : Nat) : Int)) := by show _ = _; rw [← hpn]; omega
            have HP : Hid (∀ g c w', Oi w' w.heap.size (some ⟨g, 0, none⟩) (m + 1) c ((ods n s ++ dg n s r) ++ [(p : Int) + ((s : Int) - (r : Int))]) → Below w.heap.size wr w' → Og w n s (r + 1) (.slice (some ⟨g, 0, none⟩) (m + 1) c) w') := fun g c w' h1 h2 => Og.put rfl hm h1 hbel h2 (by omega) (by omega) HX.out
            have m1 : m < 1024 := by
              have h1 := lnS_mono n (s := s + 1) (t := 2 * n - 1) (by omega)
              rw [HD.out.all, lnS] at h1
              have h2 := HD.out.sq
              rw [hm, List.length_append, ods_len, dg_len n s r (by omega)]
              omega
            clear hm hoi hbel hpn hr hc
            go_wp2_with (at_builtin; refine wpList_append_int _ (by rfl) _ _ (by rfl) w.heap.size m cp (ods n s ++ dg n s r) ad _ HOi.out HBs.out (by omega) (by rfl) (by rfl) ?_; intro g cap w5 how hb5 _)
            go_roundg (n - (r + 1))
            case measure => exact HM.out
            case rel => exact HI.out _ _ (HP.out _ _ _ how hb5)
          · have HX := HI.out _ _ (ho.skip hc)
            have HXX : Hid _ := HX
            by_cases c0 : 0 ≤ (s : Int) - (r : Int)
            · have c1 : ¬ (s : Int) - (r : Int) < (n : Int) := by omega
              clear ho hc hr HX
              go_wp2_with fail
              go_roundg (n - (r + 1))
              case measure => exact HM.out
              case rel => exact HXX.out
            · clear ho hc hr HX
              go_wp2_with fail
              go_roundg (n - (r + 1))
              case measure => exact HM.out
              case rel => exact HXX.out
        · obtain rfl : r = n := by omega
          have HX := HR.out u5 wr ho.next
          clear ho hr
          go_wp2_with fail
          go_roundg (2 * r - 2 - s)
          case measure => exact HE.out
          case rel => exact HX
    · obtain rfl : s = 2 * n - 1 := by omega
      have s1 : ¬ ((2 * n - 1 : Nat) : Int) ≤ 2 * (n : Int) - 2 := by omega
      have HX : Hid (On w wr (.returned (.tuple #[u5, .int .i64 0])) n) := by
        obtain ⟨a', m', c', e1, e2, e3, e4⟩ := ho
        have e5 : ods n (2 * n - 1) ++ dg n (2 * n - 1) 0 = ord n := by simp [dg, ord]
        rw [e5] at e2 e3
        rw [ord_len HD.out] at e2
        subst e2
        have e6 := e3.own.form (by have := HD.out.lo; have := Nat.mul_le_mul this this; omega)
        obtain ⟨b, cap, hv, _, _⟩ := e6
        simp only [Value.slice.injEq] at hv
        obtain ⟨rfl, _, rfl⟩ := hv
        subst e1
        exact ⟨b, _, rfl, e3, e4⟩
      clear ho hs
      generalize 2 * n - 1 = t at *
      go_wp2_with fail
      go_returns
      exact HX.out

theorem rorder_no {w : World} {z : Int} (h : Nz z) : Calls Tryz.prog 45 #[.int .i64 z] w fun e w' => e = .returned (.tuple #[.slice none 0 0, .int .i64 2]) ∧ w = w' := by
  have HS : Hid (Nz z) := h
  clear h
  go_enter Tryz.func45, Tryz.ntmps45
  go_wp2_with fail
  refine (side_no HS.out).mono ?_
  rintro e w' ⟨rfl, rfl⟩
  go_wp2_with fail
  go_returns
  exact ⟨rfl, rfl⟩

end Go.Proofs.YtkmnpechhdendaaGreatDoor.L10

namespace Go.Proofs.YtkmnpechhdendaaGreatDoor.L10
open Go.RowKit

set_option maxRecDepth 100000 in
set_option maxHeartbeats 1000000 in
theorem asked_yes {w : World} {a : Option Addr} {cp q n p : Nat} {z : Int} (hz : Sz z n) (hq : q = n * n) (hp : p < q) :
    Calls Tryz.prog 80 #[.slice a q cp, .int .i64 z, .int .i64 (p : Int)] w fun e w' => e = .returned (.bool true) ∧ w = w' := by
  have HS : Hid (Sz z n) := hz
  have n0 : (4 : Int) ≤ (n : Int) := by have := hz.sd.lo; omega
  have n1 : (n : Int) ≤ 32 := by have := hz.sd.hi; omega
  have eq : (n : Int) * (n : Int) = (q : Int) := by rw [hq]; simp
  have q0 : (q : Int) ≤ 1024 := by have := hz.sd.sq; omega
  have qq : ((q : Int) == (q : Int)) = true := by simp
  have p0 : (0 : Int) ≤ (p : Int) := by omega
  have p1 : (p : Int) < (q : Int) := by omega
  clear hz hq hp
  go_enter Tryz.func80, Tryz.ntmps80
  go_wp2_with fail
  refine (side_yes HS.out).mono ?_
  rintro e w' ⟨rfl, rfl⟩
  go_wp2_with fail
  go_ret
  exact ⟨rfl, rfl⟩

set_option maxRecDepth 100000 in
set_option maxHeartbeats 1000000 in
theorem asked_no {w : World} {a : Option Addr} {cp len : Nat} {z p : Int} (hl : len ≤ 140737488355328) (h : ¬ Ask z len p) :
    Calls Tryz.prog 80 #[.slice a len cp, .int .i64 z, .int .i64 p] w fun e w' => e = .returned (.bool false) ∧ w = w' := by
  rcases size_any z with ⟨n, hz⟩ | hz
  · have HS : Hid (Sz z n) := hz
    have n0 : (4 : Int) ≤ (n : Int) := by have := hz.sd.lo; omega
    have n1 : (n : Int) ≤ 32 := by have := hz.sd.hi; omega
    obtain ⟨q, hqn, eq, q0, q1⟩ := sq_name hz.sd
    by_cases hlen : len = q
    · subst hlen
      have qq : ((len : Int) == (len : Int)) = true := by simp
      by_cases hp : p < 0
      · have hp1 : ¬ 0 ≤ p := by omega
        clear h hqn hz
        go_enter Tryz.func80, Tryz.ntmps80
        go_wp2_with fail
        refine (side_yes HS.out).mono ?_
        rintro e w' ⟨rfl, rfl⟩
        go_wp2_with fail
        go_ret
        exact ⟨rfl, rfl⟩
      · have hp1 : 0 ≤ p := by omega
        have hp2 : ¬ p < (len : Int) := by
          intro e
          exact absurd ⟨n, hz, hqn, by omega, by rw [← hqn]; omega⟩ h
        have hp3 : decide (p < (len : Int)) = false := by rw [decide_eq_false_iff_not]; exact hp2
        clear h hqn hz
        go_enter Tryz.func80, Tryz.ntmps80
        go_wp2_with fail
        refine (side_yes HS.out).mono ?_
        rintro e w' ⟨rfl, rfl⟩
        go_wp2_with fail
        go_ret
        exact ⟨rfl, rfl⟩
    · have qq : ((len : Int) == (q : Int)) = false := by rw [beq_eq_false_iff_ne]; omega
      clear h hqn hz hlen
      go_enter Tryz.func80, Tryz.ntmps80
      go_wp2_with fail
      refine (side_yes HS.out).mono ?_
      rintro e w' ⟨rfl, rfl⟩
      go_wp2_with fail
      go_ret
      exact ⟨rfl, rfl⟩
  · have HS : Hid (Nz z) := hz
    clear h hz
    go_enter Tryz.func80, Tryz.ntmps80
    go_wp2_with fail
    refine (side_no HS.out).mono ?_
    rintro e w' ⟨rfl, rfl⟩
    go_wp2_with fail
    go_ret
    exact ⟨rfl, rfl⟩

set_option maxRecDepth 100000 in
set_option maxHeartbeats 1000000 in
theorem rbase_yes {w : World} {a : Option Addr} {cp q n p : Nat} {L : List Int} {z : Int} (hz : Sz z n) (hs : Si w a L) (hl : L.length = q) (hq : q = n * n) (hp : p < q) :
    Calls Tryz.prog 52 #[.slice a q cp, .int .i64 z, .int .i64 (p : Int)] w fun e w' => e = .returned (.tuple #[.int .i64 (bas L n p), .int .i64 0]) ∧ ∃ k, w' = w.drewN k := by
  have HS : Hid (Sz z n) := hz
  have HP : Hid (q = n * n ∧ p < q) := ⟨hq, hp⟩
  have n0 : (4 : Int) ≤ (n : Int) := by have := hz.sd.lo; omega
  have n1 : (n : Int) ≤ 32 := by have := hz.sd.hi; omega
  obtain ⟨r, c, hr, hc, hr1, hc1, hdv, hmd, hdt, hmt⟩ := rc_of (n := n) (a := p) (by omega) (by omega)
  have HA : Hid (∀ k, Si (w.drewN k) a L) := fun k => by
    rcases hs with h | ⟨b, o, h1, h2, h3⟩
    · exact Or.inl h
    · exact Or.inr ⟨b, o, h1, h2, h3⟩
  have HL : Hid (L.length = q ∧ q = n * n) := ⟨hl, hq⟩
  have HC : Hid (bas L n p = ctx 4 (sml L n p 3 5)) := rfl
  have hsum := sml_five L n p 3
  rw [hr1, hc1] at hsum
  obtain ⟨x1, ex1, fx1⟩ : ∃ x : Nat, r + 1 = x ∧ (r : Int) + 1 = (x : Int) := ⟨_, rfl, by omega⟩
  obtain ⟨y1, ey1, fy1⟩ : ∃ x : Nat, c + 1 = x ∧ (c : Int) + 1 = (x : Int) := ⟨_, rfl, by omega⟩
  obtain ⟨x2, ex2, fx2⟩ : ∃ x : Nat, r + 2 = x ∧ (r : Int) + 2 = (x : Int) := ⟨_, rfl, by omega⟩
  obtain ⟨y2, ey2, fy2⟩ : ∃ x : Nat, c + 2 = x ∧ (c : Int) + 2 = (x : Int) := ⟨_, rfl, by omega⟩
  rw [ex1, ey1, ex2, ey2] at hsum
  have lx1 : x1 ≤ 40 := by omega
  have ly1 : y1 ≤ 40 := by omega
  have lx2 : x2 ≤ 40 := by omega
  have ly2 : y2 ≤ 40 := by omega
  have a0 := som_lo (L := L) (n := n) (r := r) (c := y1) (m := 3) (by omega)
  have b0 := som_hi (L := L) (n := n) (r := r) (c := y1) (m := 3) (by omega)
  have a1 := som_lo (L := L) (n := n) (r := x1) (c := c) (m := 3) (by omega)
  have b1 := som_hi (L := L) (n := n) (r := x1) (c := c) (m := 3) (by omega)
  have a2 := som_lo (L := L) (n := n) (r := x1) (c := y1) (m := 3) (by omega)
  have b2 := som_hi (L := L) (n := n) (r := x1) (c := y1) (m := 3) (by omega)
  have a3 := som_lo (L := L) (n := n) (r := r) (c := y2) (m := 3) (by omega)
  have b3 := som_hi (L := L) (n := n) (r := r) (c := y2) (m := 3) (by omega)
  have a4 := som_lo (L := L) (n := n) (r := x2) (c := c) (m := 3) (by omega)
  have b4 := som_hi (L := L) (n := n) (r := x2) (c := c) (m := 3) (by omega)
  have hsum2 : sml L n p 3 5 = som L n r y1 3 + som L n x1 c 3 + som L n x1 y1 3 + som L n r y2 3 + som L n x2 c 3 := hsum
  have s0 := sml_lo (L := L) (n := n) (a := p) (m := 3) (by omega) 5
  obtain ⟨s, hs1⟩ : ∃ s, sml L n p 3 5 = s := ⟨_, rfl⟩
  rw [hs1] at hsum2 s0 HC
  have hsm := hsum2.symm
  have s9 : s ≤ 80 := by omega
  clear hsum2
  obtain ⟨t, ht, ht', t0, t1, hct⟩ := half_ctx (M := 4) s0
  have nz : (n : Int) ≠ 0 := by omega
  have nn : (0 : Int) < (n : Int) := by omega
  clear hz hs hl hq hp hr1 hc1 hsum hs1
  rcases hct with ⟨h1, h2⟩ | ⟨h1, h2⟩
  all_goals
    have HE : Hid (bas L n p = _) := HC.out.trans h2
    clear h2
    go_enter Tryz.func52, Tryz.ntmps52
    go_wp2_with fail
    refine (asked_yes HS.out HP.out.1 HP.out.2).mono ?_
    rintro e w1 ⟨rfl, rfl⟩
    go_wp2_with fail
    refine (side_yes HS.out).mono ?_
    rintro e w1 ⟨rfl, rfl⟩
    go_wp2_with fail
    go_quiet (fail)
    go_wp2_with (first | (go_at_call 81; with_reducible refine (some_any (r := r) (c := y1) (HA.out _) HL.out.1 HL.out.2 (by omega) (by omega) (by omega) (by omega)).mono ?_; rintro e w5 ⟨rfl, rfl⟩) | (go_at_call 81; with_reducible refine (some_any (r := x1) (c := c) (HA.out _) HL.out.1 HL.out.2 (by omega) (by omega) (by omega) (by omega)).mono ?_; rintro e w6 ⟨rfl, rfl⟩) | (go_at_call 81; with_reducible refine (some_any (r := x1) (c := y1) (HA.out _) HL.out.1 HL.out.2 (by omega) (by omega) (by omega) (by omega)).mono ?_; rintro e w7 ⟨rfl, rfl⟩) | (go_at_call 81; with_reducible refine (some_any (r := r) (c := y2) (HA.out _) HL.out.1 HL.out.2 (by omega) (by omega) (by omega) (by omega)).mono ?_; rintro e w8 ⟨rfl, rfl⟩) | (go_at_call 81; with_reducible refine (some_any (r := x2) (c := c) (HA.out _) HL.out.1 HL.out.2 (by omega) (by omega) (by omega) (by omega)).mono ?_; rintro e w9 ⟨rfl, rfl⟩))
    go_returns
    exact ⟨by rw [HE.out]; rfl, nq, rfl⟩

set_option maxRecDepth 100000 in
set_option maxHeartbeats 1000000 in
theorem rmore_yes {w : World} {a : Option Addr} {cp q n p : Nat} {L : List Int} {z : Int} (hz : Sz z n) (hs : Si w a L) (hl : L.length = q) (hq : q = n * n) (hp : p < q) :
    Calls Tryz.prog 53 #[.slice a q cp, .int .i64 z, .int .i64 (p : Int)] w fun e w' => e = .returned (.tuple #[.int .i64 (mor L n p), .int .i64 0]) ∧ ∃ k, w' = w.drewN k := by
  have HS : Hid (Sz z n) := hz
  have HP : Hid (q = n * n ∧ p < q) := ⟨hq, hp⟩
  have n0 : (4 : Int) ≤ (n : Int) := by have := hz.sd.lo; omega
  have n1 : (n : Int) ≤ 32 := by have := hz.sd.hi; omega
  obtain ⟨r, c, hr, hc, hr1, hc1, hdv, hmd, hdt, hmt⟩ := rc_of (n := n) (a := p) (by omega) (by omega)
  have HA : Hid (∀ k, Si (w.drewN k) a L) := fun k => by
    rcases hs with h | ⟨b, o, h1, h2, h3⟩
    · exact Or.inl h
    · exact Or.inr ⟨b, o, h1, h2, h3⟩
  have HL : Hid (L.length = q ∧ q = n * n) := ⟨hl, hq⟩
  have HC : Hid (mor L n p = ctx 6 (sml L n p 15 3)) := rfl
  have hsum := sml_three L n p 15
  rw [hr1, hc1] at hsum
  obtain ⟨x1, ex1, fx1⟩ : ∃ x : Nat, r + 1 = x ∧ (r : Int) + 1 = (x : Int) := ⟨_, rfl, by omega⟩
  obtain ⟨y1, ey1, fy1⟩ : ∃ x : Nat, c + 1 = x ∧ (c : Int) + 1 = (x : Int) := ⟨_, rfl, by omega⟩
  obtain ⟨x2, ex2, fx2⟩ : ∃ x : Nat, r + 2 = x ∧ (r : Int) + 2 = (x : Int) := ⟨_, rfl, by omega⟩
  obtain ⟨y2, ey2, fy2⟩ : ∃ x : Nat, c + 2 = x ∧ (c : Int) + 2 = (x : Int) := ⟨_, rfl, by omega⟩
  rw [ex1, ey1] at hsum
  have lx1 : x1 ≤ 40 := by omega
  have ly1 : y1 ≤ 40 := by omega
  have lx2 : x2 ≤ 40 := by omega
  have ly2 : y2 ≤ 40 := by omega
  have a0 := som_lo (L := L) (n := n) (r := r) (c := y1) (m := 15) (by omega)
  have b0 := som_hi (L := L) (n := n) (r := r) (c := y1) (m := 15) (by omega)
  have a1 := som_lo (L := L) (n := n) (r := x1) (c := c) (m := 15) (by omega)
  have b1 := som_hi (L := L) (n := n) (r := x1) (c := c) (m := 15) (by omega)
  have a2 := som_lo (L := L) (n := n) (r := x1) (c := y1) (m := 15) (by omega)
  have b2 := som_hi (L := L) (n := n) (r := x1) (c := y1) (m := 15) (by omega)
  have hsum2 : sml L n p 15 3 = som L n r y1 15 + som L n x1 c 15 + som L n x1 y1 15 := hsum
  have s0 := sml_lo (L := L) (n := n) (a := p) (m := 15) (by omega) 3
  obtain ⟨s, hs1⟩ : ∃ s, sml L n p 15 3 = s := ⟨_, rfl⟩
  rw [hs1] at hsum2 s0 HC
  have hsm := hsum2.symm
  have s9 : s ≤ 80 := by omega
  clear hsum2
  obtain ⟨t, ht, ht', t0, t1, hct⟩ := half_ctx (M := 6) s0
  have nz : (n : Int) ≠ 0 := by omega
  have nn : (0 : Int) < (n : Int) := by omega
  clear hz hs hl hq hp hr1 hc1 hsum hs1
  rcases hct with ⟨h1, h2⟩ | ⟨h1, h2⟩
  all_goals
    have HE : Hid (mor L n p = _) := HC.out.trans h2
    clear h2
    go_enter Tryz.func53, Tryz.ntmps53
    go_wp2_with fail
    refine (asked_yes HS.out HP.out.1 HP.out.2).mono ?_
    rintro e w1 ⟨rfl, rfl⟩
    go_wp2_with fail
    refine (side_yes HS.out).mono ?_
    rintro e w1 ⟨rfl, rfl⟩
    go_wp2_with fail
    go_quiet (fail)
    go_wp2_with (first | (go_at_call 81; with_reducible refine (some_any (r := r) (c := y1) (HA.out _) HL.out.1 HL.out.2 (by omega) (by omega) (by omega) (by omega)).mono ?_; rintro e w5 ⟨rfl, rfl⟩) | (go_at_call 81; with_reducible refine (some_any (r := x1) (c := c) (HA.out _) HL.out.1 HL.out.2 (by omega) (by omega) (by omega) (by omega)).mono ?_; rintro e w6 ⟨rfl, rfl⟩) | (go_at_call 81; with_reducible refine (some_any (r := x1) (c := y1) (HA.out _) HL.out.1 HL.out.2 (by omega) (by omega) (by omega) (by omega)).mono ?_; rintro e w7 ⟨rfl, rfl⟩))
    go_returns
    exact ⟨by rw [HE.out]; rfl, nq, rfl⟩

theorem rbase_no {w : World} {a : Option Addr} {cp len : Nat} {z p : Int} (hl : len ≤ 140737488355328) (h : ¬ Ask z len p) :
    Calls Tryz.prog 52 #[.slice a len cp, .int .i64 z, .int .i64 p] w fun e w' => e = .returned (.tuple #[.int .i64 0, .int .i64 2]) ∧ w = w' := by
  have HA : Hid (¬ Ask z len p) := h
  clear h
  go_enter Tryz.func52, Tryz.ntmps52
  go_wp2_with fail
  refine (asked_no hl HA.out).mono ?_
  rintro e w' ⟨rfl, rfl⟩
  go_wp2_with fail
  go_returns
  exact ⟨rfl, rfl⟩

theorem rmore_no {w : World} {a : Option Addr} {cp len : Nat} {z p : Int} (hl : len ≤ 140737488355328) (h : ¬ Ask z len p) :
    Calls Tryz.prog 53 #[.slice a len cp, .int .i64 z, .int .i64 p] w fun e w' => e = .returned (.tuple #[.int .i64 0, .int .i64 2]) ∧ w = w' := by
  have HA : Hid (¬ Ask z len p) := h
  clear h
  go_enter Tryz.func53, Tryz.ntmps53
  go_wp2_with fail
  refine (asked_no hl HA.out).mono ?_
  rintro e w' ⟨rfl, rfl⟩
  go_wp2_with fail
  go_returns
  exact ⟨rfl, rfl⟩

/-- one answer of both Bases, of both Mores -/
theorem base_both {L : List Int} {q : Nat} {z p : Int} (hl : L.length = q) (hq : q ≤ 140737488355328) : ∃ x e : Int, (∀ (w : World) (a : Option Addr) (cp : Nat), Nt w → Si w a L → Calls Tryz.prog 120 #[.slice a q cp, .int .i64 z, .int .i64 p] w fun en w' => en = .returned (.tuple #[.int .i64 x, .int .i64 e]) ∧ ∃ k, w' = w.drewN k) ∧
    (∀ (w : World) (a : Option Addr) (cp : Nat), Si w a L → Calls Tryz.prog 52 #[.slice a q cp, .int .i64 z, .int .i64 p] w fun en w' => en = .returned (.tuple #[.int .i64 x, .int .i64 e]) ∧ ∃ k, w' = w.drewN k) := by
  by_cases h : Ask z q p
  · obtain ⟨n, hz, hqn, p0, p1⟩ := h
    obtain ⟨r, rfl⟩ : ∃ r : Nat, p = (r : Int) := ⟨p.toNat, by omega⟩
    exact ⟨_, _, fun w a cp hN hs => base_yes hN hz hs hl hqn (by omega), fun w a cp hs => rbase_yes hz hs hl hqn (by omega)⟩
  · refine ⟨0, 2, fun w a cp hN hs => (base_no hq h).mono ?_, fun w a cp hs => (rbase_no hq h).mono ?_⟩
    · rintro e w' ⟨rfl, rfl⟩; exact ⟨rfl, 0, rfl⟩
    · rintro e w' ⟨rfl, rfl⟩; exact ⟨rfl, 0, rfl⟩
theorem more_both {L : List Int} {q : Nat} {z p : Int} (hl : L.length = q) (hq : q ≤ 140737488355328) : ∃ x e : Int, (∀ (w : World) (a : Option Addr) (cp : Nat), Nt w → Si w a L → Calls Tryz.prog 121 #[.slice a q cp, .int .i64 z, .int .i64 p] w fun en w' => en = .returned (.tuple #[.int .i64 x, .int .i64 e]) ∧ ∃ k, w' = w.drewN k) ∧
    (∀ (w : World) (a : Option Addr) (cp : Nat), Si w a L → Calls Tryz.prog 53 #[.slice a q cp, .int .i64 z, .int .i64 p] w fun en w' => en = .returned (.tuple #[.int .i64 x, .int .i64 e]) ∧ ∃ k, w' = w.drewN k) := by
  by_cases h : Ask z q p
  · obtain ⟨n, hz, hqn, p0, p1⟩ := h
    obtain ⟨r, rfl⟩ : ∃ r : Nat, p = (r : Int) := ⟨p.toNat, by omega⟩
    exact ⟨_, _, fun w a cp hN hs => more_yes hN hz hs hl hqn (by omega), fun w a cp hs => rmore_yes hz hs hl hqn (by omega)⟩
  · refine ⟨0, 2, fun w a cp hN hs => (more_no hq h).mono ?_, fun w a cp hs => (rmore_no hq h).mono ?_⟩
    · rintro e w' ⟨rfl, rfl⟩; exact ⟨rfl, 0, rfl⟩
    · rintro e w' ⟨rfl, rfl⟩; exact ⟨rfl, 0, rfl⟩

end Go.Proofs.YtkmnpechhdendaaGreatDoor.L10
