/- DERIVED. A move that may be. -/
import Derived.Test.YtpideemiijhkgaaDoorMh
import Derived.Deep.DeepCutAuto
import Derived.Deep.Light
namespace Go.Proofs.YtpideemiijhkgaaDoor
open Go.RowKit

/-- eight numbers in a block -/
structure Ev (p : Nat) (a0 a1 a2 a3 a4 a5 a6 a7 : Int) (t : World) : Prop where
  c0 : t.cell? ⟨p, 0, none⟩ = some (.int .i64 a0)
  c1 : t.cell? ⟨p, 1, none⟩ = some (.int .i64 a1)
  c2 : t.cell? ⟨p, 2, none⟩ = some (.int .i64 a2)
  c3 : t.cell? ⟨p, 3, none⟩ = some (.int .i64 a3)
  c4 : t.cell? ⟨p, 4, none⟩ = some (.int .i64 a4)
  c5 : t.cell? ⟨p, 5, none⟩ = some (.int .i64 a5)
  c6 : t.cell? ⟨p, 6, none⟩ = some (.int .i64 a6)
  c7 : t.cell? ⟨p, 7, none⟩ = some (.int .i64 a7)
theorem Ev.to {p : Nat} {a0 a1 a2 a3 a4 a5 a6 a7 : Int} {t t' : World} (h : Ev p a0 a1 a2 a3 a4 a5 a6 a7 t) (hp : p < t.heap.size) (hb : Below t.heap.size t t') : Ev p a0 a1 a2 a3 a4 a5 a6 a7 t' := by
  refine ⟨?_, ?_, ?_, ?_, ?_, ?_, ?_, ?_⟩ <;> rw [newCell hb _ _ hp]
  · exact h.c0
  · exact h.c1
  · exact h.c2
  · exact h.c3
  · exact h.c4
  · exact h.c5
  · exact h.c6
  · exact h.c7
theorem Ev.below {p : Nat} {a0 a1 a2 a3 a4 a5 a6 a7 : Int} {B : Nat} {t t' : World} (h : Ev p a0 a1 a2 a3 a4 a5 a6 a7 t) (hp : p < B) (hb : Below B t t') : Ev p a0 a1 a2 a3 a4 a5 a6 a7 t' := by
  refine ⟨?_, ?_, ?_, ?_, ?_, ?_, ?_, ?_⟩ <;> rw [newCell hb _ _ hp]
  · exact h.c0
  · exact h.c1
  · exact h.c2
  · exact h.c3
  · exact h.c4
  · exact h.c5
  · exact h.c6
  · exact h.c7
theorem Ev.built (w : World) (a0 a1 a2 a3 a4 a5 a6 a7 : Int) {g : Nat} (hg : w.heap.size = g) : Ev g a0 a1 a2 a3 a4 a5 a6 a7 (w.alloc (.cells #[.int .i64 a0, .int .i64 a1, .int .i64 a2, .int .i64 a3, .int .i64 a4, .int .i64 a5, .int .i64 a6, .int .i64 a7] 33)) := by
  have h := Ri.built 33 w [a0, a1, a2, a3, a4, a5, a6, a7] hg
  exact ⟨h.cell 0 (by simp), h.cell 1 (by simp), h.cell 2 (by simp), h.cell 3 (by simp), h.cell 4 (by simp), h.cell 5 (by simp), h.cell 6 (by simp), h.cell 7 (by simp)⟩
theorem built_thaw (w : World) (a0 a1 a2 a3 a4 a5 a6 a7 : Int) {g : Nat} (hg : w.heap.size = g) (j : Nat) : (w.alloc (.cells #[.int .i64 a0, .int .i64 a1, .int .i64 a2, .int .i64 a3, .int .i64 a4, .int .i64 a5, .int .i64 a6, .int .i64 a7] 33)).frozen? ⟨g, j, none⟩ = false := (Ri.built 33 w [a0, a1, a2, a3, a4, a5, a6, a7] hg).thaw j
/-- a move in a variable of its own -/
structure Mo (v : World) (g : Nat) (a0 a1 a2 a3 a4 a5 a6 a7 : Int) (T : World) : Prop where
  e : Ev g a0 a1 a2 a3 a4 a5 a6 a7 T
  th : ∀ j, T.frozen? ⟨g, j, none⟩ = false
  lt : g < T.heap.size
  bel : Below g v T
theorem Mo.drew {v : World} {g : Nat} {a0 a1 a2 a3 a4 a5 a6 a7 : Int} {T : World} (h : Mo v g a0 a1 a2 a3 a4 a5 a6 a7 T) : Mo v g a0 a1 a2 a3 a4 a5 a6 a7 T.drew := ⟨⟨h.e.c0, h.e.c1, h.e.c2, h.e.c3, h.e.c4, h.e.c5, h.e.c6, h.e.c7⟩, h.th, h.lt, below_drew h.bel⟩
theorem cell_same {w : World} {b o : Nat} {v v' : Value} (h : w.cell? ⟨b, o, none⟩ = some v) : (w.setCell ⟨b, o, none⟩ v').cell? ⟨b, o, none⟩ = some v' := World.cell?_setCell_same _ _ _ h
theorem below_set4 {B : Nat} {w u : World} (h : Below B w u) {g o0 o1 o2 o3 : Nat} (hg : B ≤ g) {v0 v1 v2 v3 : Value} : Below B w ((((u.setCell ⟨g, o0, none⟩ v0).setCell ⟨g, o1, none⟩ v1).setCell ⟨g, o2, none⟩ v2).setCell ⟨g, o3, none⟩ v3) := below_set (below_set (below_set (below_set h hg _) hg _) hg _) hg _
theorem Mo.rect {v : World} {g : Nat} {a0 a1 a2 a3 a4 a5 a6 a7 : Int} {T : World} (h : Mo v g a0 a1 a2 a3 a4 a5 a6 a7 T) (b1 b2 b3 b4 : Int) : Mo v g a0 b1 b2 b3 b4 a5 a6 a7 ((((T.setCell ⟨g, 1, none⟩ (.int .i64 b1)).setCell ⟨g, 2, none⟩ (.int .i64 b2)).setCell ⟨g, 3, none⟩ (.int .i64 b3)).setCell ⟨g, 4, none⟩ (.int .i64 b4)) := by
  refine ⟨⟨?_, ?_, ?_, ?_, ?_, ?_, ?_, ?_⟩, fun j => by simp only [World.frozen?_setCell]; exact h.th j, by simpa using h.lt, below_set (below_set (below_set (below_set (h.bel) (Nat.le_refl _) _) (Nat.le_refl _) _) (Nat.le_refl _) _) (Nat.le_refl _) _⟩
  · iterate 4 rw [set_cell_ne (by omega)]
    exact h.e.c0
  · iterate 3 rw [set_cell_ne (by omega)]
    exact cell_same (v := .int .i64 a1) (by exact h.e.c1)
  · iterate 2 rw [set_cell_ne (by omega)]
    exact cell_same (v := .int .i64 a2) (by iterate 1 rw [set_cell_ne (by omega)]
                                            exact h.e.c2)
  · iterate 1 rw [set_cell_ne (by omega)]
    exact cell_same (v := .int .i64 a3) (by iterate 2 rw [set_cell_ne (by omega)]
                                            exact h.e.c3)
  · exact cell_same (v := .int .i64 a4) (by iterate 3 rw [set_cell_ne (by omega)]
                                            exact h.e.c4)
  · iterate 4 rw [set_cell_ne (by omega)]
    exact h.e.c5
  · iterate 4 rw [set_cell_ne (by omega)]
    exact h.e.c6
  · iterate 4 rw [set_cell_ne (by omega)]
    exact h.e.c7
theorem Mo.vec {v : World} {g : Nat} {a0 a1 a2 a3 a4 a5 a6 a7 : Int} {T : World} (h : Mo v g a0 a1 a2 a3 a4 a5 a6 a7 T) (b5 b6 : Int) : Mo v g a0 a1 a2 a3 a4 b5 b6 a7 ((T.setCell ⟨g, 5, none⟩ (.int .i64 b5)).setCell ⟨g, 6, none⟩ (.int .i64 b6)) := by
  refine ⟨⟨?_, ?_, ?_, ?_, ?_, ?_, ?_, ?_⟩, fun j => by simp only [World.frozen?_setCell]; exact h.th j, by simpa using h.lt, below_set (below_set (h.bel) (Nat.le_refl _) _) (Nat.le_refl _) _⟩
  · iterate 2 rw [set_cell_ne (by omega)]
    exact h.e.c0
  · iterate 2 rw [set_cell_ne (by omega)]
    exact h.e.c1
  · iterate 2 rw [set_cell_ne (by omega)]
    exact h.e.c2
  · iterate 2 rw [set_cell_ne (by omega)]
    exact h.e.c3
  · iterate 2 rw [set_cell_ne (by omega)]
    exact h.e.c4
  · iterate 1 rw [set_cell_ne (by omega)]
    exact cell_same (v := .int .i64 a5) (by exact h.e.c5)
  · exact cell_same (v := .int .i64 a6) (by iterate 1 rw [set_cell_ne (by omega)]
                                            exact h.e.c6)
  · iterate 2 rw [set_cell_ne (by omega)]
    exact h.e.c7
theorem Mo.all {v : World} {g : Nat} {a0 a1 a2 a3 a4 a5 a6 a7 : Int} {T : World} (h : Mo v g a0 a1 a2 a3 a4 a5 a6 a7 T) (b0 b1 b2 b3 b4 b5 b6 b7 : Int) : Mo v g b0 b1 b2 b3 b4 b5 b6 b7 ((((((((T.setCell ⟨g, 0, none⟩ (.int .i64 b0)).setCell ⟨g, 1, none⟩ (.int .i64 b1)).setCell ⟨g, 2, none⟩ (.int .i64 b2)).setCell ⟨g, 3, none⟩ (.int .i64 b3)).setCell ⟨g, 4, none⟩ (.int .i64 b4)).setCell ⟨g, 5, none⟩ (.int .i64 b5)).setCell ⟨g, 6, none⟩ (.int .i64 b6)).setCell ⟨g, 7, none⟩ (.int .i64 b7)) := by
  refine ⟨⟨?_, ?_, ?_, ?_, ?_, ?_, ?_, ?_⟩, fun j => by simp only [World.frozen?_setCell]; exact h.th j, by simpa using h.lt, below_set (below_set (below_set (below_set (below_set (below_set (below_set (below_set (h.bel) (Nat.le_refl _) _) (Nat.le_refl _) _) (Nat.le_refl _) _) (Nat.le_refl _) _) (Nat.le_refl _) _) (Nat.le_refl _) _) (Nat.le_refl _) _) (Nat.le_refl _) _⟩
  · iterate 7 rw [set_cell_ne (by omega)]
    exact cell_same (v := .int .i64 a0) (by exact h.e.c0)
  · iterate 6 rw [set_cell_ne (by omega)]
    exact cell_same (v := .int .i64 a1) (by iterate 1 rw [set_cell_ne (by omega)]
                                            exact h.e.c1)
  · iterate 5 rw [set_cell_ne (by omega)]
    exact cell_same (v := .int .i64 a2) (by iterate 2 rw [set_cell_ne (by omega)]
                                            exact h.e.c2)
  · iterate 4 rw [set_cell_ne (by omega)]
    exact cell_same (v := .int .i64 a3) (by iterate 3 rw [set_cell_ne (by omega)]
                                            exact h.e.c3)
  · iterate 3 rw [set_cell_ne (by omega)]
    exact cell_same (v := .int .i64 a4) (by iterate 4 rw [set_cell_ne (by omega)]
                                            exact h.e.c4)
  · iterate 2 rw [set_cell_ne (by omega)]
    exact cell_same (v := .int .i64 a5) (by iterate 5 rw [set_cell_ne (by omega)]
                                            exact h.e.c5)
  · iterate 1 rw [set_cell_ne (by omega)]
    exact cell_same (v := .int .i64 a6) (by iterate 6 rw [set_cell_ne (by omega)]
                                            exact h.e.c6)
  · exact cell_same (v := .int .i64 a7) (by iterate 7 rw [set_cell_ne (by omega)]
                                            exact h.e.c7)
theorem Mo.made (v : World) (a0 a1 a2 a3 a4 a5 a6 a7 : Int) {g : Nat} (hg : v.heap.size = g) : Mo v g a0 a1 a2 a3 a4 a5 a6 a7 (v.alloc (.cells #[.int .i64 a0, .int .i64 a1, .int .i64 a2, .int .i64 a3, .int .i64 a4, .int .i64 a5, .int .i64 a6, .int .i64 a7] 33)) := ⟨Ev.built v a0 a1 a2 a3 a4 a5 a6 a7 hg, built_thaw v a0 a1 a2 a3 a4 a5 a6 a7 hg, by rw [← hg]; simp, by rw [← hg]; exact from_alloc _ _⟩

set_option maxRecDepth 100000 in
set_option maxHeartbeats 4000000 in
theorem may_any {u : World} {n X Y W H vx vy k : Int} : Calls Tryd.prog 27 #[.agg #[.int .i64 n, .int .i64 X, .int .i64 Y, .int .i64 W, .int .i64 H, .int .i64 vx, .int .i64 vy, .int .i64 k]] u fun e w' => e = .returned (.agg #[.int .i64 (n % 3), .int .i64 (X % 60), .int .i64 (Y % 60), .int .i64 (4 + W % 29), .int .i64 (4 + H % 29), .int .i64 (vx % 8191 - 4095), .int .i64 (vy % 8191 - 4095), .int .i64 (k % 3)]) ∧ Below u.heap.size u w' := by
  have B0 : Hid (∀ t : World, Calls Tryd.prog 29 #[.int .i64 n, .int .i64 3] t fun e w' => e = .returned (.int .i64 (n % 3)) ∧ t = w') := fun t => bring_any (by omega) (by omega)
  have B1 : Hid (∀ t : World, Calls Tryd.prog 29 #[.int .i64 X, .int .i64 60] t fun e w' => e = .returned (.int .i64 (X % 60)) ∧ t = w') := fun t => bring_any (by omega) (by omega)
  have B2 : Hid (∀ t : World, Calls Tryd.prog 29 #[.int .i64 Y, .int .i64 60] t fun e w' => e = .returned (.int .i64 (Y % 60)) ∧ t = w') := fun t => bring_any (by omega) (by omega)
  have B3 : Hid (∀ t : World, Calls Tryd.prog 29 #[.int .i64 W, .int .i64 29] t fun e w' => e = .returned (.int .i64 (W % 29)) ∧ t = w') := fun t => bring_any (by omega) (by omega)
  have B4 : Hid (∀ t : World, Calls Tryd.prog 29 #[.int .i64 H, .int .i64 29] t fun e w' => e = .returned (.int .i64 (H % 29)) ∧ t = w') := fun t => bring_any (by omega) (by omega)
  have B5 : Hid (∀ t : World, Calls Tryd.prog 29 #[.int .i64 vx, .int .i64 8191] t fun e w' => e = .returned (.int .i64 (vx % 8191)) ∧ t = w') := fun t => bring_any (by omega) (by omega)
  have B6 : Hid (∀ t : World, Calls Tryd.prog 29 #[.int .i64 vy, .int .i64 8191] t fun e w' => e = .returned (.int .i64 (vy % 8191)) ∧ t = w') := fun t => bring_any (by omega) (by omega)
  have B7 : Hid (∀ t : World, Calls Tryd.prog 29 #[.int .i64 k, .int .i64 3] t fun e w' => e = .returned (.int .i64 (k % 3)) ∧ t = w') := fun t => bring_any (by omega) (by omega)
  have l0 : 0 ≤ n % 3 := Int.emod_nonneg _ (by omega)
  have m0 : n % 3 < 3 := Int.emod_lt_of_pos _ (by omega)
  have l1 : 0 ≤ X % 60 := Int.emod_nonneg _ (by omega)
  have m1 : X % 60 < 60 := Int.emod_lt_of_pos _ (by omega)
  have l2 : 0 ≤ Y % 60 := Int.emod_nonneg _ (by omega)
  have m2 : Y % 60 < 60 := Int.emod_lt_of_pos _ (by omega)
  have l3 : 0 ≤ W % 29 := Int.emod_nonneg _ (by omega)
  have m3 : W % 29 < 29 := Int.emod_lt_of_pos _ (by omega)
  have l4 : 0 ≤ H % 29 := Int.emod_nonneg _ (by omega)
  have m4 : H % 29 < 29 := Int.emod_lt_of_pos _ (by omega)
  have l5 : 0 ≤ vx % 8191 := Int.emod_nonneg _ (by omega)
  have m5 : vx % 8191 < 8191 := Int.emod_lt_of_pos _ (by omega)
  have l6 : 0 ≤ vy % 8191 := Int.emod_nonneg _ (by omega)
  have m6 : vy % 8191 < 8191 := Int.emod_lt_of_pos _ (by omega)
  have l7 : 0 ≤ k % 3 := Int.emod_nonneg _ (by omega)
  have m7 : k % 3 < 3 := Int.emod_lt_of_pos _ (by omega)
  generalize n % 3 = z0 at *
  generalize X % 60 = z1 at *
  generalize Y % 60 = z2 at *
  generalize W % 29 = z3 at *
  generalize H % 29 = z4 at *
  generalize vx % 8191 = z5 at *
  generalize vy % 8191 = z6 at *
  generalize k % 3 = z7 at *
  go_enter Tryd.func27, Tryd.ntmps27
  go_upto_region 1 with fail
  have HE : Hid (Ev u.heap.size n X Y W H vx vy k ((u.alloc (.cells #[.int .i64 n, .int .i64 X, .int .i64 Y, .int .i64 W, .int .i64 H, .int .i64 vx, .int .i64 vy, .int .i64 k] 33)).alloc (.cells #[.int .i64 0, .int .i64 0, .int .i64 0, .int .i64 0, .int .i64 0, .int .i64 0, .int .i64 0, .int .i64 0] 33))) := (Ev.built u n X Y W H vx vy k rfl).to (by simp) (from_alloc _ _)
  have HZ : Hid (Ev (u.heap.size + 1) 0 0 0 0 0 0 0 0 ((u.alloc (.cells #[.int .i64 n, .int .i64 X, .int .i64 Y, .int .i64 W, .int .i64 H, .int .i64 vx, .int .i64 vy, .int .i64 k] 33)).alloc (.cells #[.int .i64 0, .int .i64 0, .int .i64 0, .int .i64 0, .int .i64 0, .int .i64 0, .int .i64 0, .int .i64 0] 33))) := Ev.built _ 0 0 0 0 0 0 0 0 (by simp)
  have HF : Hid (∀ j, ((u.alloc (.cells #[.int .i64 n, .int .i64 X, .int .i64 Y, .int .i64 W, .int .i64 H, .int .i64 vx, .int .i64 vy, .int .i64 k] 33)).alloc (.cells #[.int .i64 0, .int .i64 0, .int .i64 0, .int .i64 0, .int .i64 0, .int .i64 0, .int .i64 0, .int .i64 0] 33)).frozen? ⟨u.heap.size + 1, j, none⟩ = false) := fun j => built_thaw _ 0 0 0 0 0 0 0 0 (by simp) j
  have HB : Hid (Below u.heap.size u ((u.alloc (.cells #[.int .i64 n, .int .i64 X, .int .i64 Y, .int .i64 W, .int .i64 H, .int .i64 vx, .int .i64 vy, .int .i64 k] 33)).alloc (.cells #[.int .i64 0, .int .i64 0, .int .i64 0, .int .i64 0, .int .i64 0, .int .i64 0, .int .i64 0, .int .i64 0] 33))) := to_alloc (from_alloc _ _) _
  have HL : Hid (((u.alloc (.cells #[.int .i64 n, .int .i64 X, .int .i64 Y, .int .i64 W, .int .i64 H, .int .i64 vx, .int .i64 vy, .int .i64 k] 33)).alloc (.cells #[.int .i64 0, .int .i64 0, .int .i64 0, .int .i64 0, .int .i64 0, .int .i64 0, .int .i64 0, .int .i64 0] 33)).heap.size = u.heap.size + 2) := by show _ = _; simp
  generalize ((u.alloc (.cells #[.int .i64 n, .int .i64 X, .int .i64 Y, .int .i64 W, .int .i64 H, .int .i64 vx, .int .i64 vy, .int .i64 k] 33)).alloc (.cells #[.int .i64 0, .int .i64 0, .int .i64 0, .int .i64 0, .int .i64 0, .int .i64 0, .int .i64 0, .int .i64 0] 33)) = v at *
  have hl := HL.out
  have HK1 : Hid (∀ t : World, Below v.heap.size v t → (t.cell? ⟨u.heap.size, 0, none⟩ = some (.int .i64 n) ∧ t.cell? ⟨u.heap.size, 7, none⟩ = some (.int .i64 k) ∧ Below v.heap.size v t)) := fun t ht => by
    have he := HE.out.to (by omega) ht
    exact ⟨he.c0, he.c7, ht⟩
  go_cut [3] (fun s T => s = .pointer (some ⟨u.heap.size + 2, 0, none⟩) ∧ Mo v (u.heap.size + 2) z0 0 0 0 0 0 0 z7 T)
  case first =>
    go_region_held3 (fun t => t.cell? ⟨u.heap.size, 0, none⟩ = some (.int .i64 n) ∧ t.cell? ⟨u.heap.size, 7, none⟩ = some (.int .i64 k) ∧ Below v.heap.size v t)
      ((exact HK1.out _ (by first | exact below_drew (Below.refl _ _) | exact to_alloc (below_drew (Below.refl _ _)) _ | exact below_drew (to_alloc (Below.refl _ _) _) | exact below_set8 (to_alloc (below_drew (Below.refl _ _)) _) (by simp) | exact below_drew (below_set8 (to_alloc (Below.refl _ _) _) (by simp)))))
      ((first | (go_at_call 29; with_reducible refine (B0.out _).mono ?_; rintro e w5 ⟨rfl, rfl⟩) | (go_at_call 29; with_reducible refine (B7.out _).mono ?_; rintro e w5 ⟨rfl, rfl⟩)))
    all_goals
      go_wp2_with fail
      go_meet
      exact ⟨rfl, (Mo.made v z0 0 0 0 0 0 0 z7 hl).drew⟩
  obtain ⟨rfl, hmo⟩ := hcut
  rename World => v1
  have HM1 : Hid (Mo v (u.heap.size + 2) z0 0 0 0 0 0 0 z7 v1) := hmo
  have x1 := hmo.e.c1
  have x2 := hmo.e.c2
  have x3 := hmo.e.c3
  have x4 := hmo.e.c4
  have y1 := hmo.th 1
  have y2 := hmo.th 2
  have y3 := hmo.th 3
  have y4 := hmo.th 4
  have x1d : v1.drew.cell? ⟨u.heap.size + 2, 1, none⟩ = some (.int .i64 0) := x1
  have x2d : v1.drew.cell? ⟨u.heap.size + 2, 2, none⟩ = some (.int .i64 0) := x2
  have x3d : v1.drew.cell? ⟨u.heap.size + 2, 3, none⟩ = some (.int .i64 0) := x3
  have x4d : v1.drew.cell? ⟨u.heap.size + 2, 4, none⟩ = some (.int .i64 0) := x4
  have y1d : v1.drew.frozen? ⟨u.heap.size + 2, 1, none⟩ = false := y1
  have y2d : v1.drew.frozen? ⟨u.heap.size + 2, 2, none⟩ = false := y2
  have y3d : v1.drew.frozen? ⟨u.heap.size + 2, 3, none⟩ = false := y3
  have y4d : v1.drew.frozen? ⟨u.heap.size + 2, 4, none⟩ = false := y4
  clear hmo
  have HK2 : Hid (∀ t : World, Below (u.heap.size + 2) v t → (t.cell? ⟨u.heap.size, 1, none⟩ = some (.int .i64 X) ∧ t.cell? ⟨u.heap.size, 2, none⟩ = some (.int .i64 Y) ∧ t.cell? ⟨u.heap.size, 3, none⟩ = some (.int .i64 W) ∧ t.cell? ⟨u.heap.size, 4, none⟩ = some (.int .i64 H) ∧ Below (u.heap.size + 2) v t)) := fun t ht => by
    have he := HE.out.below (by omega) ht
    exact ⟨he.c1, he.c2, he.c3, he.c4, ht⟩
  have w3 : IntKind.i64.wrap (4 + z3) = 4 + z3 := by rw [IntKind.wrap_i64]; omega
  have w4 : IntKind.i64.wrap (4 + z4) = 4 + z4 := by rw [IntKind.wrap_i64]; omega
  go_upto_region 2 with fail
  go_cut [2] (fun s T => s = .pointer (some ⟨u.heap.size + 1, 0, none⟩) ∧ Mo v (u.heap.size + 2) z0 z1 z2 (4 + z3) (4 + z4) 0 0 z7 T)
  case first =>
    go_region_held3 (fun t => t.cell? ⟨u.heap.size, 1, none⟩ = some (.int .i64 X) ∧ t.cell? ⟨u.heap.size, 2, none⟩ = some (.int .i64 Y) ∧ t.cell? ⟨u.heap.size, 3, none⟩ = some (.int .i64 W) ∧ t.cell? ⟨u.heap.size, 4, none⟩ = some (.int .i64 H) ∧ Below (u.heap.size + 2) v t)
      ((exact HK2.out _ (by first | exact below_drew HM1.out.bel | exact below_set4 (below_drew HM1.out.bel) (by simp) | exact below_drew (below_set4 HM1.out.bel (by simp)))))
      ((first | (go_at_call 29; with_reducible refine (B1.out _).mono ?_; rintro e w5 ⟨rfl, rfl⟩) | (go_at_call 29; with_reducible refine (B2.out _).mono ?_; rintro e w5 ⟨rfl, rfl⟩) | (go_at_call 29; with_reducible refine (B3.out _).mono ?_; rintro e w5 ⟨rfl, rfl⟩) | (go_at_call 29; with_reducible refine (B4.out _).mono ?_; rintro e w5 ⟨rfl, rfl⟩)))
    all_goals
      go_wp2_with fail
      go_meet
      first | exact ⟨rfl, (HM1.out.rect _ _ _ _).drew⟩ | exact ⟨rfl, HM1.out.drew.rect _ _ _ _⟩
  obtain ⟨rfl, hmo⟩ := hcut
  rename World => v2
  have HM2 : Hid (Mo v (u.heap.size + 2) z0 z1 z2 (4 + z3) (4 + z4) 0 0 z7 v2) := hmo
  clear x1 x2 x3 x4 y1 y2 y3 y4 x1d x2d x3d x4d y1d y2d y3d y4d HM1 HK1 HK2
  have x5 := hmo.e.c5
  have x6 := hmo.e.c6
  have y5 := hmo.th 5
  have y6 := hmo.th 6
  have x5d : v2.drew.cell? ⟨u.heap.size + 2, 5, none⟩ = some (.int .i64 0) := x5
  have x6d : v2.drew.cell? ⟨u.heap.size + 2, 6, none⟩ = some (.int .i64 0) := x6
  have y5d : v2.drew.frozen? ⟨u.heap.size + 2, 5, none⟩ = false := y5
  have y6d : v2.drew.frozen? ⟨u.heap.size + 2, 6, none⟩ = false := y6
  clear hmo
  have HK3 : Hid (∀ t : World, Below (u.heap.size + 2) v t → (t.cell? ⟨u.heap.size, 5, none⟩ = some (.int .i64 vx) ∧ t.cell? ⟨u.heap.size, 6, none⟩ = some (.int .i64 vy) ∧ Below (u.heap.size + 2) v t)) := fun t ht => by
    have he := HE.out.below (by omega) ht
    exact ⟨he.c5, he.c6, ht⟩
  have w5 : IntKind.i64.wrap (z5 - 4095) = z5 - 4095 := by rw [IntKind.wrap_i64]; omega
  have w6 : IntKind.i64.wrap (z6 - 4095) = z6 - 4095 := by rw [IntKind.wrap_i64]; omega
  go_upto_region 3 with fail
  go_cut [2] (fun s T => s = .pointer (some ⟨u.heap.size + 1, 0, none⟩) ∧ Mo v (u.heap.size + 2) z0 z1 z2 (4 + z3) (4 + z4) (z5 - 4095) (z6 - 4095) z7 T)
  case first =>
    go_region_held3 (fun t => t.cell? ⟨u.heap.size, 5, none⟩ = some (.int .i64 vx) ∧ t.cell? ⟨u.heap.size, 6, none⟩ = some (.int .i64 vy) ∧ Below (u.heap.size + 2) v t)
      ((exact HK3.out _ (by first | exact below_drew HM2.out.bel | exact below_set (below_set (below_drew HM2.out.bel) (by simp) _) (by simp) _ | exact below_drew (below_set (below_set HM2.out.bel (by simp) _) (by simp) _))))
      ((first | (go_at_call 29; with_reducible refine (B5.out _).mono ?_; rintro e w5 ⟨rfl, rfl⟩) | (go_at_call 29; with_reducible refine (B6.out _).mono ?_; rintro e w5 ⟨rfl, rfl⟩)))
    all_goals
      go_wp2_with fail
      go_meet
      first | exact ⟨rfl, (HM2.out.vec _ _).drew⟩ | exact ⟨rfl, HM2.out.drew.vec _ _⟩
  obtain ⟨rfl, hmo⟩ := hcut
  rename World => v3
  clear x5 x6 y5 y6 x5d x6d y5d y6d HM2 HK3 w3 w4 w5 w6
  have HB3 : Hid (Below u.heap.size u v3) := HB.out.trans (hmo.bel.mono (by omega))
  have hz := HZ.out.below (by omega) hmo.bel
  have e0 := hmo.e.c0
  have q0 := hz.c0
  have f0 : v3.frozen? ⟨u.heap.size + 1, 0, none⟩ = false := by rw [newFrozen hmo.bel _ _ (by omega)]; exact HF.out 0
  have e1 := hmo.e.c1
  have q1 := hz.c1
  have f1 : v3.frozen? ⟨u.heap.size + 1, 1, none⟩ = false := by rw [newFrozen hmo.bel _ _ (by omega)]; exact HF.out 1
  have e2 := hmo.e.c2
  have q2 := hz.c2
  have f2 : v3.frozen? ⟨u.heap.size + 1, 2, none⟩ = false := by rw [newFrozen hmo.bel _ _ (by omega)]; exact HF.out 2
  have e3 := hmo.e.c3
  have q3 := hz.c3
  have f3 : v3.frozen? ⟨u.heap.size + 1, 3, none⟩ = false := by rw [newFrozen hmo.bel _ _ (by omega)]; exact HF.out 3
  have e4 := hmo.e.c4
  have q4 := hz.c4
  have f4 : v3.frozen? ⟨u.heap.size + 1, 4, none⟩ = false := by rw [newFrozen hmo.bel _ _ (by omega)]; exact HF.out 4
  have e5 := hmo.e.c5
  have q5 := hz.c5
  have f5 : v3.frozen? ⟨u.heap.size + 1, 5, none⟩ = false := by rw [newFrozen hmo.bel _ _ (by omega)]; exact HF.out 5
  have e6 := hmo.e.c6
  have q6 := hz.c6
  have f6 : v3.frozen? ⟨u.heap.size + 1, 6, none⟩ = false := by rw [newFrozen hmo.bel _ _ (by omega)]; exact HF.out 6
  have e7 := hmo.e.c7
  have q7 := hz.c7
  have f7 : v3.frozen? ⟨u.heap.size + 1, 7, none⟩ = false := by rw [newFrozen hmo.bel _ _ (by omega)]; exact HF.out 7
  clear hz hmo
  go_wp2_with fail
  refine bodyPost_ret (v := .agg #[.int .i64 z0, .int .i64 z1, .int .i64 z2, .int .i64 (4 + z3), .int .i64 (4 + z4), .int .i64 (z5 - 4095), .int .i64 (z6 - 4095), .int .i64 z7]) (by simp [results, Tryd.results27, go_sem, q0, q1, q2, q3, q4, q5, q6, q7]) rfl ⟨rfl, ?_⟩
  exact below_set8 HB3.out (by simp)

end Go.Proofs.YtpideemiijhkgaaDoor
