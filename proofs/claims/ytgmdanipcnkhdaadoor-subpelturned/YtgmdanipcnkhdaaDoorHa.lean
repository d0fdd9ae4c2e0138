/- DERIVED. A plane and a place in variables; what follows from the taps. -/
import Derived.Test.YtgmdanipcnkhdaaDoorEa
import Derived.Test.YtgmdanipcnkhdaaDoorOp
namespace Go.Proofs.YtgmdanipcnkhdaaDoor
open Go.RowKit

/-- a plane and a place in their variables -/
structure Cx (w : World) (pb lb : Nat) (W H : Int) (a : Option Addr) (n c : Nat) (la lbb lc ld le : Int) : Prop where
  pl : pb < w.heap.size
  ll : lb < w.heap.size
  p0 : w.cell? ⟨pb, 0, none⟩ = some (.int .i64 W)
  p1 : w.cell? ⟨pb, 1, none⟩ = some (.int .i64 H)
  p2 : w.cell? ⟨pb, 2, none⟩ = some (.slice a n c)
  l : Fv lb la lbb lc ld le w
  fr : ∀ j, w.frozen? ⟨lb, j, none⟩ = false
theorem Cx.to {w w' : World} {pb lb : Nat} {W H : Int} {a : Option Addr} {n c : Nat} {la lbb lc ld le : Int} (h : Cx w pb lb W H a n c la lbb lc ld le) (hb : Below w.heap.size w w') : Cx w' pb lb W H a n c la lbb lc ld le :=
  ⟨Nat.lt_of_lt_of_le h.pl hb.size, Nat.lt_of_lt_of_le h.ll hb.size, by rw [newCell hb _ _ h.pl]; exact h.p0, by rw [newCell hb _ _ h.pl]; exact h.p1, by rw [newCell hb _ _ h.pl]; exact h.p2, h.l.to h.ll hb, fun j => by rw [newFrozen hb _ _ h.ll]; exact h.fr j⟩
theorem Cx.start (u : World) (W H : Int) (a : Option Addr) (n c : Nat) (la lbb lc ld le : Int) : Cx ((u.alloc (.cells #[.int .i64 W, .int .i64 H, .slice a n c] 30)).alloc (.cells #[.int .i64 la, .int .i64 lbb, .int .i64 lc, .int .i64 ld, .int .i64 le] 32)) u.heap.size (u.heap.size + 1) W H a n c la lbb lc ld le := by
  have hr := Ri.built 32 (u.alloc (.cells #[.int .i64 W, .int .i64 H, .slice a n c] 30)) [la, lbb, lc, ld, le] (g := u.heap.size + 1) (by simp)
  refine ⟨by simp; omega, by simp, ?_, ?_, ?_, ⟨hr.cell 0 (by simp), hr.cell 1 (by simp), hr.cell 2 (by simp), hr.cell 3 (by simp), hr.cell 4 (by simp)⟩, hr.thaw⟩
  · rw [newCell (from_alloc _ _) _ _ (by simp)]; simp
  · rw [newCell (from_alloc _ _) _ _ (by simp)]; simp
  · rw [newCell (from_alloc _ _) _ _ (by simp)]; simp
theorem cell_set_same {w : World} {b o : Nat} {v v' : Value} (h : w.cell? ⟨b, o, none⟩ = some v) : (w.setCell ⟨b, o, none⟩ v').cell? ⟨b, o, none⟩ = some v' := World.cell?_setCell_same _ _ _ h
theorem set_cell_ne {w : World} {b o o' : Nat} {v : Value} (h : o ≠ o') : (w.setCell ⟨b, o', none⟩ v).cell? ⟨b, o, none⟩ = w.cell? ⟨b, o, none⟩ := World.cell?_setCell_other _ _ _ _ (by simp <;> omega)
/-- another place is written -/
theorem Cx.put {w : World} {pb lb : Nat} {W H : Int} {a : Option Addr} {n c : Nat} {la lbb lc ld le : Int} (h : Cx w pb lb W H a n c la lbb lc ld le) (hne : pb ≠ lb) (ma mb mc md me : Int) :
    Cx (((((w.setCell ⟨lb, 0, none⟩ (.int .i64 ma)).setCell ⟨lb, 1, none⟩ (.int .i64 mb)).setCell ⟨lb, 2, none⟩ (.int .i64 mc)).setCell ⟨lb, 3, none⟩ (.int .i64 md)).setCell ⟨lb, 4, none⟩ (.int .i64 me)) pb lb W H a n c ma mb mc md me := by
  have far : ∀ o, (((((w.setCell ⟨lb, 0, none⟩ (.int .i64 ma)).setCell ⟨lb, 1, none⟩ (.int .i64 mb)).setCell ⟨lb, 2, none⟩ (.int .i64 mc)).setCell ⟨lb, 3, none⟩ (.int .i64 md)).setCell ⟨lb, 4, none⟩ (.int .i64 me)).cell? ⟨pb, o, none⟩ = w.cell? ⟨pb, o, none⟩ := fun o => by
    iterate 5 rw [World.cell?_setCell_other _ _ _ _ (by simp <;> omega)]
  refine ⟨by simpa using h.pl, by simpa using h.ll, (far 0).trans h.p0, (far 1).trans h.p1, (far 2).trans h.p2, ⟨?_, ?_, ?_, ?_, ?_⟩, fun j => by simp only [World.frozen?_setCell]; exact h.fr j⟩
  · iterate 4 rw [set_cell_ne (by omega)]
    exact cell_set_same h.l.c0
  · iterate 3 rw [set_cell_ne (by omega)]
    exact cell_set_same (by rw [set_cell_ne (by omega)]; exact h.l.c1)
  · iterate 2 rw [set_cell_ne (by omega)]
    exact cell_set_same (by iterate 2 rw [set_cell_ne (by omega)]
                            exact h.l.c2)
  · rw [set_cell_ne (by omega)]
    exact cell_set_same (by iterate 3 rw [set_cell_ne (by omega)]
                            exact h.l.c3)
  · exact cell_set_same (by iterate 4 rw [set_cell_ne (by omega)]
                            exact h.l.c4)
theorem below_set5 {B : Nat} {w u : World} (h : Below B w u) {g : Nat} (hg : B ≤ g) {v0 v1 v2 v3 v4 : Value} : Below B w (((((u.setCell ⟨g, 0, none⟩ v0).setCell ⟨g, 1, none⟩ v1).setCell ⟨g, 2, none⟩ v2).setCell ⟨g, 3, none⟩ v3).setCell ⟨g, 4, none⟩ v4) :=
  below_set (below_set (below_set (below_set (below_set h hg _) hg _) hg _) hg _) hg _

/-- at samples there is nothing between them -/
theorem mm_whole (C : List Nat) (x y : Nat) (X Y : Int) (i j : Nat) : mm C x y X Y [0, 0, 0, 128, 0, 0, 0, 0] i j = 16 * (sp C x y (X + (i : Int)) (Y + (j : Int) - 3) : Int) := by
  unfold mm
  rw [dt8 rfl]
  simp only [Int.zero_mul, Int.zero_add, Int.add_zero]
  rw [show X + (i : Int) + ((3 : Nat) : Int) - 3 = X + (i : Int) from by omega]
  omega
theorem bk_whole {C : List Nat} (hC : Byt C) (x y : Nat) (X Y : Int) (i j : Nat) : bk C x y X Y [0, 0, 0, 128, 0, 0, 0, 0] [0, 0, 0, 128, 0, 0, 0, 0] i j = sp C x y (X + (i : Int)) (Y + (j : Int)) := by
  have hs : sp C x y (X + (i : Int)) (Y + (j : Int)) < 256 := hC _
  unfold bk
  rw [dt8 rfl]
  simp only [Int.zero_mul, Int.zero_add, Int.add_zero]
  rw [mm_whole, show Y + ((j + 3 : Nat) : Int) - 3 = Y + (j : Int) from by omega]
  unfold clp
  generalize sp C x y (X + (i : Int)) (Y + (j : Int)) = s at *
  rw [if_neg (by omega), if_neg (by omega)]
  omega
theorem fe_whole {C : List Nat} (hC : Byt C) {x y : Nat} {X Y : Int} {w h k i : Nat} (hk : k < 3) (hi : i < w * h) : (fe C x y (X * 16) (Y * 16) w h k).getD i 0 = sp C x y (X + ((i % w : Nat) : Int)) (Y + ((i / w : Nat) : Int)) := by
  rw [fe_get hi, Int.mul_emod_left, Int.mul_emod_left, Int.mul_ediv_cancel _ (by omega), Int.mul_ediv_cancel _ (by omega)]
  show bk C x y X Y (tp k 0) (tp k 0) _ _ = _
  rw [tp_whole k hk, bk_whole hC]
theorem tp_sum : ∀ k, k < 3 → ∀ f, f < 16 → dt (tp k f) (fun _ => 1) 8 = 128 := by decide +kernel

end Go.Proofs.YtgmdanipcnkhdaaDoor
