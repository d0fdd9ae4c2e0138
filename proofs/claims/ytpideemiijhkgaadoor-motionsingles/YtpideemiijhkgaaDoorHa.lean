/- DERIVED. A frame and a move in variables; blocks at whole samples. -/
import Derived.Test.YtpideemiijhkgaaDoorMi
import Derived.Test.YtpideemiijhkgaaDoorOp
namespace Go.Proofs.YtpideemiijhkgaaDoor
open Go.RowKit

/-- a frame in a block -/
structure Fc (p : Nat) (W0 H0 : Int) (a0 : Option Addr) (n0 k0 : Nat) (W1 H1 : Int) (a1 : Option Addr) (n1 k1 : Nat) (W2 H2 : Int) (a2 : Option Addr) (n2 k2 : Nat) (t : World) : Prop where
  c0 : t.cell? ⟨p, 0, none⟩ = some (.int .i64 W0)
  c1 : t.cell? ⟨p, 1, none⟩ = some (.int .i64 H0)
  c2 : t.cell? ⟨p, 2, none⟩ = some (.slice a0 n0 k0)
  c3 : t.cell? ⟨p, 3, none⟩ = some (.int .i64 W1)
  c4 : t.cell? ⟨p, 4, none⟩ = some (.int .i64 H1)
  c5 : t.cell? ⟨p, 5, none⟩ = some (.slice a1 n1 k1)
  c6 : t.cell? ⟨p, 6, none⟩ = some (.int .i64 W2)
  c7 : t.cell? ⟨p, 7, none⟩ = some (.int .i64 H2)
  c8 : t.cell? ⟨p, 8, none⟩ = some (.slice a2 n2 k2)
theorem Fc.below {p : Nat} {W0 H0 W1 H1 W2 H2 : Int} {a0 a1 a2 : Option Addr} {n0 k0 n1 k1 n2 k2 : Nat} {t t' : World} {B : Nat} (h : Fc p W0 H0 a0 n0 k0 W1 H1 a1 n1 k1 W2 H2 a2 n2 k2 t) (hp : p < B) (hb : Below B t t') : Fc p W0 H0 a0 n0 k0 W1 H1 a1 n1 k1 W2 H2 a2 n2 k2 t' := by
  refine ⟨?_, ?_, ?_, ?_, ?_, ?_, ?_, ?_, ?_⟩ <;> rw [newCell hb _ _ hp]
  · exact h.c0
  · exact h.c1
  · exact h.c2
  · exact h.c3
  · exact h.c4
  · exact h.c5
  · exact h.c6
  · exact h.c7
  · exact h.c8
theorem Fc.built (w : World) (W0 H0 : Int) (a0 : Option Addr) (n0 k0 : Nat) (W1 H1 : Int) (a1 : Option Addr) (n1 k1 : Nat) (W2 H2 : Int) (a2 : Option Addr) (n2 k2 : Nat) : Fc w.heap.size W0 H0 a0 n0 k0 W1 H1 a1 n1 k1 W2 H2 a2 n2 k2 (w.alloc (.cells #[.int .i64 W0, .int .i64 H0, .slice a0 n0 k0, .int .i64 W1, .int .i64 H1, .slice a1 n1 k1, .int .i64 W2, .int .i64 H2, .slice a2 n2 k2] 27)) := by
  refine ⟨?_, ?_, ?_, ?_, ?_, ?_, ?_, ?_, ?_⟩ <;> simp [go_sem]

/-- at samples there is nothing between them -/
theorem mm_whole (C : List Nat) (x y : Nat) (X Y : Int) (i j : Nat) : mm C x y X Y [0, 0, 0, 128, 0, 0, 0, 0] i j = 16 * (sp C x y (X + (i : Int)) (Y + (j : Int) - 3) : Int) := by
  unfold mm
  rw [dt8 rfl]
  simp only [Int.zero_mul, Int.zero_add, Int.add_zero]
  rw [show X + (i : Int) + ((3 : Nat) : Int) - 3 = X + (i : Int) from by omega]
  omega
theorem bk_whole {C : List Nat} (hC : Byt C) (x y : Nat) (X Y : Int) (i j : Nat) : bk C x y X Y [0, 0, 0, 128, 0, 0, 0, 0] [0, 0, 0, 128, 0, 0, 0, 0] i j = sp C x y (X + (i : Int)) (Y + (j : Int)) := by
  have hs : sp C x y (X + (i : Int)) (Y + (j : Int)) < 256 := hC _
  unfold bk
  rw [dt8 rfl]
  simp only [Int.zero_mul, Int.zero_add, Int.add_zero]
  rw [mm_whole, show Y + ((j + 3 : Nat) : Int) - 3 = Y + (j : Int) from by omega]
  unfold clp
  generalize sp C x y (X + (i : Int)) (Y + (j : Int)) = s at *
  rw [if_neg (by omega), if_neg (by omega)]
  omega
theorem fe_whole {C : List Nat} (hC : Byt C) {x y : Nat} {X Y : Int} {w h k i : Nat} (hk : k < 3) (hi : i < w * h) : (fe C x y (X * 16) (Y * 16) w h k).getD i 0 = sp C x y (X + ((i % w : Nat) : Int)) (Y + ((i / w : Nat) : Int)) := by
  rw [fe_get hi, Int.mul_emod_left, Int.mul_emod_left, Int.mul_ediv_cancel _ (by omega), Int.mul_ediv_cancel _ (by omega)]
  show bk C x y X Y (tp k 0) (tp k 0) _ _ = _
  rw [tp_whole k hk, bk_whole hC]

end Go.Proofs.YtpideemiijhkgaaDoor
