/- DERIVED. Bilinear blocks lie between the least and the greatest sample; a block's part. -/
import Derived.Test.YtgmdanipcnkhdabDoorHa
namespace Go.Proofs.YtgmdanipcnkhdabDoor
open Go.RowKit

/-- the least and the greatest of the first k samples -/
def mnK (C : List Nat) : Nat → Nat
  | 0 => 255
  | k + 1 => min (mnK C k) (C.getD k 0)
def mxK (C : List Nat) : Nat → Nat
  | 0 => 0
  | k + 1 => max (mxK C k) (C.getD k 0)
theorem mnK_le (C : List Nat) : ∀ k, mnK C k ≤ 255
  | 0 => Nat.le_refl _
  | k + 1 => Nat.le_trans (Nat.min_le_left _ _) (mnK_le C k)
theorem mxK_le {C : List Nat} (h : Byt C) : ∀ k, mxK C k ≤ 255
  | 0 => Nat.zero_le _
  | k + 1 => Nat.max_le.2 ⟨mxK_le h k, by have := h k; omega⟩
theorem mnK_at (C : List Nat) : ∀ k j, j < k → mnK C k ≤ C.getD j 0
  | k + 1, j, h => by
    by_cases e : j = k
    · subst e; exact Nat.min_le_right _ _
    · exact Nat.le_trans (Nat.min_le_left _ _) (mnK_at C k j (by omega))
theorem mxK_at (C : List Nat) : ∀ k j, j < k → C.getD j 0 ≤ mxK C k
  | k + 1, j, h => by
    by_cases e : j = k
    · subst e; exact Nat.le_max_right _ _
    · exact Nat.le_trans (mxK_at C k j (by omega)) (Nat.le_max_left _ _)
theorem bil_in {f : Nat} (hf : f < 16) {F : Nat → Int} {lo hi : Int} (h : ∀ j, lo ≤ F j ∧ F j ≤ hi) : 128 * lo ≤ dt (tp 2 f) F 8 ∧ dt (tp 2 f) F 8 ≤ 128 * hi := by
  rw [dt8 (T := tp 2 f) rfl]
  simp only [Int.zero_mul, Int.zero_add, Int.add_zero]
  obtain ⟨a0, a1⟩ := h 3
  obtain ⟨b0, b1⟩ := h 4
  have p0 : (0 : Int) ≤ 128 - 8 * (f : Int) := by omega
  have p1 : (0 : Int) ≤ 8 * (f : Int) := by omega
  have q0 := Int.mul_le_mul_of_nonneg_left a0 p0
  have q1 := Int.mul_le_mul_of_nonneg_left a1 p0
  have q2 := Int.mul_le_mul_of_nonneg_left b0 p1
  have q3 := Int.mul_le_mul_of_nonneg_left b1 p1
  generalize F 3 = x at *
  generalize F 4 = y at *
  have e0 : (128 - 8 * (f : Int)) * lo + 8 * (f : Int) * lo = 128 * lo := by rw [← Int.add_mul]; congr 1; omega
  have e1 : (128 - 8 * (f : Int)) * hi + 8 * (f : Int) * hi = 128 * hi := by rw [← Int.add_mul]; congr 1; omega
  omega
theorem bk_in {C : List Nat} {x y : Nat} {X Y : Int} {f g i j lo hi : Nat} (hf : f < 16) (hg : g < 16) (h : ∀ a b, lo ≤ sp C x y a b ∧ sp C x y a b ≤ hi) (hh : hi ≤ 255) : lo ≤ bk C x y X Y (tp 2 f) (tp 2 g) i j ∧ bk C x y X Y (tp 2 f) (tp 2 g) i j ≤ hi := by
  have hm : ∀ q, 16 * (lo : Int) ≤ mm C x y X Y (tp 2 f) i q ∧ mm C x y X Y (tp 2 f) i q ≤ 16 * (hi : Int) := fun q => by
    have := bil_in hf (F := fun k => (sp C x y (X + (i : Int) + (k : Int) - 3) (Y + (q : Int) - 3) : Int)) (lo := (lo : Int)) (hi := (hi : Int)) (fun k => by
      have := h (X + (i : Int) + (k : Int) - 3) (Y + (q : Int) - 3)
      omega)
    unfold mm
    omega
  have := bil_in hg (F := fun k => mm C x y X Y (tp 2 f) i (j + k)) (lo := 16 * (lo : Int)) (hi := 16 * (hi : Int)) (fun k => hm (j + k))
  unfold bk
  generalize dt (tp 2 g) (fun k => mm C x y X Y (tp 2 f) i (j + k)) 8 = D at *
  unfold clp
  split
  · omega
  · split <;> omega
theorem fe_between {C : List Nat} {x y : Nat} {px py : Int} {w h i lo hi : Nat} (hi' : i < w * h) (hs : ∀ a b, lo ≤ sp C x y a b ∧ sp C x y a b ≤ hi) (hh : hi ≤ 255) : lo ≤ (fe C x y px py w h 2).getD i 0 ∧ (fe C x y px py w h 2).getD i 0 ≤ hi := by
  rw [fe_get hi']
  exact bk_in (by omega) (by omega) hs hh
theorem sp_at {C : List Nat} {x y : Nat} (hx : 1 ≤ x) (hy : 1 ≤ y) (hl : C.length = x * y) (a b : Int) : mnK C C.length ≤ sp C x y a b ∧ sp C x y a b ≤ mxK C C.length := by
  have h : nr b y * x + nr a x < C.length := by rw [hl]; exact at_lt (nr_lt hy) (nr_lt hx)
  exact ⟨mnK_at C _ _ h, mxK_at C _ _ h⟩

/-- a block's part is a block -/
theorem mm_part (C : List Nat) (x y : Nat) (X Y : Int) (T : List Int) (i j r d : Nat) : mm C x y (X + (r : Int)) (Y + (d : Int)) T i j = mm C x y X Y T (i + r) (j + d) := by
  unfold mm
  congr 2
  refine dt_eq fun k _ => ?_
  rw [show X + (r : Int) + (i : Int) + (k : Int) - 3 = X + ((i + r : Nat) : Int) + (k : Int) - 3 from by omega, show Y + (d : Int) + (j : Int) - 3 = Y + ((j + d : Nat) : Int) - 3 from by omega]
theorem bk_part (C : List Nat) (x y : Nat) (X Y : Int) (T S : List Int) (i j r d : Nat) : bk C x y (X + (r : Int)) (Y + (d : Int)) T S i j = bk C x y X Y T S (i + r) (j + d) := by
  unfold bk
  congr 3
  refine dt_eq fun k _ => ?_
  rw [mm_part, show j + k + d = j + d + k from by omega]
theorem fe_part {C : List Nat} {x y : Nat} {px py : Int} {w h k r d i : Nat} (hr : r + 4 ≤ w) (hd : d + 4 ≤ h) (hi : i < 16) : (fe C x y (px + 16 * (r : Int)) (py + 16 * (d : Int)) 4 4 k).getD i 0 = (fe C x y px py w h k).getD ((d + i / 4) * w + r + i % 4) 0 := by
  have h1 : (d + i / 4) * w + (r + i % 4) < w * h := at_lt (by omega) (by omega)
  have e := dm_of (y := d + i / 4) (w := w) (r := r + i % 4) (by omega)
  rw [Nat.add_assoc, fe_get (by omega), fe_get h1, e.1, e.2, show (px + 16 * (r : Int)) % 16 = px % 16 from by omega, show (py + 16 * (d : Int)) % 16 = py % 16 from by omega, show (px + 16 * (r : Int)) / 16 = px / 16 + (r : Int) from by omega, show (py + 16 * (d : Int)) / 16 = py / 16 + (d : Int) from by omega, bk_part, Nat.add_comm (i % 4), Nat.add_comm (i / 4)]

end Go.Proofs.YtgmdanipcnkhdabDoor
