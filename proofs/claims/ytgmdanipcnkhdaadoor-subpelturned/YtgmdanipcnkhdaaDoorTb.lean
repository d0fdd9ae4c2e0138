/- DERIVED. A plane turned about gives its blocks turned about. -/
import Derived.Test.YtgmdanipcnkhdaaDoorHa
namespace Go.Proofs.YtgmdanipcnkhdaaDoor
open Go.RowKit

/-- a plane turned about from left to right, from above to below -/
def mrA (C : List Nat) (x y : Nat) : List Nat := tab (x * y) fun n => C.getD (n / x * x + (x - 1 - n % x)) 0
def mrD (C : List Nat) (x y : Nat) : List Nat := tab (x * y) fun n => C.getD ((y - 1 - n / x) * x + n % x) 0
theorem nr_turn {i : Int} {n : Nat} (h : 1 ≤ n) : n - 1 - nr i n = nr ((n : Int) - 1 - i) n := by unfold nr; split <;> split <;> omega
theorem sp_mrA {C : List Nat} {x y : Nat} (hx : 1 ≤ x) (hy : 1 ≤ y) (i j : Int) : sp (mrA C x y) x y i j = sp C x y ((x : Int) - 1 - i) j := by
  unfold sp mrA
  have h1 := nr_lt (i := i) hx
  have h2 := nr_lt (i := j) hy
  rw [tab_get _ (at_lt h2 h1), (dm_of (y := nr j y) h1).1, (dm_of (y := nr j y) h1).2, nr_turn hx]
theorem sp_mrD {C : List Nat} {x y : Nat} (hx : 1 ≤ x) (hy : 1 ≤ y) (i j : Int) : sp (mrD C x y) x y i j = sp C x y i ((y : Int) - 1 - j) := by
  unfold sp mrD
  have h1 := nr_lt (i := i) hx
  have h2 := nr_lt (i := j) hy
  rw [tab_get _ (at_lt h2 h1), (dm_of (y := nr j y) h1).1, (dm_of (y := nr j y) h1).2, nr_turn hy]
theorem dt_rev {T : List Int} (hT : T.length = 8) (F : Nat → Int) : dt T.reverse F 8 = dt T (fun k => F (7 - k)) 8 := by
  obtain ⟨t0, t1, t2, t3, t4, t5, t6, t7, rfl⟩ := eight hT
  rw [dt8 (T := [t0, t1, t2, t3, t4, t5, t6, t7].reverse) rfl, dt8 rfl]
  simp only [Nat.sub_self, Nat.reduceSub]
  generalize t0 * F 7 = a0
  generalize t1 * F 6 = a1
  generalize t2 * F 5 = a2
  generalize t3 * F 4 = a3
  generalize t4 * F 3 = a4
  generalize t5 * F 2 = a5
  generalize t6 * F 1 = a6
  generalize t7 * F 0 = a7
  omega
theorem dt_whole (F : Nat → Int) : dt [0, 0, 0, 128, 0, 0, 0, 0] F 8 = 128 * F 3 := by
  rw [dt8 rfl]; simp only [Int.zero_mul, Int.zero_add, Int.add_zero]

/-- across: the sums along rows, by the taps of a place and of its contrary -/
theorem mm_across {C D : List Nat} {x y wd k : Nat} (hk : k < 3) (hD : ∀ i j, sp D x y i j = sp C x y ((x : Int) - 1 - i) j) (px Y : Int) (i j : Nat) (hi : i < wd) :
    mm D x y ((16 * ((x : Int) - (wd : Int)) - px) / 16) Y (tp k ((16 * ((x : Int) - (wd : Int)) - px) % 16).toNat) i j = mm C x y (px / 16) Y (tp k (px % 16).toNat) (wd - 1 - i) j := by
  by_cases h0 : px % 16 = 0
  · have e1 : ((16 * ((x : Int) - (wd : Int)) - px) % 16).toNat = 0 := by omega
    have e2 : (px % 16).toNat = 0 := by omega
    rw [e1, e2, tp_whole k hk]
    unfold mm
    rw [dt_whole, dt_whole, hD]
    rw [show (x : Int) - 1 - ((16 * ((x : Int) - (wd : Int)) - px) / 16 + (i : Int) + ((3 : Nat) : Int) - 3) = px / 16 + ((wd - 1 - i : Nat) : Int) + ((3 : Nat) : Int) - 3 from by omega]
  · have hf : (px % 16).toNat < 16 := by omega
    have e1 : ((16 * ((x : Int) - (wd : Int)) - px) % 16).toNat = 16 - (px % 16).toNat := by omega
    rw [e1, tp_rev k hk _ hf (by omega)]
    unfold mm
    rw [dt_rev (tp_len k hk _ hf)]
    congr 2
    refine dt_eq fun q hq => ?_
    show (sp D x y _ _ : Int) = (sp C x y _ _ : Int)
    rw [hD, show (x : Int) - 1 - ((16 * ((x : Int) - (wd : Int)) - px) / 16 + (i : Int) + ((7 - q : Nat) : Int) - 3) = px / 16 + ((wd - 1 - i : Nat) : Int) + (q : Int) - 3 from by omega]
theorem fe_across {C D : List Nat} {x y wd ht k : Nat} (hk : k < 3) (hD : ∀ i j, sp D x y i j = sp C x y ((x : Int) - 1 - i) j) (px py : Int) {i j : Nat} (hi : i < wd) (hj : j < ht) :
    (fe D x y (16 * ((x : Int) - (wd : Int)) - px) py wd ht k).getD (j * wd + (wd - 1 - i)) 0 = (fe C x y px py wd ht k).getD (j * wd + i) 0 := by
  have h1 : wd - 1 - i < wd := by omega
  rw [fe_get (at_lt hj h1), fe_get (at_lt hj hi), (dm_of (y := j) h1).1, (dm_of (y := j) h1).2, (dm_of (y := j) hi).1, (dm_of (y := j) hi).2]
  unfold bk
  congr 3
  refine dt_eq fun q _ => ?_
  rw [mm_across hk hD px (py / 16) (wd - 1 - i) (j + q) h1, show wd - 1 - (wd - 1 - i) = i from by omega]
/-- down -/
theorem fe_down {C D : List Nat} {x y wd ht k : Nat} (hk : k < 3) (hD : ∀ i j, sp D x y i j = sp C x y i ((y : Int) - 1 - j)) (px py : Int) {i j : Nat} (hi : i < wd) (hj : j < ht) :
    (fe D x y px (16 * ((y : Int) - (ht : Int)) - py) wd ht k).getD ((ht - 1 - j) * wd + i) 0 = (fe C x y px py wd ht k).getD (j * wd + i) 0 := by
  have h1 : ht - 1 - j < ht := by omega
  rw [fe_get (at_lt h1 hi), fe_get (at_lt hj hi), (dm_of (y := ht - 1 - j) hi).1, (dm_of (y := ht - 1 - j) hi).2, (dm_of (y := j) hi).1, (dm_of (y := j) hi).2]
  generalize tp k (px % 16).toNat = T
  unfold bk
  congr 2
  congr 1
  by_cases h0 : py % 16 = 0
  · have e1 : ((16 * ((y : Int) - (ht : Int)) - py) % 16).toNat = 0 := by omega
    have e2 : (py % 16).toNat = 0 := by omega
    rw [e1, e2, tp_whole k hk, dt_whole, dt_whole]
    congr 1
    unfold mm
    congr 2
    refine dt_eq fun q _ => ?_
    rw [hD, show (y : Int) - 1 - ((16 * ((y : Int) - (ht : Int)) - py) / 16 + ((ht - 1 - j + 3 : Nat) : Int) - 3) = py / 16 + ((j + 3 : Nat) : Int) - 3 from by omega]
  · have hf : (py % 16).toNat < 16 := by omega
    have e1 : ((16 * ((y : Int) - (ht : Int)) - py) % 16).toNat = 16 - (py % 16).toNat := by omega
    rw [e1, tp_rev k hk _ hf (by omega), dt_rev (tp_len k hk _ hf)]
    refine dt_eq fun r hr => ?_
    show mm D x y (px / 16) _ T i _ = mm C x y (px / 16) _ T i _
    unfold mm
    congr 2
    refine dt_eq fun q _ => ?_
    rw [hD, show (y : Int) - 1 - ((16 * ((y : Int) - (ht : Int)) - py) / 16 + ((ht - 1 - j + (7 - r) : Nat) : Int) - 3) = py / 16 + ((j + r : Nat) : Int) - 3 from by omega]

end Go.Proofs.YtgmdanipcnkhdaaDoor
