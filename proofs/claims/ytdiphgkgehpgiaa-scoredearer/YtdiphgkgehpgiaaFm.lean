/- DERIVED. Plain facts: what costs more costs no less. -/
import Derived.Test.YtdiphgkgehpgiaaFd
namespace Go.Proofs.Ytdiphgkgehpgiaa
open Ieee

theorem fi_nat (n : Nat) : fi (n : Int) = double.word false (rnd n 0) := by
  show double.write (.number (decide ((n : Int) < 0)) (n : Int).natAbs 0) = _
  rw [decide_eq_false (by omega), Int.natAbs_natCast]
  exact nearest_eq _ _ _
theorem rnd_le_of {m n : Nat} (h : m ≤ n) (p : Int) : rnd m p ≤ rnd n p := by
  refine rnd_mono (min p (-1074)) (by omega) (by omega) (by omega) (Nat.mul_le_mul_right _ h)
theorem fi_fin {n : Nat} (h : n ≤ 18446744073709551616) : rnd n 0 < inf := Nat.lt_of_le_of_lt (rnd_le_of h 0) (by decide +kernel)
theorem rung_fi (n : Nat) : rung (fi (n : Int)) = rnd n 0 := by rw [fi_nat, rung_word _ (rnd_le _ _)]
theorem sgn_fi (n : Nat) : sgn (fi (n : Int)) = false := by rw [fi_nat, sgn_word _ (rnd_le _ _)]
theorem read_fi {n : Nat} (h : n ≤ 18446744073709551616) : double.read (fi (n : Int)) = .number false (mg (rnd n 0)) (-1074 + (pl (rnd n 0) : Nat)) := by
  rw [read_num (by rw [rung_fi]; exact fi_fin h), rung_fi, sgn_fi]
/-- in the least unit -/
def rl (v : Nat) : Nat := rnd v (-1074)
theorem rl_le (v : Nat) : rl v ≤ inf := rnd_le _ _
theorem rl_mono {v w : Nat} (h : v ≤ w) : rl v ≤ rl w := rnd_le_of h _
/-- the rung of a product with a number that is not below 0 -/
def pr (l : Nat) (r : Nat) : Nat := rnd (mg (rung l) * mg (rnd r 0)) (-1074 + (pl (rung l) : Nat) + (-1074 + (pl (rnd r 0) : Nat)))
theorem mul_eq {l r : Nat} (hl : rung l < inf) (h : r ≤ 18446744073709551616) : floatBits .mul .f64 l (fi (r : Int)) = some (double.word (sgn l) (pr l r)) := by
  show ((double.read l).product (double.read (fi (r : Int)))).map double.write = _
  rw [read_num hl, read_fi h]
  simp only [Datum.product, Option.map_some, Bool.xor_false]
  show some (double.nearest _ _ _) = _
  rw [nearest_eq]; rfl
theorem pr_le (l r : Nat) : pr l r ≤ inf := rnd_le _ _
theorem pr_mono {l r s : Nat} (h : r ≤ s) : pr l r ≤ pr l s := by
  have h1 : val (rnd r 0) ≤ val (rnd s 0) := val_le (rnd_le_of h 0)
  unfold val at h1
  unfold pr
  refine rnd_mono (-2148) (by omega) (by omega) (by omega) ?_
  generalize pl (rung l) = i
  generalize pl (rnd r 0) = j at *
  generalize pl (rnd s 0) = k at *
  rw [show (-1074 + (i : Int) + (-1074 + (j : Int)) - -2148).toNat = i + j from by omega, show (-1074 + (i : Int) + (-1074 + (k : Int)) - -2148).toNat = i + k from by omega, Nat.pow_add, Nat.pow_add]
  rw [show mg (rung l) * mg (rnd r 0) * (2 ^ i * 2 ^ j) = mg (rung l) * 2 ^ i * (mg (rnd r 0) * 2 ^ j) from by ac_rfl, show mg (rung l) * mg (rnd s 0) * (2 ^ i * 2 ^ k) = mg (rung l) * 2 ^ i * (mg (rnd s 0) * 2 ^ k) from by ac_rfl]
  exact Nat.mul_le_mul_left _ h1
theorem mg_zero : mg 0 = 0 := by decide
theorem pr_zero {l r : Nat} (h : rung l = 0) : pr l r = 0 := by unfold pr; rw [h, mg_zero, Nat.zero_mul, rnd_zero]
/-- the rung of a sum of two that are not below 0 -/
theorem add_eq {s : Bool} {p q : Nat} (hp : p < inf) (hq : q < inf) (hs : s = true → p = 0) : floatBits .add .f64 (double.word s p) (double.word false q) = some (double.word false (rl (val p + val q))) := by
  show ((double.read (double.word s p)).sum (double.read (double.word false q))).map double.write = _
  have e1 := rung_word s (Nat.le_of_lt hp)
  have e2 := rung_word false (Nat.le_of_lt hq)
  rw [read_num (by rw [e1]; exact hp), read_num (by rw [e2]; exact hq), e1, e2, sgn_word _ (Nat.le_of_lt hp), sgn_word _ (Nat.le_of_lt hq)]
  simp only [Datum.sum, Option.map_some, Bool.and_false]
  have hz : s = true → mg p = 0 := fun h => by rw [hs h]; exact mg_zero
  unfold rl val
  generalize mg p = m at *
  generalize mg q = n at *
  generalize pl p = i
  generalize pl q = j
  have t1 : (-1074 + (i : Int) - min (-1074 + (i : Int)) (-1074 + (j : Int))).toNat = i - min i j := by omega
  have t2 : (-1074 + (j : Int) - min (-1074 + (i : Int)) (-1074 + (j : Int))).toNat = j - min i j := by omega
  rw [t1, t2]
  have t3 : signed s m (i - min i j) = ((m * 2 ^ (i - min i j) : Nat) : Int) := by
    rw [signed_eq]
    cases s
    · rfl
    · rw [hz rfl]; simp
  have t4 : signed false n (j - min i j) = ((n * 2 ^ (j - min i j) : Nat) : Int) := by rw [signed_eq]; rfl
  rw [t3, t4, ← Int.natCast_add, Int.natAbs_natCast]
  have t5 : (if (((m * 2 ^ (i - min i j) + n * 2 ^ (j - min i j) : Nat) : Int) = 0) then false else decide (((m * 2 ^ (i - min i j) + n * 2 ^ (j - min i j) : Nat) : Int) < 0)) = false := by
    split
    · rfl
    · exact decide_eq_false (by omega)
  rw [t5]
  show some (double.nearest _ _ _) = _
  rw [nearest_eq]
  congr 2
  refine rnd_same (-1074) (by omega) (by omega) (by omega) ?_
  rw [show (min (-1074 + (i : Int)) (-1074 + (j : Int)) - -1074).toNat = min i j from by omega, show ((-1074 : Int) - -1074).toNat = 0 from rfl, Nat.pow_zero, Nat.mul_one, Nat.add_mul, Nat.mul_assoc, Nat.mul_assoc, ← Nat.pow_add, ← Nat.pow_add, show i - min i j + min i j = i from by omega, show j - min i j + min i j = j from by omega]
theorem add_inf {q : Nat} (hq : q < inf) : floatBits .add .f64 (double.word false inf) (double.word false q) = some (double.word false inf) := by
  show ((double.read (double.word false inf)).sum (double.read (double.word false q))).map double.write = _
  have e1 := rung_word false (Nat.le_refl inf)
  have e2 := rung_word false (Nat.le_of_lt hq)
  rw [read_inf e1, read_num (by rw [e2]; exact hq), sgn_word _ (Nat.le_refl inf)]
  rfl
/-- the rung of a cost -/
def cr (l d r : Nat) : Nat := if pr l r = inf then inf else rl (val (pr l r) + val (rnd d 0))
theorem cr_le (l d r : Nat) : cr l d r ≤ inf := by unfold cr; split; exact Nat.le_refl _; exact rl_le _
theorem cost_eq {l d r : Nat} (hl : rung l < inf) (h0 : sgn l = true → rung l = 0) (hd : d ≤ 18446744073709551616) (hr : r ≤ 18446744073709551616) : costO (d : Int) (r : Int) l = some (double.word false (cr l d r)) := by
  unfold costO
  rw [mul_eq hl hr]
  simp only [Option.bind_some]
  unfold cr
  have hs : sgn l = true → pr l r = 0 := fun h => pr_zero (h0 h)
  by_cases hi : pr l r = inf
  · rw [if_pos hi, hi]
    have : sgn l = false := by
      cases e : sgn l
      · rfl
      · have := hs e; rw [hi] at this; exact absurd this (by decide +kernel)
    rw [this, fi_nat]
    exact add_inf (fi_fin hd)
  · rw [if_neg hi, fi_nat]
    exact add_eq (by have := pr_le l r; omega) (fi_fin hd) hs
theorem cr_mono {l d r d' r' : Nat} (hd : d ≤ d') (hr : r ≤ r') : cr l d r ≤ cr l d' r' := by
  unfold cr
  have h1 := pr_mono (l := l) hr
  have h2 := pr_le l r
  have h3 := pr_le l r'
  by_cases hi : pr l r' = inf
  · rw [if_pos hi]; exact cr_le l d r
  · rw [if_neg hi, if_neg (by omega)]
    exact rl_mono (Nat.add_le_add (val_le h1) (val_le (rnd_le_of hd 0)))
theorem key_word {c : Nat} (h : c ≤ inf) : key (double.word false c) = (c : Int) := by
  unfold key
  rw [sgn_word _ h, rung_word _ h]; rfl

end Go.Proofs.Ytdiphgkgehpgiaa
