/- DERIVED. Sums of sums: what comes back of a row. -/
import Derived.Test.YtddnnlofdicgkaaDoorBa
namespace Go.Proofs.YtddnnlofdicgkaaDoor

def av (v : Int) : Int := if v < 0 then -v else v
theorem av_le (v : Int) : -av v ≤ v ∧ v ≤ av v := by unfold av; split <;> omega
theorem av_nonneg (v : Int) : 0 ≤ av v := by unfold av; split <;> omega
theorem sm_zero (n : Nat) : sm (fun _ => 0) n = 0 := by
  induction n with
  | zero => rfl
  | succ m ih => rw [sm_succ, ih]; rfl
theorem sm_comm (f : Nat → Nat → Int) (n m : Nat) : sm (fun k => sm (fun i => f k i) m) n = sm (fun i => sm (fun k => f k i) n) m := by
  induction n with
  | zero => exact (sm_zero m).symm
  | succ n ih =>
    rw [sm_succ, ih, ← sm_add]
    exact sm_congr m fun i _ => rfl
theorem sm_abs {x e : Nat → Int} {B : Int} (n : Nat) (hx : ∀ i, i < n → -B ≤ x i ∧ x i ≤ B) : -(B * sm (fun i => av (e i)) n) ≤ sm (fun i => x i * e i) n ∧ sm (fun i => x i * e i) n ≤ B * sm (fun i => av (e i)) n := by
  induction n with
  | zero => simp [sm]
  | succ n ih =>
    have h1 := ih (fun i hi => hx i (by omega))
    have h2 := prod_le (hx n (by omega)) (av_le (e n))
    rw [sm_succ, sm_succ, Int.mul_add]
    omega
theorem sm_one (n j : Nat) (hj : j < n) (x : Nat → Int) (T : Int) : sm (fun i => x i * (if i = j then T else 0)) n = x j * T := by
  induction n with
  | zero => omega
  | succ n ih =>
    rw [sm_succ]
    by_cases e : j = n
    · subst e
      rw [if_pos rfl, sm_congr (g := fun _ => 0) j (fun k hk => by rw [if_neg (by omega), Int.mul_zero]), sm_zero, Int.zero_add]
    · rw [ih (by omega), if_neg (by omega), Int.mul_zero, Int.add_zero]

/-- how near: all that may be off, at place j -/
def nearE (W : Nat → Nat → Int) (n j : Nat) (T : Int) : Int := 8388608 + 1023 * sm (fun i => av (sm (fun k => W k i * W k j) n - if i = j then T else 0)) n + 2048 * sm (fun k => av (W k j)) n

theorem near_main {W : Nat → Nat → Int} {n j : Nat} {h Q : Int} {x a : Nat → Int} (hj : j < n) (hx : ∀ i, i < n → -1023 ≤ x i ∧ x i ≤ 1023)
    (ha : ∀ k, k < n → a k = (sm (fun i => x i * W k i) n + 2048) / 4096) (hE : nearE W n j (h * 16777216) ≤ 16777216 * Q) :
    -Q ≤ (sm (fun k => a k * W k j) n + 2048) / 4096 - x j * h ∧ (sm (fun k => a k * W k j) n + 2048) / 4096 - x j * h ≤ Q := by
  -- the rests of the first way
  have hr : ∀ k, k < n → -2048 ≤ 4096 * a k - sm (fun i => x i * W k i) n ∧ 4096 * a k - sm (fun i => x i * W k i) n ≤ 2048 := fun k hk => by rw [ha k hk]; omega
  have e1 : 4096 * sm (fun k => a k * W k j) n = sm (fun k => (4096 * a k - sm (fun i => x i * W k i) n) * W k j) n + sm (fun k => sm (fun i => x i * W k i) n * W k j) n := by
    rw [← sm_add, ← sm_mul]
    refine sm_congr n fun k _ => ?_
    rw [← Int.add_mul, Int.sub_add_cancel, Int.mul_assoc]
  have e2 : sm (fun k => sm (fun i => x i * W k i) n * W k j) n = sm (fun i => x i * sm (fun k => W k i * W k j) n) n := by
    rw [sm_congr (g := fun k => sm (fun i => x i * (W k i * W k j)) n) n (fun k _ => by
      rw [Int.mul_comm, ← sm_mul]
      exact sm_congr n fun i _ => by rw [← Int.mul_assoc, Int.mul_comm (W k j), Int.mul_assoc, Int.mul_comm (W k j)]), sm_comm]
    exact sm_congr n fun i _ => by rw [← sm_mul]
  have e3 : sm (fun i => x i * sm (fun k => W k i * W k j) n) n = sm (fun i => x i * (sm (fun k => W k i * W k j) n - if i = j then h * 16777216 else 0)) n + x j * (h * 16777216) := by
    rw [← sm_one n j hj x (h * 16777216), ← sm_add]
    refine sm_congr n fun i _ => ?_
    rw [← Int.mul_add, Int.sub_add_cancel]
  have b1 := sm_abs (x := fun k => 4096 * a k - sm (fun i => x i * W k i) n) (e := fun k => W k j) n hr
  have b2 := sm_abs (x := x) (e := fun i => sm (fun k => W k i * W k j) n - if i = j then h * 16777216 else 0) n hx
  unfold nearE at hE
  have e4 : x j * (h * 16777216) = x j * h * 16777216 := by rw [Int.mul_assoc]
  rw [e2, e3, e4] at e1
  generalize sm (fun k => a k * W k j) n = S at *
  generalize x j * h = xh at *
  generalize sm (fun k => (4096 * a k - sm (fun i => x i * W k i) n) * W k j) n = R at *
  generalize sm (fun i => x i * (sm (fun k => W k i * W k j) n - if i = j then h * 16777216 else 0)) n = E at *
  generalize sm (fun i => av (sm (fun k => W k i * W k j) n - if i = j then h * 16777216 else 0)) n = EE at *
  generalize sm (fun k => av (W k j)) n = WW at *
  omega

end Go.Proofs.YtddnnlofdicgkaaDoor
