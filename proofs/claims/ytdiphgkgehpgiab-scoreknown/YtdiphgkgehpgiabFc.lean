/- DERIVED. The walks of the small functions on floats. -/
import Derived.Test.YtdiphgkgehpgiabRows
import Derived.Test.YtdiphgkgehpgiabGa
import Derived.Test.YtdiphgkgehpgiabFb
namespace Go.Proofs.Ytdiphgkgehpgiab
open Go.RowKit

/-- the number of an int -/
def fi (n : Int) : Nat := floatOfInt .f64 n
theorem fi_eq (n : Int) : floatOfInt .f64 n = fi n := rfl
theorem f_add (P : Program) (x y : Nat) : ∀ t w, (binOp .add t (.float .f64 x) (.float .f64 y)).run P w = .ok (.float .f64 (fo .add x y w)) (w.drewN (fk .add x y)) := fun t w => run_float w .add (by simp) t x y
theorem f_sub (P : Program) (x y : Nat) : ∀ t w, (binOp .sub t (.float .f64 x) (.float .f64 y)).run P w = .ok (.float .f64 (fo .sub x y w)) (w.drewN (fk .sub x y)) := fun t w => run_float w .sub (by simp) t x y
theorem f_mul (P : Program) (x y : Nat) : ∀ t w, (binOp .mul t (.float .f64 x) (.float .f64 y)).run P w = .ok (.float .f64 (fo .mul x y w)) (w.drewN (fk .mul x y)) := fun t w => run_float w .mul (by simp) t x y
theorem f_quo (P : Program) (x y : Nat) : ∀ t w, (binOp .quo t (.float .f64 x) (.float .f64 y)).run P w = .ok (.float .f64 (fo .quo x y w)) (w.drewN (fk .quo x y)) := fun t w => run_float w .quo (by simp) t x y
theorem ord_fmt (a b : Nat) : FloatKind.f64.format.order a b = Ieee.double.order a b := rfl
/-- a float is answered; the world has drawn at most -/
def Ans (w : World) (o : Option Nat) (e : Ending) (w' : World) : Prop := ∃ r n : Nat, e = .returned (.float .f64 r) ∧ w' = w.drewN n ∧ Is o r
theorem ret_bool {a b : Bool} (h : a = b) : Ending.returned (.bool a) = .returned (.bool b) := by rw [h]

/-- is it no number? -/
def nanB (x : Nat) : Bool := decide (Nan x)
theorem nan_ne (x : Nat) : (FloatKind.f64.format.order x x != some .eq) = nanB x := by
  rw [ord_fmt, ord_ne]
  unfold nanB
  by_cases h : Nan x
  · rw [feq_nan _ h, decide_eq_true h]; rfl
  · rw [feq_self h, decide_eq_false h]; rfl

theorem isNaN_any (x : Nat) (w : World) : Calls Try.prog 17 #[.float .f64 x] w fun e w' => e = .returned (.bool (nanB x)) ∧ w' = w := by
  go_enter Try.func17, Try.ntmps17
  go_wp2
  go_ret
  exact ⟨ret_bool (nan_ne x), rfl⟩
/-- what Cost answers -/
def costO (d rate : Int) (l : Nat) : Option Nat := (floatBits .mul .f64 l (fi rate)).bind fun p => floatBits .add .f64 p (fi d)
theorem add_nan {x : Nat} (y : Nat) (h : Nan x) : floatBits .add .f64 x y = none := by
  show ((Ieee.double.read x).sum (Ieee.double.read y)).map _ = none
  rw [read_nan h]; rfl
theorem cost_is {d rate : Int} {l : Nat} {w u : World} : Is (costO d rate l) (fo .add (fo .mul l (fi rate) w) (fi d) u) := by
  have h1 := fo_is .mul l (fi rate) w
  have h2 := fo_is .add (fo .mul l (fi rate) w) (fi d) u
  unfold costO
  generalize fo .mul l (fi rate) w = p at *
  cases h : floatBits .mul .f64 l (fi rate) with
  | none =>
    rw [h] at h1
    rw [add_nan _ h1] at h2
    exact h2
  | some s =>
    rw [h] at h1
    obtain rfl : p = s := h1
    exact h2

set_option maxHeartbeats 1000000 in
theorem cost_any (d rate : Int) (l : Nat) (w : World) : Calls Try.prog 12 #[.int .u64 d, .int .u64 rate, .float .f64 l] w fun e w' => Ans w (costO d rate l) e w' := by
  have h1 := f_mul Try.prog l (floatOfInt .f64 rate)
  have h2 := fun u => f_add Try.prog (fo .mul l (floatOfInt .f64 rate) u) (floatOfInt .f64 d)
  go_enter Try.func12, Try.ntmps12
  go_wp2
  go_ret
  exact ⟨_, _, rfl, rfl, cost_is⟩

end Go.Proofs.Ytdiphgkgehpgiab
