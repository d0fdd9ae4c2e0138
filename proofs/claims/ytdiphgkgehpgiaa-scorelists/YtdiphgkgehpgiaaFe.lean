/- DERIVED. The walks of both Classes. -/
import Derived.Test.YtdiphgkgehpgiaaFd
import Derived.Laws.Externs
namespace Go.Proofs.Ytdiphgkgehpgiaa
open Go.RowKit Ieee

theorem ret_str {a b : ByteArray} (h : a = b) : Ending.returned (.string a) = .returned (.string b) := by rw [h]
def infB (x : Nat) : Bool := decide (rung x = inf ∧ sgn x = false)
def belB (x : Nat) : Bool := decide (rung x = inf ∧ sgn x = true)
theorem isInf_pos {x : Nat} (h : ¬ Nan x) (w : World) : Calls Try.prog 35 #[.float .f64 x, .int .i64 1] w fun e w' => e = .returned (.bool (infB x)) ∧ w' = w := by
  have e : (FloatKind.f64.format.order x 9218868437227405311 == some .gt) = infB x := by rw [ord_fmt, ord_gt, inf_pos h]; rfl
  have E : Hid _ := e
  clear e h
  go_enter Try.func35, Try.ntmps35
  go_wp2
  go_ret
  exact ⟨ret_bool E.out, rfl⟩
theorem neg_float (x : Nat) : Op.unary .neg (.float .f64 x) = pure (.float .f64 (x ^^^ 2 ^ 63)) := rfl
theorem bits_call (x : Nat) : ∀ w, (callFunc 41 #[.float .f64 x]).run Try.prog w = .ok (.value (.int .u64 (x : Int))) w := fun w => by
  rw [run_callFunc_extern (e := Extern.MathFloatBits.float64bits) Try.func41 (by kernel_rfl) (by kernel_rfl) (by kernel_rfl) (by kernel_rfl)]
  rfl
theorem isInf_neg {x : Nat} (hx : x < 18446744073709551616) (h : ¬ Nan x) (w : World) : Calls Try.prog 35 #[.float .f64 x, .int .i64 (-1)] w fun e w' => e = .returned (.bool (belB x)) ∧ w' = w := by
  have e : (FloatKind.f64.format.order (x ^^^ 2 ^ 63) 9218868437227405311 == some .gt) = belB x := by
    rw [ord_fmt, ord_gt]; exact (inf_neg hx h)
  have E : Hid _ := e
  have hn := neg_float x
  clear e h hx
  generalize x ^^^ 2 ^ 63 = y at *
  go_enter Try.func35, Try.ntmps35
  go_wp2
  go_ret
  exact ⟨ret_bool E.out, rfl⟩
theorem wrap_sgn {x : Nat} (hx : x < 18446744073709551616) : decide (wrap64 (x : Int) < 0) = sgn x := by
  unfold wrap64 sgn
  by_cases h : x < 9223372036854775808
  · rw [Nat.div_eq_of_lt h]; exact decide_eq_false (by omega)
  · rw [show x / 9223372036854775808 = 1 from by omega]; exact decide_eq_true (by omega)
theorem signbit_any {x : Nat} (hx : x < 18446744073709551616) (w : World) : Calls Try.prog 36 #[.float .f64 x] w fun e w' => e = .returned (.bool (sgn x)) ∧ w' = w := by
  have hc := bits_call x
  have HX : Hid _ := hx
  clear hx
  go_enter Try.func36, Try.ntmps36
  go_wp2
  go_ret
  exact ⟨ret_bool (wrap_sgn HX.out), rfl⟩


set_option maxHeartbeats 2000000 in
theorem class_any {x : Nat} (hx : x < 18446744073709551616) (w : World) : Calls Try.prog 21 #[.float .f64 x] w fun e w' => e = .returned (.string (cls x)) ∧ w' = w := by
  have HX : Hid _ := hx
  clear hx
  by_cases hn : Nan x
  · have e1 : nanB x = true := decide_eq_true hn
    rw [show cls x = sNone from if_pos hn]
    clear hn
    go_enter Try.func21, Try.ntmps21
    go_wp2_with (go_at_call 33; refine (isNaN_any _ _).mono ?_; rintro e w' ⟨rfl, rfl⟩)
    go_ret
    exact ⟨rfl, rfl⟩
  have e1 : nanB x = false := decide_eq_false hn
  have c1 : cls x = if rung x = inf then (if sgn x then sBelow else sInf) else if rung x = 0 then (if sgn x then sMinus else sZero) else if sgn x then sNeg else if rung x < 4607182418800017408 then sLow else sHigh := if_neg hn
  rw [c1]
  clear c1
  have HN : Hid (¬ Nan x) := hn
  by_cases hi : rung x = inf
  · rw [if_pos hi]
    cases hs : sgn x
    · have e2 : infB x = true := decide_eq_true ⟨hi, hs⟩
      clear hn hi hs
      go_enter Try.func21, Try.ntmps21
      go_wp2_with first | (go_at_call 33; refine (isNaN_any _ _).mono ?_; rintro e w' ⟨rfl, rfl⟩) | (go_at_call 35; with_reducible refine (isInf_pos HN.out _).mono ?_; rintro e w' ⟨rfl, rfl⟩)
      go_ret
      exact ⟨rfl, rfl⟩
    · have e2 : infB x = false := decide_eq_false (fun k => by rw [hs] at k; cases k.2)
      have e3 : belB x = true := decide_eq_true ⟨hi, hs⟩
      clear hn hi hs
      go_enter Try.func21, Try.ntmps21
      go_wp2_with first | (go_at_call 33; refine (isNaN_any _ _).mono ?_; rintro e w' ⟨rfl, rfl⟩) | (go_at_call 35; with_reducible refine (isInf_pos HN.out _).mono ?_; rintro e w' ⟨rfl, rfl⟩) | (go_at_call 35; with_reducible refine (isInf_neg HX.out HN.out _).mono ?_; rintro e w' ⟨rfl, rfl⟩)
      go_ret
      exact ⟨rfl, rfl⟩
  rw [if_neg hi]
  have e2 : infB x = false := decide_eq_false (fun k => hi k.1)
  have e3 : belB x = false := decide_eq_false (fun k => hi k.1)
  by_cases hz : rung x = 0
  · rw [if_pos hz]
    have e4 : (FloatKind.f64.format.order x 0 == some .eq) = true := by rw [ord_fmt, ord_eq]; exact feq_zero.2 hz
    cases hs : sgn x
    all_goals
      clear hn hi hz
      go_enter Try.func21, Try.ntmps21
      go_wp2_with first | (go_at_call 33; refine (isNaN_any _ _).mono ?_; rintro e w' ⟨rfl, rfl⟩) | (go_at_call 35; with_reducible refine (isInf_pos HN.out _).mono ?_; rintro e w' ⟨rfl, rfl⟩) | (go_at_call 35; with_reducible refine (isInf_neg HX.out HN.out _).mono ?_; rintro e w' ⟨rfl, rfl⟩) | (go_at_call 36; refine (signbit_any HX.out _).mono ?_; rintro e w' ⟨rfl, rfl⟩)
      go_ret
      exact ⟨rfl, rfl⟩
  rw [if_neg hz]
  have e4 : (FloatKind.f64.format.order x 0 == some .eq) = false := by
    rw [ord_fmt, ord_eq]
    cases k : feq x 0
    · rfl
    · exact absurd (feq_zero.1 k) hz
  cases hs : sgn x
  · have e5 : (FloatKind.f64.format.order x 0 == some .lt) = false := by rw [ord_fmt, ord_lt, lt_zero hn hz, hs]
    have e6 : (FloatKind.f64.format.order x 4607182418800017408 == some .lt) = decide (rung x < 4607182418800017408) := by rw [ord_fmt, ord_lt, lt_one hn hs]
    by_cases hl : rung x < 4607182418800017408
    · rw [decide_eq_true hl] at e6
      have c : (if (false = true) then sNeg else if rung x < 4607182418800017408 then sLow else sHigh) = sLow := by rw [if_neg (by simp), if_pos hl]
      rw [c]
      clear hn hi hz hl c hs
      go_enter Try.func21, Try.ntmps21
      go_wp2_with first | (go_at_call 33; refine (isNaN_any _ _).mono ?_; rintro e w' ⟨rfl, rfl⟩) | (go_at_call 35; with_reducible refine (isInf_pos HN.out _).mono ?_; rintro e w' ⟨rfl, rfl⟩) | (go_at_call 35; with_reducible refine (isInf_neg HX.out HN.out _).mono ?_; rintro e w' ⟨rfl, rfl⟩)
      go_ret
      exact ⟨rfl, rfl⟩
    · rw [decide_eq_false hl] at e6
      have c : (if (false = true) then sNeg else if rung x < 4607182418800017408 then sLow else sHigh) = sHigh := by rw [if_neg (by simp), if_neg hl]
      rw [c]
      clear hn hi hz hl c hs
      go_enter Try.func21, Try.ntmps21
      go_wp2_with first | (go_at_call 33; refine (isNaN_any _ _).mono ?_; rintro e w' ⟨rfl, rfl⟩) | (go_at_call 35; with_reducible refine (isInf_pos HN.out _).mono ?_; rintro e w' ⟨rfl, rfl⟩) | (go_at_call 35; with_reducible refine (isInf_neg HX.out HN.out _).mono ?_; rintro e w' ⟨rfl, rfl⟩)
      go_ret
      exact ⟨rfl, rfl⟩
  · have e5 : (FloatKind.f64.format.order x 0 == some .lt) = true := by rw [ord_fmt, ord_lt, lt_zero hn hz, hs]
    have c : (if (true = true) then sNeg else if rung x < 4607182418800017408 then sLow else sHigh) = sNeg := if_pos rfl
    rw [c]
    clear hn hi hz c hs
    go_enter Try.func21, Try.ntmps21
    go_wp2_with first | (go_at_call 33; refine (isNaN_any _ _).mono ?_; rintro e w' ⟨rfl, rfl⟩) | (go_at_call 35; with_reducible refine (isInf_pos HN.out _).mono ?_; rintro e w' ⟨rfl, rfl⟩) | (go_at_call 35; with_reducible refine (isInf_neg HX.out HN.out _).mono ?_; rintro e w' ⟨rfl, rfl⟩)
    go_ret
    exact ⟨rfl, rfl⟩

end Go.Proofs.Ytdiphgkgehpgiaa
