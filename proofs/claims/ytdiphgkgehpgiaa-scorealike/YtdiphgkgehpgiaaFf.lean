/- DERIVED. The walk of the document's Class. -/
import Derived.Test.YtdiphgkgehpgiaaFe
namespace Go.Proofs.Ytdiphgkgehpgiaa
open Go.RowKit Ieee

set_option maxHeartbeats 2000000 in
theorem rclass_any (x : Nat) (w : World) : Calls Try.prog 22 #[.float .f64 x] w fun e w' => e = .returned (.string (cls x)) ∧ ∃ n : Nat, w' = w.drewN n := by
  by_cases hn : Nan x
  · have e1 : nanB x = true := decide_eq_true hn
    rw [show cls x = sNone from if_pos hn]
    clear hn
    go_enter Try.func22, Try.ntmps22
    go_wp2_with (go_at_call 27; refine (none_any _ _).mono ?_; rintro e w' ⟨rfl, rfl⟩)
    go_ret
    exact ⟨rfl, 0, rfl⟩
  have e1 : nanB x = false := decide_eq_false hn
  have c1 : cls x = if rung x = inf then (if sgn x then sBelow else sInf) else if rung x = 0 then (if sgn x then sMinus else sZero) else if sgn x then sNeg else if rung x < 4607182418800017408 then sLow else sHigh := if_neg hn
  rw [c1]
  clear c1
  have HN : Hid (¬ Nan x) := hn
  by_cases hz : rung x = 0
  · have hi : ¬ rung x = inf := by rw [hz]; decide +kernel
    rw [if_neg hi, if_pos hz]
    have e4 : (FloatKind.f64.format.order x 0 == some .eq) = true := by rw [ord_fmt, ord_eq]; exact feq_zero.2 hz
    have h4 : ∀ t w, (binOp .quo t (.float .f64 4607182418800017408) (.float .f64 x)).run Try.prog w = .ok (.float .f64 (double.word (sgn x) inf)) w := fun t w => run_float_arith w .quo t .f64 _ _ _ (quo_zero hz)
    have h5 : (FloatKind.f64.format.order (double.word (sgn x) inf) 0 == some .lt) = sgn x := by
      rw [ord_fmt, ord_lt, lt_zero (nan_word _ (Nat.le_refl _)) (by rw [rung_word _ (Nat.le_refl _)]; decide +kernel), sgn_word _ (Nat.le_refl _)]
    generalize double.word (sgn x) inf = q at *
    cases hs : sgn x
    all_goals
      rw [hs] at h5
      clear hn hi hz hs
      go_enter Try.func22, Try.ntmps22
      go_wp2_with (go_at_call 27; refine (none_any _ _).mono ?_; rintro e w' ⟨rfl, rfl⟩)
      go_ret
      exact ⟨rfl, 0, rfl⟩
  have e4 : (FloatKind.f64.format.order x 0 == some .eq) = false := by
    rw [ord_fmt, ord_eq]
    cases k : feq x 0
    · rfl
    · exact absurd (feq_zero.1 k) hz
  by_cases hi : rung x = inf
  · rw [if_pos hi]
    have h4 := f_sub Try.prog x x
    have hk : ∀ u, (FloatKind.f64.format.order (fo .sub x x u) 0 != some .eq) = true := fun u => by
      have := fo_is .sub x x u
      rw [sub_inf hi] at this
      rw [ord_fmt, ord_ne, feq_nan _ this]; rfl
    have h5 : (FloatKind.f64.format.order x 0 == some .gt) = !sgn x := by rw [ord_fmt, ord_gt, gt_zero hn hz]
    cases hs : sgn x
    all_goals
      rw [hs] at h5
      simp only [Bool.not_false, Bool.not_true] at h5
      clear hn hi hz hs
      go_enter Try.func22, Try.ntmps22
      go_wp2_with (go_at_call 27; refine (none_any _ _).mono ?_; rintro e w' ⟨rfl, rfl⟩)
      go_ret
      exact ⟨rfl, _, rfl⟩
  rw [if_neg hi, if_neg hz]
  have h4 : ∀ t w, (binOp .sub t (.float .f64 x) (.float .f64 x)).run Try.prog w = .ok (.float .f64 0) w := fun t w => run_float_arith w .sub t .f64 _ _ _ (sub_fin (by have := Nat.le_of_not_lt hn; omega))
  have h5 : (FloatKind.f64.format.order 0 0 != some .eq) = false := by rw [ord_fmt, ord_ne]; rfl
  cases hs : sgn x
  · have e5 : (FloatKind.f64.format.order x 0 == some .lt) = false := by rw [ord_fmt, ord_lt, lt_zero hn hz, hs]
    have e6 : (FloatKind.f64.format.order x 4607182418800017408 == some .lt) = decide (rung x < 4607182418800017408) := by rw [ord_fmt, ord_lt, lt_one hn hs]
    by_cases hl : rung x < 4607182418800017408
    · rw [decide_eq_true hl] at e6
      have c : (if (false = true) then sNeg else if rung x < 4607182418800017408 then sLow else sHigh) = sLow := by rw [if_neg (by simp), if_pos hl]
      rw [c]
      clear hn hi hz hl c hs
      go_enter Try.func22, Try.ntmps22
      go_wp2_with (go_at_call 27; refine (none_any _ _).mono ?_; rintro e w' ⟨rfl, rfl⟩)
      go_ret
      exact ⟨rfl, 0, rfl⟩
    · rw [decide_eq_false hl] at e6
      have c : (if (false = true) then sNeg else if rung x < 4607182418800017408 then sLow else sHigh) = sHigh := by rw [if_neg (by simp), if_neg hl]
      rw [c]
      clear hn hi hz hl c hs
      go_enter Try.func22, Try.ntmps22
      go_wp2_with (go_at_call 27; refine (none_any _ _).mono ?_; rintro e w' ⟨rfl, rfl⟩)
      go_ret
      exact ⟨rfl, 0, rfl⟩
  · have e5 : (FloatKind.f64.format.order x 0 == some .lt) = true := by rw [ord_fmt, ord_lt, lt_zero hn hz, hs]
    have c : (if (true = true) then sNeg else if rung x < 4607182418800017408 then sLow else sHigh) = sNeg := if_pos rfl
    rw [c]
    clear hn hi hz c hs
    go_enter Try.func22, Try.ntmps22
    go_wp2_with (go_at_call 27; refine (none_any _ _).mono ?_; rintro e w' ⟨rfl, rfl⟩)
    go_ret
    exact ⟨rfl, 0, rfl⟩

end Go.Proofs.Ytdiphgkgehpgiaa
