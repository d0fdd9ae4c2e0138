/- DERIVED. Small functions: how many partitions, units, regions, squares, areas. -/
import Derived.Test.YtjijgeeejhijhaaGr
namespace Go.Proofs.Ytjijgeeejhijhaa
open Go.RowKit

theorem tyN_far {s : Int} (h : ¬ (s = 64 ∨ s = 32 ∨ s = 16 ∨ s = 8)) : tyN s = 0 := by
  unfold tyN
  rw [if_neg (by omega), if_neg (by omega), if_neg (by omega)]
/-- is it one of the sides? -/
def isS (s : Int) : Bool := decide (s = 64 ∨ s = 32 ∨ s = 16 ∨ s = 8)
def erS (s : Int) : Int := if isS s then 0 else 2
set_option maxRecDepth 100000 in
theorem types_any {w : World} {s : Int} : Calls Try.prog 9 #[.int .i64 s] w fun e w' => e = .returned (.tuple #[.int .i64 (tyN s), .int .i64 (erS s)]) ∧ w = w' := by
  by_cases h : s = 64 ∨ s = 32 ∨ s = 16 ∨ s = 8
  · rcases h with rfl | rfl | rfl | rfl
    all_goals
      go_enter Try.func9, Try.ntmps9
      go_wp2_with fail
      go_ret2
      exact ⟨rfl, rfl⟩
  · rw [tyN_far h, show erS s = 2 from by unfold erS isS; rw [if_neg (by simpa using h)]]
    have h0 : (s == 64) = false := by rw [beq_eq_false_iff_ne]; omega
    have h1 : (s == 32) = false := by rw [beq_eq_false_iff_ne]; omega
    have h2 : (s == 16) = false := by rw [beq_eq_false_iff_ne]; omega
    have h3 : (s == 8) = false := by rw [beq_eq_false_iff_ne]; omega
    clear h
    go_enter Try.func9, Try.ntmps9
    go_wp2_with fail
    go_ret2
    exact ⟨rfl, rfl⟩
set_option maxRecDepth 100000 in
theorem rtypes_any {w : World} {s : Int} : Calls Try.prog 10 #[.int .i64 s] w fun e w' => e = .returned (.tuple #[.int .i64 (tyN s), .int .i64 (erS s)]) ∧ w = w' := by
  by_cases h : s = 64 ∨ s = 32 ∨ s = 16 ∨ s = 8
  · rcases h with rfl | rfl | rfl | rfl
    all_goals
      go_enter Try.func10, Try.ntmps10
      go_wp2_with fail
      go_ret2
      exact ⟨rfl, rfl⟩
  · rw [tyN_far h, show erS s = 2 from by unfold erS isS; rw [if_neg (by simpa using h)]]
    have h0 : (s == 64) = false := by rw [beq_eq_false_iff_ne]; omega
    have h1 : (s == 32) = false := by rw [beq_eq_false_iff_ne]; omega
    have h2 : (s == 16) = false := by rw [beq_eq_false_iff_ne]; omega
    have h3 : (s == 8) = false := by rw [beq_eq_false_iff_ne]; omega
    clear h
    go_enter Try.func10, Try.ntmps10
    go_wp2_with fail
    go_ret2
    exact ⟨rfl, rfl⟩
/-- whole units within bounds -/
def un (n a b : Int) : Bool := decide (a ≤ n ∧ n ≤ b ∧ n % 8 = 0)
theorem tmod8 (n : Int) : (n.tmod 8 == 0) = decide (n % 8 = 0) := by
  rw [show (n.tmod 8 == 0) = decide (n.tmod 8 = 0) from rfl, decide_eq_decide]
  rw [← Int.dvd_iff_tmod_eq_zero, ← Int.dvd_iff_emod_eq_zero]
theorem tmod8_yes {n : Int} (h : n % 8 = 0) : n.tmod 8 = 0 := Int.dvd_iff_tmod_eq_zero.1 (Int.dvd_iff_emod_eq_zero.2 h)
theorem tmod8_no {n : Int} (h : ¬ n % 8 = 0) : (n.tmod 8 == 0) = false := by rw [tmod8, decide_eq_false h]
set_option maxRecDepth 100000 in
theorem isUnits_any {w : World} {n a b : Int} : Calls Try.prog 36 #[.int .i64 n, .int .i64 a, .int .i64 b] w fun e w' => e = .returned (.bool (un n a b)) ∧ w = w' := by
  by_cases h1 : a ≤ n
  · by_cases h2 : n ≤ b
    · by_cases h3 : n % 8 = 0
      · have h4 := tmod8_yes h3
        rw [show un n a b = true from by unfold un; exact decide_eq_true ⟨h1, h2, h3⟩]
        clear h3
        go_enter Try.func36, Try.ntmps36
        go_wp2_with fail
        go_ret
        exact ⟨rfl, rfl⟩
      · have h4 := tmod8_no h3
        rw [show un n a b = false from by unfold un; exact decide_eq_false (fun q => h3 q.2.2)]
        clear h3
        go_enter Try.func36, Try.ntmps36
        go_wp2_with fail
        go_ret
        exact ⟨rfl, rfl⟩
    · rw [show un n a b = false from by unfold un; exact decide_eq_false (fun q => h2 q.2.1)]
      go_enter Try.func36, Try.ntmps36
      go_wp2_with fail
      go_ret
      exact ⟨rfl, rfl⟩
  · rw [show un n a b = false from by unfold un; exact decide_eq_false (fun q => h1 q.1)]
    go_enter Try.func36, Try.ntmps36
    go_wp2_with fail
    go_ret
    exact ⟨rfl, rfl⟩
set_option maxRecDepth 100000 in
theorem eights_any {w : World} {n a b : Int} : Calls Try.prog 34 #[.int .i64 n, .int .i64 a, .int .i64 b] w fun e w' => e = .returned (.bool (un n a b)) ∧ w = w' := by
  by_cases h3 : n % 8 = 0
  · have h4 := tmod8_yes h3
    by_cases h1 : a ≤ n
    · by_cases h2 : n ≤ b
      · rw [show un n a b = true from by unfold un; exact decide_eq_true ⟨h1, h2, h3⟩]
        clear h3
        go_enter Try.func34, Try.ntmps34
        go_wp2_with fail
        go_ret
        exact ⟨rfl, rfl⟩
      · rw [show un n a b = false from by unfold un; exact decide_eq_false (fun q => h2 q.2.1)]
        clear h3
        go_enter Try.func34, Try.ntmps34
        go_wp2_with fail
        go_ret
        exact ⟨rfl, rfl⟩
    · rw [show un n a b = false from by unfold un; exact decide_eq_false (fun q => h1 q.1)]
      clear h3
      go_enter Try.func34, Try.ntmps34
      go_wp2_with fail
      go_ret
      exact ⟨rfl, rfl⟩
  · have h4 := tmod8_no h3
    rw [show un n a b = false from by unfold un; exact decide_eq_false (fun q => h3 q.2.2)]
    clear h3
    go_enter Try.func34, Try.ntmps34
    go_wp2_with fail
    go_ret
    exact ⟨rfl, rfl⟩
/-- is it a region? -/
def rgn (x y a b : Int) : Bool := isS a && (decide (a = b) && (un x 0 2048 && un y 0 2048))
set_option maxRecDepth 100000 in
set_option maxHeartbeats 1000000 in
theorem isRegion_any {w : World} {x y a b : Int} : Calls Try.prog 24 #[.agg #[.int .i64 x, .int .i64 y, .int .i64 a, .int .i64 b]] w fun e w' => e = .returned (.bool (rgn x y a b)) ∧ Below w.heap.size w w' := by
  have HB : Hid (Below w.heap.size w (w.alloc (.cells #[.int .i64 x, .int .i64 y, .int .i64 a, .int .i64 b] 23))) := from_alloc _ _
  unfold rgn
  by_cases h0 : isS a = true
  · rw [h0, Bool.true_and]
    have e0 : erS a = 0 := by unfold erS; rw [if_pos h0]
    by_cases h1 : a = b
    · subst h1
      rw [decide_eq_true rfl, Bool.true_and]
      by_cases h2 : un x 0 2048 = true
      · rw [h2, Bool.true_and]
        generalize hy : un y 0 2048 = q
        have HY : Hid (un y 0 2048 = q) := hy
        clear hy h0
        go_enter Try.func24, Try.ntmps24
        go_wp2_with (first | ((with_reducible refine types_any.mono ?_); rintro e w5 ⟨rfl, rfl⟩) | ((with_reducible refine isUnits_any.mono ?_); rintro e w5 ⟨rfl, rfl⟩))
        go_ret
        exact ⟨by rw [HY.out]; rfl, HB.out⟩
      · have h3 : un x 0 2048 = false := by simpa using h2
        rw [h3, Bool.false_and]
        clear h2 h0
        go_enter Try.func24, Try.ntmps24
        go_wp2_with (first | ((with_reducible refine types_any.mono ?_); rintro e w5 ⟨rfl, rfl⟩) | ((with_reducible refine isUnits_any.mono ?_); rintro e w5 ⟨rfl, rfl⟩))
        go_ret
        exact ⟨rfl, HB.out⟩
    · rw [decide_eq_false h1, Bool.false_and]
      have h3 : (a == b) = false := by rw [beq_eq_false_iff_ne]; exact h1
      clear h0 h1
      go_enter Try.func24, Try.ntmps24
      go_wp2_with (first | ((with_reducible refine types_any.mono ?_); rintro e w5 ⟨rfl, rfl⟩) | ((with_reducible refine isUnits_any.mono ?_); rintro e w5 ⟨rfl, rfl⟩))
      go_ret
      exact ⟨rfl, HB.out⟩
  · have h3 : isS a = false := by simpa using h0
    rw [h3, Bool.false_and]
    have e0 : erS a = 2 := by unfold erS; rw [if_neg h0]
    clear h0
    go_enter Try.func24, Try.ntmps24
    go_wp2_with (first | ((with_reducible refine types_any.mono ?_); rintro e w5 ⟨rfl, rfl⟩) | ((with_reducible refine isUnits_any.mono ?_); rintro e w5 ⟨rfl, rfl⟩))
    go_ret
    exact ⟨rfl, HB.out⟩
set_option maxRecDepth 100000 in
set_option maxHeartbeats 1000000 in
theorem region_any {w : World} {x y a b : Int} : Calls Try.prog 26 #[.agg #[.int .i64 x, .int .i64 y, .int .i64 a, .int .i64 b]] w fun e w' => e = .returned (.bool (rgn x y a b)) ∧ Below w.heap.size w w' := by
  have HB : Hid (Below w.heap.size w (w.alloc (.cells #[.int .i64 x, .int .i64 y, .int .i64 a, .int .i64 b] 23))) := from_alloc _ _
  unfold rgn
  by_cases h0 : isS a = true
  · rw [h0, Bool.true_and]
    have e0 : erS a = 0 := by unfold erS; rw [if_pos h0]
    by_cases h1 : a = b
    · subst h1
      rw [decide_eq_true rfl, Bool.true_and]
      by_cases h2 : un x 0 2048 = true
      · rw [h2, Bool.true_and]
        generalize hy : un y 0 2048 = q
        have HY : Hid (un y 0 2048 = q) := hy
        clear hy h0
        go_enter Try.func26, Try.ntmps26
        go_wp2_with (first | ((with_reducible refine rtypes_any.mono ?_); rintro e w5 ⟨rfl, rfl⟩) | ((with_reducible refine eights_any.mono ?_); rintro e w5 ⟨rfl, rfl⟩))
        go_ret
        exact ⟨by rw [HY.out]; rfl, HB.out⟩
      · have h3 : un x 0 2048 = false := by simpa using h2
        rw [h3, Bool.false_and]
        clear h2 h0
        go_enter Try.func26, Try.ntmps26
        go_wp2_with (first | ((with_reducible refine rtypes_any.mono ?_); rintro e w5 ⟨rfl, rfl⟩) | ((with_reducible refine eights_any.mono ?_); rintro e w5 ⟨rfl, rfl⟩))
        go_ret
        exact ⟨rfl, HB.out⟩
    · rw [decide_eq_false h1, Bool.false_and]
      have h3 : (a == b) = false := by rw [beq_eq_false_iff_ne]; exact h1
      clear h0 h1
      go_enter Try.func26, Try.ntmps26
      go_wp2_with (first | ((with_reducible refine rtypes_any.mono ?_); rintro e w5 ⟨rfl, rfl⟩) | ((with_reducible refine eights_any.mono ?_); rintro e w5 ⟨rfl, rfl⟩))
      go_ret
      exact ⟨rfl, HB.out⟩
  · have h3 : isS a = false := by simpa using h0
    rw [h3, Bool.false_and]
    have e0 : erS a = 2 := by unfold erS; rw [if_neg h0]
    clear h0
    go_enter Try.func26, Try.ntmps26
    go_wp2_with (first | ((with_reducible refine rtypes_any.mono ?_); rintro e w5 ⟨rfl, rfl⟩) | ((with_reducible refine eights_any.mono ?_); rintro e w5 ⟨rfl, rfl⟩))
    go_ret
    exact ⟨rfl, HB.out⟩
end Go.Proofs.Ytjijgeeejhijhaa
