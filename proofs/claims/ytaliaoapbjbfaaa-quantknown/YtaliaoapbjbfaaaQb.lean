/- DERIVED. The walks of stepOf, Dc, Ac and of the document's. -/
import Derived.Test.YtaliaoapbjbfaaaQa
namespace Go.Proofs.Ytaliaoapbjbfaaa
open Go.RowKit

/-- the step of a base, a delta and a part -/
def stq (q p : Int) : Int := 4 + q + q * q / p
def stp (b d p : Int) : Int := stq (cl (b + d) 0 255) p
def stA (b d p : Int) : Int := if OkB b d then stp b d p else 0
def stE (b d : Int) : Int := if OkB b d then 0 else 2
theorem cl_lo {v l m : Int} (h : l ≤ m) : l ≤ cl v l m := by unfold cl; repeat (first | split | omega)
theorem cl_hi {v l m : Int} (h : l ≤ m) : cl v l m ≤ m := by unfold cl; repeat (first | split | omega)
theorem sq_bound {q : Int} (h0 : 0 ≤ q) (h1 : q ≤ 255) : 0 ≤ q * q ∧ q * q ≤ 65025 := ⟨Int.mul_nonneg h0 h0, Int.le_trans (Int.mul_le_mul h1 h1 h0 (by omega)) (by omega)⟩
theorem div_bound {x p : Int} (h0 : 0 ≤ x) (h1 : x ≤ 65025) (hp : 1 ≤ p) : 0 ≤ x / p ∧ x / p ≤ 65025 := ⟨Int.ediv_nonneg h0 (by omega), Int.le_trans (Int.ediv_le_self p h0) h1⟩

theorem stepOf_ok {w : World} {b d p : Int} (h : OkB b d) (hp : 1 ≤ p) : Calls Try.prog 26 #[.int .i64 b, .int .i64 d, .int .i64 p] w fun e w' => e = .returned (.tuple #[.int .i64 (stp b d p), .int .i64 0]) ∧ w' = w := by
  obtain ⟨a1, a2, a3, a4⟩ := h
  have b1 : ¬ b < 0 := by omega
  have b2 : ¬ 255 < b := by omega
  have b3 : ¬ d < -31 := by omega
  have b4 : ¬ 31 < d := by omega
  have hp0 : p ≠ 0 := by omega
  have q0 := cl_lo (v := b + d) (l := 0) (m := 255) (by omega)
  have q1 := cl_hi (v := b + d) (l := 0) (m := 255) (by omega)
  have HQ : Hid (stp b d p = stq (cl (b + d) 0 255) p) := rfl
  obtain ⟨s0, s1⟩ := sq_bound q0 q1
  have HE : Hid ((cl (b + d) 0 255 * cl (b + d) 0 255).tdiv p = cl (b + d) 0 255 * cl (b + d) 0 255 / p) := Int.tdiv_eq_ediv_of_nonneg s0
  obtain ⟨d0, d1⟩ := div_bound s0 s1 hp
  have hE := HE.out
  go_enter Try.func26, Try.ntmps26
  go_wp2_with fail
  refine (clip_any (by omega)).mono ?_
  rintro e w' ⟨rfl, rfl⟩
  generalize cl (b + d) 0 255 = q at *
  go_wp2_with fail
  go_ret2
  exact ⟨by rw [HQ.out]; rfl, rfl⟩
theorem stepOf_bad {w : World} {b d p : Int} (h : ¬ OkB b d) : Calls Try.prog 26 #[.int .i64 b, .int .i64 d, .int .i64 p] w fun e w' => e = .returned (.tuple #[.int .i64 0, .int .i64 2]) ∧ w' = w := by
  rcases okB_not h with b1 | ⟨b1, b2⟩ | ⟨b1, b2, b3⟩ | ⟨b1, b2, b3, b4⟩ <;> clear h <;>
  · go_enter Try.func26, Try.ntmps26
    go_wp2_with fail
    go_ret2
    exact ⟨rfl, rfl⟩
theorem dc_any {w : World} {b d : Int} : Calls Try.prog 9 #[.int .i64 b, .int .i64 d] w fun e w' => e = .returned (.tuple #[.int .i64 (stA b d 96), .int .i64 (stE b d)]) ∧ w' = w := by
  by_cases h : OkB b d
  · have H : Hid (OkB b d) := h
    have E1 : Hid (stA b d 96 = stp b d 96) := if_pos h
    have E2 : Hid (stE b d = 0) := if_pos h
    clear h
    go_enter Try.func9, Try.ntmps9
    go_wp2_with fail
    refine (stepOf_ok H.out (by omega)).mono ?_
    rintro e w' ⟨rfl, rfl⟩
    go_wp2_with fail
    go_ret2
    exact ⟨by rw [E1.out, E2.out]; rfl, rfl⟩
  · have H : Hid (¬ OkB b d) := h
    have E1 : Hid (stA b d 96 = 0) := if_neg h
    have E2 : Hid (stE b d = 2) := if_neg h
    clear h
    go_enter Try.func9, Try.ntmps9
    go_wp2_with fail
    refine (stepOf_bad H.out).mono ?_
    rintro e w' ⟨rfl, rfl⟩
    go_wp2_with fail
    go_ret2
    exact ⟨by rw [E1.out, E2.out]; rfl, rfl⟩
theorem ac_any {w : World} {b d : Int} : Calls Try.prog 11 #[.int .i64 b, .int .i64 d] w fun e w' => e = .returned (.tuple #[.int .i64 (stA b d 48), .int .i64 (stE b d)]) ∧ w' = w := by
  by_cases h : OkB b d
  · have H : Hid (OkB b d) := h
    have E1 : Hid (stA b d 48 = stp b d 48) := if_pos h
    have E2 : Hid (stE b d = 0) := if_pos h
    clear h
    go_enter Try.func11, Try.ntmps11
    go_wp2_with fail
    refine (stepOf_ok H.out (by omega)).mono ?_
    rintro e w' ⟨rfl, rfl⟩
    go_wp2_with fail
    go_ret2
    exact ⟨by rw [E1.out, E2.out]; rfl, rfl⟩
  · have H : Hid (¬ OkB b d) := h
    have E1 : Hid (stA b d 48 = 0) := if_neg h
    have E2 : Hid (stE b d = 2) := if_neg h
    clear h
    go_enter Try.func11, Try.ntmps11
    go_wp2_with fail
    refine (stepOf_bad H.out).mono ?_
    rintro e w' ⟨rfl, rfl⟩
    go_wp2_with fail
    go_ret2
    exact ⟨by rw [E1.out, E2.out]; rfl, rfl⟩
theorem may_any {w : World} {b d : Int} : Calls Try.prog 27 #[.int .i64 b, .int .i64 d] w fun e w' => e = .returned (.bool (decide (OkB b d))) ∧ w' = w := by
  by_cases h : OkB b d
  · have E : Hid (decide (OkB b d) = true) := decide_eq_true h
    obtain ⟨b1, b2, b3, b4⟩ := h
    go_enter Try.func27, Try.ntmps27
    go_wp2_with fail
    go_ret
    exact ⟨by rw [E.out]; rfl, rfl⟩
  · have E : Hid (decide (OkB b d) = false) := decide_eq_false h
    have h4 : ¬ 0 ≤ b ∨ (0 ≤ b ∧ ¬ b ≤ 255) ∨ (0 ≤ b ∧ b ≤ 255 ∧ ¬ -31 ≤ d) ∨ (0 ≤ b ∧ b ≤ 255 ∧ -31 ≤ d ∧ ¬ d ≤ 31) := by unfold OkB at h; omega
    rcases h4 with b1 | ⟨b1, b2⟩ | ⟨b1, b2, b3⟩ | ⟨b1, b2, b3, b4⟩ <;> clear h <;>
    · go_enter Try.func27, Try.ntmps27
      go_wp2_with fail
      go_ret
      exact ⟨by rw [E.out]; rfl, rfl⟩
theorem rdc_any {w : World} {b d : Int} : Calls Try.prog 10 #[.int .i64 b, .int .i64 d] w fun e w' => e = .returned (.tuple #[.int .i64 (stA b d 96), .int .i64 (stE b d)]) ∧ w' = w := by
  by_cases h : OkB b d
  · have E : decide (OkB b d) = true := decide_eq_true h
    have E1 : Hid (stA b d 96 = stq (cl (b + d) 0 255) 96) := if_pos h
    have E2 : Hid (stE b d = 0) := if_pos h
    obtain ⟨a1, a2, a3, a4⟩ := h
    have q0 := cl_lo (v := b + d) (l := 0) (m := 255) (by omega)
    have q1 := cl_hi (v := b + d) (l := 0) (m := 255) (by omega)
    obtain ⟨s0, s1⟩ := sq_bound q0 q1
    have HE : Hid ((cl (b + d) 0 255 * cl (b + d) 0 255).tdiv 96 = cl (b + d) 0 255 * cl (b + d) 0 255 / 96) := Int.tdiv_eq_ediv_of_nonneg s0
    obtain ⟨d0, d1⟩ := div_bound s0 s1 (p := 96) (by omega)
    have hE := HE.out
    go_enter Try.func10, Try.ntmps10
    go_wp2_with fail
    refine may_any.mono ?_
    rintro e w' ⟨rfl, rfl⟩
    rw [E]
    clear E
    go_wp2_with fail
    refine rclip_any.mono ?_
    rintro e w' ⟨rfl, rfl⟩
    generalize cl (b + d) 0 255 = q at *
    go_wp2_with fail
    go_ret2
    exact ⟨by rw [E1.out, E2.out]; rfl, rfl⟩
  · have E : decide (OkB b d) = false := decide_eq_false h
    have E1 : Hid (stA b d 96 = 0) := if_neg h
    have E2 : Hid (stE b d = 2) := if_neg h
    clear h
    go_enter Try.func10, Try.ntmps10
    go_wp2_with fail
    refine may_any.mono ?_
    rintro e w' ⟨rfl, rfl⟩
    rw [E]
    clear E
    go_wp2_with fail
    go_ret2
    exact ⟨by rw [E1.out, E2.out]; rfl, rfl⟩
theorem rac_any {w : World} {b d : Int} : Calls Try.prog 12 #[.int .i64 b, .int .i64 d] w fun e w' => e = .returned (.tuple #[.int .i64 (stA b d 48), .int .i64 (stE b d)]) ∧ w' = w := by
  by_cases h : OkB b d
  · have E : decide (OkB b d) = true := decide_eq_true h
    have E1 : Hid (stA b d 48 = stq (cl (b + d) 0 255) 48) := if_pos h
    have E2 : Hid (stE b d = 0) := if_pos h
    obtain ⟨a1, a2, a3, a4⟩ := h
    have q0 := cl_lo (v := b + d) (l := 0) (m := 255) (by omega)
    have q1 := cl_hi (v := b + d) (l := 0) (m := 255) (by omega)
    obtain ⟨s0, s1⟩ := sq_bound q0 q1
    have HE : Hid ((cl (b + d) 0 255 * cl (b + d) 0 255).tdiv 48 = cl (b + d) 0 255 * cl (b + d) 0 255 / 48) := Int.tdiv_eq_ediv_of_nonneg s0
    obtain ⟨d0, d1⟩ := div_bound s0 s1 (p := 48) (by omega)
    have hE := HE.out
    go_enter Try.func12, Try.ntmps12
    go_wp2_with fail
    refine may_any.mono ?_
    rintro e w' ⟨rfl, rfl⟩
    rw [E]
    clear E
    go_wp2_with fail
    refine rclip_any.mono ?_
    rintro e w' ⟨rfl, rfl⟩
    generalize cl (b + d) 0 255 = q at *
    go_wp2_with fail
    go_ret2
    exact ⟨by rw [E1.out, E2.out]; rfl, rfl⟩
  · have E : decide (OkB b d) = false := decide_eq_false h
    have E1 : Hid (stA b d 48 = 0) := if_neg h
    have E2 : Hid (stE b d = 2) := if_neg h
    clear h
    go_enter Try.func12, Try.ntmps12
    go_wp2_with fail
    refine may_any.mono ?_
    rintro e w' ⟨rfl, rfl⟩
    rw [E]
    clear E
    go_wp2_with fail
    go_ret2
    exact ⟨by rw [E1.out, E2.out]; rfl, rfl⟩

end Go.Proofs.Ytaliaoapbjbfaaa
