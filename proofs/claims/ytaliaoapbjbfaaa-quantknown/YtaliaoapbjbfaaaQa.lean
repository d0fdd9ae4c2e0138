/- DERIVED. The walks of quant's small functions: away, signed, clip, scaleOf, scaleFor, stepOf, Dc, Ac; the document's may, Clip, Abs, scale, asked. -/
import Derived.Test.YtaliaoapbjbfaaaGb
namespace Go.Proofs.Ytaliaoapbjbfaaa
open Go.RowKit

/-- a number without its sign -/
def aw (v : Int) : Int := if v < 0 then -v else v
/-- a number with another's sign -/
def sg (n v : Int) : Int := if v < 0 then -n else n
/-- brought between two numbers -/
def cl (v l m : Int) : Int := if v < l then l else if m < v then m else v
def OkZ (sz : Int) : Prop := sz = 4 ∨ sz = 8 ∨ sz = 16 ∨ sz = 32 ∨ sz = 64
instance (sz : Int) : Decidable (OkZ sz) := by unfold OkZ; infer_instance
def OkN (n st : Int) : Prop := -1048576 ≤ n ∧ n ≤ 1048576 ∧ 1 ≤ st ∧ st ≤ 32768
instance (n st : Int) : Decidable (OkN n st) := by unfold OkN; infer_instance
/-- a size's scale -/
def sft (sz : Int) : Int := if sz = 64 then 2 else if sz = 32 then 1 else 0
def scl (sz : Int) : Int := if sz = 64 then 4 else if sz = 32 then 2 else 1
def OkB (b d : Int) : Prop := 0 ≤ b ∧ b ≤ 255 ∧ -31 ≤ d ∧ d ≤ 31
instance (b d : Int) : Decidable (OkB b d) := by unfold OkB; infer_instance

theorem away_any {w : World} {v : Int} (h0 : -4611686018427387904 ≤ v) (h1 : v ≤ 4611686018427387904) : Calls Try.prog 30 #[.int .i64 v] w fun e w' => e = .returned (.int .i64 (aw v)) ∧ w' = w := by
  by_cases hz : v < 0
  · have HA : Hid (aw v = -v) := by show _ = _; unfold aw; rw [if_pos hz]
    have h3 : ¬ (-v < v) := by omega
    have h4 : ¬ (-v ≤ v) := by omega
    have h5 : v < -v := by omega
    have h6 : v ≤ -v := by omega
    go_enter Try.func30, Try.ntmps30
    go_wp2_with fail
    go_ret
    exact ⟨by rw [HA.out]; rfl, rfl⟩
  · have HA : Hid (aw v = v) := by show _ = _; unfold aw; rw [if_neg hz]
    have h3 : ¬ (v < -v) := by omega
    have h6 : -v ≤ v := by omega
    go_enter Try.func30, Try.ntmps30
    go_wp2_with fail
    go_ret
    exact ⟨by rw [HA.out]; rfl, rfl⟩
theorem signed_any {w : World} {n v : Int} (h0 : -4611686018427387904 ≤ n) (h1 : n ≤ 4611686018427387904) : Calls Try.prog 31 #[.int .i64 n, .int .i64 v] w fun e w' => e = .returned (.int .i64 (sg n v)) ∧ w' = w := by
  by_cases hz : v < 0
  · have HA : Hid (sg n v = -n) := by show _ = _; unfold sg; rw [if_pos hz]
    go_enter Try.func31, Try.ntmps31
    go_wp2_with fail
    go_ret
    exact ⟨by rw [HA.out]; rfl, rfl⟩
  · have HA : Hid (sg n v = n) := by show _ = _; unfold sg; rw [if_neg hz]
    go_enter Try.func31, Try.ntmps31
    go_wp2_with fail
    go_ret
    exact ⟨by rw [HA.out]; rfl, rfl⟩
theorem abs_any {w : World} {v : Int} (h0 : -4611686018427387904 ≤ v) (h1 : v ≤ 4611686018427387904) : Calls Try.prog 23 #[.int .i64 v] w fun e w' => e = .returned (.int .i64 (aw v)) ∧ w' = w := by
  by_cases hz : v < 0
  · have HA : Hid (aw v = -v) := by show _ = _; unfold aw; rw [if_pos hz]
    go_enter Try.func23, Try.ntmps23
    go_wp2_with fail
    go_ret
    exact ⟨by rw [HA.out]; rfl, rfl⟩
  · have HA : Hid (aw v = v) := by show _ = _; unfold aw; rw [if_neg hz]
    go_enter Try.func23, Try.ntmps23
    go_wp2_with fail
    go_ret
    exact ⟨by rw [HA.out]; rfl, rfl⟩
theorem clip_any {w : World} {v l m : Int} (hl : l < m) : Calls Try.prog 34 #[.int .i64 v, .int .i64 l, .int .i64 m] w fun e w' => e = .returned (.int .i64 (cl v l m)) ∧ w' = w := by
  by_cases h1 : v < l
  · have HA : Hid (cl v l m = l) := by show _ = _; unfold cl; rw [if_pos h1]
    have h2 : ¬ (m < v) := by omega
    have h3 : v ≤ m := by omega
    have h4 : ¬ (l < v) := by omega
    have h5 : ¬ (l ≤ v) := by omega
    have h6 : v ≤ l := by omega
    go_enter Try.func34, Try.ntmps34
    go_wp2_with fail
    go_ret
    exact ⟨by rw [HA.out]; rfl, rfl⟩
  · by_cases h2 : m < v
    · have HA : Hid (cl v l m = m) := by show _ = _; unfold cl; rw [if_neg h1, if_pos h2]
      have h3 : ¬ (v ≤ m) := by omega
      have h4 : ¬ (v < m) := by omega
      have h5 : ¬ (m < l) := by omega
      go_enter Try.func34, Try.ntmps34
      go_wp2_with fail
      go_ret
      exact ⟨by rw [HA.out]; rfl, rfl⟩
    · have HA : Hid (cl v l m = v) := by show _ = _; unfold cl; rw [if_neg h1, if_neg h2]
      have h3 : v ≤ m := by omega
      by_cases h5 : l < v
      · go_enter Try.func34, Try.ntmps34
        go_wp2_with fail
        go_ret
        exact ⟨by rw [HA.out]; rfl, rfl⟩
      · obtain rfl : l = v := by omega
        go_enter Try.func34, Try.ntmps34
        go_wp2_with fail
        go_ret
        exact ⟨by rw [HA.out]; rfl, rfl⟩
theorem rclip_any {w : World} {v l m : Int} : Calls Try.prog 28 #[.int .i64 v, .int .i64 l, .int .i64 m] w fun e w' => e = .returned (.int .i64 (cl v l m)) ∧ w' = w := by
  by_cases h1 : v < l
  · have HA : Hid (cl v l m = l) := by show _ = _; unfold cl; rw [if_pos h1]
    go_enter Try.func28, Try.ntmps28
    go_wp2_with fail
    go_ret
    exact ⟨by rw [HA.out]; rfl, rfl⟩
  · by_cases h2 : m < v
    · have HA : Hid (cl v l m = m) := by show _ = _; unfold cl; rw [if_neg h1, if_pos h2]
      go_enter Try.func28, Try.ntmps28
      go_wp2_with fail
      go_ret
      exact ⟨by rw [HA.out]; rfl, rfl⟩
    · have HA : Hid (cl v l m = v) := by show _ = _; unfold cl; rw [if_neg h1, if_neg h2]
      go_enter Try.func28, Try.ntmps28
      go_wp2_with fail
      go_ret
      exact ⟨by rw [HA.out]; rfl, rfl⟩

theorem scaleOf_ok {w : World} {sz : Int} (h : OkZ sz) : Calls Try.prog 35 #[.int .i64 sz] w fun e w' => e = .returned (.tuple #[.int .i64 (sft sz), .int .i64 0]) ∧ w' = w := by
  rcases h with rfl | rfl | rfl | rfl | rfl <;>
  · go_enter Try.func35, Try.ntmps35
    go_wp2_with fail
    go_ret2
    exact ⟨by rfl, rfl⟩
theorem scaleOf_bad {w : World} {sz : Int} (h : ¬ OkZ sz) : Calls Try.prog 35 #[.int .i64 sz] w fun e w' => e = .returned (.tuple #[.int .i64 0, .int .i64 2]) ∧ w' = w := by
  simp only [OkZ, not_or] at h
  obtain ⟨h1, h2, h3, h4, h5⟩ := h
  replace h1 : (sz == 4) = false := beq_eq_false_iff_ne.2 h1
  replace h2 : (sz == 8) = false := beq_eq_false_iff_ne.2 h2
  replace h3 : (sz == 16) = false := beq_eq_false_iff_ne.2 h3
  replace h4 : (sz == 32) = false := beq_eq_false_iff_ne.2 h4
  replace h5 : (sz == 64) = false := beq_eq_false_iff_ne.2 h5
  go_enter Try.func35, Try.ntmps35
  go_wp2_with fail
  go_ret2
  exact ⟨rfl, rfl⟩
theorem rscale_ok {w : World} {sz : Int} (h : OkZ sz) : Calls Try.prog 33 #[.int .i64 sz] w fun e w' => e = .returned (.int .i64 (scl sz)) ∧ w' = w := by
  rcases h with rfl | rfl | rfl | rfl | rfl <;>
  · go_enter Try.func33, Try.ntmps33
    go_wp2_with fail
    go_ret
    exact ⟨by rfl, rfl⟩
theorem rscale_bad {w : World} {sz : Int} (h : ¬ OkZ sz) : Calls Try.prog 33 #[.int .i64 sz] w fun e w' => e = .returned (.int .i64 0) ∧ w' = w := by
  simp only [OkZ, not_or] at h
  obtain ⟨h1, h2, h3, h4, h5⟩ := h
  replace h1 : (sz == 4) = false := beq_eq_false_iff_ne.2 h1
  replace h2 : (sz == 8) = false := beq_eq_false_iff_ne.2 h2
  replace h3 : (sz == 16) = false := beq_eq_false_iff_ne.2 h3
  replace h4 : (sz == 32) = false := beq_eq_false_iff_ne.2 h4
  replace h5 : (sz == 64) = false := beq_eq_false_iff_ne.2 h5
  go_enter Try.func33, Try.ntmps33
  go_wp2_with fail
  go_ret
  exact ⟨rfl, rfl⟩
theorem lscale_ok {w : World} {sz : Int} (h : OkZ sz) : Calls Try.prog 24 #[.int .i64 sz] w fun e w' => e = .returned (.int .i64 (scl sz)) ∧ w' = w := by
  rcases h with rfl | rfl | rfl | rfl | rfl <;>
  · go_enter Try.func24, Try.ntmps24
    go_wp2_with fail
    go_ret
    exact ⟨by rfl, rfl⟩

/-- which of four tests fails first -/
theorem okN_not {n st : Int} (h : ¬ OkN n st) : n < -1048576 ∨ (¬ n < -1048576 ∧ 1048576 < n) ∨ (¬ n < -1048576 ∧ ¬ 1048576 < n ∧ st < 1) ∨ (¬ n < -1048576 ∧ ¬ 1048576 < n ∧ ¬ st < 1 ∧ 32768 < st) := by
  unfold OkN at h; omega
theorem okB_not {b d : Int} (h : ¬ OkB b d) : b < 0 ∨ (¬ b < 0 ∧ 255 < b) ∨ (¬ b < 0 ∧ ¬ 255 < b ∧ d < -31) ∨ (¬ b < 0 ∧ ¬ 255 < b ∧ ¬ d < -31 ∧ 31 < d) := by
  unfold OkB at h; omega
theorem scaleFor_ok {w : World} {n st sz : Int} (hn : OkN n st) (hz : OkZ sz) : Calls Try.prog 29 #[.int .i64 n, .int .i64 st, .int .i64 sz] w fun e w' => e = .returned (.tuple #[.int .i64 (sft sz), .int .i64 0]) ∧ w' = w := by
  obtain ⟨a1, a2, a3, a4⟩ := hn
  have b1 : ¬ n < -1048576 := by omega
  have b2 : ¬ 1048576 < n := by omega
  have b3 : ¬ st < 1 := by omega
  have b4 : ¬ 32768 < st := by omega
  clear a1 a2 a3 a4
  have HS : Hid (OkZ sz) := hz
  clear hz
  go_enter Try.func29, Try.ntmps29
  go_wp2_with fail
  refine (scaleOf_ok HS.out).mono ?_
  rintro e w' ⟨rfl, rfl⟩
  go_wp2_with fail
  go_ret2
  exact ⟨rfl, rfl⟩
theorem scaleFor_bad {w : World} {n st sz : Int} (h : ¬ (OkN n st ∧ OkZ sz)) : Calls Try.prog 29 #[.int .i64 n, .int .i64 st, .int .i64 sz] w fun e w' => e = .returned (.tuple #[.int .i64 0, .int .i64 2]) ∧ w' = w := by
  by_cases hn : OkN n st
  · obtain ⟨a1, a2, a3, a4⟩ := id hn
    have b1 : ¬ n < -1048576 := by omega
    have b2 : ¬ 1048576 < n := by omega
    have b3 : ¬ st < 1 := by omega
    have b4 : ¬ 32768 < st := by omega
    have HS : Hid (¬ OkZ sz) := fun hz => h ⟨hn, hz⟩
    clear h hn a1 a2 a3 a4
    go_enter Try.func29, Try.ntmps29
    go_wp2_with fail
    refine (scaleOf_bad HS.out).mono ?_
    rintro e w' ⟨rfl, rfl⟩
    go_wp2_with fail
    go_ret2
    exact ⟨rfl, rfl⟩
  · clear h
    rcases okN_not hn with b1 | ⟨b1, b2⟩ | ⟨b1, b2, b3⟩ | ⟨b1, b2, b3, b4⟩ <;> clear hn <;>
    · go_enter Try.func29, Try.ntmps29
      go_wp2_with fail
      go_ret2
      exact ⟨rfl, rfl⟩
theorem asked_ok {w : World} {n st sz : Int} (hn : OkN n st) (hz : OkZ sz) : Calls Try.prog 32 #[.int .i64 n, .int .i64 st, .int .i64 sz] w fun e w' => e = .returned (.bool true) ∧ w' = w := by
  obtain ⟨b1, b2, b3, b4⟩ := hn
  have HS : Hid (OkZ sz) := hz
  have h0 : 0 < scl sz := by unfold scl; repeat (first | split | omega)
  clear hz
  go_enter Try.func32, Try.ntmps32
  go_wp2_with fail
  refine (rscale_ok HS.out).mono ?_
  rintro e w' ⟨rfl, rfl⟩
  go_wp2_with fail
  go_ret
  exact ⟨rfl, rfl⟩
theorem asked_bad {w : World} {n st sz : Int} (h : ¬ (OkN n st ∧ OkZ sz)) : Calls Try.prog 32 #[.int .i64 n, .int .i64 st, .int .i64 sz] w fun e w' => e = .returned (.bool false) ∧ w' = w := by
  by_cases hn : OkN n st
  · obtain ⟨b1, b2, b3, b4⟩ := id hn
    have HS : Hid (¬ OkZ sz) := fun hz => h ⟨hn, hz⟩
    clear h hn
    go_enter Try.func32, Try.ntmps32
    go_wp2_with fail
    refine (rscale_bad HS.out).mono ?_
    rintro e w' ⟨rfl, rfl⟩
    go_wp2_with fail
    go_ret
    exact ⟨rfl, rfl⟩
  · clear h
    have h4 : ¬ -1048576 ≤ n ∨ (-1048576 ≤ n ∧ ¬ n ≤ 1048576) ∨ (-1048576 ≤ n ∧ n ≤ 1048576 ∧ ¬ 1 ≤ st) ∨ (-1048576 ≤ n ∧ n ≤ 1048576 ∧ 1 ≤ st ∧ ¬ st ≤ 32768) := by unfold OkN at hn; omega
    rcases h4 with b1 | ⟨b1, b2⟩ | ⟨b1, b2, b3⟩ | ⟨b1, b2, b3, b4⟩ <;> clear hn <;>
    · go_enter Try.func32, Try.ntmps32
      go_wp2_with fail
      go_ret
      exact ⟨rfl, rfl⟩

end Go.Proofs.Ytaliaoapbjbfaaa
