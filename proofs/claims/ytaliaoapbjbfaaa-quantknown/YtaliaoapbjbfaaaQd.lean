/- DERIVED. The walks of Value and of the document's. -/
import Derived.Test.YtaliaoapbjbfaaaQc
namespace Go.Proofs.Ytaliaoapbjbfaaa
open Go.RowKit

theorem and24 (j : Int) : bits .and .i64 j 16777215 = j % 16777216 := by
  unfold bits
  simp only []
  have e : ((BitVec.ofInt 64 j &&& BitVec.ofInt 64 16777215).toNat : Int) = j % 16777216 := by
    rw [BitVec.toNat_and, BitVec.toNat_ofInt, BitVec.toNat_ofInt]
    rw [show ((16777215 : Int) % (2 ^ 64 : Nat)).toNat = 2 ^ 24 - 1 from by decide, Nat.and_two_pow_sub_one_eq_mod]
    omega
  show IntKind.i64.wrap ((BitVec.ofInt 64 j &&& BitVec.ofInt 64 16777215).toNat : Int) = _
  rw [e]
  rw [IntKind.wrap_i64]; omega
set_option maxRecDepth 100000 in
theorem value_1 {w : World} {n st sz : Int} (h : OkL n st sz) (hs : sft sz = 0) : Calls Try.prog 20 #[.int .i64 n, .int .i64 st, .int .i64 sz] w fun e w' => e = .returned (.tuple #[.int .i64 (cl (sg (aw n * st % 16777216) n) (-32768) 32767), .int .i64 0]) ∧ w' = w := by
  have H : Hid (OkL n st sz) := h
  obtain ⟨⟨a1, a2, a3, a4⟩, -⟩ := h
  have p0 := aw_lo n
  have p1 := aw_hi ⟨a1, a2⟩
  have m0 : 0 ≤ aw n * st := Int.mul_nonneg p0 (by omega)
  have m1 : aw n * st ≤ 34359738368 := Int.le_trans (Int.mul_le_mul p1 a4 (by omega) (by omega)) (by omega)
  have x0 : 0 ≤ aw n * st % 16777216 := by omega
  have x1 : aw n * st % 16777216 ≤ 16777215 := by omega
  go_enter Try.func20, Try.ntmps20
  go_wp2_with fail
  refine (scaleFor_ok H.out.1 H.out.2).mono ?_
  rintro e w' ⟨rfl, rfl⟩
  rw [hs]
  clear hs
  go_wp2_with fail
  refine (away_any (by omega) (by omega)).mono ?_
  rintro e w' ⟨rfl, rfl⟩
  go_wp2_with fail
  rw [and24]
  refine (signed_any (by omega) (by omega)).mono ?_
  rintro e w' ⟨rfl, rfl⟩
  go_wp2_with fail
  refine (clip_any (by omega)).mono ?_
  rintro e w' ⟨rfl, rfl⟩
  go_wp2_with fail
  go_ret2
  exact ⟨rfl, rfl⟩
set_option maxRecDepth 100000 in
theorem rvalue_1 {w : World} {n st sz : Int} (h : OkL n st sz) (hc : scl sz = 1) : Calls Try.prog 21 #[.int .i64 n, .int .i64 st, .int .i64 sz] w fun e w' => e = .returned (.tuple #[.int .i64 (cl (sg (aw n * st % 16777216) n) (-32768) 32767), .int .i64 0]) ∧ w' = w := by
  have H : Hid (OkL n st sz) := h
  obtain ⟨⟨a1, a2, a3, a4⟩, -⟩ := h
  have p0 := aw_lo n
  have p1 := aw_hi ⟨a1, a2⟩
  have m0 : 0 ≤ aw n * st := Int.mul_nonneg p0 (by omega)
  have m1 : aw n * st ≤ 34359738368 := Int.le_trans (Int.mul_le_mul p1 a4 (by omega) (by omega)) (by omega)
  have x0 : 0 ≤ aw n * st % 16777216 := by omega
  have x1 : aw n * st % 16777216 ≤ 16777215 := by omega
  have HC : Hid (scl sz = 1) := hc
  clear hc
  by_cases hz : n < 0
  · have HS : Hid (sg (aw n * st % 16777216) n = -(aw n * st % 16777216)) := if_pos hz
    go_enter Try.func21, Try.ntmps21
    go_wp2_with fail
    refine (asked_ok H.out.1 H.out.2).mono ?_
    rintro e w' ⟨rfl, rfl⟩
    go_wp2_with fail
    refine (abs_any (by omega) (by omega)).mono ?_
    rintro e w' ⟨rfl, rfl⟩
    go_wp2_with fail
    refine (rscale_ok H.out.2).mono ?_
    rintro e w' ⟨rfl, rfl⟩
    rw [HC.out]
    go_wp2_with fail
    refine rclip_any.mono ?_
    rintro e w' ⟨rfl, rfl⟩
    go_wp2_with fail
    go_ret2
    exact ⟨by rw [HS.out]; rfl, rfl⟩
  · have HS : Hid (sg (aw n * st % 16777216) n = aw n * st % 16777216) := if_neg hz
    go_enter Try.func21, Try.ntmps21
    go_wp2_with fail
    refine (asked_ok H.out.1 H.out.2).mono ?_
    rintro e w' ⟨rfl, rfl⟩
    go_wp2_with fail
    refine (abs_any (by omega) (by omega)).mono ?_
    rintro e w' ⟨rfl, rfl⟩
    go_wp2_with fail
    refine (rscale_ok H.out.2).mono ?_
    rintro e w' ⟨rfl, rfl⟩
    rw [HC.out]
    go_wp2_with fail
    refine rclip_any.mono ?_
    rintro e w' ⟨rfl, rfl⟩
    go_wp2_with fail
    go_ret2
    exact ⟨by rw [HS.out]; rfl, rfl⟩
set_option maxRecDepth 100000 in
theorem value_2 {w : World} {n st sz : Int} (h : OkL n st sz) (hs : sft sz = 1) : Calls Try.prog 20 #[.int .i64 n, .int .i64 st, .int .i64 sz] w fun e w' => e = .returned (.tuple #[.int .i64 (cl (sg (aw n * st % 16777216 / 2) n) (-32768) 32767), .int .i64 0]) ∧ w' = w := by
  have H : Hid (OkL n st sz) := h
  obtain ⟨⟨a1, a2, a3, a4⟩, -⟩ := h
  have p0 := aw_lo n
  have p1 := aw_hi ⟨a1, a2⟩
  have m0 : 0 ≤ aw n * st := Int.mul_nonneg p0 (by omega)
  have m1 : aw n * st ≤ 34359738368 := Int.le_trans (Int.mul_le_mul p1 a4 (by omega) (by omega)) (by omega)
  have x0 : 0 ≤ aw n * st % 16777216 / 2 := by omega
  have x1 : aw n * st % 16777216 / 2 ≤ 16777215 := by omega
  go_enter Try.func20, Try.ntmps20
  go_wp2_with fail
  refine (scaleFor_ok H.out.1 H.out.2).mono ?_
  rintro e w' ⟨rfl, rfl⟩
  rw [hs]
  clear hs
  go_wp2_with fail
  refine (away_any (by omega) (by omega)).mono ?_
  rintro e w' ⟨rfl, rfl⟩
  go_wp2_with fail
  rw [and24]
  refine (signed_any (by omega) (by omega)).mono ?_
  rintro e w' ⟨rfl, rfl⟩
  go_wp2_with fail
  refine (clip_any (by omega)).mono ?_
  rintro e w' ⟨rfl, rfl⟩
  go_wp2_with fail
  go_ret2
  exact ⟨rfl, rfl⟩
set_option maxRecDepth 100000 in
theorem rvalue_2 {w : World} {n st sz : Int} (h : OkL n st sz) (hc : scl sz = 2) : Calls Try.prog 21 #[.int .i64 n, .int .i64 st, .int .i64 sz] w fun e w' => e = .returned (.tuple #[.int .i64 (cl (sg (aw n * st % 16777216 / 2) n) (-32768) 32767), .int .i64 0]) ∧ w' = w := by
  have H : Hid (OkL n st sz) := h
  obtain ⟨⟨a1, a2, a3, a4⟩, -⟩ := h
  have p0 := aw_lo n
  have p1 := aw_hi ⟨a1, a2⟩
  have m0 : 0 ≤ aw n * st := Int.mul_nonneg p0 (by omega)
  have m1 : aw n * st ≤ 34359738368 := Int.le_trans (Int.mul_le_mul p1 a4 (by omega) (by omega)) (by omega)
  have x0 : 0 ≤ aw n * st % 16777216 / 2 := by omega
  have x1 : aw n * st % 16777216 / 2 ≤ 16777215 := by omega
  have HC : Hid (scl sz = 2) := hc
  clear hc
  by_cases hz : n < 0
  · have HS : Hid (sg (aw n * st % 16777216 / 2) n = -(aw n * st % 16777216 / 2)) := if_pos hz
    go_enter Try.func21, Try.ntmps21
    go_wp2_with fail
    refine (asked_ok H.out.1 H.out.2).mono ?_
    rintro e w' ⟨rfl, rfl⟩
    go_wp2_with fail
    refine (abs_any (by omega) (by omega)).mono ?_
    rintro e w' ⟨rfl, rfl⟩
    go_wp2_with fail
    refine (rscale_ok H.out.2).mono ?_
    rintro e w' ⟨rfl, rfl⟩
    rw [HC.out]
    go_wp2_with fail
    refine rclip_any.mono ?_
    rintro e w' ⟨rfl, rfl⟩
    go_wp2_with fail
    go_ret2
    exact ⟨by rw [HS.out]; rfl, rfl⟩
  · have HS : Hid (sg (aw n * st % 16777216 / 2) n = aw n * st % 16777216 / 2) := if_neg hz
    go_enter Try.func21, Try.ntmps21
    go_wp2_with fail
    refine (asked_ok H.out.1 H.out.2).mono ?_
    rintro e w' ⟨rfl, rfl⟩
    go_wp2_with fail
    refine (abs_any (by omega) (by omega)).mono ?_
    rintro e w' ⟨rfl, rfl⟩
    go_wp2_with fail
    refine (rscale_ok H.out.2).mono ?_
    rintro e w' ⟨rfl, rfl⟩
    rw [HC.out]
    go_wp2_with fail
    refine rclip_any.mono ?_
    rintro e w' ⟨rfl, rfl⟩
    go_wp2_with fail
    go_ret2
    exact ⟨by rw [HS.out]; rfl, rfl⟩
set_option maxRecDepth 100000 in
theorem value_4 {w : World} {n st sz : Int} (h : OkL n st sz) (hs : sft sz = 2) : Calls Try.prog 20 #[.int .i64 n, .int .i64 st, .int .i64 sz] w fun e w' => e = .returned (.tuple #[.int .i64 (cl (sg (aw n * st % 16777216 / 4) n) (-32768) 32767), .int .i64 0]) ∧ w' = w := by
  have H : Hid (OkL n st sz) := h
  obtain ⟨⟨a1, a2, a3, a4⟩, -⟩ := h
  have p0 := aw_lo n
  have p1 := aw_hi ⟨a1, a2⟩
  have m0 : 0 ≤ aw n * st := Int.mul_nonneg p0 (by omega)
  have m1 : aw n * st ≤ 34359738368 := Int.le_trans (Int.mul_le_mul p1 a4 (by omega) (by omega)) (by omega)
  have x0 : 0 ≤ aw n * st % 16777216 / 4 := by omega
  have x1 : aw n * st % 16777216 / 4 ≤ 16777215 := by omega
  go_enter Try.func20, Try.ntmps20
  go_wp2_with fail
  refine (scaleFor_ok H.out.1 H.out.2).mono ?_
  rintro e w' ⟨rfl, rfl⟩
  rw [hs]
  clear hs
  go_wp2_with fail
  refine (away_any (by omega) (by omega)).mono ?_
  rintro e w' ⟨rfl, rfl⟩
  go_wp2_with fail
  rw [and24]
  refine (signed_any (by omega) (by omega)).mono ?_
  rintro e w' ⟨rfl, rfl⟩
  go_wp2_with fail
  refine (clip_any (by omega)).mono ?_
  rintro e w' ⟨rfl, rfl⟩
  go_wp2_with fail
  go_ret2
  exact ⟨rfl, rfl⟩
set_option maxRecDepth 100000 in
theorem rvalue_4 {w : World} {n st sz : Int} (h : OkL n st sz) (hc : scl sz = 4) : Calls Try.prog 21 #[.int .i64 n, .int .i64 st, .int .i64 sz] w fun e w' => e = .returned (.tuple #[.int .i64 (cl (sg (aw n * st % 16777216 / 4) n) (-32768) 32767), .int .i64 0]) ∧ w' = w := by
  have H : Hid (OkL n st sz) := h
  obtain ⟨⟨a1, a2, a3, a4⟩, -⟩ := h
  have p0 := aw_lo n
  have p1 := aw_hi ⟨a1, a2⟩
  have m0 : 0 ≤ aw n * st := Int.mul_nonneg p0 (by omega)
  have m1 : aw n * st ≤ 34359738368 := Int.le_trans (Int.mul_le_mul p1 a4 (by omega) (by omega)) (by omega)
  have x0 : 0 ≤ aw n * st % 16777216 / 4 := by omega
  have x1 : aw n * st % 16777216 / 4 ≤ 16777215 := by omega
  have HC : Hid (scl sz = 4) := hc
  clear hc
  by_cases hz : n < 0
  · have HS : Hid (sg (aw n * st % 16777216 / 4) n = -(aw n * st % 16777216 / 4)) := if_pos hz
    go_enter Try.func21, Try.ntmps21
    go_wp2_with fail
    refine (asked_ok H.out.1 H.out.2).mono ?_
    rintro e w' ⟨rfl, rfl⟩
    go_wp2_with fail
    refine (abs_any (by omega) (by omega)).mono ?_
    rintro e w' ⟨rfl, rfl⟩
    go_wp2_with fail
    refine (rscale_ok H.out.2).mono ?_
    rintro e w' ⟨rfl, rfl⟩
    rw [HC.out]
    go_wp2_with fail
    refine rclip_any.mono ?_
    rintro e w' ⟨rfl, rfl⟩
    go_wp2_with fail
    go_ret2
    exact ⟨by rw [HS.out]; rfl, rfl⟩
  · have HS : Hid (sg (aw n * st % 16777216 / 4) n = aw n * st % 16777216 / 4) := if_neg hz
    go_enter Try.func21, Try.ntmps21
    go_wp2_with fail
    refine (asked_ok H.out.1 H.out.2).mono ?_
    rintro e w' ⟨rfl, rfl⟩
    go_wp2_with fail
    refine (abs_any (by omega) (by omega)).mono ?_
    rintro e w' ⟨rfl, rfl⟩
    go_wp2_with fail
    refine (rscale_ok H.out.2).mono ?_
    rintro e w' ⟨rfl, rfl⟩
    rw [HC.out]
    go_wp2_with fail
    refine rclip_any.mono ?_
    rintro e w' ⟨rfl, rfl⟩
    go_wp2_with fail
    go_ret2
    exact ⟨by rw [HS.out]; rfl, rfl⟩
theorem value_any {w : World} {n st sz : Int} : Calls Try.prog 20 #[.int .i64 n, .int .i64 st, .int .i64 sz] w fun e w' => e = .returned (.tuple #[.int .i64 (vlA n st sz), .int .i64 (lvE n st sz)]) ∧ w' = w := by
  by_cases h : OkL n st sz
  · unfold vlA lvE
    rw [if_pos h, if_pos h]
    unfold val
    rcases sft_scl h.2 with ⟨hs, hc⟩ | ⟨hs, hc⟩ | ⟨hs, hc⟩
    · rw [hc, Int.ediv_one]; exact value_1 h hs
    · rw [hc]; exact value_2 h hs
    · rw [hc]; exact value_4 h hs
  · unfold vlA lvE
    rw [if_neg h, if_neg h]
    exact value_bad h
theorem rvalue_any {w : World} {n st sz : Int} : Calls Try.prog 21 #[.int .i64 n, .int .i64 st, .int .i64 sz] w fun e w' => e = .returned (.tuple #[.int .i64 (vlA n st sz), .int .i64 (lvE n st sz)]) ∧ w' = w := by
  by_cases h : OkL n st sz
  · unfold vlA lvE
    rw [if_pos h, if_pos h]
    unfold val
    rcases sft_scl h.2 with ⟨hs, hc⟩ | ⟨hs, hc⟩ | ⟨hs, hc⟩
    · rw [hc, Int.ediv_one]; exact rvalue_1 h hc
    · rw [hc]; exact rvalue_2 h hc
    · rw [hc]; exact rvalue_4 h hc
  · unfold vlA lvE
    rw [if_neg h, if_neg h]
    exact rvalue_bad h
set_option maxRecDepth 100000 in
theorem works_any {w : World} : Calls Try.prog 17 #[] w fun e w' => e = .returned (.bool true) ∧ w' = w := by
  go_enter Try.func17, Try.ntmps17
  go_wp2_with fail
  refine dc_any.mono ?_
  rintro e w' ⟨rfl, rfl⟩
  rw [show stA 100 (-31) 96 = 122 from by decide, show stE 100 (-31) = 0 from by decide]
  go_wp2_with fail
  refine ac_any.mono ?_
  rintro e w' ⟨rfl, rfl⟩
  rw [show stA 100 10 48 = 366 from by decide, show stE 100 10 = 0 from by decide]
  go_wp2_with fail
  refine level_any.mono ?_
  rintro e w' ⟨rfl, rfl⟩
  rw [show lvA (-100) 7 4 = -14 from by decide, show lvE (-100) 7 4 = 0 from by decide]
  go_wp2_with fail
  refine value_any.mono ?_
  rintro e w' ⟨rfl, rfl⟩
  rw [show vlA 57 7 64 = 99 from by decide, show lvE 57 7 64 = 0 from by decide]
  go_wp2_with fail
  go_ret
  exact ⟨rfl, rfl⟩

end Go.Proofs.Ytaliaoapbjbfaaa
