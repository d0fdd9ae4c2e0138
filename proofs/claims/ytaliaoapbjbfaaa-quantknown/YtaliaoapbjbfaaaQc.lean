/- DERIVED. The walks of Level and Value and of the document's. -/
import Derived.Test.YtaliaoapbjbfaaaQb
namespace Go.Proofs.Ytaliaoapbjbfaaa
open Go.RowKit

/-- the level of a coefficient, the value of a level, by a step and a scale (1, 2 or 4) -/
def lev (n st s : Int) : Int := sg (min ((aw n * s + st / 2) / st) 1048576) n
def val (n st s : Int) : Int := cl (sg (aw n * st % 16777216 / s) n) (-32768) 32767
def OkL (n st sz : Int) : Prop := OkN n st ∧ OkZ sz
instance (n st sz : Int) : Decidable (OkL n st sz) := by unfold OkL; infer_instance
def lvA (n st sz : Int) : Int := if OkL n st sz then lev n st (scl sz) else 0
def vlA (n st sz : Int) : Int := if OkL n st sz then val n st (scl sz) else 0
def lvE (n st sz : Int) : Int := if OkL n st sz then 0 else 2
theorem aw_lo (v : Int) : 0 ≤ aw v := by unfold aw; split <;> omega
theorem aw_hi {v M : Int} (h : -M ≤ v ∧ v ≤ M) : aw v ≤ M := by unfold aw; split <;> omega
theorem sft_scl {sz : Int} (h : OkZ sz) : (sft sz = 0 ∧ scl sz = 1) ∨ (sft sz = 1 ∧ scl sz = 2) ∨ (sft sz = 2 ∧ scl sz = 4) := by
  rcases h with rfl | rfl | rfl | rfl | rfl <;> simp [sft, scl]

theorem level_bad {w : World} {n st sz : Int} (h : ¬ OkL n st sz) : Calls Try.prog 18 #[.int .i64 n, .int .i64 st, .int .i64 sz] w fun e w' => e = .returned (.tuple #[.int .i64 0, .int .i64 2]) ∧ w' = w := by
  have H : Hid (¬ OkL n st sz) := h
  clear h
  go_enter Try.func18, Try.ntmps18
  go_wp2_with fail
  refine (scaleFor_bad H.out).mono ?_
  rintro e w' ⟨rfl, rfl⟩
  go_wp2_with fail
  go_ret2
  exact ⟨rfl, rfl⟩
theorem value_bad {w : World} {n st sz : Int} (h : ¬ OkL n st sz) : Calls Try.prog 20 #[.int .i64 n, .int .i64 st, .int .i64 sz] w fun e w' => e = .returned (.tuple #[.int .i64 0, .int .i64 2]) ∧ w' = w := by
  have H : Hid (¬ OkL n st sz) := h
  clear h
  go_enter Try.func20, Try.ntmps20
  go_wp2_with fail
  refine (scaleFor_bad H.out).mono ?_
  rintro e w' ⟨rfl, rfl⟩
  go_wp2_with fail
  go_ret2
  exact ⟨rfl, rfl⟩
theorem rlevel_bad {w : World} {n st sz : Int} (h : ¬ OkL n st sz) : Calls Try.prog 19 #[.int .i64 n, .int .i64 st, .int .i64 sz] w fun e w' => e = .returned (.tuple #[.int .i64 0, .int .i64 2]) ∧ w' = w := by
  have H : Hid (¬ OkL n st sz) := h
  clear h
  go_enter Try.func19, Try.ntmps19
  go_wp2_with fail
  refine (asked_bad H.out).mono ?_
  rintro e w' ⟨rfl, rfl⟩
  go_wp2_with fail
  go_ret2
  exact ⟨rfl, rfl⟩
theorem rvalue_bad {w : World} {n st sz : Int} (h : ¬ OkL n st sz) : Calls Try.prog 21 #[.int .i64 n, .int .i64 st, .int .i64 sz] w fun e w' => e = .returned (.tuple #[.int .i64 0, .int .i64 2]) ∧ w' = w := by
  have H : Hid (¬ OkL n st sz) := h
  clear h
  go_enter Try.func21, Try.ntmps21
  go_wp2_with fail
  refine (asked_bad H.out).mono ?_
  rintro e w' ⟨rfl, rfl⟩
  go_wp2_with fail
  go_ret2
  exact ⟨rfl, rfl⟩
set_option maxRecDepth 100000 in
theorem level_1le {w : World} {n st sz : Int} (h : OkL n st sz) (hs : sft sz = 0) (hc : scl sz = 1) (hx : (aw n + st / 2) / st ≤ 1048576) : Calls Try.prog 18 #[.int .i64 n, .int .i64 st, .int .i64 sz] w fun e w' => e = .returned (.tuple #[.int .i64 (sg ((aw n + st / 2) / st) n), .int .i64 0]) ∧ w' = w := by
  have H : Hid (OkL n st sz) := h
  obtain ⟨⟨a1, a2, a3, a4⟩, -⟩ := h
  have p0 := aw_lo n
  have p1 := aw_hi ⟨a1, a2⟩
  have x0 : 0 ≤ (aw n + st / 2) / st := Int.ediv_nonneg (by omega) (by omega)
  have HC : Hid (scl sz = 1) := hc
  clear hc
  go_enter Try.func18, Try.ntmps18
  go_wp2_with fail
  refine (scaleFor_ok H.out.1 H.out.2).mono ?_
  rintro e w' ⟨rfl, rfl⟩
  rw [hs]
  clear hs
  go_wp2_with fail
  refine (away_any (by omega) (by omega)).mono ?_
  rintro e w' ⟨rfl, rfl⟩
  go_wp2_with fail
  refine (signed_any (by omega) (by omega)).mono ?_
  rintro e w' ⟨rfl, rfl⟩
  go_wp2_with fail
  go_ret2
  exact ⟨rfl, rfl⟩
set_option maxRecDepth 100000 in
theorem rlevel_1le {w : World} {n st sz : Int} (h : OkL n st sz) (hc : scl sz = 1) (hx : (aw n + st / 2) / st ≤ 1048576) : Calls Try.prog 19 #[.int .i64 n, .int .i64 st, .int .i64 sz] w fun e w' => e = .returned (.tuple #[.int .i64 (sg ((aw n + st / 2) / st) n), .int .i64 0]) ∧ w' = w := by
  have H : Hid (OkL n st sz) := h
  obtain ⟨⟨a1, a2, a3, a4⟩, -⟩ := h
  have p0 := aw_lo n
  have p1 := aw_hi ⟨a1, a2⟩
  have x0 : 0 ≤ (aw n + st / 2) / st := Int.ediv_nonneg (by omega) (by omega)
  have HC : Hid (scl sz = 1) := hc
  clear hc
  by_cases hz : n < 0
  · have HS : Hid (sg ((aw n + st / 2) / st) n = -((aw n + st / 2) / st)) := if_pos hz
    go_enter Try.func19, Try.ntmps19
    go_wp2_with fail
    refine (asked_ok H.out.1 H.out.2).mono ?_
    rintro e w' ⟨rfl, rfl⟩
    go_wp2_with fail
    refine (abs_any (by omega) (by omega)).mono ?_
    rintro e w' ⟨rfl, rfl⟩
    go_wp2_with fail
    refine (rscale_ok H.out.2).mono ?_
    rintro e w' ⟨rfl, rfl⟩
    rw [HC.out]
    go_wp2_with fail
    go_ret2
    exact ⟨by rw [HS.out]; rfl, rfl⟩
  · have HS : Hid (sg ((aw n + st / 2) / st) n = (aw n + st / 2) / st) := if_neg hz
    go_enter Try.func19, Try.ntmps19
    go_wp2_with fail
    refine (asked_ok H.out.1 H.out.2).mono ?_
    rintro e w' ⟨rfl, rfl⟩
    go_wp2_with fail
    refine (abs_any (by omega) (by omega)).mono ?_
    rintro e w' ⟨rfl, rfl⟩
    go_wp2_with fail
    refine (rscale_ok H.out.2).mono ?_
    rintro e w' ⟨rfl, rfl⟩
    rw [HC.out]
    go_wp2_with fail
    go_ret2
    exact ⟨by rw [HS.out]; rfl, rfl⟩
set_option maxRecDepth 100000 in
theorem level_1gt {w : World} {n st sz : Int} (h : OkL n st sz) (hs : sft sz = 0) (hc : scl sz = 1) (hx : ¬ (aw n + st / 2) / st ≤ 1048576) : Calls Try.prog 18 #[.int .i64 n, .int .i64 st, .int .i64 sz] w fun e w' => e = .returned (.tuple #[.int .i64 (sg (1048576) n), .int .i64 0]) ∧ w' = w := by
  have H : Hid (OkL n st sz) := h
  obtain ⟨⟨a1, a2, a3, a4⟩, -⟩ := h
  have p0 := aw_lo n
  have p1 := aw_hi ⟨a1, a2⟩
  have x0 : 0 ≤ (aw n + st / 2) / st := Int.ediv_nonneg (by omega) (by omega)
  have HC : Hid (scl sz = 1) := hc
  clear hc
  go_enter Try.func18, Try.ntmps18
  go_wp2_with fail
  refine (scaleFor_ok H.out.1 H.out.2).mono ?_
  rintro e w' ⟨rfl, rfl⟩
  rw [hs]
  clear hs
  go_wp2_with fail
  refine (away_any (by omega) (by omega)).mono ?_
  rintro e w' ⟨rfl, rfl⟩
  go_wp2_with fail
  refine (signed_any (by omega) (by omega)).mono ?_
  rintro e w' ⟨rfl, rfl⟩
  go_wp2_with fail
  go_ret2
  exact ⟨rfl, rfl⟩
set_option maxRecDepth 100000 in
theorem rlevel_1gt {w : World} {n st sz : Int} (h : OkL n st sz) (hc : scl sz = 1) (hx : ¬ (aw n + st / 2) / st ≤ 1048576) : Calls Try.prog 19 #[.int .i64 n, .int .i64 st, .int .i64 sz] w fun e w' => e = .returned (.tuple #[.int .i64 (sg (1048576) n), .int .i64 0]) ∧ w' = w := by
  have H : Hid (OkL n st sz) := h
  obtain ⟨⟨a1, a2, a3, a4⟩, -⟩ := h
  have p0 := aw_lo n
  have p1 := aw_hi ⟨a1, a2⟩
  have x0 : 0 ≤ (aw n + st / 2) / st := Int.ediv_nonneg (by omega) (by omega)
  have HC : Hid (scl sz = 1) := hc
  clear hc
  by_cases hz : n < 0
  · have HS : Hid (sg (1048576) n = -(1048576)) := if_pos hz
    go_enter Try.func19, Try.ntmps19
    go_wp2_with fail
    refine (asked_ok H.out.1 H.out.2).mono ?_
    rintro e w' ⟨rfl, rfl⟩
    go_wp2_with fail
    refine (abs_any (by omega) (by omega)).mono ?_
    rintro e w' ⟨rfl, rfl⟩
    go_wp2_with fail
    refine (rscale_ok H.out.2).mono ?_
    rintro e w' ⟨rfl, rfl⟩
    rw [HC.out]
    go_wp2_with fail
    go_ret2
    exact ⟨by rw [HS.out]; rfl, rfl⟩
  · have HS : Hid (sg (1048576) n = 1048576) := if_neg hz
    go_enter Try.func19, Try.ntmps19
    go_wp2_with fail
    refine (asked_ok H.out.1 H.out.2).mono ?_
    rintro e w' ⟨rfl, rfl⟩
    go_wp2_with fail
    refine (abs_any (by omega) (by omega)).mono ?_
    rintro e w' ⟨rfl, rfl⟩
    go_wp2_with fail
    refine (rscale_ok H.out.2).mono ?_
    rintro e w' ⟨rfl, rfl⟩
    rw [HC.out]
    go_wp2_with fail
    go_ret2
    exact ⟨by rw [HS.out]; rfl, rfl⟩
set_option maxRecDepth 100000 in
theorem level_2le {w : World} {n st sz : Int} (h : OkL n st sz) (hs : sft sz = 1) (hc : scl sz = 2) (hx : (aw n * 2 + st / 2) / st ≤ 1048576) : Calls Try.prog 18 #[.int .i64 n, .int .i64 st, .int .i64 sz] w fun e w' => e = .returned (.tuple #[.int .i64 (sg ((aw n * 2 + st / 2) / st) n), .int .i64 0]) ∧ w' = w := by
  have H : Hid (OkL n st sz) := h
  obtain ⟨⟨a1, a2, a3, a4⟩, -⟩ := h
  have p0 := aw_lo n
  have p1 := aw_hi ⟨a1, a2⟩
  have x0 : 0 ≤ (aw n * 2 + st / 2) / st := Int.ediv_nonneg (by omega) (by omega)
  have HC : Hid (scl sz = 2) := hc
  clear hc
  go_enter Try.func18, Try.ntmps18
  go_wp2_with fail
  refine (scaleFor_ok H.out.1 H.out.2).mono ?_
  rintro e w' ⟨rfl, rfl⟩
  rw [hs]
  clear hs
  go_wp2_with fail
  refine (away_any (by omega) (by omega)).mono ?_
  rintro e w' ⟨rfl, rfl⟩
  go_wp2_with fail
  refine (signed_any (by omega) (by omega)).mono ?_
  rintro e w' ⟨rfl, rfl⟩
  go_wp2_with fail
  go_ret2
  exact ⟨rfl, rfl⟩
set_option maxRecDepth 100000 in
theorem rlevel_2le {w : World} {n st sz : Int} (h : OkL n st sz) (hc : scl sz = 2) (hx : (aw n * 2 + st / 2) / st ≤ 1048576) : Calls Try.prog 19 #[.int .i64 n, .int .i64 st, .int .i64 sz] w fun e w' => e = .returned (.tuple #[.int .i64 (sg ((aw n * 2 + st / 2) / st) n), .int .i64 0]) ∧ w' = w := by
  have H : Hid (OkL n st sz) := h
  obtain ⟨⟨a1, a2, a3, a4⟩, -⟩ := h
  have p0 := aw_lo n
  have p1 := aw_hi ⟨a1, a2⟩
  have x0 : 0 ≤ (aw n * 2 + st / 2) / st := Int.ediv_nonneg (by omega) (by omega)
  have HC : Hid (scl sz = 2) := hc
  clear hc
  by_cases hz : n < 0
  · have HS : Hid (sg ((aw n * 2 + st / 2) / st) n = -((aw n * 2 + st / 2) / st)) := if_pos hz
    go_enter Try.func19, Try.ntmps19
    go_wp2_with fail
    refine (asked_ok H.out.1 H.out.2).mono ?_
    rintro e w' ⟨rfl, rfl⟩
    go_wp2_with fail
    refine (abs_any (by omega) (by omega)).mono ?_
    rintro e w' ⟨rfl, rfl⟩
    go_wp2_with fail
    refine (rscale_ok H.out.2).mono ?_
    rintro e w' ⟨rfl, rfl⟩
    rw [HC.out]
    go_wp2_with fail
    go_ret2
    exact ⟨by rw [HS.out]; rfl, rfl⟩
  · have HS : Hid (sg ((aw n * 2 + st / 2) / st) n = (aw n * 2 + st / 2) / st) := if_neg hz
    go_enter Try.func19, Try.ntmps19
    go_wp2_with fail
    refine (asked_ok H.out.1 H.out.2).mono ?_
    rintro e w' ⟨rfl, rfl⟩
    go_wp2_with fail
    refine (abs_any (by omega) (by omega)).mono ?_
    rintro e w' ⟨rfl, rfl⟩
    go_wp2_with fail
    refine (rscale_ok H.out.2).mono ?_
    rintro e w' ⟨rfl, rfl⟩
    rw [HC.out]
    go_wp2_with fail
    go_ret2
    exact ⟨by rw [HS.out]; rfl, rfl⟩
set_option maxRecDepth 100000 in
theorem level_2gt {w : World} {n st sz : Int} (h : OkL n st sz) (hs : sft sz = 1) (hc : scl sz = 2) (hx : ¬ (aw n * 2 + st / 2) / st ≤ 1048576) : Calls Try.prog 18 #[.int .i64 n, .int .i64 st, .int .i64 sz] w fun e w' => e = .returned (.tuple #[.int .i64 (sg (1048576) n), .int .i64 0]) ∧ w' = w := by
  have H : Hid (OkL n st sz) := h
  obtain ⟨⟨a1, a2, a3, a4⟩, -⟩ := h
  have p0 := aw_lo n
  have p1 := aw_hi ⟨a1, a2⟩
  have x0 : 0 ≤ (aw n * 2 + st / 2) / st := Int.ediv_nonneg (by omega) (by omega)
  have HC : Hid (scl sz = 2) := hc
  clear hc
  go_enter Try.func18, Try.ntmps18
  go_wp2_with fail
  refine (scaleFor_ok H.out.1 H.out.2).mono ?_
  rintro e w' ⟨rfl, rfl⟩
  rw [hs]
  clear hs
  go_wp2_with fail
  refine (away_any (by omega) (by omega)).mono ?_
  rintro e w' ⟨rfl, rfl⟩
  go_wp2_with fail
  refine (signed_any (by omega) (by omega)).mono ?_
  rintro e w' ⟨rfl, rfl⟩
  go_wp2_with fail
  go_ret2
  exact ⟨rfl, rfl⟩
set_option maxRecDepth 100000 in
theorem rlevel_2gt {w : World} {n st sz : Int} (h : OkL n st sz) (hc : scl sz = 2) (hx : ¬ (aw n * 2 + st / 2) / st ≤ 1048576) : Calls Try.prog 19 #[.int .i64 n, .int .i64 st, .int .i64 sz] w fun e w' => e = .returned (.tuple #[.int .i64 (sg (1048576) n), .int .i64 0]) ∧ w' = w := by
  have H : Hid (OkL n st sz) := h
  obtain ⟨⟨a1, a2, a3, a4⟩, -⟩ := h
  have p0 := aw_lo n
  have p1 := aw_hi ⟨a1, a2⟩
  have x0 : 0 ≤ (aw n * 2 + st / 2) / st := Int.ediv_nonneg (by omega) (by omega)
  have HC : Hid (scl sz = 2) := hc
  clear hc
  by_cases hz : n < 0
  · have HS : Hid (sg (1048576) n = -(1048576)) := if_pos hz
    go_enter Try.func19, Try.ntmps19
    go_wp2_with fail
    refine (asked_ok H.out.1 H.out.2).mono ?_
    rintro e w' ⟨rfl, rfl⟩
    go_wp2_with fail
    refine (abs_any (by omega) (by omega)).mono ?_
    rintro e w' ⟨rfl, rfl⟩
    go_wp2_with fail
    refine (rscale_ok H.out.2).mono ?_
    rintro e w' ⟨rfl, rfl⟩
    rw [HC.out]
    go_wp2_with fail
    go_ret2
    exact ⟨by rw [HS.out]; rfl, rfl⟩
  · have HS : Hid (sg (1048576) n = 1048576) := if_neg hz
    go_enter Try.func19, Try.ntmps19
    go_wp2_with fail
    refine (asked_ok H.out.1 H.out.2).mono ?_
    rintro e w' ⟨rfl, rfl⟩
    go_wp2_with fail
    refine (abs_any (by omega) (by omega)).mono ?_
    rintro e w' ⟨rfl, rfl⟩
    go_wp2_with fail
    refine (rscale_ok H.out.2).mono ?_
    rintro e w' ⟨rfl, rfl⟩
    rw [HC.out]
    go_wp2_with fail
    go_ret2
    exact ⟨by rw [HS.out]; rfl, rfl⟩
set_option maxRecDepth 100000 in
theorem level_4le {w : World} {n st sz : Int} (h : OkL n st sz) (hs : sft sz = 2) (hc : scl sz = 4) (hx : (aw n * 4 + st / 2) / st ≤ 1048576) : Calls Try.prog 18 #[.int .i64 n, .int .i64 st, .int .i64 sz] w fun e w' => e = .returned (.tuple #[.int .i64 (sg ((aw n * 4 + st / 2) / st) n), .int .i64 0]) ∧ w' = w := by
  have H : Hid (OkL n st sz) := h
  obtain ⟨⟨a1, a2, a3, a4⟩, -⟩ := h
  have p0 := aw_lo n
  have p1 := aw_hi ⟨a1, a2⟩
  have x0 : 0 ≤ (aw n * 4 + st / 2) / st := Int.ediv_nonneg (by omega) (by omega)
  have HC : Hid (scl sz = 4) := hc
  clear hc
  go_enter Try.func18, Try.ntmps18
  go_wp2_with fail
  refine (scaleFor_ok H.out.1 H.out.2).mono ?_
  rintro e w' ⟨rfl, rfl⟩
  rw [hs]
  clear hs
  go_wp2_with fail
  refine (away_any (by omega) (by omega)).mono ?_
  rintro e w' ⟨rfl, rfl⟩
  go_wp2_with fail
  refine (signed_any (by omega) (by omega)).mono ?_
  rintro e w' ⟨rfl, rfl⟩
  go_wp2_with fail
  go_ret2
  exact ⟨rfl, rfl⟩
set_option maxRecDepth 100000 in
theorem rlevel_4le {w : World} {n st sz : Int} (h : OkL n st sz) (hc : scl sz = 4) (hx : (aw n * 4 + st / 2) / st ≤ 1048576) : Calls Try.prog 19 #[.int .i64 n, .int .i64 st, .int .i64 sz] w fun e w' => e = .returned (.tuple #[.int .i64 (sg ((aw n * 4 + st / 2) / st) n), .int .i64 0]) ∧ w' = w := by
  have H : Hid (OkL n st sz) := h
  obtain ⟨⟨a1, a2, a3, a4⟩, -⟩ := h
  have p0 := aw_lo n
  have p1 := aw_hi ⟨a1, a2⟩
  have x0 : 0 ≤ (aw n * 4 + st / 2) / st := Int.ediv_nonneg (by omega) (by omega)
  have HC : Hid (scl sz = 4) := hc
  clear hc
  by_cases hz : n < 0
  · have HS : Hid (sg ((aw n * 4 + st / 2) / st) n = -((aw n * 4 + st / 2) / st)) := if_pos hz
    go_enter Try.func19, Try.ntmps19
    go_wp2_with fail
    refine (asked_ok H.out.1 H.out.2).mono ?_
    rintro e w' ⟨rfl, rfl⟩
    go_wp2_with fail
    refine (abs_any (by omega) (by omega)).mono ?_
    rintro e w' ⟨rfl, rfl⟩
    go_wp2_with fail
    refine (rscale_ok H.out.2).mono ?_
    rintro e w' ⟨rfl, rfl⟩
    rw [HC.out]
    go_wp2_with fail
    go_ret2
    exact ⟨by rw [HS.out]; rfl, rfl⟩
  · have HS : Hid (sg ((aw n * 4 + st / 2) / st) n = (aw n * 4 + st / 2) / st) := if_neg hz
    go_enter Try.func19, Try.ntmps19
    go_wp2_with fail
    refine (asked_ok H.out.1 H.out.2).mono ?_
    rintro e w' ⟨rfl, rfl⟩
    go_wp2_with fail
    refine (abs_any (by omega) (by omega)).mono ?_
    rintro e w' ⟨rfl, rfl⟩
    go_wp2_with fail
    refine (rscale_ok H.out.2).mono ?_
    rintro e w' ⟨rfl, rfl⟩
    rw [HC.out]
    go_wp2_with fail
    go_ret2
    exact ⟨by rw [HS.out]; rfl, rfl⟩
set_option maxRecDepth 100000 in
theorem level_4gt {w : World} {n st sz : Int} (h : OkL n st sz) (hs : sft sz = 2) (hc : scl sz = 4) (hx : ¬ (aw n * 4 + st / 2) / st ≤ 1048576) : Calls Try.prog 18 #[.int .i64 n, .int .i64 st, .int .i64 sz] w fun e w' => e = .returned (.tuple #[.int .i64 (sg (1048576) n), .int .i64 0]) ∧ w' = w := by
  have H : Hid (OkL n st sz) := h
  obtain ⟨⟨a1, a2, a3, a4⟩, -⟩ := h
  have p0 := aw_lo n
  have p1 := aw_hi ⟨a1, a2⟩
  have x0 : 0 ≤ (aw n * 4 + st / 2) / st := Int.ediv_nonneg (by omega) (by omega)
  have HC : Hid (scl sz = 4) := hc
  clear hc
  go_enter Try.func18, Try.ntmps18
  go_wp2_with fail
  refine (scaleFor_ok H.out.1 H.out.2).mono ?_
  rintro e w' ⟨rfl, rfl⟩
  rw [hs]
  clear hs
  go_wp2_with fail
  refine (away_any (by omega) (by omega)).mono ?_
  rintro e w' ⟨rfl, rfl⟩
  go_wp2_with fail
  refine (signed_any (by omega) (by omega)).mono ?_
  rintro e w' ⟨rfl, rfl⟩
  go_wp2_with fail
  go_ret2
  exact ⟨rfl, rfl⟩
set_option maxRecDepth 100000 in
theorem rlevel_4gt {w : World} {n st sz : Int} (h : OkL n st sz) (hc : scl sz = 4) (hx : ¬ (aw n * 4 + st / 2) / st ≤ 1048576) : Calls Try.prog 19 #[.int .i64 n, .int .i64 st, .int .i64 sz] w fun e w' => e = .returned (.tuple #[.int .i64 (sg (1048576) n), .int .i64 0]) ∧ w' = w := by
  have H : Hid (OkL n st sz) := h
  obtain ⟨⟨a1, a2, a3, a4⟩, -⟩ := h
  have p0 := aw_lo n
  have p1 := aw_hi ⟨a1, a2⟩
  have x0 : 0 ≤ (aw n * 4 + st / 2) / st := Int.ediv_nonneg (by omega) (by omega)
  have HC : Hid (scl sz = 4) := hc
  clear hc
  by_cases hz : n < 0
  · have HS : Hid (sg (1048576) n = -(1048576)) := if_pos hz
    go_enter Try.func19, Try.ntmps19
    go_wp2_with fail
    refine (asked_ok H.out.1 H.out.2).mono ?_
    rintro e w' ⟨rfl, rfl⟩
    go_wp2_with fail
    refine (abs_any (by omega) (by omega)).mono ?_
    rintro e w' ⟨rfl, rfl⟩
    go_wp2_with fail
    refine (rscale_ok H.out.2).mono ?_
    rintro e w' ⟨rfl, rfl⟩
    rw [HC.out]
    go_wp2_with fail
    go_ret2
    exact ⟨by rw [HS.out]; rfl, rfl⟩
  · have HS : Hid (sg (1048576) n = 1048576) := if_neg hz
    go_enter Try.func19, Try.ntmps19
    go_wp2_with fail
    refine (asked_ok H.out.1 H.out.2).mono ?_
    rintro e w' ⟨rfl, rfl⟩
    go_wp2_with fail
    refine (abs_any (by omega) (by omega)).mono ?_
    rintro e w' ⟨rfl, rfl⟩
    go_wp2_with fail
    refine (rscale_ok H.out.2).mono ?_
    rintro e w' ⟨rfl, rfl⟩
    rw [HC.out]
    go_wp2_with fail
    go_ret2
    exact ⟨by rw [HS.out]; rfl, rfl⟩
theorem lev_le {n st s x : Int} (hx : (aw n * s + st / 2) / st = x) (h : x ≤ 1048576) : lev n st s = sg x n := by unfold lev; rw [hx, Int.min_eq_left h]
theorem lev_gt {n st s x : Int} (hx : (aw n * s + st / 2) / st = x) (h : ¬ x ≤ 1048576) : lev n st s = sg 1048576 n := by unfold lev; rw [hx, Int.min_eq_right (by omega)]
theorem level_any {w : World} {n st sz : Int} : Calls Try.prog 18 #[.int .i64 n, .int .i64 st, .int .i64 sz] w fun e w' => e = .returned (.tuple #[.int .i64 (lvA n st sz), .int .i64 (lvE n st sz)]) ∧ w' = w := by
  by_cases h : OkL n st sz
  · unfold lvA lvE
    rw [if_pos h, if_pos h]
    rcases sft_scl h.2 with ⟨hs, hc⟩ | ⟨hs, hc⟩ | ⟨hs, hc⟩
    · rw [hc]
      by_cases hx : (aw n + st / 2) / st ≤ 1048576
      · rw [lev_le (s := 1) (by rw [Int.mul_one]) hx]; exact level_1le h hs hc hx
      · rw [lev_gt (s := 1) (by rw [Int.mul_one]) hx]; exact level_1gt h hs hc hx
    · rw [hc]
      by_cases hx : (aw n * 2 + st / 2) / st ≤ 1048576
      · rw [lev_le (s := 2) (rfl) hx]; exact level_2le h hs hc hx
      · rw [lev_gt (s := 2) (rfl) hx]; exact level_2gt h hs hc hx
    · rw [hc]
      by_cases hx : (aw n * 4 + st / 2) / st ≤ 1048576
      · rw [lev_le (s := 4) (rfl) hx]; exact level_4le h hs hc hx
      · rw [lev_gt (s := 4) (rfl) hx]; exact level_4gt h hs hc hx
  · unfold lvA lvE
    rw [if_neg h, if_neg h]
    exact level_bad h
theorem rlevel_any {w : World} {n st sz : Int} : Calls Try.prog 19 #[.int .i64 n, .int .i64 st, .int .i64 sz] w fun e w' => e = .returned (.tuple #[.int .i64 (lvA n st sz), .int .i64 (lvE n st sz)]) ∧ w' = w := by
  by_cases h : OkL n st sz
  · unfold lvA lvE
    rw [if_pos h, if_pos h]
    rcases sft_scl h.2 with ⟨hs, hc⟩ | ⟨hs, hc⟩ | ⟨hs, hc⟩
    · rw [hc]
      by_cases hx : (aw n + st / 2) / st ≤ 1048576
      · rw [lev_le (s := 1) (by rw [Int.mul_one]) hx]; exact rlevel_1le h hc hx
      · rw [lev_gt (s := 1) (by rw [Int.mul_one]) hx]; exact rlevel_1gt h hc hx
    · rw [hc]
      by_cases hx : (aw n * 2 + st / 2) / st ≤ 1048576
      · rw [lev_le (s := 2) (rfl) hx]; exact rlevel_2le h hc hx
      · rw [lev_gt (s := 2) (rfl) hx]; exact rlevel_2gt h hc hx
    · rw [hc]
      by_cases hx : (aw n * 4 + st / 2) / st ≤ 1048576
      · rw [lev_le (s := 4) (rfl) hx]; exact rlevel_4le h hc hx
      · rw [lev_gt (s := 4) (rfl) hx]; exact rlevel_4gt h hc hx
  · unfold lvA lvE
    rw [if_neg h, if_neg h]
    exact rlevel_bad h

end Go.Proofs.Ytaliaoapbjbfaaa
