/- DERIVED. The walk of QuantNear. -/
import Derived.Test.YtaliaoapbjbfaaaQf
namespace Go.Proofs.Ytaliaoapbjbfaaa
open Go.RowKit

/-- what the walk asks of a coefficient, its level and its value -/
structure Nq (c l v st z : Int) : Prop where
  hz : OkZ z
  o1 : OkL c st z
  o2 : OkL l st z
  o3 : OkL (-c) st z
  o4 : OkL (-l) st z
  el : lev c st (scl z) = l
  ev : val l st (scl z) = v
  nr : Nr c l v st (scl z)
theorem nq_of {c st z : Int} (hz : OkZ z) (h0 : -32768 ≤ c) (h1 : c ≤ 32767) (g0 : 1 ≤ st) (g1 : st ≤ 32768) : ∃ l v, Nq c l v st z := by
  have hn := near_ar (scl_s3 z) h0 h1 g0 g1
  have a := hn.la
  have b := hn.lb
  exact ⟨_, _, hz, okL_of (by omega) (by omega) g0 g1 hz, okL_of (by omega) (by omega) g0 g1 hz, okL_of (by omega) (by omega) g0 g1 hz, okL_of (by omega) (by omega) g0 g1 hz, rfl, rfl, hn⟩
theorem ret_bool {a b : Bool} (h : a = b) : Ending.returned (.bool a) = .returned (.bool b) := by rw [h]
theorem scl_two (z : Int) : 1 ≤ scl z ∧ scl z ≤ 4 := by rcases scl_s3 z with h | h | h <;> rw [h] <;> omega

set_option maxRecDepth 100000 in
set_option maxHeartbeats 1000000 in
theorem near_walk {w : World} {x0 st0 z0 : Int} : Calls Try.prog 5 #[.int .i64 x0, .int .i64 st0, .int .i64 z0] w fun e w' => e = .returned (.bool true) ∧ Below w.heap.size w w' := by
  obtain ⟨k, hk, hkz⟩ : ∃ k : Nat, k < 5 ∧ z0 % 5 = (k : Int) := ⟨(z0 % 5).toNat, by omega, by omega⟩
  have hz := sz5_ok (k : Int)
  have y0 := Int.emod_nonneg x0 (show (65536 : Int) ≠ 0 by omega)
  have y1 := Int.emod_lt_of_pos x0 (show (0 : Int) < 65536 by omega)
  have r0 := Int.emod_nonneg st0 (show (32768 : Int) ≠ 0 by omega)
  have r1 := Int.emod_lt_of_pos st0 (show (0 : Int) < 32768 by omega)
  have HC := five_cells w k hk
  have HB : Hid (Below w.heap.size w (w.alloc (Obj.cells #[.int .i64 4, .int .i64 8, .int .i64 16, .int .i64 32, .int .i64 64] 3))) := from_alloc w _
  have c0 : 0 ≤ (k : Int) := by omega
  have c1 : (k : Int) < 5 := by omega
  generalize hsz : sz5 (k : Int) = z at *
  generalize hr : st0 % 32768 = r at *
  generalize hy : x0 % 65536 = y at *
  have HKZ : Hid (z0 % 5 = (k : Int)) := hkz
  have HR : Hid (st0 % 32768 = r) := hr
  have HY : Hid (x0 % 65536 = y) := hy
  obtain ⟨l, v, hn⟩ := nq_of hz (c := y - 32768) (st := 1 + r) (by omega) (by omega) (by omega) (by omega)
  have HN : Hid (Nq (y - 32768) l v (1 + r) z) := hn
  have hla := hn.nr.la
  have hlb := hn.nr.lb
  have hva := hn.nr.a
  have hvb := hn.nr.b
  clear hkz hk hsz hz hr hy hn
  go_enter Try.func5, Try.ntmps5
  go_wp2_with fail
  refine works_any.mono ?_
  rintro e w' ⟨rfl, rfl⟩
  go_wp2_with fail
  refine (bring_any (by omega) (by omega)).mono ?_
  rintro e w' ⟨rfl, rfl⟩
  rw [HY.out]
  go_wp2_with fail
  refine (bring_any (by omega) (by omega)).mono ?_
  rintro e w' ⟨rfl, rfl⟩
  rw [HR.out]
  go_wp2_with fail
  refine (bring_any (by omega) (by omega)).mono ?_
  rintro e w' ⟨rfl, rfl⟩
  rw [HKZ.out]
  generalize w'.alloc (Obj.cells #[.int .i64 4, .int .i64 8, .int .i64 16, .int .i64 32, .int .i64 64] 3) = u at *
  go_wp2_with fail
  refine level_any.mono ?_
  rintro e w' ⟨rfl, rfl⟩
  rw [lvA_ok HN.out.o1, lvE_ok HN.out.o1, HN.out.el]
  go_wp2_with fail
  refine value_any.mono ?_
  rintro e w' ⟨rfl, rfl⟩
  rw [vlA_ok HN.out.o2, lvE_ok HN.out.o2, HN.out.ev]
  go_wp2_with fail
  refine level_any.mono ?_
  rintro e w' ⟨rfl, rfl⟩
  rw [lvA_ok HN.out.o3, lvE_ok HN.out.o3, HN.out.nr.m]
  go_wp2_with fail
  refine value_any.mono ?_
  rintro e w' ⟨rfl, rfl⟩
  rw [vlA_ok HN.out.o4, lvE_ok HN.out.o4]
  generalize hvw : val (-l) (1 + r) (scl z) = vw at *
  have HVW : Hid (aw v < 32767 → vw = -v) := by show _ → _; rw [← hvw]; exact HN.out.nr.w
  clear hvw
  go_wp2_with fail
  refine (abs_any (by omega) (by omega)).mono ?_
  rintro e w' ⟨rfl, rfl⟩
  have hne : ¬ aw v < 32767 ∨ (aw v < 32767 ∧ vw = -v) := by
    by_cases h : aw v < 32767
    · exact Or.inr ⟨h, HVW.out h⟩
    · exact Or.inl h
  rcases hne with ha | ⟨ha, rfl⟩
  · have q1 := HN.out.nr.n
    have q2 := HN.out.nr.g
    have q3 := scl_two z
    generalize hsc : scl z = s at *
    have HSC : Hid (scl z = s) := hsc
    have hq0 := aw_lo (v - (y - 32768))
    have hq1 : aw (v - (y - 32768)) ≤ 65536 := aw_hi ⟨by omega, by omega⟩
    have hq2 : 0 ≤ aw (v - (y - 32768)) * s := Int.mul_nonneg hq0 (by omega)
    have hq3 : aw (v - (y - 32768)) * s ≤ 262144 := Int.le_trans (Int.mul_le_mul hq1 q3.2 (by omega) (by omega)) (by omega)
    have HG : Hid ((v == 0 || decide (y - 32768 < 0) == decide (v < 0)) = true) := by
      show _ = true
      simp only [Bool.or_eq_true, beq_iff_eq, decide_eq_decide]
      exact q2
    clear hsc q2 HVW
    go_wp2_with fail
    refine (abs_any (by omega) (by omega)).mono ?_
    rintro e w' ⟨rfl, rfl⟩
    go_wp2_with fail
    refine (lscale_ok HN.out.hz).mono ?_
    rintro e w' ⟨rfl, rfl⟩
    rw [HSC.out]
    go_wp2_with fail
    refine (lscale_ok HN.out.hz).mono ?_
    rintro e w' ⟨rfl, rfl⟩
    rw [HSC.out]
    go_wp2_with fail
    all_goals
      go_ret
      exact ⟨by first | rfl | exact ret_bool HG.out, HB.out⟩
  · have q1 := HN.out.nr.n
    have q2 := HN.out.nr.g
    have q3 := scl_two z
    generalize hsc : scl z = s at *
    have HSC : Hid (scl z = s) := hsc
    have hq0 := aw_lo (v - (y - 32768))
    have hq1 : aw (v - (y - 32768)) ≤ 65536 := aw_hi ⟨by omega, by omega⟩
    have hq2 : 0 ≤ aw (v - (y - 32768)) * s := Int.mul_nonneg hq0 (by omega)
    have hq3 : aw (v - (y - 32768)) * s ≤ 262144 := Int.le_trans (Int.mul_le_mul hq1 q3.2 (by omega) (by omega)) (by omega)
    have HG : Hid ((v == 0 || decide (y - 32768 < 0) == decide (v < 0)) = true) := by
      show _ = true
      simp only [Bool.or_eq_true, beq_iff_eq, decide_eq_decide]
      exact q2
    clear hsc q2 HVW
    go_wp2_with fail
    refine (abs_any (by omega) (by omega)).mono ?_
    rintro e w' ⟨rfl, rfl⟩
    go_wp2_with fail
    refine (lscale_ok HN.out.hz).mono ?_
    rintro e w' ⟨rfl, rfl⟩
    rw [HSC.out]
    go_wp2_with fail
    refine (lscale_ok HN.out.hz).mono ?_
    rintro e w' ⟨rfl, rfl⟩
    rw [HSC.out]
    go_wp2_with fail
    all_goals
      go_ret
      exact ⟨by first | rfl | exact ret_bool HG.out, HB.out⟩

end Go.Proofs.Ytaliaoapbjbfaaa
