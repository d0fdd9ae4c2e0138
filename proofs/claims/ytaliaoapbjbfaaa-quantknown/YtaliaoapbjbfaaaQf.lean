/- DERIVED. The walks of Bring, of QuantNear and of QuantBack. -/
import Derived.Test.YtaliaoapbjbfaaaQe
namespace Go.Proofs.Ytaliaoapbjbfaaa
open Go.RowKit

theorem tmod_fix (i n : Int) (h : 0 < n) : (if i.tmod n < 0 then i.tmod n + n else i.tmod n) = i % n := by
  have h1 := Int.tmod_lt_of_pos i h
  rcases Int.lt_or_le i 0 with hi | hi
  · have e := Int.tmod_eq_emod (a := i) (b := n)
    have h2 := Int.emod_nonneg i (by omega : n ≠ 0)
    have h3 := Int.emod_lt_of_pos i h
    rw [e]
    split <;> split at * <;> first | omega | skip
    all_goals simp_all
    all_goals omega
  · have e := Int.tmod_eq_emod_of_nonneg (a := i) (b := n) hi
    have h2 := Int.emod_nonneg i (by omega : n ≠ 0)
    rw [e, if_neg (by omega)]
set_option maxRecDepth 100000 in
set_option maxHeartbeats 400000 in
theorem bring_any {w : World} {i n : Int} (h0 : 0 < n) (h1 : n ≤ 1099511627776) : Calls Try.prog 22 #[.int .i64 i, .int .i64 n] w fun e w' => e = .returned (.int .i64 (i % n)) ∧ w' = w := by
  have HT : Hid ((if i.tmod n < 0 then i.tmod n + n else i.tmod n) = i % n) := tmod_fix i n h0
  have b1 := Int.tmod_lt_of_pos i h0
  have b2 : -n < i.tmod n := by
    have := Int.lt_tmod_of_pos i h0
    omega
  have z : n ≠ 0 := by omega
  have z' : ¬ n ≤ 0 := by omega
  generalize i % n = r at *
  by_cases hz : i.tmod n < 0
  · have HR : Hid (r = i.tmod n + n) := by show _ = _; rw [← HT.out, if_pos hz]
    clear HT
    go_enter Try.func22, Try.ntmps22
    go_wp2_with fail
    go_ret
    exact ⟨by rw [HR.out]; rfl, rfl⟩
  · have HR : Hid (r = i.tmod n) := by show _ = _; rw [← HT.out, if_neg hz]
    clear HT
    go_enter Try.func22, Try.ntmps22
    go_wp2_with fail
    go_ret
    exact ⟨by rw [HR.out]; rfl, rfl⟩

/-- five sizes -/
def sz5 (k : Int) : Int := if k = 0 then 4 else if k = 1 then 8 else if k = 2 then 16 else if k = 3 then 32 else 64
theorem sz5_ok (k : Int) : OkZ (sz5 k) := by unfold sz5 OkZ; repeat (first | split | omega)

theorem scl_small {z : Int} (h : ¬ 16 < z) : scl z = 1 := by unfold scl; rw [if_neg (by omega), if_neg (by omega)]
/-- a row of five sizes that was built -/
theorem five_cells (w : World) (k : Nat) (hk : k < 5) : (w.alloc (Obj.cells #[.int .i64 4, .int .i64 8, .int .i64 16, .int .i64 32, .int .i64 64] 3)).cell? ⟨w.heap.size, k, none⟩ = some (.int .i64 (sz5 k)) := by
  have h : (w.alloc (Obj.cells #[.int .i64 4, .int .i64 8, .int .i64 16, .int .i64 32, .int .i64 64] 3)).heap[w.heap.size]? = some (Obj.cells #[.int .i64 4, .int .i64 8, .int .i64 16, .int .i64 32, .int .i64 64] 3) := heap_alloc_new w _
  simp only [World.cell?, h]
  match k, hk with
  | 0, _ => rfl
  | 1, _ => rfl
  | 2, _ => rfl
  | 3, _ => rfl
  | 4, _ => rfl
theorem okL_of {n st sz : Int} (a1 : -1048576 ≤ n) (a2 : n ≤ 1048576) (a3 : 1 ≤ st) (a4 : st ≤ 32768) (hz : OkZ sz) : OkL n st sz := ⟨⟨a1, a2, a3, a4⟩, hz⟩
theorem lvA_ok {n st sz : Int} (h : OkL n st sz) : lvA n st sz = lev n st (scl sz) := if_pos h
theorem vlA_ok {n st sz : Int} (h : OkL n st sz) : vlA n st sz = val n st (scl sz) := if_pos h
theorem lvE_ok {n st sz : Int} (h : OkL n st sz) : lvE n st sz = 0 := if_pos h
/-- a level that is drawn -/
theorem back_in {T x : Int} (g0 : 1 ≤ T) (g1 : T ≤ 32768) : 0 ≤ 32767 / T ∧ 32767 / T ≤ 32767 ∧ -(32767 / T) ≤ x % (2 * (32767 / T) + 1) - 32767 / T ∧ x % (2 * (32767 / T) + 1) - 32767 / T ≤ 32767 / T ∧ aw (x % (2 * (32767 / T) + 1) - 32767 / T) * T ≤ 32767 := by
  have m0 : 0 ≤ 32767 / T := Int.ediv_nonneg (by omega) (by omega)
  have m1 : 32767 / T ≤ 32767 := Int.ediv_le_self T (by omega)
  have m2 : 32767 / T * T ≤ 32767 := Int.ediv_mul_le 32767 (by omega)
  generalize 32767 / T = M at *
  have r0 := Int.emod_nonneg x (show 2 * M + 1 ≠ 0 by omega)
  have r1 := Int.emod_lt_of_pos x (show 0 < 2 * M + 1 by omega)
  refine ⟨m0, m1, by omega, by omega, ?_⟩
  exact Int.le_trans (Int.mul_le_mul_of_nonneg_right (aw_hi (M := M) ⟨by omega, by omega⟩) (by omega)) m2

set_option maxRecDepth 100000 in
set_option maxHeartbeats 1000000 in
theorem back_walk {w : World} {l0 st0 z0 : Int} : Calls Try.prog 6 #[.int .i64 l0, .int .i64 st0, .int .i64 z0] w fun e w' => e = .returned (.bool true) ∧ Below w.heap.size w w' := by
  obtain ⟨k, hk, hkz⟩ : ∃ k : Nat, k < 5 ∧ z0 % 5 = (k : Int) := ⟨(z0 % 5).toNat, by omega, by omega⟩
  have hz := sz5_ok (k : Int)
  have r0 := Int.emod_nonneg st0 (show (32768 : Int) ≠ 0 by omega)
  have r1 := Int.emod_lt_of_pos st0 (show (0 : Int) < 32768 by omega)
  have HC := five_cells w k hk
  have HB : Hid (Below w.heap.size w (w.alloc (Obj.cells #[.int .i64 4, .int .i64 8, .int .i64 16, .int .i64 32, .int .i64 64] 3))) := from_alloc w _
  have c0 : 0 ≤ (k : Int) := by omega
  have c1 : (k : Int) < 5 := by omega
  generalize hsz : sz5 (k : Int) = z at *
  generalize hr : st0 % 32768 = r at *
  have HKZ : Hid (z0 % 5 = (k : Int)) := hkz
  have HZ : Hid (OkZ z) := hz
  have HR : Hid (st0 % 32768 = r) := hr
  clear hkz hk hsz hz hr
  by_cases h16 : 16 < z
  · by_cases h6 : 6 < 1 + r
    · have g0 : 1 ≤ 1 + r := by omega
      have g1 : 1 + r ≤ 32768 := by omega
      have hs : scl z = 1 ∨ (6 ≤ 1 + r ∧ S3 (scl z)) := Or.inr ⟨by omega, scl_s3 _⟩
      obtain ⟨m0, m1, m2, m3, m4⟩ := back_in (T := 1 + r) (x := l0) g0 g1
      skip
      have HA := back_ar hs m4 g0 g1
      have O1 : Hid (OkL (l0 % (2 * (32767 / (1 + r)) + 1) - 32767 / (1 + r)) (1 + r) z) := okL_of (by omega) (by omega) g0 g1 HZ.out
      have O2 : Hid (OkL (val (l0 % (2 * (32767 / (1 + r)) + 1) - 32767 / (1 + r)) (1 + r) (scl z)) (1 + r) z) := okL_of (by omega) (by omega) g0 g1 HZ.out
      have HL : Hid (lev (val (l0 % (2 * (32767 / (1 + r)) + 1) - 32767 / (1 + r)) (1 + r) (scl z)) (1 + r) (scl z) = l0 % (2 * (32767 / (1 + r)) + 1) - 32767 / (1 + r)) := HA.1
      clear HA hs m4
      go_enter Try.func6, Try.ntmps6
      go_wp2_with fail
      refine works_any.mono ?_
      rintro e w' ⟨rfl, rfl⟩
      go_wp2_with fail
      refine (bring_any (by omega) (by omega)).mono ?_
      rintro e w' ⟨rfl, rfl⟩
      rw [HKZ.out]
      generalize w'.alloc (Obj.cells #[.int .i64 4, .int .i64 8, .int .i64 16, .int .i64 32, .int .i64 64] 3) = u at *
      go_wp2_with fail
      refine (bring_any (by omega) (by omega)).mono ?_
      rintro e w' ⟨rfl, rfl⟩
      rw [HR.out]
      go_wp2_with fail
      refine (bring_any (by omega) (by omega)).mono ?_
      rintro e w' ⟨rfl, rfl⟩
      go_wp2_with fail
      refine value_any.mono ?_
      rintro e w' ⟨rfl, rfl⟩
      rw [vlA_ok O1.out, lvE_ok O1.out]
      go_wp2_with fail
      refine level_any.mono ?_
      rintro e w' ⟨rfl, rfl⟩
      rw [lvA_ok O2.out, lvE_ok O2.out, HL.out]
      go_wp2_with fail
      go_ret
      exact ⟨rfl, HB.out⟩
    · by_cases h7 : 1 + r < 6
      · have g0 : 1 ≤ (6 : Int) := by omega
        have g1 : (6 : Int) ≤ 32768 := by omega
        have hs : scl z = 1 ∨ (6 ≤ (6 : Int) ∧ S3 (scl z)) := Or.inr ⟨by omega, scl_s3 _⟩
        obtain ⟨m0, m1, m2, m3, m4⟩ := back_in (T := (6 : Int)) (x := l0) g0 g1
        rw [show (32767 : Int) / 6 = 5461 from by decide, show (2 * 5461 + 1 : Int) = 10923 from by decide] at m2 m3 m4; have e1 : wrap64 10922 = 10922 := (by unfold wrap64; all_goals omega); have e2 : wrap64 10923 = 10923 := (by unfold wrap64; all_goals omega); have e3 : wrap64 (10922 + 1) = 10923 := (by unfold wrap64; all_goals omega); have e4 : wrap64 (l0 % 10923 - 5461) = l0 % 10923 - 5461 := (by unfold wrap64; all_goals omega)
        have HA := back_ar hs m4 g0 g1
        have O1 : Hid (OkL (l0 % 10923 - 5461) ((6 : Int)) z) := okL_of (by omega) (by omega) g0 g1 HZ.out
        have O2 : Hid (OkL (val (l0 % 10923 - 5461) ((6 : Int)) (scl z)) ((6 : Int)) z) := okL_of (by omega) (by omega) g0 g1 HZ.out
        have HL : Hid (lev (val (l0 % 10923 - 5461) ((6 : Int)) (scl z)) ((6 : Int)) (scl z) = l0 % 10923 - 5461) := HA.1
        clear HA hs m4
        go_enter Try.func6, Try.ntmps6
        go_wp2_with fail
        refine works_any.mono ?_
        rintro e w' ⟨rfl, rfl⟩
        go_wp2_with fail
        refine (bring_any (by omega) (by omega)).mono ?_
        rintro e w' ⟨rfl, rfl⟩
        rw [HKZ.out]
        generalize w'.alloc (Obj.cells #[.int .i64 4, .int .i64 8, .int .i64 16, .int .i64 32, .int .i64 64] 3) = u at *
        go_wp2_with fail
        refine (bring_any (by omega) (by omega)).mono ?_
        rintro e w' ⟨rfl, rfl⟩
        rw [HR.out]
        go_wp2_with fail
        refine (bring_any (by omega) (by omega)).mono ?_
        rintro e w' ⟨rfl, rfl⟩
        go_wp2_with fail
        refine value_any.mono ?_
        rintro e w' ⟨rfl, rfl⟩
        rw [vlA_ok O1.out, lvE_ok O1.out]
        go_wp2_with fail
        refine level_any.mono ?_
        rintro e w' ⟨rfl, rfl⟩
        rw [lvA_ok O2.out, lvE_ok O2.out, HL.out]
        go_wp2_with fail
        go_ret
        exact ⟨rfl, HB.out⟩
      · have g0 : 1 ≤ 1 + r := by omega
        have g1 : 1 + r ≤ 32768 := by omega
        have hs : scl z = 1 ∨ (6 ≤ 1 + r ∧ S3 (scl z)) := Or.inr ⟨by omega, scl_s3 _⟩
        obtain ⟨m0, m1, m2, m3, m4⟩ := back_in (T := 1 + r) (x := l0) g0 g1
        skip
        have HA := back_ar hs m4 g0 g1
        have O1 : Hid (OkL (l0 % (2 * (32767 / (1 + r)) + 1) - 32767 / (1 + r)) (1 + r) z) := okL_of (by omega) (by omega) g0 g1 HZ.out
        have O2 : Hid (OkL (val (l0 % (2 * (32767 / (1 + r)) + 1) - 32767 / (1 + r)) (1 + r) (scl z)) (1 + r) z) := okL_of (by omega) (by omega) g0 g1 HZ.out
        have HL : Hid (lev (val (l0 % (2 * (32767 / (1 + r)) + 1) - 32767 / (1 + r)) (1 + r) (scl z)) (1 + r) (scl z) = l0 % (2 * (32767 / (1 + r)) + 1) - 32767 / (1 + r)) := HA.1
        clear HA hs m4
        go_enter Try.func6, Try.ntmps6
        go_wp2_with fail
        refine works_any.mono ?_
        rintro e w' ⟨rfl, rfl⟩
        go_wp2_with fail
        refine (bring_any (by omega) (by omega)).mono ?_
        rintro e w' ⟨rfl, rfl⟩
        rw [HKZ.out]
        generalize w'.alloc (Obj.cells #[.int .i64 4, .int .i64 8, .int .i64 16, .int .i64 32, .int .i64 64] 3) = u at *
        go_wp2_with fail
        refine (bring_any (by omega) (by omega)).mono ?_
        rintro e w' ⟨rfl, rfl⟩
        rw [HR.out]
        go_wp2_with fail
        refine (bring_any (by omega) (by omega)).mono ?_
        rintro e w' ⟨rfl, rfl⟩
        go_wp2_with fail
        refine value_any.mono ?_
        rintro e w' ⟨rfl, rfl⟩
        rw [vlA_ok O1.out, lvE_ok O1.out]
        go_wp2_with fail
        refine level_any.mono ?_
        rintro e w' ⟨rfl, rfl⟩
        rw [lvA_ok O2.out, lvE_ok O2.out, HL.out]
        go_wp2_with fail
        go_ret
        exact ⟨rfl, HB.out⟩
  · have g0 : 1 ≤ 1 + r := by omega
    have g1 : 1 + r ≤ 32768 := by omega
    have hs : scl z = 1 ∨ (6 ≤ 1 + r ∧ S3 (scl z)) := Or.inl (scl_small h16)
    obtain ⟨m0, m1, m2, m3, m4⟩ := back_in (T := 1 + r) (x := l0) g0 g1
    skip
    have HA := back_ar hs m4 g0 g1
    have O1 : Hid (OkL (l0 % (2 * (32767 / (1 + r)) + 1) - 32767 / (1 + r)) (1 + r) z) := okL_of (by omega) (by omega) g0 g1 HZ.out
    have O2 : Hid (OkL (val (l0 % (2 * (32767 / (1 + r)) + 1) - 32767 / (1 + r)) (1 + r) (scl z)) (1 + r) z) := okL_of (by omega) (by omega) g0 g1 HZ.out
    have HL : Hid (lev (val (l0 % (2 * (32767 / (1 + r)) + 1) - 32767 / (1 + r)) (1 + r) (scl z)) (1 + r) (scl z) = l0 % (2 * (32767 / (1 + r)) + 1) - 32767 / (1 + r)) := HA.1
    clear HA hs m4
    go_enter Try.func6, Try.ntmps6
    go_wp2_with fail
    refine works_any.mono ?_
    rintro e w' ⟨rfl, rfl⟩
    go_wp2_with fail
    refine (bring_any (by omega) (by omega)).mono ?_
    rintro e w' ⟨rfl, rfl⟩
    rw [HKZ.out]
    generalize w'.alloc (Obj.cells #[.int .i64 4, .int .i64 8, .int .i64 16, .int .i64 32, .int .i64 64] 3) = u at *
    go_wp2_with fail
    refine (bring_any (by omega) (by omega)).mono ?_
    rintro e w' ⟨rfl, rfl⟩
    rw [HR.out]
    go_wp2_with fail
    refine (bring_any (by omega) (by omega)).mono ?_
    rintro e w' ⟨rfl, rfl⟩
    go_wp2_with fail
    refine value_any.mono ?_
    rintro e w' ⟨rfl, rfl⟩
    rw [vlA_ok O1.out, lvE_ok O1.out]
    go_wp2_with fail
    refine level_any.mono ?_
    rintro e w' ⟨rfl, rfl⟩
    rw [lvA_ok O2.out, lvE_ok O2.out, HL.out]
    go_wp2_with fail
    go_ret
    exact ⟨rfl, HB.out⟩

end Go.Proofs.Ytaliaoapbjbfaaa
