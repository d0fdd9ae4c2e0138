/- DERIVED. Bring. -/
import Derived.Test.YtppofodijlofdaaGb
namespace Go.Proofs.Ytppofodijlofdaa
open Go.RowKit

theorem tmod_fix (i n : Int) (h : 0 < n) : (if i.tmod n < 0 then i.tmod n + n else i.tmod n) = i % n := by
  have h1 := Int.tmod_lt_of_pos i h
  rcases Int.lt_or_le i 0 with hi | hi
  · have e := Int.tmod_eq_emod (a := i) (b := n)
    have h2 := Int.emod_nonneg i (by omega : n ≠ 0)
    have h3 := Int.emod_lt_of_pos i h
    rw [e]
    split <;> split at * <;> first | omega | skip
    all_goals simp_all
    all_goals omega
  · have e := Int.tmod_eq_emod_of_nonneg (a := i) (b := n) hi
    have h2 := Int.emod_nonneg i (by omega : n ≠ 0)
    rw [e, if_neg (by omega)]

set_option maxRecDepth 100000 in
set_option maxHeartbeats 400000 in
theorem bring_any {w : World} {i n : Int} (h0 : 0 < n) (h1 : n ≤ 1099511627776) : Calls Try.prog 16 #[.int .i64 i, .int .i64 n] w fun e w' => e = .returned (.int .i64 (i % n)) ∧ w = w' := by
  have HT : Hid ((if i.tmod n < 0 then i.tmod n + n else i.tmod n) = i % n) := tmod_fix i n h0
  have b1 := Int.tmod_lt_of_pos i h0
  have b2 : -n < i.tmod n := by
    have := Int.lt_tmod_of_pos i h0
    omega
  have z : n ≠ 0 := by omega
  have z' : ¬ n ≤ 0 := by omega
  generalize i % n = r at *
  by_cases hz : i.tmod n < 0
  · have HR : Hid (r = i.tmod n + n) := by show _ = _; rw [← HT.out, if_pos hz]
    clear HT
    go_enter Try.func16, Try.ntmps16
    go_wp2_with fail
    go_ret
    exact ⟨by rw [HR.out]; rfl, rfl⟩
  · have HR : Hid (r = i.tmod n) := by show _ = _; rw [← HT.out, if_neg hz]
    clear HT
    go_enter Try.func16, Try.ntmps16
    go_wp2_with fail
    go_ret
    exact ⟨by rw [HR.out]; rfl, rfl⟩

end Go.Proofs.Ytppofodijlofdaa
