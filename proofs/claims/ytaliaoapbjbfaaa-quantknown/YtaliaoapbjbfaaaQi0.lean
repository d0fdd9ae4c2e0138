/- DERIVED. Arrays compared. -/
import Derived.Test.YtaliaoapbjbfaaaQd
import Derived.ChangeKeysEq
namespace Go.Proofs.Ytaliaoapbjbfaaa
open Go.RowKit

theorem pk3 : Try.prog.plainKey 3 = true := by kernel_rfl
theorem Try.cells3' : Try.prog.cellsOf 3 = 1 := by kernel_rfl
theorem Try.cells32' : Try.prog.cellsOf 32 = 2 := by kernel_rfl
theorem eq5d (k : Nat) (a b c d e a' b' c' d' e' : Int) (u : World) : (Op.equalIn (k + 2) 23 (.agg #[.int .i64 a, .int .i64 b, .int .i64 c, .int .i64 d, .int .i64 e]) (.agg #[.int .i64 a', .int .i64 b', .int .i64 c', .int .i64 d', .int .i64 e'])).run Try.prog u = .ok (decide (a = a' ∧ b = b' ∧ c = c' ∧ d = d' ∧ e = e')) u := by
  obtain ⟨i, hi⟩ : ∃ i, Try.prog.info? 3 = some i := ⟨_, rfl⟩
  rw [run_equalIn_array u (k + 1) _ _ Try.underlying23 hi, Try.cells3']
  have er : List.range 5 = [0, 1, 2, 3, 4] := rfl
  rw [er]
  have p0 : (part 3 #[.int .i64 a, .int .i64 b, .int .i64 c, .int .i64 d, .int .i64 e] 0).run Try.prog u = .ok (.int .i64 a) u := run_part_plain u pk3 rfl
  have q0 : (part 3 #[.int .i64 a', .int .i64 b', .int .i64 c', .int .i64 d', .int .i64 e'] 0).run Try.prog u = .ok (.int .i64 a') u := run_part_plain u pk3 rfl
  have p1 : (part 3 #[.int .i64 a, .int .i64 b, .int .i64 c, .int .i64 d, .int .i64 e] 1).run Try.prog u = .ok (.int .i64 b) u := run_part_plain u pk3 rfl
  have q1 : (part 3 #[.int .i64 a', .int .i64 b', .int .i64 c', .int .i64 d', .int .i64 e'] 1).run Try.prog u = .ok (.int .i64 b') u := run_part_plain u pk3 rfl
  have p2 : (part 3 #[.int .i64 a, .int .i64 b, .int .i64 c, .int .i64 d, .int .i64 e] 2).run Try.prog u = .ok (.int .i64 c) u := run_part_plain u pk3 rfl
  have q2 : (part 3 #[.int .i64 a', .int .i64 b', .int .i64 c', .int .i64 d', .int .i64 e'] 2).run Try.prog u = .ok (.int .i64 c') u := run_part_plain u pk3 rfl
  have p3 : (part 3 #[.int .i64 a, .int .i64 b, .int .i64 c, .int .i64 d, .int .i64 e] 3).run Try.prog u = .ok (.int .i64 d) u := run_part_plain u pk3 rfl
  have q3 : (part 3 #[.int .i64 a', .int .i64 b', .int .i64 c', .int .i64 d', .int .i64 e'] 3).run Try.prog u = .ok (.int .i64 d') u := run_part_plain u pk3 rfl
  have p4 : (part 3 #[.int .i64 a, .int .i64 b, .int .i64 c, .int .i64 d, .int .i64 e] 4).run Try.prog u = .ok (.int .i64 e) u := run_part_plain u pk3 rfl
  have q4 : (part 3 #[.int .i64 a', .int .i64 b', .int .i64 c', .int .i64 d', .int .i64 e'] 4).run Try.prog u = .ok (.int .i64 e') u := run_part_plain u pk3 rfl
  simp only [Op.eqItems, Nat.mul_one, Sem.run_bind, p0, q0, p1, q1, p2, q2, p3, q3, p4, q4, Result.andThen_ok, run_equalIn_int _ _ _ _ _ _ _ Try.underlying3, Sem.run_ite, Sem.run_pure]
  by_cases h : a = a' ∧ b = b' ∧ c = c' ∧ d = d' ∧ e = e'
  · obtain ⟨rfl, rfl, rfl, rfl, rfl⟩ := h
    simp
  · rw [decide_eq_false h]
    repeat' split
    all_goals simp_all
theorem eq2d (k : Nat) (a b a' b' : Int) (u : World) : (Op.equalIn (k + 2) 32 (.agg #[.int .i64 a, .int .i64 b]) (.agg #[.int .i64 a', .int .i64 b'])).run Try.prog u = .ok (decide (a = a' ∧ b = b')) u := by
  obtain ⟨i, hi⟩ : ∃ i, Try.prog.info? 3 = some i := ⟨_, rfl⟩
  rw [run_equalIn_array u (k + 1) _ _ Try.underlying32 hi, Try.cells3']
  have er : List.range 2 = [0, 1] := rfl
  rw [er]
  have p0 : (part 3 #[.int .i64 a, .int .i64 b] 0).run Try.prog u = .ok (.int .i64 a) u := run_part_plain u pk3 rfl
  have q0 : (part 3 #[.int .i64 a', .int .i64 b'] 0).run Try.prog u = .ok (.int .i64 a') u := run_part_plain u pk3 rfl
  have p1 : (part 3 #[.int .i64 a, .int .i64 b] 1).run Try.prog u = .ok (.int .i64 b) u := run_part_plain u pk3 rfl
  have q1 : (part 3 #[.int .i64 a', .int .i64 b'] 1).run Try.prog u = .ok (.int .i64 b') u := run_part_plain u pk3 rfl
  simp only [Op.eqItems, Nat.mul_one, Sem.run_bind, p0, q0, p1, q1, Result.andThen_ok, run_equalIn_int _ _ _ _ _ _ _ Try.underlying3, Sem.run_ite, Sem.run_pure]
  by_cases h : a = a' ∧ b = b'
  · obtain ⟨rfl, rfl⟩ := h
    simp
  · rw [decide_eq_false h]
    repeat' split
    all_goals simp_all
theorem eq6d (k : Nat) (a b c d e f a' b' c' d' e' f' : Int) (u : World) : (Op.equalIn (k + 3) 33 (.agg #[.int .i64 a, .int .i64 b, .int .i64 c, .int .i64 d, .int .i64 e, .int .i64 f]) (.agg #[.int .i64 a', .int .i64 b', .int .i64 c', .int .i64 d', .int .i64 e', .int .i64 f'])).run Try.prog u = .ok (decide (a = a' ∧ b = b' ∧ c = c' ∧ d = d' ∧ e = e' ∧ f = f')) u := by
  obtain ⟨i, hi⟩ : ∃ i, Try.prog.info? 32 = some i := ⟨_, rfl⟩
  rw [run_equalIn_array u (k + 2) _ _ Try.underlying33 hi, Try.cells32']
  have er : List.range 3 = [0, 1, 2] := rfl
  rw [er]
  have p0 : (part 32 #[.int .i64 a, .int .i64 b, .int .i64 c, .int .i64 d, .int .i64 e, .int .i64 f] 0).run Try.prog u = .ok (.agg #[.int .i64 a, .int .i64 b]) u := by kernel_rfl
  have q0 : (part 32 #[.int .i64 a', .int .i64 b', .int .i64 c', .int .i64 d', .int .i64 e', .int .i64 f'] 0).run Try.prog u = .ok (.agg #[.int .i64 a', .int .i64 b']) u := by kernel_rfl
  have p1 : (part 32 #[.int .i64 a, .int .i64 b, .int .i64 c, .int .i64 d, .int .i64 e, .int .i64 f] 2).run Try.prog u = .ok (.agg #[.int .i64 c, .int .i64 d]) u := by kernel_rfl
  have q1 : (part 32 #[.int .i64 a', .int .i64 b', .int .i64 c', .int .i64 d', .int .i64 e', .int .i64 f'] 2).run Try.prog u = .ok (.agg #[.int .i64 c', .int .i64 d']) u := by kernel_rfl
  have p2 : (part 32 #[.int .i64 a, .int .i64 b, .int .i64 c, .int .i64 d, .int .i64 e, .int .i64 f] 4).run Try.prog u = .ok (.agg #[.int .i64 e, .int .i64 f]) u := by kernel_rfl
  have q2 : (part 32 #[.int .i64 a', .int .i64 b', .int .i64 c', .int .i64 d', .int .i64 e', .int .i64 f'] 4).run Try.prog u = .ok (.agg #[.int .i64 e', .int .i64 f']) u := by kernel_rfl
  simp only [Op.eqItems, Nat.zero_mul, Nat.one_mul, Nat.reduceMul, Sem.run_bind, p0, q0, p1, q1, p2, q2, Result.andThen_ok, eq2d, Sem.run_ite, Sem.run_pure]
  by_cases h : a = a' ∧ b = b' ∧ c = c' ∧ d = d' ∧ e = e' ∧ f = f'
  · obtain ⟨rfl, rfl, rfl, rfl, rfl, rfl⟩ := h
    simp
  · rw [decide_eq_false h]
    repeat' split
    all_goals simp_all
theorem eq5 (a b c d e a' b' c' d' e' : Int) (u : World) : (Op.equalIn 10000 23 (.agg #[.int .i64 a, .int .i64 b, .int .i64 c, .int .i64 d, .int .i64 e]) (.agg #[.int .i64 a', .int .i64 b', .int .i64 c', .int .i64 d', .int .i64 e'])).run Try.prog u = .ok (decide (a = a' ∧ b = b' ∧ c = c' ∧ d = d' ∧ e = e')) u := eq5d 9998 _ _ _ _ _ _ _ _ _ _ u
theorem eq2 (a b a' b' : Int) (u : World) : (Op.equalIn 10000 32 (.agg #[.int .i64 a, .int .i64 b]) (.agg #[.int .i64 a', .int .i64 b'])).run Try.prog u = .ok (decide (a = a' ∧ b = b')) u := eq2d 9998 _ _ _ _ u
theorem eq6 (a b c d e f a' b' c' d' e' f' : Int) (u : World) : (Op.equalIn 10000 33 (.agg #[.int .i64 a, .int .i64 b, .int .i64 c, .int .i64 d, .int .i64 e, .int .i64 f]) (.agg #[.int .i64 a', .int .i64 b', .int .i64 c', .int .i64 d', .int .i64 e', .int .i64 f'])).run Try.prog u = .ok (decide (a = a' ∧ b = b' ∧ c = c' ∧ d = d' ∧ e = e' ∧ f = f')) u := eq6d 9997 _ _ _ _ _ _ _ _ _ _ _ _ u

end Go.Proofs.Ytaliaoapbjbfaaa
