/- DERIVED. A block is the same as itself. -/
import Derived.Test.YtppofodijlofdaaCq
import Derived.ChangeKeysEq
namespace Go.Proofs.Ytppofodijlofdaa
open Go.RowKit

set_option maxRecDepth 100000 in
theorem eq2_self (a b : Int) (w : World) : (Op.equalIn 9999 35 (.agg #[.int .i64 a, .int .i64 b]) (.agg #[.int .i64 a, .int .i64 b])).run Try.prog w = .ok true w := by
  have u3 := Try.underlying3
  obtain ⟨i, hi⟩ : ∃ i, Try.prog.info? 3 = some i := ⟨_, rfl⟩
  rw [show (9999 : Nat) = 9998 + 1 from rfl, run_equalIn_array w 9998 _ _ Try.underlying35 hi, Try.cells3]
  simp [Op.eqItems, List.range_succ, go_sem, u3]
set_option maxRecDepth 100000 in
theorem eqv_same (a b : Int) (w : World) : (Op.equalIn 9998 37 (.agg #[.int .i64 a, .int .i64 b]) (.agg #[.int .i64 a, .int .i64 b])).run Try.prog w = .ok true w := by
  have u3 := Try.underlying3
  have a3 := Try.isAgg3
  have z3 := Try.sizeOf3
  have hS : Try.prog.underlying 37 = some (.struct (Try.prog.fieldsOf 37)) := by kernel_rfl
  rw [show (9998 : Nat) = 9997 + 1 from rfl, run_equalIn_agg w 9997 37 _ _ hS (by kernel_rfl)]
  simp only [Program.fieldsOf, Try.underlying37]
  go_simp
set_option maxRecDepth 100000 in
theorem eqv9 (a b : Int) (w : World) : (Op.equalIn 9999 37 (.agg #[.int .i64 a, .int .i64 b]) (.agg #[.int .i64 a, .int .i64 b])).run Try.prog w = .ok true w := by
  have u3 := Try.underlying3
  have a3 := Try.isAgg3
  have z3 := Try.sizeOf3
  have hS : Try.prog.underlying 37 = some (.struct (Try.prog.fieldsOf 37)) := by kernel_rfl
  rw [show (9999 : Nat) = 9998 + 1 from rfl, run_equalIn_agg w 9998 37 _ _ hS (by kernel_rfl)]
  simp only [Program.fieldsOf, Try.underlying37]
  go_simp
theorem Try.cells37 : Try.prog.cellsOf 37 = 2 := by kernel_rfl
set_option maxRecDepth 100000 in
theorem eqvs_self (a b c d : Int) (w : World) : (Op.equalIn 9999 38 (.agg #[.int .i64 a, .int .i64 b, .int .i64 c, .int .i64 d]) (.agg #[.int .i64 a, .int .i64 b, .int .i64 c, .int .i64 d])).run Try.prog w = .ok true w := by
  have h1 := fun u => eqv_same a b u
  have h2 := fun u => eqv_same c d u
  obtain ⟨i, hi⟩ : ∃ i, Try.prog.info? 37 = some i := ⟨_, rfl⟩
  rw [show (9999 : Nat) = 9998 + 1 from rfl, run_equalIn_array w 9998 _ _ Try.underlying38 hi, Try.cells37]
  simp [Op.eqItems, List.range_succ, go_sem, h1, h2]
set_option maxRecDepth 100000 in
set_option maxHeartbeats 2000000 in
theorem eqb_self (b : Bl) (w : World) : (Op.equalIn 10000 40 (.agg b.cs.toArray) (.agg b.cs.toArray)).run Try.prog w = .ok true w := by
  have u3 := Try.underlying3
  have a3 := Try.isAgg3
  have z3 := Try.sizeOf3
  have hS : Try.prog.underlying 40 = some (.struct (Try.prog.fieldsOf 40)) := by kernel_rfl
  rw [show (10000 : Nat) = 9999 + 1 from rfl, run_equalIn_agg w 9999 40 _ _ hS (by kernel_rfl)]
  obtain ⟨x, y, wd, h, sk, it, a0, a1, a2, a3', a4, a5, a6, cp, r0, r1, mm, u0, u1, u2, u3', fl, ob⟩ := b
  have h1 := fun u => eq2_self r0 r1 u
  have h2 := fun u => eqvs_self u0 u1 u2 u3' u
  simp only [Program.fieldsOf, Try.underlying40, Bl.cs]
  go_simp
theorem eqvs_same (a b c d : Int) (w : World) : (Op.equalIn 10000 38 (.agg #[.int .i64 a, .int .i64 b, .int .i64 c, .int .i64 d]) (.agg #[.int .i64 a, .int .i64 b, .int .i64 c, .int .i64 d])).run Try.prog w = .ok true w := by
  have h1 : ∀ u, (Op.equalIn 9999 37 (.agg #[.int .i64 a, .int .i64 b]) (.agg #[.int .i64 a, .int .i64 b])).run Try.prog u = .ok true u := fun u => eqv9 a b u
  have h2 : ∀ u, (Op.equalIn 9999 37 (.agg #[.int .i64 c, .int .i64 d]) (.agg #[.int .i64 c, .int .i64 d])).run Try.prog u = .ok true u := fun u => eqv9 c d u
  obtain ⟨i, hi⟩ : ∃ i, Try.prog.info? 37 = some i := ⟨_, rfl⟩
  rw [show (10000 : Nat) = 9999 + 1 from rfl, run_equalIn_array w 9999 _ _ Try.underlying38 hi, Try.cells37]
  simp [Op.eqItems, List.range_succ, go_sem, h1, h2]
end Go.Proofs.Ytppofodijlofdaa
