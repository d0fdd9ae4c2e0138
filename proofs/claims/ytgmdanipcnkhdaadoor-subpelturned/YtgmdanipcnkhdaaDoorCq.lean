/- DERIVED. Eight numbers, compared. -/
import Derived.Test.YtgmdanipcnkhdaaDoorCe
import Derived.ChangeKeysEq
namespace Go.Proofs.YtgmdanipcnkhdaaDoor
open Go.RowKit

theorem part8 (w : World) {T : List Int} {i : Nat} (hi : i < T.length) : (part 3 (is T).toArray (i * 1)).run Tryd.prog w = .ok (.int .i64 (T.getD i 0)) w := by
  have h := is_get T i hi
  simp [part, isAgg, run_underlying Tryd.underlying3, h]
theorem items8 (w : World) {T U : List Int} (hT : T.length = 8) (hU : U.length = 8) : ∀ is' : List Nat, (∀ i ∈ is', i < 8) → (Op.eqItems 9999 3 1 (is T).toArray (is U).toArray is').run Tryd.prog w = .ok (is'.all fun i => T.getD i 0 == U.getD i 0) w
  | [], _ => by simp [Op.eqItems]
  | i :: r, h => by
    have hi := h i (by simp)
    have ih := items8 w hT hU r (fun j hj => h j (by simp [hj]))
    simp only [Op.eqItems, Sem.run_bind, part8 w (show i < T.length by omega), part8 w (show i < U.length by omega), run_equalIn_int w 9998 3 .i64 .i64 _ _ Tryd.underlying3, Result.andThen_ok, List.all_cons]
    cases hb : (T.getD i 0 == U.getD i 0)
    · simp
    · simpa using ih
theorem all8 {T U : List Int} (hT : T.length = 8) (hU : U.length = 8) : ((List.range 8).all fun i => T.getD i 0 == U.getD i 0) = decide (T = U) := by
  by_cases h : T = U
  · subst h; simp
  · rw [decide_eq_false h]
    refine Bool.eq_false_iff.2 fun k => h (ext_getD (by omega) fun j hj => ?_)
    have := List.all_eq_true.1 k j (by simp; omega)
    simpa using this
theorem eq8 (w : World) {T U : List Int} (hT : T.length = 8) (hU : U.length = 8) : (Op.equalIn 10000 22 (tv T) (tv U)).run Tryd.prog w = .ok (decide (T = U)) w := by
  obtain ⟨i, hi, hz0, hz1, hz2⟩ := info_parts Tryd.info3
  have hc : Tryd.prog.cellsOf 3 = 1 := by kernel_rfl
  unfold tv
  rw [run_equalIn_array w 9999 _ _ Tryd.underlying22 hi, hc, items8 w hT hU _ (by simp), all8 hT hU]
/-- written out -/
theorem eq8l (w : World) (t0 t1 t2 t3 t4 t5 t6 t7 s0 s1 s2 s3 s4 s5 s6 s7 : Int) : (Op.equalIn 10000 22 (.agg #[.int .i64 t0, .int .i64 t1, .int .i64 t2, .int .i64 t3, .int .i64 t4, .int .i64 t5, .int .i64 t6, .int .i64 t7]) (.agg #[.int .i64 s0, .int .i64 s1, .int .i64 s2, .int .i64 s3, .int .i64 s4, .int .i64 s5, .int .i64 s6, .int .i64 s7])).run Tryd.prog w = .ok (decide ([t0, t1, t2, t3, t4, t5, t6, t7] = [s0, s1, s2, s3, s4, s5, s6, s7])) w := by rw [← tv8, ← tv8]; exact eq8 w rfl rfl
theorem eq8s (w : World) (t0 t1 t2 t3 t4 t5 t6 t7 : Int) : (Op.equalIn 10000 22 (.agg #[.int .i64 t0, .int .i64 t1, .int .i64 t2, .int .i64 t3, .int .i64 t4, .int .i64 t5, .int .i64 t6, .int .i64 t7]) (.agg #[.int .i64 t0, .int .i64 t1, .int .i64 t2, .int .i64 t3, .int .i64 t4, .int .i64 t5, .int .i64 t6, .int .i64 t7])).run Tryd.prog w = .ok true w := by rw [eq8l, decide_eq_true rfl]

end Go.Proofs.YtgmdanipcnkhdaaDoor
