/- DERIVED. The walk of QuantLevels. -/
import Derived.Test.YtaliaoapbjbfaaaQf
namespace Go.Proofs.Ytaliaoapbjbfaaa
open Go.RowKit

/-- six sizes -/
def sz6 (z : Int) (k : Nat) : Int := if k < 5 then sz5 k else z
theorem six_cells (w : World) (z : Int) (k : Nat) (hk : k < 6) : (w.alloc (Obj.cells #[.int .i64 4, .int .i64 8, .int .i64 16, .int .i64 32, .int .i64 64, .int .i64 z] 3)).cell? ⟨w.heap.size, k, none⟩ = some (.int .i64 (sz6 z k)) := by
  have h : (w.alloc (Obj.cells #[.int .i64 4, .int .i64 8, .int .i64 16, .int .i64 32, .int .i64 64, .int .i64 z] 3)).heap[w.heap.size]? = some (Obj.cells #[.int .i64 4, .int .i64 8, .int .i64 16, .int .i64 32, .int .i64 64, .int .i64 z] 3) := heap_alloc_new w _
  simp only [World.cell?, h]
  match k, hk with
  | 0, _ => rfl
  | 1, _ => rfl
  | 2, _ => rfl
  | 3, _ => rfl
  | 4, _ => rfl
  | 5, _ => rfl

set_option maxRecDepth 100000 in
set_option maxHeartbeats 1000000 in
theorem levels_walk {w : World} {n st z : Int} : Calls Try.prog 4 #[.int .i64 n, .int .i64 st, .int .i64 z] w fun e w' => e = .returned (.bool true) ∧ Below w.heap.size w w' := by
  have HB0 : Hid (Below w.heap.size w w) := Below.refl _ _
  go_enter Try.func4, Try.ntmps4
  go_wp2_with fail
  go_loopw [7] (fun i wr => ∃ k : Nat, k ≤ 6 ∧ i = .int .i64 k ∧ Hid (Below w.heap.size w wr)) (fun i _ => 6 - (intOf i).toNat)
  case atStart => exact ⟨0, by omega, rfl, HB0⟩
  case round =>
    obtain ⟨k, hk, rfl, HB⟩ := hrel
    by_cases hlt : k < 6
    · have c0 : 0 ≤ (k : Int) := by omega
      have c1 : (k : Int) < 6 := by omega
      rename_i wr
      have HC := six_cells wr z k hlt
      have HB2 : Hid (Below w.heap.size w (wr.alloc (Obj.cells #[.int .i64 4, .int .i64 8, .int .i64 16, .int .i64 32, .int .i64 64, .int .i64 z] 3))) := to_alloc HB.out _
      generalize sz6 z k = y at *
      go_wp2_with fail
      generalize wr.alloc (Obj.cells #[.int .i64 4, .int .i64 8, .int .i64 16, .int .i64 32, .int .i64 64, .int .i64 z] 3) = u at *
      refine level_any.mono ?_
      rintro e w' ⟨rfl, rfl⟩
      go_wp2_with fail
      refine rlevel_any.mono ?_
      rintro e w' ⟨rfl, rfl⟩
      go_wp2_with fail
      refine value_any.mono ?_
      rintro e w' ⟨rfl, rfl⟩
      go_wp2_with fail
      refine rvalue_any.mono ?_
      rintro e w' ⟨rfl, rfl⟩
      go_wp2_with fail
      go_roundw
      case rel => exact ⟨k + 1, by omega, by go_num, HB2⟩
      case measure => simp [intOf]; omega
    · go_wp2_with fail
      refine works_any.mono ?_
      rintro e w' ⟨rfl, rfl⟩
      go_wp2_with fail
      go_ret
      exact ⟨rfl, HB.out⟩

end Go.Proofs.Ytaliaoapbjbfaaa
