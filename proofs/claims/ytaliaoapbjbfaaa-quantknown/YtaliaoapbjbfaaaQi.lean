/- DERIVED. The walks of Lossless and of the document's. -/
import Derived.Test.YtaliaoapbjbfaaaQi0
namespace Go.Proofs.Ytaliaoapbjbfaaa
open Go.RowKit

/-- Base and all Deltas are 0 -/
def lsD (d0 d1 d2 d3 d4 : Int) : Bool := decide (d0 = 0 ∧ d1 = 0 ∧ d2 = 0 ∧ d3 = 0 ∧ d4 = 0)
def lsB (B d0 d1 d2 d3 d4 : Int) : Bool := B == 0 && lsD d0 d1 d2 d3 d4
set_option maxRecDepth 100000 in
set_option maxHeartbeats 1000000 in
theorem lossless_any {w : World} {c0 c1 c2 c3 c4 c5 c6 c7 c8 c15 c16 c17 c18 c19 c20 c21 c22 c23 c24 c25 c26 c27 c28 c29 : Value} {B d0 d1 d2 d3 d4 : Int} : Calls Try.prog 15 #[.agg #[c0, c1, c2, c3, c4, c5, c6, c7, c8, .int .i64 B, .int .i64 d0, .int .i64 d1, .int .i64 d2, .int .i64 d3, .int .i64 d4, c15, c16, c17, c18, c19, c20, c21, c22, c23, c24, c25, c26, c27, c28, c29]] w fun e w' => e = .returned (.bool (lsB B d0 d1 d2 d3 d4)) ∧ Below w.heap.size w w' := by
  have heq : ∀ u, _ := fun u => eq5 d0 d1 d2 d3 d4 0 0 0 0 0 u
  have HA : Hid (Below w.heap.size w (w.alloc (Obj.cells #[c0, c1, c2, c3, c4, c5, c6, c7, c8, .int .i64 B, .int .i64 d0, .int .i64 d1, .int .i64 d2, .int .i64 d3, .int .i64 d4, c15, c16, c17, c18, c19, c20, c21, c22, c23, c24, c25, c26, c27, c28, c29] 28))) := from_alloc w _
  have HL : Hid (lsB B d0 d1 d2 d3 d4 = (B == 0 && decide (d0 = 0 ∧ d1 = 0 ∧ d2 = 0 ∧ d3 = 0 ∧ d4 = 0))) := rfl
  generalize decide (d0 = 0 ∧ d1 = 0 ∧ d2 = 0 ∧ d3 = 0 ∧ d4 = 0) = r at *
  by_cases hB : B = 0
  · have HR : Hid (lsB B d0 d1 d2 d3 d4 = r) := by show _ = _; rw [HL.out, hB]; simp
    clear HL
    subst hB
    go_enter Try.func15, Try.ntmps15
    go_wp2_with fail
    go_ret
    exact ⟨by rw [HR.out]; rfl, HA.out⟩
  · have hB' : (B == 0) = false := beq_eq_false_iff_ne.2 hB
    have HR : Hid (lsB B d0 d1 d2 d3 d4 = false) := by show _ = _; rw [HL.out, hB']; simp
    clear HL hB
    go_enter Try.func15, Try.ntmps15
    go_wp2_with fail
    go_ret
    exact ⟨by rw [HR.out]; rfl, HA.out⟩
set_option maxRecDepth 100000 in
set_option maxHeartbeats 1000000 in
theorem rlossless_any {w : World} {c0 c1 c2 c3 c4 c5 c6 c7 c8 c15 c16 c17 c18 c19 c20 c21 c22 c23 c24 c25 c26 c27 c28 c29 : Value} {B d0 d1 d2 d3 d4 : Int} : Calls Try.prog 16 #[.agg #[c0, c1, c2, c3, c4, c5, c6, c7, c8, .int .i64 B, .int .i64 d0, .int .i64 d1, .int .i64 d2, .int .i64 d3, .int .i64 d4, c15, c16, c17, c18, c19, c20, c21, c22, c23, c24, c25, c26, c27, c28, c29]] w fun e w' => e = .returned (.bool (lsB B d0 d1 d2 d3 d4)) ∧ Below w.heap.size w w' := by
  have heq : ∀ u, _ := fun u => eq5 d0 d1 d2 d3 d4 0 0 0 0 0 u
  have HA : Hid (Below w.heap.size w (w.alloc (Obj.cells #[c0, c1, c2, c3, c4, c5, c6, c7, c8, .int .i64 B, .int .i64 d0, .int .i64 d1, .int .i64 d2, .int .i64 d3, .int .i64 d4, c15, c16, c17, c18, c19, c20, c21, c22, c23, c24, c25, c26, c27, c28, c29] 28))) := from_alloc w _
  have HL : Hid (lsB B d0 d1 d2 d3 d4 = (B == 0 && decide (d0 = 0 ∧ d1 = 0 ∧ d2 = 0 ∧ d3 = 0 ∧ d4 = 0))) := rfl
  generalize decide (d0 = 0 ∧ d1 = 0 ∧ d2 = 0 ∧ d3 = 0 ∧ d4 = 0) = r at *
  by_cases hB : B = 0
  · have HR : Hid (lsB B d0 d1 d2 d3 d4 = r) := by show _ = _; rw [HL.out, hB]; simp
    clear HL
    subst hB
    go_enter Try.func16, Try.ntmps16
    go_wp2_with fail
    go_ret
    exact ⟨by rw [HR.out]; rfl, HA.out⟩
  · have hB' : (B == 0) = false := beq_eq_false_iff_ne.2 hB
    have HR : Hid (lsB B d0 d1 d2 d3 d4 = false) := by show _ = _; rw [HL.out, hB']; simp
    clear HL hB
    go_enter Try.func16, Try.ntmps16
    go_wp2_with fail
    go_ret
    exact ⟨by rw [HR.out]; rfl, HA.out⟩

end Go.Proofs.Ytaliaoapbjbfaaa
