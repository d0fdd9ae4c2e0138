/- DERIVED. Squares, areas, meets, within, rectangles. -/
import Derived.Test.YtjijgeeejhijhaaCa
namespace Go.Proofs.Ytjijgeeejhijhaa
open Go.RowKit

/-- is it a square that has a tree? an area? -/
def sqr (x y a b : Int) : Bool := rgn x y a b && (decide (a = 64) && (decide (x ≤ 1024) && decide (y ≤ 1024)))
def are (x y a b : Int) : Bool := un x 0 1024 && (un y 0 1024 && (un a 8 1024 && un b 8 1024))
set_option maxRecDepth 100000 in
set_option maxHeartbeats 1000000 in
theorem isSquare_any {w : World} {x y a b : Int} : Calls Try.prog 28 #[.agg #[.int .i64 x, .int .i64 y, .int .i64 a, .int .i64 b]] w fun e w' => e = .returned (.bool (sqr x y a b)) ∧ Below w.heap.size w w' := by
  have HB : Hid (Below w.heap.size w (w.alloc (.cells #[.int .i64 x, .int .i64 y, .int .i64 a, .int .i64 b] 23))) := from_alloc _ _
  unfold sqr
  generalize hr : rgn x y a b = q at *
  have HR : Hid (rgn x y a b = q) := hr
  clear hr
  have HC : Hid (∀ u, Calls Try.prog 24 #[.agg #[.int .i64 x, .int .i64 y, .int .i64 a, .int .i64 b]] u fun e w' => e = .returned (.bool q) ∧ Below u.heap.size u w') := fun u => by rw [← HR.out]; exact isRegion_any
  clear HR
  cases q
  · rw [Bool.false_and]
    go_enter Try.func28, Try.ntmps28
    go_wp2_with fail
    refine (HC.out _).mono ?_
    rintro e w1 ⟨rfl, hb⟩
    have HB1 : Hid (Below w.heap.size w w1) := below_to HB.out hb
    clear hb
    go_wp2_with fail
    go_ret
    exact ⟨rfl, HB1.out⟩
  · rw [Bool.true_and]
    by_cases h1 : a = 64
    · subst h1
      rw [decide_eq_true rfl, Bool.true_and]
      by_cases h2 : x ≤ 1024
      · rw [decide_eq_true h2, Bool.true_and]
        go_enter Try.func28, Try.ntmps28
        go_wp2_with fail
        refine (HC.out _).mono ?_
        rintro e w1 ⟨rfl, hb⟩
        have HB1 : Hid (Below w.heap.size w w1) := below_to HB.out hb
        have c0 : w1.cell? ⟨w.heap.size, 0, none⟩ = some (.int .i64 x) := by rw [newCell hb _ _ (by simp)]; simp [go_sem]
        have c1 : w1.cell? ⟨w.heap.size, 1, none⟩ = some (.int .i64 y) := by rw [newCell hb _ _ (by simp)]; simp [go_sem]
        have c2 : w1.cell? ⟨w.heap.size, 2, none⟩ = some (.int .i64 64) := by rw [newCell hb _ _ (by simp)]; simp [go_sem]
        clear hb
        go_wp2_with fail
        go_ret
        exact ⟨rfl, HB1.out⟩
      · rw [decide_eq_false h2, Bool.false_and]
        go_enter Try.func28, Try.ntmps28
        go_wp2_with fail
        refine (HC.out _).mono ?_
        rintro e w1 ⟨rfl, hb⟩
        have HB1 : Hid (Below w.heap.size w w1) := below_to HB.out hb
        have c0 : w1.cell? ⟨w.heap.size, 0, none⟩ = some (.int .i64 x) := by rw [newCell hb _ _ (by simp)]; simp [go_sem]
        have c1 : w1.cell? ⟨w.heap.size, 1, none⟩ = some (.int .i64 y) := by rw [newCell hb _ _ (by simp)]; simp [go_sem]
        have c2 : w1.cell? ⟨w.heap.size, 2, none⟩ = some (.int .i64 64) := by rw [newCell hb _ _ (by simp)]; simp [go_sem]
        clear hb
        go_wp2_with fail
        go_ret
        exact ⟨rfl, HB1.out⟩
    · rw [decide_eq_false h1, Bool.false_and]
      have h3 : (a == 64) = false := by rw [beq_eq_false_iff_ne]; exact h1
      clear h1
      go_enter Try.func28, Try.ntmps28
      go_wp2_with fail
      refine (HC.out _).mono ?_
      rintro e w1 ⟨rfl, hb⟩
      have HB1 : Hid (Below w.heap.size w w1) := below_to HB.out hb
      have c2 : w1.cell? ⟨w.heap.size, 2, none⟩ = some (.int .i64 a) := by rw [newCell hb _ _ (by simp)]; simp [go_sem]
      clear hb
      go_wp2_with fail
      go_ret
      exact ⟨rfl, HB1.out⟩
set_option maxRecDepth 100000 in
set_option maxHeartbeats 1000000 in
theorem isArea_any {w : World} {x y a b : Int} : Calls Try.prog 29 #[.agg #[.int .i64 x, .int .i64 y, .int .i64 a, .int .i64 b]] w fun e w' => e = .returned (.bool (are x y a b)) ∧ Below w.heap.size w w' := by
  have HB : Hid (Below w.heap.size w (w.alloc (.cells #[.int .i64 x, .int .i64 y, .int .i64 a, .int .i64 b] 23))) := from_alloc _ _
  unfold are
  have K : ∀ n a b : Int, (un n a b = true ∨ un n a b = false) := fun n a b => by cases un n a b <;> simp
  rcases K x 0 1024 with h0 | h0 <;> rcases K y 0 1024 with h1 | h1 <;> rcases K a 8 1024 with h2 | h2 <;> rcases K b 8 1024 with h3 | h3
  all_goals
    simp only [h0, h1, h2, h3, Bool.true_and, Bool.false_and]
    clear K
    go_enter Try.func29, Try.ntmps29
    go_wp2_with ((with_reducible refine isUnits_any.mono ?_); rintro e w5 ⟨rfl, rfl⟩)
    go_ret
    exact ⟨rfl, HB.out⟩
/-- numbers of a rectangle that no sum of which goes over -/
structure Rb (x y a b : Int) : Prop where
  x : -2000000 ≤ x ∧ x ≤ 2000000
  y : -2000000 ≤ y ∧ y ≤ 2000000
  a : -2000000 ≤ a ∧ a ≤ 2000000
  b : -2000000 ≤ b ∧ b ≤ 2000000
set_option maxRecDepth 100000 in
set_option maxHeartbeats 1000000 in
theorem meets_any {w : World} {x y a b X Y A B : Int} (h : Rb x y a b) (k : Rb X Y A B) : Calls Try.prog 32 #[.agg #[.int .i64 x, .int .i64 y, .int .i64 a, .int .i64 b], .agg #[.int .i64 X, .int .i64 Y, .int .i64 A, .int .i64 B]] w fun e w' => e = .returned (.bool (meet (x, y, a, b) (X, Y, A, B))) ∧ Below w.heap.size w w' := by
  have HB : Hid (∀ o p, Below w.heap.size w ((w.alloc o).alloc p)) := fun o p => to_alloc (from_alloc _ _) _
  obtain ⟨⟨x0, x1⟩, ⟨y0, y1⟩, ⟨a0, a1⟩, ⟨b0, b1⟩⟩ := h
  obtain ⟨⟨X0, X1⟩, ⟨Y0, Y1⟩, ⟨A0, A1⟩, ⟨B0, B1⟩⟩ := k
  unfold meet
  by_cases h0 : x < X + A
  · by_cases h1 : X < x + a
    · by_cases h2 : y < Y + B
      · by_cases h3 : Y < y + b
        all_goals
          simp only [h0, h1, h2, h3, decide_true, decide_false, Bool.and_true, Bool.and_false]
          go_enter Try.func32, Try.ntmps32
          go_wp2_with fail
          go_ret
          exact ⟨rfl, HB.out _ _⟩
      · simp only [h0, h1, h2, decide_true, decide_false, Bool.and_true, Bool.and_false, Bool.false_and]
        go_enter Try.func32, Try.ntmps32
        go_wp2_with fail
        go_ret
        exact ⟨rfl, HB.out _ _⟩
    · simp only [h0, h1, decide_true, decide_false, Bool.and_false, Bool.false_and]
      go_enter Try.func32, Try.ntmps32
      go_wp2_with fail
      go_ret
      exact ⟨rfl, HB.out _ _⟩
  · simp only [h0, decide_false, Bool.false_and]
    go_enter Try.func32, Try.ntmps32
    go_wp2_with fail
    go_ret
    exact ⟨rfl, HB.out _ _⟩
set_option maxRecDepth 100000 in
set_option maxHeartbeats 1000000 in
theorem within_any {w : World} {x y a b X Y A B : Int} (h : Rb x y a b) (k : Rb X Y A B) : Calls Try.prog 33 #[.agg #[.int .i64 x, .int .i64 y, .int .i64 a, .int .i64 b], .agg #[.int .i64 X, .int .i64 Y, .int .i64 A, .int .i64 B]] w fun e w' => e = .returned (.bool (wthn (x, y, a, b) (X, Y, A, B))) ∧ Below w.heap.size w w' := by
  have HB : Hid (∀ o p, Below w.heap.size w ((w.alloc o).alloc p)) := fun o p => to_alloc (from_alloc _ _) _
  obtain ⟨⟨x0, x1⟩, ⟨y0, y1⟩, ⟨a0, a1⟩, ⟨b0, b1⟩⟩ := h
  obtain ⟨⟨X0, X1⟩, ⟨Y0, Y1⟩, ⟨A0, A1⟩, ⟨B0, B1⟩⟩ := k
  unfold wthn
  by_cases h0 : x ≥ X
  · by_cases h1 : y ≥ Y
    · by_cases h2 : x + a ≤ X + A
      · by_cases h3 : y + b ≤ Y + B
        all_goals
          simp only [h0, h1, h2, h3, decide_true, decide_false, Bool.and_true, Bool.and_false]
          go_enter Try.func33, Try.ntmps33
          go_wp2_with fail
          go_ret
          exact ⟨rfl, HB.out _ _⟩
      · simp only [h0, h1, h2, decide_true, decide_false, Bool.and_true, Bool.and_false, Bool.false_and]
        go_enter Try.func33, Try.ntmps33
        go_wp2_with fail
        go_ret
        exact ⟨rfl, HB.out _ _⟩
    · simp only [h0, h1, decide_true, decide_false, Bool.and_false, Bool.false_and]
      go_enter Try.func33, Try.ntmps33
      go_wp2_with fail
      go_ret
      exact ⟨rfl, HB.out _ _⟩
  · simp only [h0, decide_false, Bool.false_and]
    go_enter Try.func33, Try.ntmps33
    go_wp2_with fail
    go_ret
    exact ⟨rfl, HB.out _ _⟩
set_option maxRecDepth 100000 in
theorem rect_any {w : World} {x y a b : Int} : Calls Try.prog 22 #[.int .i64 x, .int .i64 y, .int .i64 a, .int .i64 b] w fun e w' => e = .returned (.agg #[.int .i64 x, .int .i64 y, .int .i64 a, .int .i64 b]) ∧ Below w.heap.size w w' := by
  go_enter Try.func22, Try.ntmps22
  go_wp2_with fail
  go_returns
  exact ⟨rfl, by go_grown⟩
set_option maxRecDepth 100000 in
theorem rrect_any {w : World} {x y a b : Int} : Calls Try.prog 27 #[.int .i64 x, .int .i64 y, .int .i64 a, .int .i64 b] w fun e w' => e = .returned (.agg #[.int .i64 x, .int .i64 y, .int .i64 a, .int .i64 b]) ∧ Below w.heap.size w w' := by
  go_enter Try.func27, Try.ntmps27
  go_wp2_with fail
  go_returns
  exact ⟨rfl, by go_grown⟩
end Go.Proofs.Ytjijgeeejhijhaa
