/- DERIVED. Coded and Crop of a frame that may not be. -/
import Derived.Test.YtlgfkkegehpllabPt
import Derived.Test.YtlgfkkegehpllabPt
namespace Go.Proofs.Ytlgfkkegehpllab
open Go.RowKit

set_option maxHeartbeats 1000000 in
set_option maxHeartbeats 1000000 in
theorem crop_bad {u : World} {W0 H0 W1 H1 W2 H2 : Int} {a0 a1 a2 : Option Addr} {c0 c1 c2 : Nat} {C0 C1 C2 : List Nat} {w h : Int} (hn : ¬ FOk ⟨W0, H0, a0, c0, C0⟩ ⟨W1, H1, a1, c1, C1⟩ ⟨W2, H2, a2, c2, C2⟩) :
    Calls Try.prog 15 #[.agg #[.int .i64 W0, .int .i64 H0, .slice a0 C0.length c0, .int .i64 W1, .int .i64 H1, .slice a1 C1.length c1, .int .i64 W2, .int .i64 H2, .slice a2 C2.length c2], .int .i64 w, .int .i64 h] u fun e w' => Fz u w' e := by
  have hfk := fk_no hn
  clear hn
  go_enter Try.func15, Try.ntmps15
  go_wp2_with fail
  refine whole_any.mono ?_
  rintro e w1 ⟨rfl, hb⟩
  rw [hfk]
  have s0 : w1.cell? ⟨u.heap.size + 1, 0, none⟩ = some (.int .i64 0) := by rw [newCell hb _ _ (by simp)]; simp [go_sem]
  have s1 : w1.cell? ⟨u.heap.size + 1, 1, none⟩ = some (.int .i64 0) := by rw [newCell hb _ _ (by simp)]; simp [go_sem]
  have s2 : w1.cell? ⟨u.heap.size + 1, 2, none⟩ = some (.slice none 0 0) := by rw [newCell hb _ _ (by simp)]; simp [go_sem]
  have s3 : w1.cell? ⟨u.heap.size + 1, 3, none⟩ = some (.int .i64 0) := by rw [newCell hb _ _ (by simp)]; simp [go_sem]
  have s4 : w1.cell? ⟨u.heap.size + 1, 4, none⟩ = some (.int .i64 0) := by rw [newCell hb _ _ (by simp)]; simp [go_sem]
  have s5 : w1.cell? ⟨u.heap.size + 1, 5, none⟩ = some (.slice none 0 0) := by rw [newCell hb _ _ (by simp)]; simp [go_sem]
  have s6 : w1.cell? ⟨u.heap.size + 1, 6, none⟩ = some (.int .i64 0) := by rw [newCell hb _ _ (by simp)]; simp [go_sem]
  have s7 : w1.cell? ⟨u.heap.size + 1, 7, none⟩ = some (.int .i64 0) := by rw [newCell hb _ _ (by simp)]; simp [go_sem]
  have s8 : w1.cell? ⟨u.heap.size + 1, 8, none⟩ = some (.slice none 0 0) := by rw [newCell hb _ _ (by simp)]; simp [go_sem]
  have th : ∀ o, w1.frozen? ⟨u.heap.size + 1, o, none⟩ = false := fun o => by rw [newFrozen hb _ _ (by simp)]; simp [go_sem]
  have HB : Hid (Below u.heap.size u w1) := below_to (to_alloc (from_alloc u _) _) hb
  clear hb hfk
  go_wp2_with fail
  refine bodyPost_ret (v := .tuple #[.agg #[.int .i64 0, .int .i64 0, .slice none 0 0, .int .i64 0, .int .i64 0, .slice none 0 0, .int .i64 0, .int .i64 0, .slice none 0 0], .int .i64 2]) (by simp [results, Try.results15, go_sem, s0, s1, s2, s3, s4, s5, s6, s7, s8]) rfl ?_
  have hk := Kb.set (Kb.set (Kb.set (Kb.set (Kb.set (Kb.set (Kb.set (Kb.set (Kb.set (Kb.refl (u.heap.size + 1) w1) 0 (.int .i64 0)) 1 (.int .i64 0)) 2 (.slice none 0 0)) 3 (.int .i64 0)) 4 (.int .i64 0)) 5 (.slice none 0 0)) 6 (.int .i64 0)) 7 (.int .i64 0)) 8 (.slice none 0 0)
  exact ⟨rfl, HB.out.trans (hk.below (by omega))⟩


end Go.Proofs.Ytlgfkkegehpllab
