/- DERIVED. Pad refused, the program's and the document's; the document's Pad. -/
import Derived.Test.YtlgfkkegehpllabPt
import Derived.Test.YtlgfkkegehpllabQc
namespace Go.Proofs.Ytlgfkkegehpllab
open Go.RowKit

set_option maxHeartbeats 1000000 in
theorem pad_bad {u : World} {a : Option Addr} {c : Nat} {C : List Nat} {W H w h : Int} (hn : ¬ POk W H C) :
    Calls Try.prog 7 #[.agg #[.int .i64 W, .int .i64 H, .slice a C.length c], .int .i64 w, .int .i64 h] u fun e w' => Pz u w' e := by
  have hck : ck W H C = 2 := ck_no hn
  clear hn
  go_enter Try.func7, Try.ntmps7
  go_wp2_with fail
  refine check_any.mono ?_
  rintro e w1 ⟨rfl, hb⟩
  rw [hck]
  have z0 : w1.cell? ⟨u.heap.size + 1, 0, none⟩ = some (.int .i64 0) := by rw [newCell hb _ _ (by simp <;> omega)]; simp [go_sem]
  have z1 : w1.cell? ⟨u.heap.size + 1, 1, none⟩ = some (.int .i64 0) := by rw [newCell hb _ _ (by simp <;> omega)]; simp [go_sem]
  have z2 : w1.cell? ⟨u.heap.size + 1, 2, none⟩ = some (.slice none 0 0) := by rw [newCell hb _ _ (by simp <;> omega)]; simp [go_sem]
  have th : ∀ o, w1.frozen? ⟨u.heap.size + 1, o, none⟩ = false := fun o => by rw [newFrozen hb _ _ (by simp <;> omega)]; simp [go_sem]
  have HB : Hid (Below u.heap.size u w1) := below_to (to_alloc (from_alloc u _) _) hb
  clear hb hck
  go_wp2_with fail
  refine bodyPost_ret (v := .tuple #[.agg #[.int .i64 0, .int .i64 0, .slice none 0 0], .int .i64 2]) (by simp [results, Try.results7, go_sem, z0, z1, z2]) rfl ?_
  exact ⟨rfl, HB.out.trans ((Kb.set (Kb.set (Kb.set (Kb.refl (u.heap.size + 1) _) 0 (.int .i64 0)) 1 (.int .i64 0)) 2 (.slice none 0 0)).below (by omega))⟩

set_option maxHeartbeats 1000000 in
theorem pad_out {u : World} {a : Option Addr} {c : Nat} {C : List Nat} {W H w h : Int} (hp : POk W H C) (hn : ¬ (W ≤ w ∧ w ≤ 512 ∧ H ≤ h ∧ h ≤ 512)) :
    Calls Try.prog 7 #[.agg #[.int .i64 W, .int .i64 H, .slice a C.length c], .int .i64 w, .int .i64 h] u fun e w' => Pz u w' e := by
  have hck : ck W H C = 0 := ck_ok hp
  obtain ⟨p1, p2, p3, p4, _⟩ := hp
  rcases (show (w < 1) ∨ (1 ≤ w ∧ 512 < w) ∨ (1 ≤ w ∧ w ≤ 512 ∧ h < 1) ∨ (1 ≤ w ∧ w ≤ 512 ∧ 1 ≤ h ∧ 512 < h) ∨ (1 ≤ w ∧ w ≤ 512 ∧ 1 ≤ h ∧ h ≤ 512 ∧ w < W) ∨ (1 ≤ w ∧ w ≤ 512 ∧ 1 ≤ h ∧ h ≤ 512 ∧ W ≤ w ∧ h < H) by omega) with q0 | ⟨q0, q1⟩ | ⟨q0, q1, q2⟩ | ⟨q0, q1, q2, q3⟩ | ⟨q0, q1, q2, q3, q4⟩ | ⟨q0, q1, q2, q3, q4, q5⟩
  all_goals
    clear hn
    go_enter Try.func7, Try.ntmps7
    go_wp2_with fail
    refine check_any.mono ?_
    rintro e w1 ⟨rfl, hb⟩
    rw [hck]
    have d0 : w1.cell? ⟨u.heap.size, 0, none⟩ = some (.int .i64 W) := by rw [newCell hb _ _ (by simp <;> omega)]; simp [go_sem]
    have d1 : w1.cell? ⟨u.heap.size, 1, none⟩ = some (.int .i64 H) := by rw [newCell hb _ _ (by simp <;> omega)]; simp [go_sem]
    have d2 : w1.cell? ⟨u.heap.size, 2, none⟩ = some (.slice a C.length c) := by rw [newCell hb _ _ (by simp <;> omega)]; simp [go_sem]
    have z0 : w1.cell? ⟨u.heap.size + 1, 0, none⟩ = some (.int .i64 0) := by rw [newCell hb _ _ (by simp <;> omega)]; simp [go_sem]
    have z1 : w1.cell? ⟨u.heap.size + 1, 1, none⟩ = some (.int .i64 0) := by rw [newCell hb _ _ (by simp <;> omega)]; simp [go_sem]
    have z2 : w1.cell? ⟨u.heap.size + 1, 2, none⟩ = some (.slice none 0 0) := by rw [newCell hb _ _ (by simp <;> omega)]; simp [go_sem]
    have th : ∀ o, w1.frozen? ⟨u.heap.size + 1, o, none⟩ = false := fun o => by rw [newFrozen hb _ _ (by simp <;> omega)]; simp [go_sem]
    have HB : Hid (Below u.heap.size u w1) := below_to (to_alloc (from_alloc u _) _) hb
    clear hb hck
    go_wp2_with (go_at_call 21; go_in)
    refine bodyPost_ret (v := .tuple #[.agg #[.int .i64 0, .int .i64 0, .slice none 0 0], .int .i64 2]) (by simp [results, Try.results7, go_sem, z0, z1, z2]) rfl ?_
    exact ⟨rfl, HB.out.trans ((Kb.set (Kb.set (Kb.set (Kb.refl (u.heap.size + 1) _) 0 (.int .i64 0)) 1 (.int .i64 0)) 2 (.slice none 0 0)).below (by omega))⟩


end Go.Proofs.Ytlgfkkegehpllab
