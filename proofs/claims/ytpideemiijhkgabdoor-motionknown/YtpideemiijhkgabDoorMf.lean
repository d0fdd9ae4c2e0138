/- DERIVED. What Single refuses. -/
import Derived.Test.YtpideemiijhkgabDoorMe
namespace Go.Proofs.YtpideemiijhkgabDoor
open Go.RowKit

set_option maxRecDepth 100000 in
set_option maxHeartbeats 2000000 in
theorem single_no {u : World} {W0 H0 W1 H1 W2 H2 : Int} {a0 a1 a2 : Option Addr} {c0 c1 c2 : Nat} {C0 C1 C2 : List Nat} {n X Y pw ph vx vy pk : Int} (hn : ¬ (FrOk ⟨W0, H0, a0, c0, C0⟩ ⟨W1, H1, a1, c1, C1⟩ ⟨W2, H2, a2, c2, C2⟩ ∧ MvOk n X Y vx vy)) :
    Calls Tryd.prog 13 #[.agg #[.int .i64 W0, .int .i64 H0, .slice a0 C0.length c0, .int .i64 W1, .int .i64 H1, .slice a1 C1.length c1, .int .i64 W2, .int .i64 H2, .slice a2 C2.length c2], .int .i64 n, .agg #[.int .i64 X, .int .i64 Y, .int .i64 pw, .int .i64 ph], .agg #[.int .i64 vx, .int .i64 vy], .int .i64 pk] u fun e w' => e = .returned (.tuple #[.slice none 0 0, .int .i64 2]) ∧ Below u.heap.size u w' := by
  have HWh : Hid (∀ t : World, Calls Tryd.prog 22 #[.agg #[.int .i64 W0, .int .i64 H0, .slice a0 C0.length c0, .int .i64 W1, .int .i64 H1, .slice a1 C1.length c1, .int .i64 W2, .int .i64 H2, .slice a2 C2.length c2]] t fun e w' => e = .returned (.int .i64 (fk ⟨W0, H0, a0, c0, C0⟩ ⟨W1, H1, a1, c1, C1⟩ ⟨W2, H2, a2, c2, C2⟩)) ∧ Below t.heap.size t w') := fun t => whole_any
  have HA : Hid (Below u.heap.size u (((u.alloc (.cells #[.int .i64 W0, .int .i64 H0, .slice a0 C0.length c0, .int .i64 W1, .int .i64 H1, .slice a1 C1.length c1, .int .i64 W2, .int .i64 H2, .slice a2 C2.length c2] 42)).alloc (.cells #[.int .i64 X, .int .i64 Y, .int .i64 pw, .int .i64 ph] 24)).alloc (.cells #[.int .i64 vx, .int .i64 vy] 46))) := to_alloc (to_alloc (from_alloc _ _) _) _
  have HX : Hid (∀ t : World, Calls Tryd.prog 23 #[.int .i64 X] t fun e w' => e = .returned (.bool (decide (0 ≤ X ∧ X ≤ 1024))) ∧ t = w') := fun t => isPl_any
  have HY : Hid (∀ t : World, Calls Tryd.prog 23 #[.int .i64 Y] t fun e w' => e = .returned (.bool (decide (0 ≤ Y ∧ Y ≤ 1024))) ∧ t = w') := fun t => isPl_any
  have HVx : Hid (∀ t : World, Calls Tryd.prog 24 #[.int .i64 vx] t fun e w' => e = .returned (.bool (decide (-4095 ≤ vx ∧ vx ≤ 4095))) ∧ t = w') := fun t => isMv_any
  have HVy : Hid (∀ t : World, Calls Tryd.prog 24 #[.int .i64 vy] t fun e w' => e = .returned (.bool (decide (-4095 ≤ vy ∧ vy ≤ 4095))) ∧ t = w') := fun t => isMv_any
  by_cases hf : FrOk ⟨W0, H0, a0, c0, C0⟩ ⟨W1, H1, a1, c1, C1⟩ ⟨W2, H2, a2, c2, C2⟩
  · have hm : ¬ MvOk n X Y vx vy := fun k => hn ⟨hf, k⟩
    rw [fk_ok hf] at HWh
    clear hf hn
    by_cases n0 : n < 0
    · clear hm
      go_enter Tryd.func13, Tryd.ntmps13
      go_wp2_with fail
      refine (HWh.out _).mono ?_
      rintro e v ⟨rfl, hb⟩
      have HB : Hid (Below u.heap.size u v) := below_to HA.out hb
      have r0 : v.cell? ⟨u.heap.size + 1, 0, none⟩ = some (.int .i64 X) := by rw [newCell hb _ _ (by simp)]; simp [go_sem]
      have r1 : v.cell? ⟨u.heap.size + 1, 1, none⟩ = some (.int .i64 Y) := by rw [newCell hb _ _ (by simp)]; simp [go_sem]
      have q0 : v.cell? ⟨u.heap.size + 1 + 1, 0, none⟩ = some (.int .i64 vx) := by rw [newCell hb _ _ (by simp)]; simp [go_sem]
      have q1 : v.cell? ⟨u.heap.size + 1 + 1, 1, none⟩ = some (.int .i64 vy) := by rw [newCell hb _ _ (by simp)]; simp [go_sem]
      clear hb HWh HA
      go_wp2_with (first | (go_at_call 23; with_reducible refine (HX.out _).mono ?_; rintro e w' ⟨rfl, rfl⟩) | (go_at_call 23; with_reducible refine (HY.out _).mono ?_; rintro e w' ⟨rfl, rfl⟩) | (go_at_call 24; with_reducible refine (HVx.out _).mono ?_; rintro e w' ⟨rfl, rfl⟩) | (go_at_call 24; with_reducible refine (HVy.out _).mono ?_; rintro e w' ⟨rfl, rfl⟩) | fail)
      go_ret2
      exact ⟨rfl, HB.out⟩
    by_cases n1 : 2 < n
    · have n2 : 3 ≤ n := by omega
      clear hm
      go_enter Tryd.func13, Tryd.ntmps13
      go_wp2_with fail
      refine (HWh.out _).mono ?_
      rintro e v ⟨rfl, hb⟩
      have HB : Hid (Below u.heap.size u v) := below_to HA.out hb
      have r0 : v.cell? ⟨u.heap.size + 1, 0, none⟩ = some (.int .i64 X) := by rw [newCell hb _ _ (by simp)]; simp [go_sem]
      have r1 : v.cell? ⟨u.heap.size + 1, 1, none⟩ = some (.int .i64 Y) := by rw [newCell hb _ _ (by simp)]; simp [go_sem]
      have q0 : v.cell? ⟨u.heap.size + 1 + 1, 0, none⟩ = some (.int .i64 vx) := by rw [newCell hb _ _ (by simp)]; simp [go_sem]
      have q1 : v.cell? ⟨u.heap.size + 1 + 1, 1, none⟩ = some (.int .i64 vy) := by rw [newCell hb _ _ (by simp)]; simp [go_sem]
      clear hb HWh HA
      go_wp2_with (first | (go_at_call 23; with_reducible refine (HX.out _).mono ?_; rintro e w' ⟨rfl, rfl⟩) | (go_at_call 23; with_reducible refine (HY.out _).mono ?_; rintro e w' ⟨rfl, rfl⟩) | (go_at_call 24; with_reducible refine (HVx.out _).mono ?_; rintro e w' ⟨rfl, rfl⟩) | (go_at_call 24; with_reducible refine (HVy.out _).mono ?_; rintro e w' ⟨rfl, rfl⟩) | fail)
      go_ret2
      exact ⟨rfl, HB.out⟩
    have n2 : 0 ≤ n := by omega
    have n3 : n < 3 := by omega
    clear n0 n1
    by_cases hx : ¬ (0 ≤ X ∧ X ≤ 1024)
    · rw [decide_eq_false hx] at HX
      clear hm hx
      go_enter Tryd.func13, Tryd.ntmps13
      go_wp2_with fail
      refine (HWh.out _).mono ?_
      rintro e v ⟨rfl, hb⟩
      have HB : Hid (Below u.heap.size u v) := below_to HA.out hb
      have r0 : v.cell? ⟨u.heap.size + 1, 0, none⟩ = some (.int .i64 X) := by rw [newCell hb _ _ (by simp)]; simp [go_sem]
      have r1 : v.cell? ⟨u.heap.size + 1, 1, none⟩ = some (.int .i64 Y) := by rw [newCell hb _ _ (by simp)]; simp [go_sem]
      have q0 : v.cell? ⟨u.heap.size + 1 + 1, 0, none⟩ = some (.int .i64 vx) := by rw [newCell hb _ _ (by simp)]; simp [go_sem]
      have q1 : v.cell? ⟨u.heap.size + 1 + 1, 1, none⟩ = some (.int .i64 vy) := by rw [newCell hb _ _ (by simp)]; simp [go_sem]
      clear hb HWh HA
      go_wp2_with (first | (go_at_call 23; with_reducible refine (HX.out _).mono ?_; rintro e w' ⟨rfl, rfl⟩) | (go_at_call 23; with_reducible refine (HY.out _).mono ?_; rintro e w' ⟨rfl, rfl⟩) | (go_at_call 24; with_reducible refine (HVx.out _).mono ?_; rintro e w' ⟨rfl, rfl⟩) | (go_at_call 24; with_reducible refine (HVy.out _).mono ?_; rintro e w' ⟨rfl, rfl⟩) | fail)
      go_ret2
      exact ⟨rfl, HB.out⟩
    replace hx := Decidable.of_not_not hx
    rw [decide_eq_true hx] at HX
    by_cases hy : ¬ (0 ≤ Y ∧ Y ≤ 1024)
    · rw [decide_eq_false hy] at HY
      clear hm hx hy
      go_enter Tryd.func13, Tryd.ntmps13
      go_wp2_with fail
      refine (HWh.out _).mono ?_
      rintro e v ⟨rfl, hb⟩
      have HB : Hid (Below u.heap.size u v) := below_to HA.out hb
      have r0 : v.cell? ⟨u.heap.size + 1, 0, none⟩ = some (.int .i64 X) := by rw [newCell hb _ _ (by simp)]; simp [go_sem]
      have r1 : v.cell? ⟨u.heap.size + 1, 1, none⟩ = some (.int .i64 Y) := by rw [newCell hb _ _ (by simp)]; simp [go_sem]
      have q0 : v.cell? ⟨u.heap.size + 1 + 1, 0, none⟩ = some (.int .i64 vx) := by rw [newCell hb _ _ (by simp)]; simp [go_sem]
      have q1 : v.cell? ⟨u.heap.size + 1 + 1, 1, none⟩ = some (.int .i64 vy) := by rw [newCell hb _ _ (by simp)]; simp [go_sem]
      clear hb HWh HA
      go_wp2_with (first | (go_at_call 23; with_reducible refine (HX.out _).mono ?_; rintro e w' ⟨rfl, rfl⟩) | (go_at_call 23; with_reducible refine (HY.out _).mono ?_; rintro e w' ⟨rfl, rfl⟩) | (go_at_call 24; with_reducible refine (HVx.out _).mono ?_; rintro e w' ⟨rfl, rfl⟩) | (go_at_call 24; with_reducible refine (HVy.out _).mono ?_; rintro e w' ⟨rfl, rfl⟩) | fail)
      go_ret2
      exact ⟨rfl, HB.out⟩
    replace hy := Decidable.of_not_not hy
    rw [decide_eq_true hy] at HY
    by_cases hv : ¬ (-4095 ≤ vx ∧ vx ≤ 4095)
    · rw [decide_eq_false hv] at HVx
      clear hm hx hy hv
      go_enter Tryd.func13, Tryd.ntmps13
      go_wp2_with fail
      refine (HWh.out _).mono ?_
      rintro e v ⟨rfl, hb⟩
      have HB : Hid (Below u.heap.size u v) := below_to HA.out hb
      have r0 : v.cell? ⟨u.heap.size + 1, 0, none⟩ = some (.int .i64 X) := by rw [newCell hb _ _ (by simp)]; simp [go_sem]
      have r1 : v.cell? ⟨u.heap.size + 1, 1, none⟩ = some (.int .i64 Y) := by rw [newCell hb _ _ (by simp)]; simp [go_sem]
      have q0 : v.cell? ⟨u.heap.size + 1 + 1, 0, none⟩ = some (.int .i64 vx) := by rw [newCell hb _ _ (by simp)]; simp [go_sem]
      have q1 : v.cell? ⟨u.heap.size + 1 + 1, 1, none⟩ = some (.int .i64 vy) := by rw [newCell hb _ _ (by simp)]; simp [go_sem]
      clear hb HWh HA
      go_wp2_with (first | (go_at_call 23; with_reducible refine (HX.out _).mono ?_; rintro e w' ⟨rfl, rfl⟩) | (go_at_call 23; with_reducible refine (HY.out _).mono ?_; rintro e w' ⟨rfl, rfl⟩) | (go_at_call 24; with_reducible refine (HVx.out _).mono ?_; rintro e w' ⟨rfl, rfl⟩) | (go_at_call 24; with_reducible refine (HVy.out _).mono ?_; rintro e w' ⟨rfl, rfl⟩) | fail)
      go_ret2
      exact ⟨rfl, HB.out⟩
    replace hv := Decidable.of_not_not hv
    rw [decide_eq_true hv] at HVx
    by_cases hw : -4095 ≤ vy ∧ vy ≤ 4095
    · exact absurd ⟨n2, by omega, hx, hy, hv, hw⟩ hm
    · rw [decide_eq_false hw] at HVy
      clear hm hx hy hv hw
      go_enter Tryd.func13, Tryd.ntmps13
      go_wp2_with fail
      refine (HWh.out _).mono ?_
      rintro e v ⟨rfl, hb⟩
      have HB : Hid (Below u.heap.size u v) := below_to HA.out hb
      have r0 : v.cell? ⟨u.heap.size + 1, 0, none⟩ = some (.int .i64 X) := by rw [newCell hb _ _ (by simp)]; simp [go_sem]
      have r1 : v.cell? ⟨u.heap.size + 1, 1, none⟩ = some (.int .i64 Y) := by rw [newCell hb _ _ (by simp)]; simp [go_sem]
      have q0 : v.cell? ⟨u.heap.size + 1 + 1, 0, none⟩ = some (.int .i64 vx) := by rw [newCell hb _ _ (by simp)]; simp [go_sem]
      have q1 : v.cell? ⟨u.heap.size + 1 + 1, 1, none⟩ = some (.int .i64 vy) := by rw [newCell hb _ _ (by simp)]; simp [go_sem]
      clear hb HWh HA
      go_wp2_with (first | (go_at_call 23; with_reducible refine (HX.out _).mono ?_; rintro e w' ⟨rfl, rfl⟩) | (go_at_call 23; with_reducible refine (HY.out _).mono ?_; rintro e w' ⟨rfl, rfl⟩) | (go_at_call 24; with_reducible refine (HVx.out _).mono ?_; rintro e w' ⟨rfl, rfl⟩) | (go_at_call 24; with_reducible refine (HVy.out _).mono ?_; rintro e w' ⟨rfl, rfl⟩) | fail)
      go_ret2
      exact ⟨rfl, HB.out⟩
  · rw [fk_no hf] at HWh
    clear hf hn
    go_enter Tryd.func13, Tryd.ntmps13
    go_wp2_with fail
    refine (HWh.out _).mono ?_
    rintro e v ⟨rfl, hb⟩
    have HB : Hid (Below u.heap.size u v) := below_to HA.out hb
    have r0 : v.cell? ⟨u.heap.size + 1, 0, none⟩ = some (.int .i64 X) := by rw [newCell hb _ _ (by simp)]; simp [go_sem]
    have r1 : v.cell? ⟨u.heap.size + 1, 1, none⟩ = some (.int .i64 Y) := by rw [newCell hb _ _ (by simp)]; simp [go_sem]
    have q0 : v.cell? ⟨u.heap.size + 1 + 1, 0, none⟩ = some (.int .i64 vx) := by rw [newCell hb _ _ (by simp)]; simp [go_sem]
    have q1 : v.cell? ⟨u.heap.size + 1 + 1, 1, none⟩ = some (.int .i64 vy) := by rw [newCell hb _ _ (by simp)]; simp [go_sem]
    clear hb HWh HA
    go_wp2_with (first | (go_at_call 23; with_reducible refine (HX.out _).mono ?_; rintro e w' ⟨rfl, rfl⟩) | (go_at_call 23; with_reducible refine (HY.out _).mono ?_; rintro e w' ⟨rfl, rfl⟩) | (go_at_call 24; with_reducible refine (HVx.out _).mono ?_; rintro e w' ⟨rfl, rfl⟩) | (go_at_call 24; with_reducible refine (HVy.out _).mono ?_; rintro e w' ⟨rfl, rfl⟩) | fail)
    go_ret2
    exact ⟨rfl, HB.out⟩

end Go.Proofs.YtpideemiijhkgabDoor
