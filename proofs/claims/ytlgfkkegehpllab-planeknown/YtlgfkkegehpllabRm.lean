/- DERIVED. Sizes that may not be: both Frames, both Crops. -/
import Derived.Test.YtlgfkkegehpllabRi
import Derived.Test.YtlgfkkegehpllabPt
namespace Go.Proofs.Ytlgfkkegehpllab
open Go.RowKit

theorem vy {w : World} {n : Int} (h : Vs n) : Calls Try.prog 25 #[.int .i64 n] w fun e w' => e = .returned (.bool true) ∧ w = w' := (vs_yes h).mono (by rintro e w' ⟨rfl, rfl⟩; exact ⟨rfl, rfl⟩)
theorem vn {w : World} {n : Int} (h : ¬ Vs n) : Calls Try.prog 25 #[.int .i64 n] w fun e w' => e = .returned (.bool false) ∧ w = w' := (vs_no h).mono (by rintro e w' ⟨rfl, rfl⟩; exact ⟨rfl, rfl⟩)
set_option maxRecDepth 100000 in
set_option maxHeartbeats 1000000 in
theorem frame_no {u : World} {w h : Int} {v : Nat} (hn : ¬ (Vs w ∧ Vs h)) : Calls Try.prog 14 #[.int .i64 w, .int .i64 h, .int .u8 (v : Int)] u fun e w' => Fz u w' e := by
  have s0 : (u.alloc (.cells #[.int .i64 0, .int .i64 0, .slice none 0 0, .int .i64 0, .int .i64 0, .slice none 0 0, .int .i64 0, .int .i64 0, .slice none 0 0] 48)).cell? ⟨u.heap.size, 0, none⟩ = some (.int .i64 0) := by simp [go_sem]
  have s1 : (u.alloc (.cells #[.int .i64 0, .int .i64 0, .slice none 0 0, .int .i64 0, .int .i64 0, .slice none 0 0, .int .i64 0, .int .i64 0, .slice none 0 0] 48)).cell? ⟨u.heap.size, 1, none⟩ = some (.int .i64 0) := by simp [go_sem]
  have s2 : (u.alloc (.cells #[.int .i64 0, .int .i64 0, .slice none 0 0, .int .i64 0, .int .i64 0, .slice none 0 0, .int .i64 0, .int .i64 0, .slice none 0 0] 48)).cell? ⟨u.heap.size, 2, none⟩ = some (.slice none 0 0) := by simp [go_sem]
  have s3 : (u.alloc (.cells #[.int .i64 0, .int .i64 0, .slice none 0 0, .int .i64 0, .int .i64 0, .slice none 0 0, .int .i64 0, .int .i64 0, .slice none 0 0] 48)).cell? ⟨u.heap.size, 3, none⟩ = some (.int .i64 0) := by simp [go_sem]
  have s4 : (u.alloc (.cells #[.int .i64 0, .int .i64 0, .slice none 0 0, .int .i64 0, .int .i64 0, .slice none 0 0, .int .i64 0, .int .i64 0, .slice none 0 0] 48)).cell? ⟨u.heap.size, 4, none⟩ = some (.int .i64 0) := by simp [go_sem]
  have s5 : (u.alloc (.cells #[.int .i64 0, .int .i64 0, .slice none 0 0, .int .i64 0, .int .i64 0, .slice none 0 0, .int .i64 0, .int .i64 0, .slice none 0 0] 48)).cell? ⟨u.heap.size, 5, none⟩ = some (.slice none 0 0) := by simp [go_sem]
  have s6 : (u.alloc (.cells #[.int .i64 0, .int .i64 0, .slice none 0 0, .int .i64 0, .int .i64 0, .slice none 0 0, .int .i64 0, .int .i64 0, .slice none 0 0] 48)).cell? ⟨u.heap.size, 6, none⟩ = some (.int .i64 0) := by simp [go_sem]
  have s7 : (u.alloc (.cells #[.int .i64 0, .int .i64 0, .slice none 0 0, .int .i64 0, .int .i64 0, .slice none 0 0, .int .i64 0, .int .i64 0, .slice none 0 0] 48)).cell? ⟨u.heap.size, 7, none⟩ = some (.int .i64 0) := by simp [go_sem]
  have s8 : (u.alloc (.cells #[.int .i64 0, .int .i64 0, .slice none 0 0, .int .i64 0, .int .i64 0, .slice none 0 0, .int .i64 0, .int .i64 0, .slice none 0 0] 48)).cell? ⟨u.heap.size, 8, none⟩ = some (.slice none 0 0) := by simp [go_sem]
  have th : ∀ o, (u.alloc (.cells #[.int .i64 0, .int .i64 0, .slice none 0 0, .int .i64 0, .int .i64 0, .slice none 0 0, .int .i64 0, .int .i64 0, .slice none 0 0] 48)).frozen? ⟨u.heap.size, o, none⟩ = false := fun o => by simp [go_sem]
  have HB : Hid (Below u.heap.size u (u.alloc (.cells #[.int .i64 0, .int .i64 0, .slice none 0 0, .int .i64 0, .int .i64 0, .slice none 0 0, .int .i64 0, .int .i64 0, .slice none 0 0] 48))) := from_alloc _ _
  by_cases hw : Vs w
  · have hh : ¬ Vs h := fun k => hn ⟨hw, k⟩
    clear hn
    go_enter Try.func14, Try.ntmps14
    go_wp2_with fail
    generalize (u.alloc (.cells #[.int .i64 0, .int .i64 0, .slice none 0 0, .int .i64 0, .int .i64 0, .slice none 0 0, .int .i64 0, .int .i64 0, .slice none 0 0] 48)) = V at *
    refine (vy hw).mono ?_
    rintro e wq ⟨rfl, rfl⟩
    go_wp2_with fail
    refine (vn hh).mono ?_
    rintro e wq ⟨rfl, rfl⟩
    go_wp2_with fail
    refine bodyPost_ret (v := .tuple #[.agg #[.int .i64 0, .int .i64 0, .slice none 0 0, .int .i64 0, .int .i64 0, .slice none 0 0, .int .i64 0, .int .i64 0, .slice none 0 0], .int .i64 2]) (by simp [results, Try.results14, go_sem, s0, s1, s2, s3, s4, s5, s6, s7, s8]) rfl ?_
    have hk := Kb.set (Kb.set (Kb.set (Kb.set (Kb.set (Kb.set (Kb.set (Kb.set (Kb.set (Kb.refl (u.heap.size) V) 0 (.int .i64 0)) 1 (.int .i64 0)) 2 (.slice none 0 0)) 3 (.int .i64 0)) 4 (.int .i64 0)) 5 (.slice none 0 0)) 6 (.int .i64 0)) 7 (.int .i64 0)) 8 (.slice none 0 0)
    exact ⟨rfl, HB.out.trans (hk.below (by omega))⟩
  · clear hn
    go_enter Try.func14, Try.ntmps14
    go_wp2_with fail
    generalize (u.alloc (.cells #[.int .i64 0, .int .i64 0, .slice none 0 0, .int .i64 0, .int .i64 0, .slice none 0 0, .int .i64 0, .int .i64 0, .slice none 0 0] 48)) = V at *
    refine (vn hw).mono ?_
    rintro e wq ⟨rfl, rfl⟩
    go_wp2_with fail
    refine bodyPost_ret (v := .tuple #[.agg #[.int .i64 0, .int .i64 0, .slice none 0 0, .int .i64 0, .int .i64 0, .slice none 0 0, .int .i64 0, .int .i64 0, .slice none 0 0], .int .i64 2]) (by simp [results, Try.results14, go_sem, s0, s1, s2, s3, s4, s5, s6, s7, s8]) rfl ?_
    have hk := Kb.set (Kb.set (Kb.set (Kb.set (Kb.set (Kb.set (Kb.set (Kb.set (Kb.set (Kb.refl (u.heap.size) V) 0 (.int .i64 0)) 1 (.int .i64 0)) 2 (.slice none 0 0)) 3 (.int .i64 0)) 4 (.int .i64 0)) 5 (.slice none 0 0)) 6 (.int .i64 0)) 7 (.int .i64 0)) 8 (.slice none 0 0)
    exact ⟨rfl, HB.out.trans (hk.below (by omega))⟩

set_option maxRecDepth 100000 in
set_option maxHeartbeats 1000000 in
set_option maxRecDepth 100000 in
set_option maxHeartbeats 1000000 in
theorem crop_no {u : World} {W0 H0 W1 H1 W2 H2 : Int} {a0 a1 a2 : Option Addr} {c0 c1 c2 : Nat} {C0 C1 C2 : List Nat} {w h : Int} (hf : FOk ⟨W0, H0, a0, c0, C0⟩ ⟨W1, H1, a1, c1, C1⟩ ⟨W2, H2, a2, c2, C2⟩) (hn : ¬ (Vs w ∧ Vs h ∧ w ≤ W0 ∧ h ≤ H0)) :
    Calls Try.prog 15 #[.agg #[.int .i64 W0, .int .i64 H0, .slice a0 C0.length c0, .int .i64 W1, .int .i64 H1, .slice a1 C1.length c1, .int .i64 W2, .int .i64 H2, .slice a2 C2.length c2], .int .i64 w, .int .i64 h] u fun e w' => Fz u w' e := by
  have hfk := fk_ok hf
  clear hf
  by_cases hw : Vs w
  · by_cases hh : Vs h
    · by_cases hx : W0 < w
      · clear hn
        go_enter Try.func15, Try.ntmps15
        go_wp2_with fail
        refine whole_any.mono ?_
        rintro e w1 ⟨rfl, hb⟩
        rw [hfk]
        have s0 : w1.cell? ⟨u.heap.size + 1, 0, none⟩ = some (.int .i64 0) := by rw [newCell hb _ _ (by simp)]; simp [go_sem]
        have s1 : w1.cell? ⟨u.heap.size + 1, 1, none⟩ = some (.int .i64 0) := by rw [newCell hb _ _ (by simp)]; simp [go_sem]
        have s2 : w1.cell? ⟨u.heap.size + 1, 2, none⟩ = some (.slice none 0 0) := by rw [newCell hb _ _ (by simp)]; simp [go_sem]
        have s3 : w1.cell? ⟨u.heap.size + 1, 3, none⟩ = some (.int .i64 0) := by rw [newCell hb _ _ (by simp)]; simp [go_sem]
        have s4 : w1.cell? ⟨u.heap.size + 1, 4, none⟩ = some (.int .i64 0) := by rw [newCell hb _ _ (by simp)]; simp [go_sem]
        have s5 : w1.cell? ⟨u.heap.size + 1, 5, none⟩ = some (.slice none 0 0) := by rw [newCell hb _ _ (by simp)]; simp [go_sem]
        have s6 : w1.cell? ⟨u.heap.size + 1, 6, none⟩ = some (.int .i64 0) := by rw [newCell hb _ _ (by simp)]; simp [go_sem]
        have s7 : w1.cell? ⟨u.heap.size + 1, 7, none⟩ = some (.int .i64 0) := by rw [newCell hb _ _ (by simp)]; simp [go_sem]
        have s8 : w1.cell? ⟨u.heap.size + 1, 8, none⟩ = some (.slice none 0 0) := by rw [newCell hb _ _ (by simp)]; simp [go_sem]
        have th : ∀ o, w1.frozen? ⟨u.heap.size + 1, o, none⟩ = false := fun o => by rw [newFrozen hb _ _ (by simp)]; simp [go_sem]
        have f0 : w1.cell? ⟨u.heap.size, 0, none⟩ = some (.int .i64 W0) := by rw [newCell hb _ _ (by simp <;> omega)]; simp [go_sem]
        have f1 : w1.cell? ⟨u.heap.size, 1, none⟩ = some (.int .i64 H0) := by rw [newCell hb _ _ (by simp <;> omega)]; simp [go_sem]
        have HB : Hid (Below u.heap.size u w1) := below_to (to_alloc (from_alloc u _) _) hb
        clear hb hfk
        go_wp2_with fail
        refine (vy hw).mono ?_
        rintro e wq ⟨rfl, rfl⟩
        go_wp2_with fail
        refine (vy hh).mono ?_
        rintro e wq ⟨rfl, rfl⟩
        go_wp2_with fail
        refine bodyPost_ret (v := .tuple #[.agg #[.int .i64 0, .int .i64 0, .slice none 0 0, .int .i64 0, .int .i64 0, .slice none 0 0, .int .i64 0, .int .i64 0, .slice none 0 0], .int .i64 2]) (by simp [results, Try.results15, go_sem, s0, s1, s2, s3, s4, s5, s6, s7, s8]) rfl ?_
        have hk := Kb.set (Kb.set (Kb.set (Kb.set (Kb.set (Kb.set (Kb.set (Kb.set (Kb.set (Kb.refl (u.heap.size + 1) w1) 0 (.int .i64 0)) 1 (.int .i64 0)) 2 (.slice none 0 0)) 3 (.int .i64 0)) 4 (.int .i64 0)) 5 (.slice none 0 0)) 6 (.int .i64 0)) 7 (.int .i64 0)) 8 (.slice none 0 0)
        exact ⟨rfl, HB.out.trans (hk.below (by omega))⟩
      · have hy : H0 < h := by
          rcases Int.lt_or_le H0 h with k | k
          · exact k
          · exact (hn ⟨hw, hh, by omega, k⟩).elim
        clear hn
        go_enter Try.func15, Try.ntmps15
        go_wp2_with fail
        refine whole_any.mono ?_
        rintro e w1 ⟨rfl, hb⟩
        rw [hfk]
        have s0 : w1.cell? ⟨u.heap.size + 1, 0, none⟩ = some (.int .i64 0) := by rw [newCell hb _ _ (by simp)]; simp [go_sem]
        have s1 : w1.cell? ⟨u.heap.size + 1, 1, none⟩ = some (.int .i64 0) := by rw [newCell hb _ _ (by simp)]; simp [go_sem]
        have s2 : w1.cell? ⟨u.heap.size + 1, 2, none⟩ = some (.slice none 0 0) := by rw [newCell hb _ _ (by simp)]; simp [go_sem]
        have s3 : w1.cell? ⟨u.heap.size + 1, 3, none⟩ = some (.int .i64 0) := by rw [newCell hb _ _ (by simp)]; simp [go_sem]
        have s4 : w1.cell? ⟨u.heap.size + 1, 4, none⟩ = some (.int .i64 0) := by rw [newCell hb _ _ (by simp)]; simp [go_sem]
        have s5 : w1.cell? ⟨u.heap.size + 1, 5, none⟩ = some (.slice none 0 0) := by rw [newCell hb _ _ (by simp)]; simp [go_sem]
        have s6 : w1.cell? ⟨u.heap.size + 1, 6, none⟩ = some (.int .i64 0) := by rw [newCell hb _ _ (by simp)]; simp [go_sem]
        have s7 : w1.cell? ⟨u.heap.size + 1, 7, none⟩ = some (.int .i64 0) := by rw [newCell hb _ _ (by simp)]; simp [go_sem]
        have s8 : w1.cell? ⟨u.heap.size + 1, 8, none⟩ = some (.slice none 0 0) := by rw [newCell hb _ _ (by simp)]; simp [go_sem]
        have th : ∀ o, w1.frozen? ⟨u.heap.size + 1, o, none⟩ = false := fun o => by rw [newFrozen hb _ _ (by simp)]; simp [go_sem]
        have f0 : w1.cell? ⟨u.heap.size, 0, none⟩ = some (.int .i64 W0) := by rw [newCell hb _ _ (by simp <;> omega)]; simp [go_sem]
        have f1 : w1.cell? ⟨u.heap.size, 1, none⟩ = some (.int .i64 H0) := by rw [newCell hb _ _ (by simp <;> omega)]; simp [go_sem]
        have HB : Hid (Below u.heap.size u w1) := below_to (to_alloc (from_alloc u _) _) hb
        clear hb hfk
        go_wp2_with fail
        refine (vy hw).mono ?_
        rintro e wq ⟨rfl, rfl⟩
        go_wp2_with fail
        refine (vy hh).mono ?_
        rintro e wq ⟨rfl, rfl⟩
        go_wp2_with fail
        refine bodyPost_ret (v := .tuple #[.agg #[.int .i64 0, .int .i64 0, .slice none 0 0, .int .i64 0, .int .i64 0, .slice none 0 0, .int .i64 0, .int .i64 0, .slice none 0 0], .int .i64 2]) (by simp [results, Try.results15, go_sem, s0, s1, s2, s3, s4, s5, s6, s7, s8]) rfl ?_
        have hk := Kb.set (Kb.set (Kb.set (Kb.set (Kb.set (Kb.set (Kb.set (Kb.set (Kb.set (Kb.refl (u.heap.size + 1) w1) 0 (.int .i64 0)) 1 (.int .i64 0)) 2 (.slice none 0 0)) 3 (.int .i64 0)) 4 (.int .i64 0)) 5 (.slice none 0 0)) 6 (.int .i64 0)) 7 (.int .i64 0)) 8 (.slice none 0 0)
        exact ⟨rfl, HB.out.trans (hk.below (by omega))⟩
    · clear hn
      go_enter Try.func15, Try.ntmps15
      go_wp2_with fail
      refine whole_any.mono ?_
      rintro e w1 ⟨rfl, hb⟩
      rw [hfk]
      have s0 : w1.cell? ⟨u.heap.size + 1, 0, none⟩ = some (.int .i64 0) := by rw [newCell hb _ _ (by simp)]; simp [go_sem]
      have s1 : w1.cell? ⟨u.heap.size + 1, 1, none⟩ = some (.int .i64 0) := by rw [newCell hb _ _ (by simp)]; simp [go_sem]
      have s2 : w1.cell? ⟨u.heap.size + 1, 2, none⟩ = some (.slice none 0 0) := by rw [newCell hb _ _ (by simp)]; simp [go_sem]
      have s3 : w1.cell? ⟨u.heap.size + 1, 3, none⟩ = some (.int .i64 0) := by rw [newCell hb _ _ (by simp)]; simp [go_sem]
      have s4 : w1.cell? ⟨u.heap.size + 1, 4, none⟩ = some (.int .i64 0) := by rw [newCell hb _ _ (by simp)]; simp [go_sem]
      have s5 : w1.cell? ⟨u.heap.size + 1, 5, none⟩ = some (.slice none 0 0) := by rw [newCell hb _ _ (by simp)]; simp [go_sem]
      have s6 : w1.cell? ⟨u.heap.size + 1, 6, none⟩ = some (.int .i64 0) := by rw [newCell hb _ _ (by simp)]; simp [go_sem]
      have s7 : w1.cell? ⟨u.heap.size + 1, 7, none⟩ = some (.int .i64 0) := by rw [newCell hb _ _ (by simp)]; simp [go_sem]
      have s8 : w1.cell? ⟨u.heap.size + 1, 8, none⟩ = some (.slice none 0 0) := by rw [newCell hb _ _ (by simp)]; simp [go_sem]
      have th : ∀ o, w1.frozen? ⟨u.heap.size + 1, o, none⟩ = false := fun o => by rw [newFrozen hb _ _ (by simp)]; simp [go_sem]
      have f0 : w1.cell? ⟨u.heap.size, 0, none⟩ = some (.int .i64 W0) := by rw [newCell hb _ _ (by simp <;> omega)]; simp [go_sem]
      have f1 : w1.cell? ⟨u.heap.size, 1, none⟩ = some (.int .i64 H0) := by rw [newCell hb _ _ (by simp <;> omega)]; simp [go_sem]
      have HB : Hid (Below u.heap.size u w1) := below_to (to_alloc (from_alloc u _) _) hb
      clear hb hfk
      go_wp2_with fail
      refine (vy hw).mono ?_
      rintro e wq ⟨rfl, rfl⟩
      go_wp2_with fail
      refine (vn hh).mono ?_
      rintro e wq ⟨rfl, rfl⟩
      go_wp2_with fail
      refine bodyPost_ret (v := .tuple #[.agg #[.int .i64 0, .int .i64 0, .slice none 0 0, .int .i64 0, .int .i64 0, .slice none 0 0, .int .i64 0, .int .i64 0, .slice none 0 0], .int .i64 2]) (by simp [results, Try.results15, go_sem, s0, s1, s2, s3, s4, s5, s6, s7, s8]) rfl ?_
      have hk := Kb.set (Kb.set (Kb.set (Kb.set (Kb.set (Kb.set (Kb.set (Kb.set (Kb.set (Kb.refl (u.heap.size + 1) w1) 0 (.int .i64 0)) 1 (.int .i64 0)) 2 (.slice none 0 0)) 3 (.int .i64 0)) 4 (.int .i64 0)) 5 (.slice none 0 0)) 6 (.int .i64 0)) 7 (.int .i64 0)) 8 (.slice none 0 0)
      exact ⟨rfl, HB.out.trans (hk.below (by omega))⟩
  · clear hn
    go_enter Try.func15, Try.ntmps15
    go_wp2_with fail
    refine whole_any.mono ?_
    rintro e w1 ⟨rfl, hb⟩
    rw [hfk]
    have s0 : w1.cell? ⟨u.heap.size + 1, 0, none⟩ = some (.int .i64 0) := by rw [newCell hb _ _ (by simp)]; simp [go_sem]
    have s1 : w1.cell? ⟨u.heap.size + 1, 1, none⟩ = some (.int .i64 0) := by rw [newCell hb _ _ (by simp)]; simp [go_sem]
    have s2 : w1.cell? ⟨u.heap.size + 1, 2, none⟩ = some (.slice none 0 0) := by rw [newCell hb _ _ (by simp)]; simp [go_sem]
    have s3 : w1.cell? ⟨u.heap.size + 1, 3, none⟩ = some (.int .i64 0) := by rw [newCell hb _ _ (by simp)]; simp [go_sem]
    have s4 : w1.cell? ⟨u.heap.size + 1, 4, none⟩ = some (.int .i64 0) := by rw [newCell hb _ _ (by simp)]; simp [go_sem]
    have s5 : w1.cell? ⟨u.heap.size + 1, 5, none⟩ = some (.slice none 0 0) := by rw [newCell hb _ _ (by simp)]; simp [go_sem]
    have s6 : w1.cell? ⟨u.heap.size + 1, 6, none⟩ = some (.int .i64 0) := by rw [newCell hb _ _ (by simp)]; simp [go_sem]
    have s7 : w1.cell? ⟨u.heap.size + 1, 7, none⟩ = some (.int .i64 0) := by rw [newCell hb _ _ (by simp)]; simp [go_sem]
    have s8 : w1.cell? ⟨u.heap.size + 1, 8, none⟩ = some (.slice none 0 0) := by rw [newCell hb _ _ (by simp)]; simp [go_sem]
    have th : ∀ o, w1.frozen? ⟨u.heap.size + 1, o, none⟩ = false := fun o => by rw [newFrozen hb _ _ (by simp)]; simp [go_sem]
    have f0 : w1.cell? ⟨u.heap.size, 0, none⟩ = some (.int .i64 W0) := by rw [newCell hb _ _ (by simp <;> omega)]; simp [go_sem]
    have f1 : w1.cell? ⟨u.heap.size, 1, none⟩ = some (.int .i64 H0) := by rw [newCell hb _ _ (by simp <;> omega)]; simp [go_sem]
    have HB : Hid (Below u.heap.size u w1) := below_to (to_alloc (from_alloc u _) _) hb
    clear hb hfk
    go_wp2_with fail
    refine (vn hw).mono ?_
    rintro e wq ⟨rfl, rfl⟩
    go_wp2_with fail
    refine bodyPost_ret (v := .tuple #[.agg #[.int .i64 0, .int .i64 0, .slice none 0 0, .int .i64 0, .int .i64 0, .slice none 0 0, .int .i64 0, .int .i64 0, .slice none 0 0], .int .i64 2]) (by simp [results, Try.results15, go_sem, s0, s1, s2, s3, s4, s5, s6, s7, s8]) rfl ?_
    have hk := Kb.set (Kb.set (Kb.set (Kb.set (Kb.set (Kb.set (Kb.set (Kb.set (Kb.set (Kb.refl (u.heap.size + 1) w1) 0 (.int .i64 0)) 1 (.int .i64 0)) 2 (.slice none 0 0)) 3 (.int .i64 0)) 4 (.int .i64 0)) 5 (.slice none 0 0)) 6 (.int .i64 0)) 7 (.int .i64 0)) 8 (.slice none 0 0)
    exact ⟨rfl, HB.out.trans (hk.below (by omega))⟩


end Go.Proofs.Ytlgfkkegehpllab
