/- DERIVED. Lay refused, the program's and the document's. -/
import Derived.Test.YtlgfkkegehpllabPt
namespace Go.Proofs.Ytlgfkkegehpllab
open Go.RowKit

set_option maxHeartbeats 1000000 in
theorem lay_bad {u : World} {a : Option Addr} {c : Nat} {C : List Nat} {W H X Y w h : Int} {ab : Option Addr} {m cb : Nat} (hn : ¬ POk W H C) :
    Calls Try.prog 10 #[.agg #[.int .i64 W, .int .i64 H, .slice a C.length c], .agg #[.int .i64 X, .int .i64 Y, .int .i64 w, .int .i64 h], .slice ab m cb] u fun e w' => Pz u w' e := by
  have hck : ck W H C = 2 := ck_no hn
  clear hn
  go_enter Try.func10, Try.ntmps10
  go_wp2_with fail
  refine check_any.mono ?_
  rintro e w1 ⟨rfl, hb⟩
  rw [hck]
  have z0 : w1.cell? ⟨u.heap.size + 1 + 1, 0, none⟩ = some (.int .i64 0) := by rw [newCell hb _ _ (by simp <;> omega)]; simp [go_sem]
  have z1 : w1.cell? ⟨u.heap.size + 1 + 1, 1, none⟩ = some (.int .i64 0) := by rw [newCell hb _ _ (by simp <;> omega)]; simp [go_sem]
  have z2 : w1.cell? ⟨u.heap.size + 1 + 1, 2, none⟩ = some (.slice none 0 0) := by rw [newCell hb _ _ (by simp <;> omega)]; simp [go_sem]
  have th : ∀ o, w1.frozen? ⟨u.heap.size + 1 + 1, o, none⟩ = false := fun o => by rw [newFrozen hb _ _ (by simp <;> omega)]; simp [go_sem]
  have HB : Hid (Below u.heap.size u w1) := below_to (to_alloc (to_alloc (from_alloc u _) _) _) hb
  clear hb hck
  go_wp2_with fail
  refine bodyPost_ret (v := .tuple #[.agg #[.int .i64 0, .int .i64 0, .slice none 0 0], .int .i64 2]) (by simp [results, Try.results10, go_sem, z0, z1, z2]) rfl ?_
  exact ⟨rfl, HB.out.trans ((Kb.set (Kb.set (Kb.set (Kb.refl (u.heap.size + 1 + 1) _) 0 (.int .i64 0)) 1 (.int .i64 0)) 2 (.slice none 0 0)).below (by omega))⟩

set_option maxHeartbeats 1000000 in
theorem lay_out {u : World} {a : Option Addr} {c : Nat} {C : List Nat} {W H X Y w h : Int} {ab : Option Addr} {m cb : Nat} (hp : POk W H C) (hn : ¬ Win W H X Y w h) (bX : X ≤ 9223372036854775807) (bY : Y ≤ 9223372036854775807) :
    Calls Try.prog 10 #[.agg #[.int .i64 W, .int .i64 H, .slice a C.length c], .agg #[.int .i64 X, .int .i64 Y, .int .i64 w, .int .i64 h], .slice ab m cb] u fun e w' => Pz u w' e := by
  have hck : ck W H C = 0 := ck_ok hp
  have HP : Hid (POk W H C) := hp
  have HN : Hid (¬ Win W H X Y w h) := hn
  have BX : Bx (X ≤ 9223372036854775807) := ⟨bX⟩
  have BY : Bx (Y ≤ 9223372036854775807) := ⟨bY⟩
  clear bX bY
  clear hn hp
  go_enter Try.func10, Try.ntmps10
  go_wp2_with fail
  refine check_any.mono ?_
  rintro e w1 ⟨rfl, hb⟩
  rw [hck]
  have d0 : w1.cell? ⟨u.heap.size, 0, none⟩ = some (.int .i64 W) := by rw [newCell hb _ _ (by simp <;> omega)]; simp [go_sem]
  have d1 : w1.cell? ⟨u.heap.size, 1, none⟩ = some (.int .i64 H) := by rw [newCell hb _ _ (by simp <;> omega)]; simp [go_sem]
  have d2 : w1.cell? ⟨u.heap.size, 2, none⟩ = some (.slice a C.length c) := by rw [newCell hb _ _ (by simp <;> omega)]; simp [go_sem]
  have d3 : w1.cell? ⟨u.heap.size + 1, 0, none⟩ = some (.int .i64 X) := by rw [newCell hb _ _ (by simp <;> omega)]; simp [go_sem]
  have d4 : w1.cell? ⟨u.heap.size + 1, 1, none⟩ = some (.int .i64 Y) := by rw [newCell hb _ _ (by simp <;> omega)]; simp [go_sem]
  have d5 : w1.cell? ⟨u.heap.size + 1, 2, none⟩ = some (.int .i64 w) := by rw [newCell hb _ _ (by simp <;> omega)]; simp [go_sem]
  have d6 : w1.cell? ⟨u.heap.size + 1, 3, none⟩ = some (.int .i64 h) := by rw [newCell hb _ _ (by simp <;> omega)]; simp [go_sem]
  have z0 : w1.cell? ⟨u.heap.size + 1 + 1, 0, none⟩ = some (.int .i64 0) := by rw [newCell hb _ _ (by simp <;> omega)]; simp [go_sem]
  have z1 : w1.cell? ⟨u.heap.size + 1 + 1, 1, none⟩ = some (.int .i64 0) := by rw [newCell hb _ _ (by simp <;> omega)]; simp [go_sem]
  have z2 : w1.cell? ⟨u.heap.size + 1 + 1, 2, none⟩ = some (.slice none 0 0) := by rw [newCell hb _ _ (by simp <;> omega)]; simp [go_sem]
  have th : ∀ o, w1.frozen? ⟨u.heap.size + 1 + 1, o, none⟩ = false := fun o => by rw [newFrozen hb _ _ (by simp <;> omega)]; simp [go_sem]
  have hz : u.heap.size + 3 ≤ w1.heap.size := by have := hb.size; simp at this; omega
  have HB : Hid (Below u.heap.size u w1) := below_to (to_alloc (to_alloc (from_alloc u _) _) _) hb
  clear hb hck
  go_wp2_with fail
  refine (within_no HN.out HP.out.w0 HP.out.w1 HP.out.h0 HP.out.h1 BX.out BY.out).mono ?_
  rintro e w2 ⟨rfl, hb⟩
  have y0 : w2.cell? ⟨u.heap.size + 1 + 1, 0, none⟩ = some (.int .i64 0) := by rw [newCell hb _ _ (by omega)]; exact z0
  have y1 : w2.cell? ⟨u.heap.size + 1 + 1, 1, none⟩ = some (.int .i64 0) := by rw [newCell hb _ _ (by omega)]; exact z1
  have y2 : w2.cell? ⟨u.heap.size + 1 + 1, 2, none⟩ = some (.slice none 0 0) := by rw [newCell hb _ _ (by omega)]; exact z2
  have ty : ∀ o, w2.frozen? ⟨u.heap.size + 1 + 1, o, none⟩ = false := fun o => by rw [newFrozen hb _ _ (by omega)]; exact th o
  have HB2 : Hid (Below u.heap.size u w2) := below_to HB.out hb
  clear hb d0 d1 d2 d3 d4 d5 d6 z0 z1 z2 th
  go_wp2_with fail
  refine bodyPost_ret (v := .tuple #[.agg #[.int .i64 0, .int .i64 0, .slice none 0 0], .int .i64 2]) (by simp [results, Try.results10, go_sem, y0, y1, y2]) rfl ?_
  exact ⟨rfl, HB2.out.trans ((Kb.set (Kb.set (Kb.set (Kb.refl (u.heap.size + 1 + 1) _) 0 (.int .i64 0)) 1 (.int .i64 0)) 2 (.slice none 0 0)).below (by omega))⟩

set_option maxHeartbeats 1000000 in
theorem lay_len {u : World} {a : Option Addr} {c : Nat} {C : List Nat} {W H X Y w h : Int} {ab : Option Addr} {m cb : Nat} (hp : POk W H C) (hn : Win W H X Y w h) (hm : (m : Int) ≠ w * h) (hmb : m ≤ 140737488355328) :
    Calls Try.prog 10 #[.agg #[.int .i64 W, .int .i64 H, .slice a C.length c], .agg #[.int .i64 X, .int .i64 Y, .int .i64 w, .int .i64 h], .slice ab m cb] u fun e w' => Pz u w' e := by
  have hck : ck W H C = 0 := ck_ok hp
  have HP : Hid (POk W H C) := hp
  have HW : Hid (Win W H X Y w h) := hn
  obtain ⟨k, hk, hk1⟩ : ∃ k : Nat, w * h = (k : Int) ∧ k ≤ 262144 := by
    obtain ⟨x, rfl⟩ : ∃ x : Nat, w = (x : Int) := ⟨w.toNat, by have := hn.w0; omega⟩
    obtain ⟨y, rfl⟩ : ∃ y : Nat, h = (y : Int) := ⟨h.toNat, by have := hn.h0; omega⟩
    exact ⟨x * y, (Int.natCast_mul x y).symm, prod_le (by have := hn.wx; have := hn.x0; have := hp.w1; omega) (by have := hn.hy; have := hn.y0; have := hp.h1; omega)⟩
  have n2 : ((m : Int) != (k : Int)) = true := by rw [hk] at hm; simpa using hm
  have n1 : (k : Int) ≤ 262144 := by omega
  have n3 : (m : Int) ≤ 140737488355328 := by omega
  clear hm hmb hk1
  clear hn hp
  go_enter Try.func10, Try.ntmps10
  go_wp2_with fail
  refine check_any.mono ?_
  rintro e w1 ⟨rfl, hb⟩
  rw [hck]
  have d0 : w1.cell? ⟨u.heap.size, 0, none⟩ = some (.int .i64 W) := by rw [newCell hb _ _ (by simp <;> omega)]; simp [go_sem]
  have d1 : w1.cell? ⟨u.heap.size, 1, none⟩ = some (.int .i64 H) := by rw [newCell hb _ _ (by simp <;> omega)]; simp [go_sem]
  have d2 : w1.cell? ⟨u.heap.size, 2, none⟩ = some (.slice a C.length c) := by rw [newCell hb _ _ (by simp <;> omega)]; simp [go_sem]
  have d3 : w1.cell? ⟨u.heap.size + 1, 0, none⟩ = some (.int .i64 X) := by rw [newCell hb _ _ (by simp <;> omega)]; simp [go_sem]
  have d4 : w1.cell? ⟨u.heap.size + 1, 1, none⟩ = some (.int .i64 Y) := by rw [newCell hb _ _ (by simp <;> omega)]; simp [go_sem]
  have d5 : w1.cell? ⟨u.heap.size + 1, 2, none⟩ = some (.int .i64 w) := by rw [newCell hb _ _ (by simp <;> omega)]; simp [go_sem]
  have d6 : w1.cell? ⟨u.heap.size + 1, 3, none⟩ = some (.int .i64 h) := by rw [newCell hb _ _ (by simp <;> omega)]; simp [go_sem]
  have z0 : w1.cell? ⟨u.heap.size + 1 + 1, 0, none⟩ = some (.int .i64 0) := by rw [newCell hb _ _ (by simp <;> omega)]; simp [go_sem]
  have z1 : w1.cell? ⟨u.heap.size + 1 + 1, 1, none⟩ = some (.int .i64 0) := by rw [newCell hb _ _ (by simp <;> omega)]; simp [go_sem]
  have z2 : w1.cell? ⟨u.heap.size + 1 + 1, 2, none⟩ = some (.slice none 0 0) := by rw [newCell hb _ _ (by simp <;> omega)]; simp [go_sem]
  have th : ∀ o, w1.frozen? ⟨u.heap.size + 1 + 1, o, none⟩ = false := fun o => by rw [newFrozen hb _ _ (by simp <;> omega)]; simp [go_sem]
  have hz : u.heap.size + 3 ≤ w1.heap.size := by have := hb.size; simp at this; omega
  have HB : Hid (Below u.heap.size u w1) := below_to (to_alloc (to_alloc (from_alloc u _) _) _) hb
  clear hb hck
  go_wp2_with fail
  refine (within_yes HW.out HP.out.w0 HP.out.w1 HP.out.h0 HP.out.h1).mono ?_
  rintro e w2 ⟨rfl, hb⟩
  have y0 : w2.cell? ⟨u.heap.size + 1 + 1, 0, none⟩ = some (.int .i64 0) := by rw [newCell hb _ _ (by omega)]; exact z0
  have y1 : w2.cell? ⟨u.heap.size + 1 + 1, 1, none⟩ = some (.int .i64 0) := by rw [newCell hb _ _ (by omega)]; exact z1
  have y2 : w2.cell? ⟨u.heap.size + 1 + 1, 2, none⟩ = some (.slice none 0 0) := by rw [newCell hb _ _ (by omega)]; exact z2
  have ty : ∀ o, w2.frozen? ⟨u.heap.size + 1 + 1, o, none⟩ = false := fun o => by rw [newFrozen hb _ _ (by omega)]; exact th o
  have x2 : w2.cell? ⟨u.heap.size + 1, 2, none⟩ = some (.int .i64 w) := by rw [newCell hb _ _ (by omega)]; exact d5
  have x3 : w2.cell? ⟨u.heap.size + 1, 3, none⟩ = some (.int .i64 h) := by rw [newCell hb _ _ (by omega)]; exact d6
  have HB2 : Hid (Below u.heap.size u w2) := below_to HB.out hb
  clear hb d0 d1 d2 d3 d4 d5 d6 z0 z1 z2 th
  go_wp2_with fail
  refine bodyPost_ret (v := .tuple #[.agg #[.int .i64 0, .int .i64 0, .slice none 0 0], .int .i64 2]) (by simp [results, Try.results10, go_sem, y0, y1, y2]) rfl ?_
  exact ⟨rfl, HB2.out.trans ((Kb.set (Kb.set (Kb.set (Kb.refl (u.heap.size + 1 + 1) _) 0 (.int .i64 0)) 1 (.int .i64 0)) 2 (.slice none 0 0)).below (by omega))⟩


end Go.Proofs.Ytlgfkkegehpllab
