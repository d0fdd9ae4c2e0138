/- DERIVED. Pad refused, the program's and the document's; the document's Pad. -/
import Derived.Test.YtlgfkkegehpllaaQe
import Derived.Test.YtlgfkkegehpllaaQc
namespace Go.Proofs.Ytlgfkkegehpllaa
open Go.RowKit

set_option maxHeartbeats 1000000 in
theorem pad_bad {u : World} {a : Option Addr} {c : Nat} {C : List Nat} {W H w h : Int} (hn : ¬ POk W H C) :
    Calls Try.prog 28 #[.agg #[.int .i64 W, .int .i64 H, .slice a C.length c], .int .i64 w, .int .i64 h] u fun e w' => Pz u w' e := by
  have hck : ck W H C = 2 := ck_no hn
  clear hn
  go_enter Try.func28, Try.ntmps28
  go_wp2_with fail
  refine check_any.mono ?_
  rintro e w1 ⟨rfl, hb⟩
  rw [hck]
  have z0 : w1.cell? ⟨u.heap.size + 1, 0, none⟩ = some (.int .i64 0) := by rw [newCell hb _ _ (by simp <;> omega)]; simp [go_sem]
  have z1 : w1.cell? ⟨u.heap.size + 1, 1, none⟩ = some (.int .i64 0) := by rw [newCell hb _ _ (by simp <;> omega)]; simp [go_sem]
  have z2 : w1.cell? ⟨u.heap.size + 1, 2, none⟩ = some (.slice none 0 0) := by rw [newCell hb _ _ (by simp <;> omega)]; simp [go_sem]
  have th : ∀ o, w1.frozen? ⟨u.heap.size + 1, o, none⟩ = false := fun o => by rw [newFrozen hb _ _ (by simp <;> omega)]; simp [go_sem]
  have HB : Hid (Below u.heap.size u w1) := below_to (to_alloc (from_alloc u _) _) hb
  clear hb hck
  go_wp2_with fail
  refine bodyPost_ret (v := .tuple #[.agg #[.int .i64 0, .int .i64 0, .slice none 0 0], .int .i64 2]) (by simp [results, Try.results28, go_sem, z0, z1, z2]) rfl ?_
  exact ⟨rfl, HB.out.trans ((Kb.set (Kb.set (Kb.set (Kb.refl (u.heap.size + 1) _) 0 (.int .i64 0)) 1 (.int .i64 0)) 2 (.slice none 0 0)).below (by omega))⟩

set_option maxHeartbeats 1000000 in
theorem pad_out {u : World} {a : Option Addr} {c : Nat} {C : List Nat} {W H w h : Int} (hp : POk W H C) (hn : ¬ (W ≤ w ∧ w ≤ 512 ∧ H ≤ h ∧ h ≤ 512)) :
    Calls Try.prog 28 #[.agg #[.int .i64 W, .int .i64 H, .slice a C.length c], .int .i64 w, .int .i64 h] u fun e w' => Pz u w' e := by
  have hck : ck W H C = 0 := ck_ok hp
  obtain ⟨p1, p2, p3, p4, _⟩ := hp
  rcases (show (w < 1) ∨ (1 ≤ w ∧ 512 < w) ∨ (1 ≤ w ∧ w ≤ 512 ∧ h < 1) ∨ (1 ≤ w ∧ w ≤ 512 ∧ 1 ≤ h ∧ 512 < h) ∨ (1 ≤ w ∧ w ≤ 512 ∧ 1 ≤ h ∧ h ≤ 512 ∧ w < W) ∨ (1 ≤ w ∧ w ≤ 512 ∧ 1 ≤ h ∧ h ≤ 512 ∧ W ≤ w ∧ h < H) by omega) with q0 | ⟨q0, q1⟩ | ⟨q0, q1, q2⟩ | ⟨q0, q1, q2, q3⟩ | ⟨q0, q1, q2, q3, q4⟩ | ⟨q0, q1, q2, q3, q4, q5⟩
  all_goals
    clear hn
    go_enter Try.func28, Try.ntmps28
    go_wp2_with fail
    refine check_any.mono ?_
    rintro e w1 ⟨rfl, hb⟩
    rw [hck]
    have d0 : w1.cell? ⟨u.heap.size, 0, none⟩ = some (.int .i64 W) := by rw [newCell hb _ _ (by simp <;> omega)]; simp [go_sem]
    have d1 : w1.cell? ⟨u.heap.size, 1, none⟩ = some (.int .i64 H) := by rw [newCell hb _ _ (by simp <;> omega)]; simp [go_sem]
    have d2 : w1.cell? ⟨u.heap.size, 2, none⟩ = some (.slice a C.length c) := by rw [newCell hb _ _ (by simp <;> omega)]; simp [go_sem]
    have z0 : w1.cell? ⟨u.heap.size + 1, 0, none⟩ = some (.int .i64 0) := by rw [newCell hb _ _ (by simp <;> omega)]; simp [go_sem]
    have z1 : w1.cell? ⟨u.heap.size + 1, 1, none⟩ = some (.int .i64 0) := by rw [newCell hb _ _ (by simp <;> omega)]; simp [go_sem]
    have z2 : w1.cell? ⟨u.heap.size + 1, 2, none⟩ = some (.slice none 0 0) := by rw [newCell hb _ _ (by simp <;> omega)]; simp [go_sem]
    have th : ∀ o, w1.frozen? ⟨u.heap.size + 1, o, none⟩ = false := fun o => by rw [newFrozen hb _ _ (by simp <;> omega)]; simp [go_sem]
    have HB : Hid (Below u.heap.size u w1) := below_to (to_alloc (from_alloc u _) _) hb
    clear hb hck
    go_wp2_with (go_at_call 44; go_in)
    refine bodyPost_ret (v := .tuple #[.agg #[.int .i64 0, .int .i64 0, .slice none 0 0], .int .i64 2]) (by simp [results, Try.results28, go_sem, z0, z1, z2]) rfl ?_
    exact ⟨rfl, HB.out.trans ((Kb.set (Kb.set (Kb.set (Kb.refl (u.heap.size + 1) _) 0 (.int .i64 0)) 1 (.int .i64 0)) 2 (.slice none 0 0)).below (by omega))⟩

set_option maxHeartbeats 1000000 in
theorem rpad_bad {u : World} {a : Option Addr} {c : Nat} {C : List Nat} {W H w h : Int} (hn : ¬ POk W H C) :
    Calls Try.prog 29 #[.agg #[.int .i64 W, .int .i64 H, .slice a C.length c], .int .i64 w, .int .i64 h] u fun e w' => Pz u w' e := by
  have hck : ck W H C = 2 := ck_no hn
  clear hn
  go_enter Try.func29, Try.ntmps29
  go_wp2_with fail
  refine rcheck_any.mono ?_
  rintro e w1 ⟨rfl, hb⟩
  rw [hck]
  have z0 : w1.cell? ⟨u.heap.size + 1, 0, none⟩ = some (.int .i64 0) := by rw [newCell hb _ _ (by simp <;> omega)]; simp [go_sem]
  have z1 : w1.cell? ⟨u.heap.size + 1, 1, none⟩ = some (.int .i64 0) := by rw [newCell hb _ _ (by simp <;> omega)]; simp [go_sem]
  have z2 : w1.cell? ⟨u.heap.size + 1, 2, none⟩ = some (.slice none 0 0) := by rw [newCell hb _ _ (by simp <;> omega)]; simp [go_sem]
  have th : ∀ o, w1.frozen? ⟨u.heap.size + 1, o, none⟩ = false := fun o => by rw [newFrozen hb _ _ (by simp <;> omega)]; simp [go_sem]
  have HB : Hid (Below u.heap.size u w1) := below_to (to_alloc (from_alloc u _) _) hb
  clear hb hck
  go_wp2_with fail
  refine bodyPost_ret (v := .tuple #[.agg #[.int .i64 0, .int .i64 0, .slice none 0 0], .int .i64 2]) (by simp [results, Try.results29, go_sem, z0, z1, z2]) rfl ?_
  exact ⟨rfl, HB.out.trans ((Kb.set (Kb.set (Kb.set (Kb.refl (u.heap.size + 1) _) 0 (.int .i64 0)) 1 (.int .i64 0)) 2 (.slice none 0 0)).below (by omega))⟩

set_option maxHeartbeats 1000000 in
theorem rpad_out {u : World} {a : Option Addr} {c : Nat} {C : List Nat} {W H w h : Int} (hp : POk W H C) (hn : ¬ (W ≤ w ∧ w ≤ 512 ∧ H ≤ h ∧ h ≤ 512)) :
    Calls Try.prog 29 #[.agg #[.int .i64 W, .int .i64 H, .slice a C.length c], .int .i64 w, .int .i64 h] u fun e w' => Pz u w' e := by
  have hck : ck W H C = 0 := ck_ok hp
  obtain ⟨p1, p2, p3, p4, _⟩ := hp
  rcases (show (w < W) ∨ (W ≤ w ∧ 512 < w) ∨ (W ≤ w ∧ w ≤ 512 ∧ h < H) ∨ (W ≤ w ∧ w ≤ 512 ∧ H ≤ h ∧ 512 < h) by omega) with q0 | ⟨q0, q1⟩ | ⟨q0, q1, q2⟩ | ⟨q0, q1, q2, q3⟩
  all_goals
    clear hn
    go_enter Try.func29, Try.ntmps29
    go_wp2_with fail
    refine rcheck_any.mono ?_
    rintro e w1 ⟨rfl, hb⟩
    rw [hck]
    have d0 : w1.cell? ⟨u.heap.size, 0, none⟩ = some (.int .i64 W) := by rw [newCell hb _ _ (by simp <;> omega)]; simp [go_sem]
    have d1 : w1.cell? ⟨u.heap.size, 1, none⟩ = some (.int .i64 H) := by rw [newCell hb _ _ (by simp <;> omega)]; simp [go_sem]
    have d2 : w1.cell? ⟨u.heap.size, 2, none⟩ = some (.slice a C.length c) := by rw [newCell hb _ _ (by simp <;> omega)]; simp [go_sem]
    have z0 : w1.cell? ⟨u.heap.size + 1, 0, none⟩ = some (.int .i64 0) := by rw [newCell hb _ _ (by simp <;> omega)]; simp [go_sem]
    have z1 : w1.cell? ⟨u.heap.size + 1, 1, none⟩ = some (.int .i64 0) := by rw [newCell hb _ _ (by simp <;> omega)]; simp [go_sem]
    have z2 : w1.cell? ⟨u.heap.size + 1, 2, none⟩ = some (.slice none 0 0) := by rw [newCell hb _ _ (by simp <;> omega)]; simp [go_sem]
    have th : ∀ o, w1.frozen? ⟨u.heap.size + 1, o, none⟩ = false := fun o => by rw [newFrozen hb _ _ (by simp <;> omega)]; simp [go_sem]
    have HB : Hid (Below u.heap.size u w1) := below_to (to_alloc (from_alloc u _) _) hb
    clear hb hck
    go_wp2_with fail
    refine bodyPost_ret (v := .tuple #[.agg #[.int .i64 0, .int .i64 0, .slice none 0 0], .int .i64 2]) (by simp [results, Try.results29, go_sem, z0, z1, z2]) rfl ?_
    exact ⟨rfl, HB.out.trans ((Kb.set (Kb.set (Kb.set (Kb.refl (u.heap.size + 1) _) 0 (.int .i64 0)) 1 (.int .i64 0)) 2 (.slice none 0 0)).below (by omega))⟩

set_option maxHeartbeats 1000000 in
theorem rpad_ok {u : World} {a : Option Addr} {c : Nat} {C : List Nat} {x y wd hd : Nat} (hs : Sl u .u8 a C) (hx0 : 1 ≤ x) (hx1 : x ≤ 512) (hy0 : 1 ≤ y) (hy1 : y ≤ 512) (hl : C.length = x * y) (hw0 : x ≤ wd) (hw1 : wd ≤ 512) (hh0 : y ≤ hd) (hh1 : hd ≤ 512) :
    Calls Try.prog 29 #[.agg #[.int .i64 (x : Int), .int .i64 (y : Int), .slice a C.length c], .int .i64 (wd : Int), .int .i64 (hd : Int)] u fun e w' => Pn u w' e wd hd (padL x y C wd hd) := by
  have hck : ck (x : Int) (y : Int) C = 0 := ck_ok (POk.of hx0 hx1 hy0 hy1 hl)
  have HL : Hid (C.length = x * y) := hl
  have HS : Hid (Sl u .u8 a C) := hs
  have i1 : (wd : Int) ≤ 512 := by omega
  have i2 : (hd : Int) ≤ 512 := by omega
  have i3 : (x : Int) ≤ (wd : Int) := by omega
  have i4 : (y : Int) ≤ (hd : Int) := by omega
  clear hl hs
  go_enter Try.func29, Try.ntmps29
  go_wp2_with fail
  refine rcheck_any.mono ?_
  rintro e w1 ⟨rfl, hb⟩
  rw [hck]
  have d0 : w1.cell? ⟨u.heap.size, 0, none⟩ = some (.int .i64 (x : Int)) := by rw [newCell hb _ _ (by simp <;> omega)]; simp [go_sem]
  have d1 : w1.cell? ⟨u.heap.size, 1, none⟩ = some (.int .i64 (y : Int)) := by rw [newCell hb _ _ (by simp <;> omega)]; simp [go_sem]
  have d2 : w1.cell? ⟨u.heap.size, 2, none⟩ = some (.slice a C.length c) := by rw [newCell hb _ _ (by simp <;> omega)]; simp [go_sem]
  have z0 : w1.cell? ⟨u.heap.size + 1, 0, none⟩ = some (.int .i64 0) := by rw [newCell hb _ _ (by simp <;> omega)]; simp [go_sem]
  have z1 : w1.cell? ⟨u.heap.size + 1, 1, none⟩ = some (.int .i64 0) := by rw [newCell hb _ _ (by simp <;> omega)]; simp [go_sem]
  have z2 : w1.cell? ⟨u.heap.size + 1, 2, none⟩ = some (.slice none 0 0) := by rw [newCell hb _ _ (by simp <;> omega)]; simp [go_sem]
  have th : ∀ o, w1.frozen? ⟨u.heap.size + 1, o, none⟩ = false := fun o => by rw [newFrozen hb _ _ (by simp <;> omega)]; simp [go_sem]
  have hz : u.heap.size + 2 ≤ w1.heap.size := by have := hb.size; simp at this; omega
  have HB : Hid (Below u.heap.size u w1) := below_to (to_alloc (from_alloc u _) _) hb
  clear hb hck
  go_wp2_with fail
  refine (sized_ok (HS.out.to HB.out) hx0 hx1 hy0 hy1 HL.out (by omega) hw1 hh1).mono ?_
  rintro e w2 ⟨g, rfl, hg, hr, hb⟩
  have y0 : w2.cell? ⟨u.heap.size + 1, 0, none⟩ = some (.int .i64 0) := by rw [newCell hb _ _ (by omega)]; exact z0
  have y1 : w2.cell? ⟨u.heap.size + 1, 1, none⟩ = some (.int .i64 0) := by rw [newCell hb _ _ (by omega)]; exact z1
  have y2 : w2.cell? ⟨u.heap.size + 1, 2, none⟩ = some (.slice none 0 0) := by rw [newCell hb _ _ (by omega)]; exact z2
  have ty : ∀ o, w2.frozen? ⟨u.heap.size + 1, o, none⟩ = false := fun o => by rw [newFrozen hb _ _ (by omega)]; exact th o
  have HB2 : Hid (Below u.heap.size u w2) := below_to HB.out hb
  have HR : Hid (Rw w2 g (padL x y C wd hd)) := hr
  clear hb hr d0 d1 d2 z0 z1 z2 th
  go_wp2_with fail
  refine bodyPost_ret (v := .tuple #[.agg #[.int .i64 (wd : Int), .int .i64 (hd : Int), .slice (some ⟨g, 0, none⟩) (padL x y C wd hd).length (padL x y C wd hd).length], .int .i64 0]) (by simp [results, Try.results29, go_sem, y0, y1, y2]) rfl ?_
  exact ⟨g, rfl, by omega, ((HR.out.far (by simp; omega) _).far (by simp; omega) _).far (by simp; omega) _, HB2.out.trans ((Kb.set (Kb.set (Kb.set (Kb.refl (u.heap.size + 1) _) 0 (.int .i64 (wd : Int))) 1 (.int .i64 (hd : Int))) 2 (.slice (some ⟨g, 0, none⟩) (padL x y C wd hd).length (padL x y C wd hd).length)).below (by omega))⟩

end Go.Proofs.Ytlgfkkegehpllaa
