/- DERIVED. The document's Cut refused. -/
import Derived.Test.YtlgfkkegehpllaaRb
namespace Go.Proofs.Ytlgfkkegehpllaa
open Go.RowKit

set_option maxHeartbeats 1000000 in
theorem rcut_bad {u : World} {a : Option Addr} {c : Nat} {C : List Nat} {W H X Y w h : Int} (hn : ¬ POk W H C) :
    Calls Try.prog 24 #[.agg #[.int .i64 W, .int .i64 H, .slice a C.length c], .agg #[.int .i64 X, .int .i64 Y, .int .i64 w, .int .i64 h]] u fun e w' => e = .returned (.tuple #[.slice none 0 0, .int .i64 2]) ∧ Below u.heap.size u w' := by
  have hck : ck W H C = 2 := ck_no hn
  clear hn
  go_enter Try.func24, Try.ntmps24
  go_wp2_with fail
  refine rcheck_any.mono ?_
  rintro e w1 ⟨rfl, hb⟩
  rw [hck]
  have HB : Hid (Below u.heap.size u w1) := below_to (to_alloc (from_alloc u _) _) hb
  clear hb hck
  go_wp2_with fail
  go_ret2
  exact ⟨rfl, HB.out⟩

set_option maxHeartbeats 1000000 in
theorem rcut_out {u : World} {a : Option Addr} {c : Nat} {C : List Nat} {W H X Y w h : Int} (hp : POk W H C) (hn : ¬ Win W H X Y w h) :
    Calls Try.prog 24 #[.agg #[.int .i64 W, .int .i64 H, .slice a C.length c], .agg #[.int .i64 X, .int .i64 Y, .int .i64 w, .int .i64 h]] u fun e w' => e = .returned (.tuple #[.slice none 0 0, .int .i64 2]) ∧ Below u.heap.size u w' := by
  have hck : ck W H C = 0 := ck_ok hp
  have HP : Hid (POk W H C) := hp
  have HN : Hid (¬ Win W H X Y w h) := hn
  clear hn hp
  go_enter Try.func24, Try.ntmps24
  go_wp2_with fail
  refine rcheck_any.mono ?_
  rintro e w1 ⟨rfl, hb⟩
  rw [hck]
  have d0 : w1.cell? ⟨u.heap.size, 0, none⟩ = some (.int .i64 W) := by rw [newCell hb _ _ (by simp <;> omega)]; simp [go_sem]
  have d1 : w1.cell? ⟨u.heap.size, 1, none⟩ = some (.int .i64 H) := by rw [newCell hb _ _ (by simp <;> omega)]; simp [go_sem]
  have d2 : w1.cell? ⟨u.heap.size, 2, none⟩ = some (.slice a C.length c) := by rw [newCell hb _ _ (by simp <;> omega)]; simp [go_sem]
  have d3 : w1.cell? ⟨u.heap.size + 1, 0, none⟩ = some (.int .i64 X) := by rw [newCell hb _ _ (by simp <;> omega)]; simp [go_sem]
  have d4 : w1.cell? ⟨u.heap.size + 1, 1, none⟩ = some (.int .i64 Y) := by rw [newCell hb _ _ (by simp <;> omega)]; simp [go_sem]
  have d5 : w1.cell? ⟨u.heap.size + 1, 2, none⟩ = some (.int .i64 w) := by rw [newCell hb _ _ (by simp <;> omega)]; simp [go_sem]
  have d6 : w1.cell? ⟨u.heap.size + 1, 3, none⟩ = some (.int .i64 h) := by rw [newCell hb _ _ (by simp <;> omega)]; simp [go_sem]
  have HB : Hid (Below u.heap.size u w1) := below_to (to_alloc (from_alloc u _) _) hb
  clear hb hck
  go_wp2_with fail
  refine (rwithin_no HN.out HP.out.w1 HP.out.h1).mono ?_
  rintro e w2 ⟨rfl, hb⟩
  have HB2 : Hid (Below u.heap.size u w2) := below_to HB.out hb
  clear hb
  go_wp2_with fail
  go_ret2
  exact ⟨rfl, HB2.out⟩

end Go.Proofs.Ytlgfkkegehpllaa
