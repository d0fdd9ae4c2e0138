/- DERIVED. What is padded is cut back, in lists; Coded refused. -/
import Derived.Test.YtlgfkkegehpllaaPt
namespace Go.Proofs.Ytlgfkkegehpllaa
open Go.RowKit

theorem padL_at {x y w h p q : Nat} {C : List Nat} (hp : p < h) (hq : q < w) : (padL x y C w h).getD (p * w + q) 0 = C.getD (min p (y - 1) * x + min q (x - 1)) 0 := by
  unfold padL
  rw [tab_get _ (at_lt hp hq)]
  unfold padF
  obtain ⟨e1, e2⟩ := dm_of (y := p) (w := w) (r := q) hq
  rw [e1, e2]
theorem crop_pad {x y w h : Nat} {C : List Nat} (hl : C.length = x * y) (hw : x ≤ w) (hh : y ≤ h) : cutL w (padL x y C w h) 0 0 x y = C := by
  refine list_eq_of_getD (by rw [cutL_len, hl]) fun j hj => ?_
  rw [cutL_len] at hj
  have hx : 0 < x := by
    rcases Nat.eq_zero_or_pos x with e | e
    · subst e; simp at hj
    · exact e
  unfold cutL
  rw [tab_get _ hj]
  unfold cutF
  have hd := div_of hj
  obtain ⟨p, hm⟩ := parts j x hx
  rw [Nat.zero_add, Nat.zero_add, padL_at (by omega) (by omega)]
  generalize j / x = d at *
  generalize j % x = m at *
  rw [show min d (y - 1) = d from by omega, show min m (x - 1) = m from by omega, ← p]
theorem pad_self {x y : Nat} {C : List Nat} (hl : C.length = x * y) : padL x y C x y = C := by
  refine list_eq_of_getD (by rw [padL_len, hl]) fun j hj => ?_
  rw [padL_len] at hj
  have hx : 0 < x := by
    rcases Nat.eq_zero_or_pos x with e | e
    · subst e; simp at hj
    · exact e
  have hd := div_of hj
  obtain ⟨p, hm⟩ := parts j x hx
  have := padL_at (x := x) (y := y) (C := C) hd hm
  rw [← p] at this
  rw [this]
  generalize j / x = d at *
  generalize j % x = m at *
  rw [show min d (y - 1) = d from by omega, show min m (x - 1) = m from by omega, ← p]
theorem nr_min {v : Int} {y h : Nat} (hh : y ≤ h) : min (nr v h) (y - 1) = nr v y := by unfold nr; split <;> omega
theorem at_pad {x y w h : Nat} {C : List Nat} {u v : Int} (hx : 1 ≤ x) (hy : 1 ≤ y) (hw : x ≤ w) (hh : y ≤ h) : (padL x y C w h).getD (nr v h * w + nr u w) 0 = C.getD (nr v y * x + nr u x) 0 := by
  rw [padL_at (nr_lt (by omega)) (nr_lt (by omega)), nr_min hh, nr_min hw]

set_option maxHeartbeats 1000000 in
theorem coded_no {u : World} {W0 H0 W1 H1 W2 H2 : Int} {a0 a1 a2 : Option Addr} {c0 c1 c2 : Nat} {C0 C1 C2 : List Nat} (hn : ¬ FOk ⟨W0, H0, a0, c0, C0⟩ ⟨W1, H1, a1, c1, C1⟩ ⟨W2, H2, a2, c2, C2⟩) :
    Calls Try.prog 36 #[.agg #[.int .i64 W0, .int .i64 H0, .slice a0 C0.length c0, .int .i64 W1, .int .i64 H1, .slice a1 C1.length c1, .int .i64 W2, .int .i64 H2, .slice a2 C2.length c2]] u fun e w' => Fz u w' e := by
  have hfk := fk_no hn
  clear hn
  go_enter Try.func36, Try.ntmps36
  go_wp2_with fail
  refine whole_any.mono ?_
  rintro e w1 ⟨rfl, hb⟩
  rw [hfk]
  have s0 : w1.cell? ⟨u.heap.size + 1, 0, none⟩ = some (.int .i64 0) := by rw [newCell hb _ _ (by simp)]; simp [go_sem]
  have s1 : w1.cell? ⟨u.heap.size + 1, 1, none⟩ = some (.int .i64 0) := by rw [newCell hb _ _ (by simp)]; simp [go_sem]
  have s2 : w1.cell? ⟨u.heap.size + 1, 2, none⟩ = some (.slice none 0 0) := by rw [newCell hb _ _ (by simp)]; simp [go_sem]
  have s3 : w1.cell? ⟨u.heap.size + 1, 3, none⟩ = some (.int .i64 0) := by rw [newCell hb _ _ (by simp)]; simp [go_sem]
  have s4 : w1.cell? ⟨u.heap.size + 1, 4, none⟩ = some (.int .i64 0) := by rw [newCell hb _ _ (by simp)]; simp [go_sem]
  have s5 : w1.cell? ⟨u.heap.size + 1, 5, none⟩ = some (.slice none 0 0) := by rw [newCell hb _ _ (by simp)]; simp [go_sem]
  have s6 : w1.cell? ⟨u.heap.size + 1, 6, none⟩ = some (.int .i64 0) := by rw [newCell hb _ _ (by simp)]; simp [go_sem]
  have s7 : w1.cell? ⟨u.heap.size + 1, 7, none⟩ = some (.int .i64 0) := by rw [newCell hb _ _ (by simp)]; simp [go_sem]
  have s8 : w1.cell? ⟨u.heap.size + 1, 8, none⟩ = some (.slice none 0 0) := by rw [newCell hb _ _ (by simp)]; simp [go_sem]
  have th : ∀ o, w1.frozen? ⟨u.heap.size + 1, o, none⟩ = false := fun o => by rw [newFrozen hb _ _ (by simp)]; simp [go_sem]
  have HB : Hid (Below u.heap.size u w1) := below_to (to_alloc (from_alloc u _) _) hb
  clear hb hfk
  go_wp2_with fail
  refine bodyPost_ret (v := .tuple #[.agg #[.int .i64 0, .int .i64 0, .slice none 0 0, .int .i64 0, .int .i64 0, .slice none 0 0, .int .i64 0, .int .i64 0, .slice none 0 0], .int .i64 2]) (by simp [results, Try.results36, go_sem, s0, s1, s2, s3, s4, s5, s6, s7, s8]) rfl ?_
  have hk := Kb.set (Kb.set (Kb.set (Kb.set (Kb.set (Kb.set (Kb.set (Kb.set (Kb.set (Kb.refl (u.heap.size + 1) w1) 0 (.int .i64 0)) 1 (.int .i64 0)) 2 (.slice none 0 0)) 3 (.int .i64 0)) 4 (.int .i64 0)) 5 (.slice none 0 0)) 6 (.int .i64 0)) 7 (.int .i64 0)) 8 (.slice none 0 0)
  exact ⟨rfl, HB.out.trans (hk.below (by omega))⟩

end Go.Proofs.Ytlgfkkegehpllaa
