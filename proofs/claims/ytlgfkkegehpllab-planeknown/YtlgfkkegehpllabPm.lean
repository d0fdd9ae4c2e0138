/- DERIVED. The walk of New; a frame that grows in a variable. -/
import Derived.Test.YtlgfkkegehpllabPl
namespace Go.Proofs.Ytlgfkkegehpllab
open Go.RowKit

set_option maxRecDepth 100000 in
set_option maxHeartbeats 2000000 in
theorem new_ok {u : World} {x y v : Nat} (hx0 : 1 ≤ x) (hx1 : x ≤ 512) (hy0 : 1 ≤ y) (hy1 : y ≤ 512) :
    Calls Try.prog 13 #[.int .i64 (x : Int), .int .i64 (y : Int), .int .u8 (v : Int)] u fun e w' => Pn u w' e x y (List.replicate (x * y) v) := by
  obtain ⟨n, hn⟩ : ∃ n, n = x * y := ⟨_, rfl⟩
  have hnb : n ≤ 262144 := by rw [hn]; exact prod_le hx1 hy1
  rw [← hn]
  have HN : Hid (n = x * y) := hn
  have i1 : (1 : Int) ≤ (x : Int) := by omega
  have i2 : (x : Int) ≤ 512 := by omega
  have i3 : (1 : Int) ≤ (y : Int) := by omega
  have i4 : (y : Int) ≤ 512 := by omega
  clear hn
  go_enter Try.func13, Try.ntmps13
  go_wp2_with (go_at_call 21; go_in)
  refine (blank_any hx1 hy1 HN.out).mono ?_
  rintro e w1 ⟨rfl, hsz, hrw, hb⟩
  have c0 : w1.cell? ⟨u.heap.size, 0, none⟩ = some (.int .i64 0) := by rw [newCell hb _ _ (by simp)]; simp
  have c1 : w1.cell? ⟨u.heap.size, 1, none⟩ = some (.int .i64 0) := by rw [newCell hb _ _ (by simp)]; simp
  have c2 : w1.cell? ⟨u.heap.size, 2, none⟩ = some (.slice none 0 0) := by rw [newCell hb _ _ (by simp)]; simp
  have f0 : w1.frozen? ⟨u.heap.size, 0, none⟩ = false := by rw [newFrozen hb _ _ (by simp)]; simp
  have f1 : w1.frozen? ⟨u.heap.size, 1, none⟩ = false := by rw [newFrozen hb _ _ (by simp)]; simp
  have f2 : w1.frozen? ⟨u.heap.size, 2, none⟩ = false := by rw [newFrozen hb _ _ (by simp)]; simp
  have HB1 : Hid (Below u.heap.size u w1) := below_to (from_alloc u _) hb
  rw [show (u.alloc (.cells #[.int .i64 0, .int .i64 0, .slice none 0 0] 24)).heap.size + 1 = u.heap.size + 1 + 1 from by simp] at hrw ⊢
  have hz : w1.heap.size = u.heap.size + 3 := by rw [hsz]; simp
  have HRW : Hid (Rw w1 (u.heap.size + 1 + 1) (List.replicate n 0)) := hrw
  have HZ : Hid _ := hz
  have HA : Hid (Below w1.heap.size w1 (w1.alloc (.cells #[.int .i64 (x : Int), .int .i64 (y : Int), .slice (some ⟨u.heap.size + 1 + 1, 0, none⟩) n n] 24))) := from_alloc _ _
  have HFL : Hid (Calls Try.prog 23 #[.slice (some ⟨u.heap.size + 1 + 1, 0, none⟩) n n, .int .u8 (v : Int)] (w1.alloc (.cells #[.int .i64 (x : Int), .int .i64 (y : Int), .slice (some ⟨u.heap.size + 1 + 1, 0, none⟩) n n] 24)) fun e w' => e = .returned (.tuple #[]) ∧ Rw w' (u.heap.size + 1 + 1) (splice (List.replicate n 0) 0 (List.replicate n v)) ∧ Kb (u.heap.size + 1 + 1) (w1.alloc (.cells #[.int .i64 (x : Int), .int .i64 (y : Int), .slice (some ⟨u.heap.size + 1 + 1, 0, none⟩) n n] 24)) w') :=
    fill_row (HRW.out.to HA.out) (by rw [List.length_replicate]; omega) (by rw [List.length_replicate]; omega)
  clear hb hsz hrw hz
  have hlt : u.heap.size < w1.heap.size := by have := HZ.out; omega
  go_wp2_with fail
  refine HFL.out.mono ?_
  rintro e w2 ⟨rfl, hr2, hk2⟩
  rw [splice_all (by simp)] at hr2
  have d0 : w2.cell? ⟨w1.heap.size, 0, none⟩ = some (.int .i64 (x : Int)) := by rw [hk2.cell _ _ (by have := HZ.out; omega)]; simp
  have d1 : w2.cell? ⟨w1.heap.size, 1, none⟩ = some (.int .i64 (y : Int)) := by rw [hk2.cell _ _ (by have := HZ.out; omega)]; simp
  have d2 : w2.cell? ⟨w1.heap.size, 2, none⟩ = some (.slice (some ⟨u.heap.size + 1 + 1, 0, none⟩) n n) := by rw [hk2.cell _ _ (by have := HZ.out; omega)]; simp
  have e0 : w2.cell? ⟨u.heap.size, 0, none⟩ = some (.int .i64 0) := by rw [hk2.cell _ _ (by omega), newCell HA.out _ _ hlt]; exact c0
  have e1 : w2.cell? ⟨u.heap.size, 1, none⟩ = some (.int .i64 0) := by rw [hk2.cell _ _ (by omega), newCell HA.out _ _ hlt]; exact c1
  have e2 : w2.cell? ⟨u.heap.size, 2, none⟩ = some (.slice none 0 0) := by rw [hk2.cell _ _ (by omega), newCell HA.out _ _ hlt]; exact c2
  have g0 : w2.frozen? ⟨u.heap.size, 0, none⟩ = false := by rw [hk2.frozen _ _ (by omega), newFrozen HA.out _ _ hlt]; exact f0
  have g1 : w2.frozen? ⟨u.heap.size, 1, none⟩ = false := by rw [hk2.frozen _ _ (by omega), newFrozen HA.out _ _ hlt]; exact f1
  have g2 : w2.frozen? ⟨u.heap.size, 2, none⟩ = false := by rw [hk2.frozen _ _ (by omega), newFrozen HA.out _ _ hlt]; exact f2
  have HB2 : Hid (Below u.heap.size u w2) := (below_to HB1.out HA.out).trans (hk2.below (by omega))
  have HR2 : Hid (Rw w2 (u.heap.size + 1 + 1) (List.replicate n v)) := hr2
  clear c0 c1 c2 f0 f1 f2 hr2 hk2 HFL HA HRW
  go_wp2_with fail
  refine bodyPost_ret (v := .tuple #[.agg #[.int .i64 (x : Int), .int .i64 (y : Int), .slice (some ⟨u.heap.size + 1 + 1, 0, none⟩) n n], .int .i64 0]) (by simp [results, Try.results13, go_sem, e0, e1, e2]) rfl ?_
  refine ⟨u.heap.size + 1 + 1, ret_pl (by simp), by omega, ((HR2.out.far (a := ⟨u.heap.size, 0, none⟩) (by simp; omega) _).far (a := ⟨u.heap.size, 1, none⟩) (by simp; omega) _).far (a := ⟨u.heap.size, 2, none⟩) (by simp; omega) _, ?_⟩
  exact below_set (below_set (below_set HB2.out (by simp) _) (by simp) _) (by simp) _

/-- a frame that grows in a variable: k of its planes are there -/
structure Cv (w : World) (cv lo : Nat) (fw fh : Nat → Nat) (D : Nat → List Nat) (k : Nat) (G : Nat → Nat) : Prop where
  lt : cv < w.heap.size
  c0 : ∀ j, j < k → w.cell? ⟨cv, 3 * j, none⟩ = some (.int .i64 (fw j : Nat))
  c1 : ∀ j, j < k → w.cell? ⟨cv, 3 * j + 1, none⟩ = some (.int .i64 (fh j : Nat))
  c2 : ∀ j, j < k → w.cell? ⟨cv, 3 * j + 2, none⟩ = some (.slice (some ⟨G j, 0, none⟩) (D j).length (D j).length)
  rw : ∀ j, j < k → Rw w (G j) (D j)
  lo : ∀ j, j < k → lo ≤ G j ∧ G j ≠ cv
  inj : ∀ i j, i < k → j < k → i ≠ j → G i ≠ G j
  z0 : ∀ j, k ≤ j → j < 3 → w.cell? ⟨cv, 3 * j, none⟩ = some (.int .i64 0)
  z1 : ∀ j, k ≤ j → j < 3 → w.cell? ⟨cv, 3 * j + 1, none⟩ = some (.int .i64 0)
  z2 : ∀ j, k ≤ j → j < 3 → w.cell? ⟨cv, 3 * j + 2, none⟩ = some (.slice none 0 0)
  th : ∀ o, w.frozen? ⟨cv, o, none⟩ = false

theorem Cv.to {w w' : World} {cv lo : Nat} {fw fh : Nat → Nat} {D : Nat → List Nat} {k : Nat} {G : Nat → Nat} (h : Cv w cv lo fw fh D k G) (hb : Below w.heap.size w w') : Cv w' cv lo fw fh D k G :=
  ⟨Nat.lt_of_lt_of_le h.lt hb.size, fun j hj => by rw [newCell hb _ _ h.lt]; exact h.c0 j hj, fun j hj => by rw [newCell hb _ _ h.lt]; exact h.c1 j hj, fun j hj => by rw [newCell hb _ _ h.lt]; exact h.c2 j hj, fun j hj => (h.rw j hj).to hb, h.lo, h.inj,
   fun j h1 h2 => by rw [newCell hb _ _ h.lt]; exact h.z0 j h1 h2, fun j h1 h2 => by rw [newCell hb _ _ h.lt]; exact h.z1 j h1 h2, fun j h1 h2 => by rw [newCell hb _ _ h.lt]; exact h.z2 j h1 h2, fun o => by rw [newFrozen hb _ _ h.lt]; exact h.th o⟩
theorem Cv.drew {w : World} {cv lo : Nat} {fw fh : Nat → Nat} {D : Nat → List Nat} {k : Nat} {G : Nat → Nat} (h : Cv w cv lo fw fh D k G) : Cv w.drew cv lo fw fh D k G := h.to (below_drew (Below.refl _ _))
theorem Cv.start (w : World) (lo : Nat) (fw fh : Nat → Nat) (D : Nat → List Nat) (G : Nat → Nat) : Cv (w.alloc (.cells #[.int .i64 0, .int .i64 0, .slice none 0 0, .int .i64 0, .int .i64 0, .slice none 0 0, .int .i64 0, .int .i64 0, .slice none 0 0] 48)) w.heap.size lo fw fh D 0 G := by
  refine ⟨by simp, fun j hj => by omega, fun j hj => by omega, fun j hj => by omega, fun j hj => by omega, fun j hj => by omega, fun i j hi => by omega, fun j _ hj => ?_, fun j _ hj => ?_, fun j _ hj => ?_, fun o => by simp⟩
  · rcases (show j = 0 ∨ j = 1 ∨ j = 2 by omega) with rfl | rfl | rfl <;> simp
  · rcases (show j = 0 ∨ j = 1 ∨ j = 2 by omega) with rfl | rfl | rfl <;> simp
  · rcases (show j = 0 ∨ j = 1 ∨ j = 2 by omega) with rfl | rfl | rfl <;> simp

theorem set_cell_ne {w : World} {b o o' : Nat} {v : Value} (h : o ≠ o') : (w.setCell ⟨b, o', none⟩ v).cell? ⟨b, o, none⟩ = w.cell? ⟨b, o, none⟩ := World.cell?_setCell_other _ _ _ _ (by simp <;> omega)

/-- one plane more -/
theorem Cv.next {w : World} {cv lo : Nat} {fw fh : Nat → Nat} {D : Nat → List Nat} {k : Nat} {G : Nat → Nat} (h : Cv w cv lo fw fh D k G) (hk : k < 3) {g : Nat} (hr : Rw w g (D k)) (hlo : lo ≤ g) (hcv : g ≠ cv) (hg : ∀ j, j < k → G j ≠ g) :
    Cv (((w.setCell ⟨cv, 3 * k, none⟩ (.int .i64 (fw k : Nat))).setCell ⟨cv, 3 * k + 1, none⟩ (.int .i64 (fh k : Nat))).setCell ⟨cv, 3 * k + 2, none⟩ (.slice (some ⟨g, 0, none⟩) (D k).length (D k).length)) cv lo fw fh D (k + 1) (fun j => if j = k then g else G j) := by
  have far : ∀ o, o ≠ 3 * k → o ≠ 3 * k + 1 → o ≠ 3 * k + 2 → (((w.setCell ⟨cv, 3 * k, none⟩ (.int .i64 (fw k : Nat))).setCell ⟨cv, 3 * k + 1, none⟩ (.int .i64 (fh k : Nat))).setCell ⟨cv, 3 * k + 2, none⟩ (.slice (some ⟨g, 0, none⟩) (D k).length (D k).length)).cell? ⟨cv, o, none⟩ = w.cell? ⟨cv, o, none⟩ := fun o a b c => by
    rw [set_cell_ne c, set_cell_ne b, set_cell_ne a]
  have rwf : ∀ b E, Rw w b E → b ≠ cv → Rw (((w.setCell ⟨cv, 3 * k, none⟩ (.int .i64 (fw k : Nat))).setCell ⟨cv, 3 * k + 1, none⟩ (.int .i64 (fh k : Nat))).setCell ⟨cv, 3 * k + 2, none⟩ (.slice (some ⟨g, 0, none⟩) (D k).length (D k).length)) b E := fun b E hb hne =>
    ((hb.far (a := ⟨cv, 3 * k, none⟩) hne _).far (a := ⟨cv, 3 * k + 1, none⟩) hne _).far (a := ⟨cv, 3 * k + 2, none⟩) hne _
  refine ⟨by simpa using h.lt, fun j hj => ?_, fun j hj => ?_, fun j hj => ?_, fun j hj => ?_, fun j hj => ?_, fun i j hi hj hij => ?_, fun j h1 h2 => ?_, fun j h1 h2 => ?_, fun j h1 h2 => ?_, fun o => by simp only [World.frozen?_setCell]; exact h.th o⟩
  · by_cases e : j = k
    · subst e; rw [set_cell_ne (by omega), set_cell_ne (by omega)]; exact World.cell?_setCell_same _ _ _ (h.z0 j (Nat.le_refl _) hk)
    · rw [far _ (by omega) (by omega) (by omega)]; exact h.c0 j (by omega)
  · by_cases e : j = k
    · subst e; rw [set_cell_ne (by omega)]; exact World.cell?_setCell_same _ _ _ (by rw [set_cell_ne (by omega)]; exact h.z1 j (Nat.le_refl _) hk)
    · rw [far _ (by omega) (by omega) (by omega)]; exact h.c1 j (by omega)
  · by_cases e : j = k
    · subst e; simp only [if_true]; exact World.cell?_setCell_same _ _ _ (by rw [set_cell_ne (by omega), set_cell_ne (by omega)]; exact h.z2 j (Nat.le_refl _) hk)
    · rw [far _ (by omega) (by omega) (by omega)]; simp only [if_neg e]; exact h.c2 j (by omega)
  · by_cases e : j = k
    · subst e; simp only [if_true]; exact rwf _ _ hr hcv
    · simp only [if_neg e]; exact rwf _ _ (h.rw j (by omega)) (h.lo j (by omega)).2
  · by_cases e : j = k
    · subst e; simp only [if_true]; exact ⟨hlo, hcv⟩
    · simp only [if_neg e]; exact h.lo j (by omega)
  · by_cases e : i = k
    · by_cases e2 : j = k
      · omega
      · simp only [if_pos e, if_neg e2]; exact fun q => hg j (by omega) q.symm
    · by_cases e2 : j = k
      · simp only [if_neg e, if_pos e2]; exact hg i (by omega)
      · simp only [if_neg e, if_neg e2]; exact h.inj i j (by omega) (by omega) hij
  · rw [far _ (by omega) (by omega) (by omega)]; exact h.z0 j (by omega) h2
  · rw [far _ (by omega) (by omega) (by omega)]; exact h.z1 j (by omega) h2
  · rw [far _ (by omega) (by omega) (by omega)]; exact h.z2 j (by omega) h2

end Go.Proofs.Ytlgfkkegehpllab
