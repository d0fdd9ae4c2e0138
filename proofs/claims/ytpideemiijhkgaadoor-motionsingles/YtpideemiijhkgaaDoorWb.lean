/- DERIVED. The document's CopyFrame. -/
import Derived.Test.YtpideemiijhkgaaDoorWa
namespace Go.Proofs.YtpideemiijhkgaaDoor
open Go.RowKit


/-- a frame whose planes are copied into a variable: k of them are there -/
structure Cw (w : World) (cv : Nat) (V : World) (fw fh : Nat → Int) (D : Nat → List Nat) (k : Nat) (A : Nat → Option Addr) (E : Nat → Nat) : Prop where
  lt : cv < w.heap.size
  c0 : ∀ j, j < k → w.cell? ⟨cv, 3 * j, none⟩ = some (.int .i64 (fw j))
  c1 : ∀ j, j < k → w.cell? ⟨cv, 3 * j + 1, none⟩ = some (.int .i64 (fh j))
  c2 : ∀ j, j < k → w.cell? ⟨cv, 3 * j + 2, none⟩ = some (.slice (A j) (D j).length (E j))
  nw : ∀ j, j < k → Nw V w (A j) (E j) (D j)
  z0 : ∀ j, k ≤ j → j < 3 → w.cell? ⟨cv, 3 * j, none⟩ = some (.int .i64 0)
  z1 : ∀ j, k ≤ j → j < 3 → w.cell? ⟨cv, 3 * j + 1, none⟩ = some (.int .i64 0)
  z2 : ∀ j, k ≤ j → j < 3 → w.cell? ⟨cv, 3 * j + 2, none⟩ = some (.slice none 0 0)
  th : ∀ o, w.frozen? ⟨cv, o, none⟩ = false
theorem Cw.to {w w' V : World} {cv : Nat} {fw fh : Nat → Int} {D : Nat → List Nat} {k : Nat} {A : Nat → Option Addr} {E : Nat → Nat} (h : Cw w cv V fw fh D k A E) (hb : Below w.heap.size w w') : Cw w' cv V fw fh D k A E :=
  ⟨Nat.lt_of_lt_of_le h.lt hb.size, fun j hj => by rw [newCell hb _ _ h.lt]; exact h.c0 j hj, fun j hj => by rw [newCell hb _ _ h.lt]; exact h.c1 j hj, fun j hj => by rw [newCell hb _ _ h.lt]; exact h.c2 j hj, fun j hj => (h.nw j hj).to hb,
   fun j h1 h2 => by rw [newCell hb _ _ h.lt]; exact h.z0 j h1 h2, fun j h1 h2 => by rw [newCell hb _ _ h.lt]; exact h.z1 j h1 h2, fun j h1 h2 => by rw [newCell hb _ _ h.lt]; exact h.z2 j h1 h2, fun o => by rw [newFrozen hb _ _ h.lt]; exact h.th o⟩
/-- one plane more -/
theorem Cw.next {w V : World} {cv : Nat} {fw fh : Nat → Int} {D : Nat → List Nat} {k : Nat} {A : Nat → Option Addr} {E : Nat → Nat} (h : Cw w cv V fw fh D k A E) (hk : k < 3) (hcv : cv < V.heap.size) {a : Option Addr} {c : Nat} (hn : Nw V w a c (D k)) :
    Cw (((w.setCell ⟨cv, 3 * k, none⟩ (.int .i64 (fw k))).setCell ⟨cv, 3 * k + 1, none⟩ (.int .i64 (fh k))).setCell ⟨cv, 3 * k + 2, none⟩ (.slice a (D k).length c)) cv V fw fh D (k + 1) (fun j => if j = k then a else A j) (fun j => if j = k then c else E j) := by
  have far : ∀ o, o ≠ 3 * k → o ≠ 3 * k + 1 → o ≠ 3 * k + 2 → (((w.setCell ⟨cv, 3 * k, none⟩ (.int .i64 (fw k))).setCell ⟨cv, 3 * k + 1, none⟩ (.int .i64 (fh k))).setCell ⟨cv, 3 * k + 2, none⟩ (.slice a (D k).length c)).cell? ⟨cv, o, none⟩ = w.cell? ⟨cv, o, none⟩ := fun o x y z => by
    rw [set_cell_ne z, set_cell_ne y, set_cell_ne x]
  have nwf : ∀ a' c' C', Nw V w a' c' C' → Nw V (((w.setCell ⟨cv, 3 * k, none⟩ (.int .i64 (fw k))).setCell ⟨cv, 3 * k + 1, none⟩ (.int .i64 (fh k))).setCell ⟨cv, 3 * k + 2, none⟩ (.slice a (D k).length c)) a' c' C' := fun a' c' C' hh => ((hh.far hcv _).far hcv _).far hcv _
  refine ⟨by simpa using h.lt, fun j hj => ?_, fun j hj => ?_, fun j hj => ?_, fun j hj => ?_, fun j h1 h2 => ?_, fun j h1 h2 => ?_, fun j h1 h2 => ?_, fun o => by simp only [World.frozen?_setCell]; exact h.th o⟩
  · by_cases e : j = k
    · subst e; rw [set_cell_ne (by omega), set_cell_ne (by omega)]; exact World.cell?_setCell_same _ _ _ (h.z0 j (Nat.le_refl _) hk)
    · rw [far _ (by omega) (by omega) (by omega)]; exact h.c0 j (by omega)
  · by_cases e : j = k
    · subst e; rw [set_cell_ne (by omega)]; exact World.cell?_setCell_same _ _ _ (by rw [set_cell_ne (by omega)]; exact h.z1 j (Nat.le_refl _) hk)
    · rw [far _ (by omega) (by omega) (by omega)]; exact h.c1 j (by omega)
  · by_cases e : j = k
    · subst e; simp only [if_true]; exact World.cell?_setCell_same _ _ _ (by rw [set_cell_ne (by omega), set_cell_ne (by omega)]; exact h.z2 j (Nat.le_refl _) hk)
    · rw [far _ (by omega) (by omega) (by omega)]; simp only [if_neg e]; exact h.c2 j (by omega)
  · by_cases e : j = k
    · subst e; simp only [if_true]; exact nwf _ _ _ hn
    · simp only [if_neg e]; exact nwf _ _ _ (h.nw j (by omega))
  · rw [far _ (by omega) (by omega) (by omega)]; exact h.z0 j (by omega) h2
  · rw [far _ (by omega) (by omega) (by omega)]; exact h.z1 j (by omega) h2
  · rw [far _ (by omega) (by omega) (by omega)]; exact h.z2 j (by omega) h2
def CwInv (V : World) (cv : Nat) (fw fh : Nat → Int) (D : Nat → List Nat) (iv : Value) (wr : World) : Prop := ∃ (k : Nat) (A : Nat → Option Addr) (E : Nat → Nat), k ≤ 3 ∧ iv = .int .i64 k ∧ Cw wr cv V fw fh D k A E ∧ Below cv V wr
set_option maxRecDepth 100000 in
set_option maxHeartbeats 4000000 in
theorem copyFrame_any {u : World} {W0 H0 W1 H1 W2 H2 : Int} {a0 a1 a2 : Option Addr} {c0 c1 c2 : Nat} {C0 C1 C2 : List Nat} (s0 : Sl u .u8 a0 C0) (s1 : Sl u .u8 a1 C1) (s2 : Sl u .u8 a2 C2) (l0 : C0.length ≤ 140737488355328) (l1 : C1.length ≤ 140737488355328) (l2 : C2.length ≤ 140737488355328) :
    Calls Tryd.prog 9 #[.agg #[.int .i64 W0, .int .i64 H0, .slice a0 C0.length c0, .int .i64 W1, .int .i64 H1, .slice a1 C1.length c1, .int .i64 W2, .int .i64 H2, .slice a2 C2.length c2]] u fun e w' => ∃ b0 b1 b2 d0 d1 d2, e = .returned (.agg #[.int .i64 W0, .int .i64 H0, .slice b0 C0.length d0, .int .i64 W1, .int .i64 H1, .slice b1 C1.length d1, .int .i64 W2, .int .i64 H2, .slice b2 C2.length d2]) ∧ Nw u w' b0 d0 C0 ∧ Nw u w' b1 d1 C1 ∧ Nw u w' b2 d2 C2 ∧ Below u.heap.size u w' := by
  have HS0 : Hid (Sl u .u8 a0 C0) := s0
  have HS1 : Hid (Sl u .u8 a1 C1) := s1
  have HS2 : Hid (Sl u .u8 a2 C2) := s2
  have HL0 : Hid (C0.length ≤ 140737488355328) := l0
  have HL1 : Hid (C1.length ≤ 140737488355328) := l1
  have HL2 : Hid (C2.length ≤ 140737488355328) := l2
  clear s0 s1 s2 l0 l1 l2
  obtain ⟨V, hV⟩ : ∃ V, V = (((u.alloc (.cells #[.int .i64 W0, .int .i64 H0, .slice a0 C0.length c0, .int .i64 W1, .int .i64 H1, .slice a1 C1.length c1, .int .i64 W2, .int .i64 H2, .slice a2 C2.length c2] 27)).alloc (.cells #[.int .i64 0, .int .i64 0, .slice none 0 0, .int .i64 0, .int .i64 0, .slice none 0 0, .int .i64 0, .int .i64 0, .slice none 0 0] 27)).alloc (.cells #[.int .i64 0, .int .i64 0, .slice none 0 0, .int .i64 0, .int .i64 0, .slice none 0 0, .int .i64 0, .int .i64 0, .slice none 0 0] 27)) := ⟨_, rfl⟩
  have F0 : Hid (V.cell? ⟨u.heap.size, 0, none⟩ = some (.int .i64 W0)) := by unfold Hid; rw [hV]; simp [go_sem]
  have F1 : Hid (V.cell? ⟨u.heap.size, 1, none⟩ = some (.int .i64 H0)) := by unfold Hid; rw [hV]; simp [go_sem]
  have F2 : Hid (V.cell? ⟨u.heap.size, 2, none⟩ = some (.slice a0 C0.length c0)) := by unfold Hid; rw [hV]; simp [go_sem]
  have F3 : Hid (V.cell? ⟨u.heap.size, 3, none⟩ = some (.int .i64 W1)) := by unfold Hid; rw [hV]; simp [go_sem]
  have F4 : Hid (V.cell? ⟨u.heap.size, 4, none⟩ = some (.int .i64 H1)) := by unfold Hid; rw [hV]; simp [go_sem]
  have F5 : Hid (V.cell? ⟨u.heap.size, 5, none⟩ = some (.slice a1 C1.length c1)) := by unfold Hid; rw [hV]; simp [go_sem]
  have F6 : Hid (V.cell? ⟨u.heap.size, 6, none⟩ = some (.int .i64 W2)) := by unfold Hid; rw [hV]; simp [go_sem]
  have F7 : Hid (V.cell? ⟨u.heap.size, 7, none⟩ = some (.int .i64 H2)) := by unfold Hid; rw [hV]; simp [go_sem]
  have F8 : Hid (V.cell? ⟨u.heap.size, 8, none⟩ = some (.slice a2 C2.length c2)) := by unfold Hid; rw [hV]; simp [go_sem]
  have R0 : Hid (V.cell? ⟨u.heap.size + 1, 0, none⟩ = some (.int .i64 0)) := by unfold Hid; rw [hV]; simp [go_sem]
  have R1 : Hid (V.cell? ⟨u.heap.size + 1, 1, none⟩ = some (.int .i64 0)) := by unfold Hid; rw [hV]; simp [go_sem]
  have R2 : Hid (V.cell? ⟨u.heap.size + 1, 2, none⟩ = some (.slice none 0 0)) := by unfold Hid; rw [hV]; simp [go_sem]
  have R3 : Hid (V.cell? ⟨u.heap.size + 1, 3, none⟩ = some (.int .i64 0)) := by unfold Hid; rw [hV]; simp [go_sem]
  have R4 : Hid (V.cell? ⟨u.heap.size + 1, 4, none⟩ = some (.int .i64 0)) := by unfold Hid; rw [hV]; simp [go_sem]
  have R5 : Hid (V.cell? ⟨u.heap.size + 1, 5, none⟩ = some (.slice none 0 0)) := by unfold Hid; rw [hV]; simp [go_sem]
  have R6 : Hid (V.cell? ⟨u.heap.size + 1, 6, none⟩ = some (.int .i64 0)) := by unfold Hid; rw [hV]; simp [go_sem]
  have R7 : Hid (V.cell? ⟨u.heap.size + 1, 7, none⟩ = some (.int .i64 0)) := by unfold Hid; rw [hV]; simp [go_sem]
  have R8 : Hid (V.cell? ⟨u.heap.size + 1, 8, none⟩ = some (.slice none 0 0)) := by unfold Hid; rw [hV]; simp [go_sem]
  have Z0 : Hid (V.cell? ⟨u.heap.size + 1 + 1, 0, none⟩ = some (.int .i64 0)) := by unfold Hid; rw [hV]; simp [go_sem]
  have Z1 : Hid (V.cell? ⟨u.heap.size + 1 + 1, 1, none⟩ = some (.int .i64 0)) := by unfold Hid; rw [hV]; simp [go_sem]
  have Z2 : Hid (V.cell? ⟨u.heap.size + 1 + 1, 2, none⟩ = some (.slice none 0 0)) := by unfold Hid; rw [hV]; simp [go_sem]
  have Z3 : Hid (V.cell? ⟨u.heap.size + 1 + 1, 3, none⟩ = some (.int .i64 0)) := by unfold Hid; rw [hV]; simp [go_sem]
  have Z4 : Hid (V.cell? ⟨u.heap.size + 1 + 1, 4, none⟩ = some (.int .i64 0)) := by unfold Hid; rw [hV]; simp [go_sem]
  have Z5 : Hid (V.cell? ⟨u.heap.size + 1 + 1, 5, none⟩ = some (.slice none 0 0)) := by unfold Hid; rw [hV]; simp [go_sem]
  have Z6 : Hid (V.cell? ⟨u.heap.size + 1 + 1, 6, none⟩ = some (.int .i64 0)) := by unfold Hid; rw [hV]; simp [go_sem]
  have Z7 : Hid (V.cell? ⟨u.heap.size + 1 + 1, 7, none⟩ = some (.int .i64 0)) := by unfold Hid; rw [hV]; simp [go_sem]
  have Z8 : Hid (V.cell? ⟨u.heap.size + 1 + 1, 8, none⟩ = some (.slice none 0 0)) := by unfold Hid; rw [hV]; simp [go_sem]
  have RT : Hid (∀ o, V.frozen? ⟨u.heap.size + 1, o, none⟩ = false) := fun o => by rw [hV]; simp [go_sem]
  have ZT : Hid (∀ o, V.frozen? ⟨u.heap.size + 1 + 1, o, none⟩ = false) := fun o => by rw [hV]; simp [go_sem]
  have HZ : Hid (V.heap.size = u.heap.size + 3) := by unfold Hid; rw [hV]; simp
  have HBV : Hid (Below u.heap.size u V) := by unfold Hid; rw [hV]; exact to_alloc (to_alloc (from_alloc _ _) _) _
  have HC0 : Hid (Cw V (u.heap.size + 1 + 1) V (sel W0 W1 W2) (sel H0 H1 H2) (sel C0 C1 C2) 0 (fun _ => none) (fun _ => 0)) := by
    refine ⟨by rw [HZ.out]; omega, fun j hj => by omega, fun j hj => by omega, fun j hj => by omega, fun j hj => by omega, fun j _ hj => ?_, fun j _ hj => ?_, fun j _ hj => ?_, ZT.out⟩
    · rcases (show j = 0 ∨ j = 1 ∨ j = 2 by omega) with rfl | rfl | rfl
      · exact Z0.out
      · exact Z3.out
      · exact Z6.out
    · rcases (show j = 0 ∨ j = 1 ∨ j = 2 by omega) with rfl | rfl | rfl
      · exact Z1.out
      · exact Z4.out
      · exact Z7.out
    · rcases (show j = 0 ∨ j = 1 ∨ j = 2 by omega) with rfl | rfl | rfl
      · exact Z2.out
      · exact Z5.out
      · exact Z8.out
  have HV : Hid _ := hV
  clear hV Z0 Z1 Z2 Z3 Z4 Z5 Z6 Z7 Z8 ZT
  have hz := HZ.out
  go_enter Tryd.func9, Tryd.ntmps9
  go_wp2_with fail
  rw [← HV.out]
  clear HV
  go_loopw [4] (fun i wr => CwInv V (u.heap.size + 1 + 1) (sel W0 W1 W2) (sel H0 H1 H2) (sel C0 C1 C2) i wr) (fun i _ => 3 - (intOf i).toNat)
  case atStart => exact ⟨0, _, _, by omega, rfl, HC0.out, Below.refl _ _⟩
  case round =>
    obtain ⟨k, A, E, hk, rfl, hC, hb⟩ := hrel
    have HC : Hid _ := hC
    have HBr : Hid (Below (u.heap.size + 1 + 1) V wr) := hb
    clear hC hb HC0
    rcases (show k = 0 ∨ k = 1 ∨ k = 2 ∨ k = 3 by omega) with rfl | rfl | rfl | rfl
    · have HCk : Hid (Calls Tryd.prog 31 #[.agg #[.int .i64 W0, .int .i64 H0, .slice a0 C0.length c0]] wr fun e w' => ∃ a' c', e = .returned (.agg #[.int .i64 W0, .int .i64 H0, .slice a' C0.length c']) ∧ Nw wr w' a' c' C0 ∧ Below wr.heap.size wr w') := copyPlane_any (HS0.out.to (HBV.out.trans (HBr.out.mono (by omega)))) HL0.out
      have q0 : wr.cell? ⟨u.heap.size, 0, none⟩ = some (.int .i64 W0) := by rw [newCell HBr.out _ _ (by omega)]; exact F0.out
      have q1 : wr.cell? ⟨u.heap.size, 1, none⟩ = some (.int .i64 H0) := by rw [newCell HBr.out _ _ (by omega)]; exact F1.out
      have q2 : wr.cell? ⟨u.heap.size, 2, none⟩ = some (.slice a0 C0.length c0) := by rw [newCell HBr.out _ _ (by omega)]; exact F2.out
      go_wp2_with fail
      refine HCk.out.mono ?_
      rintro e w5 ⟨a', c', rfl, hnw, hb5⟩
      have hC5 := HC.out.to hb5
      have z0 : w5.cell? ⟨u.heap.size + 1 + 1, 0, none⟩ = some (.int .i64 0) := hC5.z0 0 (Nat.le_refl _) (by omega)
      have z1 : w5.cell? ⟨u.heap.size + 1 + 1, 1, none⟩ = some (.int .i64 0) := hC5.z1 0 (Nat.le_refl _) (by omega)
      have z2 : w5.cell? ⟨u.heap.size + 1 + 1, 2, none⟩ = some (.slice none 0 0) := hC5.z2 0 (Nat.le_refl _) (by omega)
      have t0 := hC5.th 0
      have t1 := hC5.th 1
      have t2 := hC5.th 2
      have HN5 : Hid (Cw (((w5.setCell ⟨u.heap.size + 1 + 1, 0, none⟩ (.int .i64 W0)).setCell ⟨u.heap.size + 1 + 1, 1, none⟩ (.int .i64 H0)).setCell ⟨u.heap.size + 1 + 1, 2, none⟩ (.slice a' C0.length c')) (u.heap.size + 1 + 1) V (sel W0 W1 W2) (sel H0 H1 H2) (sel C0 C1 C2) 1 (fun j => if j = 0 then a' else A j) (fun j => if j = 0 then c' else E j)) :=
        hC5.next (by omega) (by omega) (hnw.mono (by have := HBr.out.size; omega))
      have HB5 : Hid (Below (u.heap.size + 1 + 1) V w5) := HBr.out.trans (hb5.mono (by have := HBr.out.size; omega))
      clear hC5 hb5 hnw
      go_wp2_with fail
      go_roundw
      case rel => exact ⟨1, _, _, by omega, by go_num, HN5.out, below_set (below_set (below_set HB5.out (by simp) _) (by simp) _) (by simp) _⟩
      case measure => simp [intOf]
    · have HCk : Hid (Calls Tryd.prog 31 #[.agg #[.int .i64 W1, .int .i64 H1, .slice a1 C1.length c1]] wr fun e w' => ∃ a' c', e = .returned (.agg #[.int .i64 W1, .int .i64 H1, .slice a' C1.length c']) ∧ Nw wr w' a' c' C1 ∧ Below wr.heap.size wr w') := copyPlane_any (HS1.out.to (HBV.out.trans (HBr.out.mono (by omega)))) HL1.out
      have q0 : wr.cell? ⟨u.heap.size, 3, none⟩ = some (.int .i64 W1) := by rw [newCell HBr.out _ _ (by omega)]; exact F3.out
      have q1 : wr.cell? ⟨u.heap.size, 4, none⟩ = some (.int .i64 H1) := by rw [newCell HBr.out _ _ (by omega)]; exact F4.out
      have q2 : wr.cell? ⟨u.heap.size, 5, none⟩ = some (.slice a1 C1.length c1) := by rw [newCell HBr.out _ _ (by omega)]; exact F5.out
      go_wp2_with fail
      refine HCk.out.mono ?_
      rintro e w5 ⟨a', c', rfl, hnw, hb5⟩
      have hC5 := HC.out.to hb5
      have z0 : w5.cell? ⟨u.heap.size + 1 + 1, 3, none⟩ = some (.int .i64 0) := hC5.z0 1 (Nat.le_refl _) (by omega)
      have z1 : w5.cell? ⟨u.heap.size + 1 + 1, 4, none⟩ = some (.int .i64 0) := hC5.z1 1 (Nat.le_refl _) (by omega)
      have z2 : w5.cell? ⟨u.heap.size + 1 + 1, 5, none⟩ = some (.slice none 0 0) := hC5.z2 1 (Nat.le_refl _) (by omega)
      have t0 := hC5.th 3
      have t1 := hC5.th 4
      have t2 := hC5.th 5
      have HN5 : Hid (Cw (((w5.setCell ⟨u.heap.size + 1 + 1, 3, none⟩ (.int .i64 W1)).setCell ⟨u.heap.size + 1 + 1, 4, none⟩ (.int .i64 H1)).setCell ⟨u.heap.size + 1 + 1, 5, none⟩ (.slice a' C1.length c')) (u.heap.size + 1 + 1) V (sel W0 W1 W2) (sel H0 H1 H2) (sel C0 C1 C2) 2 (fun j => if j = 1 then a' else A j) (fun j => if j = 1 then c' else E j)) :=
        hC5.next (by omega) (by omega) (hnw.mono (by have := HBr.out.size; omega))
      have HB5 : Hid (Below (u.heap.size + 1 + 1) V w5) := HBr.out.trans (hb5.mono (by have := HBr.out.size; omega))
      clear hC5 hb5 hnw
      go_wp2_with fail
      go_roundw
      case rel => exact ⟨2, _, _, by omega, by go_num, HN5.out, below_set (below_set (below_set HB5.out (by simp) _) (by simp) _) (by simp) _⟩
      case measure => simp [intOf]
    · have HCk : Hid (Calls Tryd.prog 31 #[.agg #[.int .i64 W2, .int .i64 H2, .slice a2 C2.length c2]] wr fun e w' => ∃ a' c', e = .returned (.agg #[.int .i64 W2, .int .i64 H2, .slice a' C2.length c']) ∧ Nw wr w' a' c' C2 ∧ Below wr.heap.size wr w') := copyPlane_any (HS2.out.to (HBV.out.trans (HBr.out.mono (by omega)))) HL2.out
      have q0 : wr.cell? ⟨u.heap.size, 6, none⟩ = some (.int .i64 W2) := by rw [newCell HBr.out _ _ (by omega)]; exact F6.out
      have q1 : wr.cell? ⟨u.heap.size, 7, none⟩ = some (.int .i64 H2) := by rw [newCell HBr.out _ _ (by omega)]; exact F7.out
      have q2 : wr.cell? ⟨u.heap.size, 8, none⟩ = some (.slice a2 C2.length c2) := by rw [newCell HBr.out _ _ (by omega)]; exact F8.out
      go_wp2_with fail
      refine HCk.out.mono ?_
      rintro e w5 ⟨a', c', rfl, hnw, hb5⟩
      have hC5 := HC.out.to hb5
      have z0 : w5.cell? ⟨u.heap.size + 1 + 1, 6, none⟩ = some (.int .i64 0) := hC5.z0 2 (Nat.le_refl _) (by omega)
      have z1 : w5.cell? ⟨u.heap.size + 1 + 1, 7, none⟩ = some (.int .i64 0) := hC5.z1 2 (Nat.le_refl _) (by omega)
      have z2 : w5.cell? ⟨u.heap.size + 1 + 1, 8, none⟩ = some (.slice none 0 0) := hC5.z2 2 (Nat.le_refl _) (by omega)
      have t0 := hC5.th 6
      have t1 := hC5.th 7
      have t2 := hC5.th 8
      have HN5 : Hid (Cw (((w5.setCell ⟨u.heap.size + 1 + 1, 6, none⟩ (.int .i64 W2)).setCell ⟨u.heap.size + 1 + 1, 7, none⟩ (.int .i64 H2)).setCell ⟨u.heap.size + 1 + 1, 8, none⟩ (.slice a' C2.length c')) (u.heap.size + 1 + 1) V (sel W0 W1 W2) (sel H0 H1 H2) (sel C0 C1 C2) 3 (fun j => if j = 2 then a' else A j) (fun j => if j = 2 then c' else E j)) :=
        hC5.next (by omega) (by omega) (hnw.mono (by have := HBr.out.size; omega))
      have HB5 : Hid (Below (u.heap.size + 1 + 1) V w5) := HBr.out.trans (hb5.mono (by have := HBr.out.size; omega))
      clear hC5 hb5 hnw
      go_wp2_with fail
      go_roundw
      case rel => exact ⟨3, _, _, by omega, by go_num, HN5.out, below_set (below_set (below_set HB5.out (by simp) _) (by simp) _) (by simp) _⟩
      case measure => simp [intOf]
    · have q0 : wr.cell? ⟨u.heap.size + 1 + 1, 0, none⟩ = some (.int .i64 W0) := HC.out.c0 0 (by omega)
      have q1 : wr.cell? ⟨u.heap.size + 1 + 1, 1, none⟩ = some (.int .i64 H0) := HC.out.c1 0 (by omega)
      have q2 : wr.cell? ⟨u.heap.size + 1 + 1, 2, none⟩ = some (.slice (A 0) C0.length (E 0)) := HC.out.c2 0 (by omega)
      have q3 : wr.cell? ⟨u.heap.size + 1 + 1, 3, none⟩ = some (.int .i64 W1) := HC.out.c0 1 (by omega)
      have q4 : wr.cell? ⟨u.heap.size + 1 + 1, 4, none⟩ = some (.int .i64 H1) := HC.out.c1 1 (by omega)
      have q5 : wr.cell? ⟨u.heap.size + 1 + 1, 5, none⟩ = some (.slice (A 1) C1.length (E 1)) := HC.out.c2 1 (by omega)
      have q6 : wr.cell? ⟨u.heap.size + 1 + 1, 6, none⟩ = some (.int .i64 W2) := HC.out.c0 2 (by omega)
      have q7 : wr.cell? ⟨u.heap.size + 1 + 1, 7, none⟩ = some (.int .i64 H2) := HC.out.c1 2 (by omega)
      have q8 : wr.cell? ⟨u.heap.size + 1 + 1, 8, none⟩ = some (.slice (A 2) C2.length (E 2)) := HC.out.c2 2 (by omega)
      have s0 : wr.cell? ⟨u.heap.size + 1, 0, none⟩ = some (.int .i64 0) := by rw [newCell HBr.out _ _ (by omega)]; exact R0.out
      have s1 : wr.cell? ⟨u.heap.size + 1, 1, none⟩ = some (.int .i64 0) := by rw [newCell HBr.out _ _ (by omega)]; exact R1.out
      have s2 : wr.cell? ⟨u.heap.size + 1, 2, none⟩ = some (.slice none 0 0) := by rw [newCell HBr.out _ _ (by omega)]; exact R2.out
      have s3 : wr.cell? ⟨u.heap.size + 1, 3, none⟩ = some (.int .i64 0) := by rw [newCell HBr.out _ _ (by omega)]; exact R3.out
      have s4 : wr.cell? ⟨u.heap.size + 1, 4, none⟩ = some (.int .i64 0) := by rw [newCell HBr.out _ _ (by omega)]; exact R4.out
      have s5 : wr.cell? ⟨u.heap.size + 1, 5, none⟩ = some (.slice none 0 0) := by rw [newCell HBr.out _ _ (by omega)]; exact R5.out
      have s6 : wr.cell? ⟨u.heap.size + 1, 6, none⟩ = some (.int .i64 0) := by rw [newCell HBr.out _ _ (by omega)]; exact R6.out
      have s7 : wr.cell? ⟨u.heap.size + 1, 7, none⟩ = some (.int .i64 0) := by rw [newCell HBr.out _ _ (by omega)]; exact R7.out
      have s8 : wr.cell? ⟨u.heap.size + 1, 8, none⟩ = some (.slice none 0 0) := by rw [newCell HBr.out _ _ (by omega)]; exact R8.out
      have th : ∀ o, wr.frozen? ⟨u.heap.size + 1, o, none⟩ = false := fun o => by rw [newFrozen HBr.out _ _ (by omega)]; exact RT.out o
      go_wp2_with fail
      refine bodyPost_ret (v := .agg #[.int .i64 W0, .int .i64 H0, .slice (A 0) C0.length (E 0), .int .i64 W1, .int .i64 H1, .slice (A 1) C1.length (E 1), .int .i64 W2, .int .i64 H2, .slice (A 2) C2.length (E 2)]) (by simp [results, Tryd.results9, go_sem, s0, s1, s2, s3, s4, s5, s6, s7, s8]) rfl ?_
      have nf : ∀ j, j < 3 → Nw V (((((((((wr.setCell ⟨u.heap.size + 1, 0, none⟩ (.int .i64 W0)).setCell ⟨u.heap.size + 1, 1, none⟩ (.int .i64 H0)).setCell ⟨u.heap.size + 1, 2, none⟩ (.slice (A 0) C0.length (E 0))).setCell ⟨u.heap.size + 1, 3, none⟩ (.int .i64 W1)).setCell ⟨u.heap.size + 1, 4, none⟩ (.int .i64 H1)).setCell ⟨u.heap.size + 1, 5, none⟩ (.slice (A 1) C1.length (E 1))).setCell ⟨u.heap.size + 1, 6, none⟩ (.int .i64 W2)).setCell ⟨u.heap.size + 1, 7, none⟩ (.int .i64 H2)).setCell ⟨u.heap.size + 1, 8, none⟩ (.slice (A 2) C2.length (E 2))) (A j) (E j) (sel C0 C1 C2 j) := fun j hj =>
        (((((((((HC.out.nw j hj).far (b := u.heap.size + 1) (by omega) _).far (b := u.heap.size + 1) (by omega) _).far (b := u.heap.size + 1) (by omega) _).far (b := u.heap.size + 1) (by omega) _).far (b := u.heap.size + 1) (by omega) _).far (b := u.heap.size + 1) (by omega) _).far (b := u.heap.size + 1) (by omega) _).far (b := u.heap.size + 1) (by omega) _).far (b := u.heap.size + 1) (by omega) _
      have hk := Kb.set (Kb.set (Kb.set (Kb.set (Kb.set (Kb.set (Kb.set (Kb.set (Kb.set (Kb.refl (u.heap.size + 1) wr) 0 (.int .i64 W0)) 1 (.int .i64 H0)) 2 (.slice (A 0) C0.length (E 0))) 3 (.int .i64 W1)) 4 (.int .i64 H1)) 5 (.slice (A 1) C1.length (E 1))) 6 (.int .i64 W2)) 7 (.int .i64 H2)) 8 (.slice (A 2) C2.length (E 2))
      exact ⟨A 0, A 1, A 2, E 0, E 1, E 2, rfl, (nf 0 (by omega)).mono (by omega), (nf 1 (by omega)).mono (by omega), (nf 2 (by omega)).mono (by omega), (HBV.out.trans (HBr.out.mono (by omega))).trans (hk.below (by omega))⟩

end Go.Proofs.YtpideemiijhkgaaDoor
