/- DERIVED. Frame. -/
import Derived.Test.YtpideemiijhkgabDoorVb
namespace Go.Proofs.YtpideemiijhkgabDoor
open Go.RowKit

/-- a frame that grows in a variable: k of its planes are there -/
structure Cv (w : World) (cv lo : Nat) (fw fh : Nat → Nat) (D : Nat → List Nat) (k : Nat) (G : Nat → Nat) : Prop where
  lt : cv < w.heap.size
  c0 : ∀ j, j < k → w.cell? ⟨cv, 3 * j, none⟩ = some (.int .i64 (fw j : Nat))
  c1 : ∀ j, j < k → w.cell? ⟨cv, 3 * j + 1, none⟩ = some (.int .i64 (fh j : Nat))
  c2 : ∀ j, j < k → w.cell? ⟨cv, 3 * j + 2, none⟩ = some (.slice (some ⟨G j, 0, none⟩) (D j).length (D j).length)
  rw : ∀ j, j < k → Rw w (G j) (D j)
  lo : ∀ j, j < k → lo ≤ G j ∧ G j ≠ cv
  inj : ∀ i j, i < k → j < k → i ≠ j → G i ≠ G j
  z0 : ∀ j, k ≤ j → j < 3 → w.cell? ⟨cv, 3 * j, none⟩ = some (.int .i64 0)
  z1 : ∀ j, k ≤ j → j < 3 → w.cell? ⟨cv, 3 * j + 1, none⟩ = some (.int .i64 0)
  z2 : ∀ j, k ≤ j → j < 3 → w.cell? ⟨cv, 3 * j + 2, none⟩ = some (.slice none 0 0)
  th : ∀ o, w.frozen? ⟨cv, o, none⟩ = false
theorem Cv.to {w w' : World} {cv lo : Nat} {fw fh : Nat → Nat} {D : Nat → List Nat} {k : Nat} {G : Nat → Nat} (h : Cv w cv lo fw fh D k G) (hb : Below w.heap.size w w') : Cv w' cv lo fw fh D k G :=
  ⟨Nat.lt_of_lt_of_le h.lt hb.size, fun j hj => by rw [newCell hb _ _ h.lt]; exact h.c0 j hj, fun j hj => by rw [newCell hb _ _ h.lt]; exact h.c1 j hj, fun j hj => by rw [newCell hb _ _ h.lt]; exact h.c2 j hj, fun j hj => (h.rw j hj).to hb, h.lo, h.inj,
   fun j h1 h2 => by rw [newCell hb _ _ h.lt]; exact h.z0 j h1 h2, fun j h1 h2 => by rw [newCell hb _ _ h.lt]; exact h.z1 j h1 h2, fun j h1 h2 => by rw [newCell hb _ _ h.lt]; exact h.z2 j h1 h2, fun o => by rw [newFrozen hb _ _ h.lt]; exact h.th o⟩
theorem Cv.drew {w : World} {cv lo : Nat} {fw fh : Nat → Nat} {D : Nat → List Nat} {k : Nat} {G : Nat → Nat} (h : Cv w cv lo fw fh D k G) : Cv w.drew cv lo fw fh D k G := h.to (below_drew (Below.refl _ _))
theorem Cv.start (w : World) (lo : Nat) (fw fh : Nat → Nat) (D : Nat → List Nat) (G : Nat → Nat) : Cv (w.alloc (.cells #[.int .i64 0, .int .i64 0, .slice none 0 0, .int .i64 0, .int .i64 0, .slice none 0 0, .int .i64 0, .int .i64 0, .slice none 0 0] 42)) w.heap.size lo fw fh D 0 G := by
  refine ⟨by simp, fun j hj => by omega, fun j hj => by omega, fun j hj => by omega, fun j hj => by omega, fun j hj => by omega, fun i j hi => by omega, fun j _ hj => ?_, fun j _ hj => ?_, fun j _ hj => ?_, fun o => by simp⟩
  · rcases (show j = 0 ∨ j = 1 ∨ j = 2 by omega) with rfl | rfl | rfl <;> simp
  · rcases (show j = 0 ∨ j = 1 ∨ j = 2 by omega) with rfl | rfl | rfl <;> simp
  · rcases (show j = 0 ∨ j = 1 ∨ j = 2 by omega) with rfl | rfl | rfl <;> simp
theorem set_cell_ne {w : World} {b o o' : Nat} {v : Value} (h : o ≠ o') : (w.setCell ⟨b, o', none⟩ v).cell? ⟨b, o, none⟩ = w.cell? ⟨b, o, none⟩ := World.cell?_setCell_other _ _ _ _ (by simp <;> omega)
/-- one plane more -/
theorem Cv.next {w : World} {cv lo : Nat} {fw fh : Nat → Nat} {D : Nat → List Nat} {k : Nat} {G : Nat → Nat} (h : Cv w cv lo fw fh D k G) (hk : k < 3) {g : Nat} (hr : Rw w g (D k)) (hlo : lo ≤ g) (hcv : g ≠ cv) (hg : ∀ j, j < k → G j ≠ g) :
    Cv (((w.setCell ⟨cv, 3 * k, none⟩ (.int .i64 (fw k : Nat))).setCell ⟨cv, 3 * k + 1, none⟩ (.int .i64 (fh k : Nat))).setCell ⟨cv, 3 * k + 2, none⟩ (.slice (some ⟨g, 0, none⟩) (D k).length (D k).length)) cv lo fw fh D (k + 1) (fun j => if j = k then g else G j) := by
  have far : ∀ o, o ≠ 3 * k → o ≠ 3 * k + 1 → o ≠ 3 * k + 2 → (((w.setCell ⟨cv, 3 * k, none⟩ (.int .i64 (fw k : Nat))).setCell ⟨cv, 3 * k + 1, none⟩ (.int .i64 (fh k : Nat))).setCell ⟨cv, 3 * k + 2, none⟩ (.slice (some ⟨g, 0, none⟩) (D k).length (D k).length)).cell? ⟨cv, o, none⟩ = w.cell? ⟨cv, o, none⟩ := fun o a b c => by
    rw [set_cell_ne c, set_cell_ne b, set_cell_ne a]
  have rwf : ∀ b E, Rw w b E → b ≠ cv → Rw (((w.setCell ⟨cv, 3 * k, none⟩ (.int .i64 (fw k : Nat))).setCell ⟨cv, 3 * k + 1, none⟩ (.int .i64 (fh k : Nat))).setCell ⟨cv, 3 * k + 2, none⟩ (.slice (some ⟨g, 0, none⟩) (D k).length (D k).length)) b E := fun b E hb hne =>
    ((hb.far (a := ⟨cv, 3 * k, none⟩) hne _).far (a := ⟨cv, 3 * k + 1, none⟩) hne _).far (a := ⟨cv, 3 * k + 2, none⟩) hne _
  refine ⟨by simpa using h.lt, fun j hj => ?_, fun j hj => ?_, fun j hj => ?_, fun j hj => ?_, fun j hj => ?_, fun i j hi hj hij => ?_, fun j h1 h2 => ?_, fun j h1 h2 => ?_, fun j h1 h2 => ?_, fun o => by simp only [World.frozen?_setCell]; exact h.th o⟩
  · by_cases e : j = k
    · subst e; rw [set_cell_ne (by omega), set_cell_ne (by omega)]; exact World.cell?_setCell_same _ _ _ (h.z0 j (Nat.le_refl _) hk)
    · rw [far _ (by omega) (by omega) (by omega)]; exact h.c0 j (by omega)
  · by_cases e : j = k
    · subst e; rw [set_cell_ne (by omega)]; exact World.cell?_setCell_same _ _ _ (by rw [set_cell_ne (by omega)]; exact h.z1 j (Nat.le_refl _) hk)
    · rw [far _ (by omega) (by omega) (by omega)]; exact h.c1 j (by omega)
  · by_cases e : j = k
    · subst e; simp only [if_true]; exact World.cell?_setCell_same _ _ _ (by rw [set_cell_ne (by omega), set_cell_ne (by omega)]; exact h.z2 j (Nat.le_refl _) hk)
    · rw [far _ (by omega) (by omega) (by omega)]; simp only [if_neg e]; exact h.c2 j (by omega)
  · by_cases e : j = k
    · subst e; simp only [if_true]; exact rwf _ _ hr hcv
    · simp only [if_neg e]; exact rwf _ _ (h.rw j (by omega)) (h.lo j (by omega)).2
  · by_cases e : j = k
    · subst e; simp only [if_true]; exact ⟨hlo, hcv⟩
    · simp only [if_neg e]; exact h.lo j (by omega)
  · by_cases e : i = k
    · by_cases e2 : j = k
      · omega
      · simp only [if_pos e, if_neg e2]; exact fun q => hg j (by omega) q.symm
    · by_cases e2 : j = k
      · simp only [if_neg e, if_pos e2]; exact hg i (by omega)
      · simp only [if_neg e, if_neg e2]; exact h.inj i j (by omega) (by omega) hij
  · rw [far _ (by omega) (by omega) (by omega)]; exact h.z0 j (by omega) h2
  · rw [far _ (by omega) (by omega) (by omega)]; exact h.z1 j (by omega) h2
  · rw [far _ (by omega) (by omega) (by omega)]; exact h.z2 j (by omega) h2

/-- one of three -/
def sel {α : Type} (a b c : α) : Nat → α
  | 0 => a
  | 1 => b
  | _ => c
theorem Kb.set {g : Nat} {a w : World} (h : Kb g a w) (o : Nat) (v : Value) : Kb g a (w.setCell ⟨g, o, none⟩ v) := h.trans (Kb.setCell _ _ _ _)
/-- a frame is answered, in new memory -/
def Fq (u w' : World) (e : Ending) (w0 h0 w1 h1 w2 h2 : Nat) (D0 D1 D2 : List Nat) : Prop := ∃ g0 g1 g2, e = .returned (.tuple #[.agg #[.int .i64 (w0 : Int), .int .i64 (h0 : Int), .slice (some ⟨g0, 0, none⟩) D0.length D0.length, .int .i64 (w1 : Int), .int .i64 (h1 : Int), .slice (some ⟨g1, 0, none⟩) D1.length D1.length, .int .i64 (w2 : Int), .int .i64 (h2 : Int), .slice (some ⟨g2, 0, none⟩) D2.length D2.length], .int .i64 0]) ∧
  Rw w' g0 D0 ∧ Rw w' g1 D1 ∧ Rw w' g2 D2 ∧ u.heap.size ≤ g0 ∧ u.heap.size ≤ g1 ∧ u.heap.size ≤ g2 ∧ g0 ≠ g1 ∧ g0 ≠ g2 ∧ g1 ≠ g2 ∧ Below u.heap.size u w'
/-- no frame is answered -/
def Fz (u w' : World) (e : Ending) : Prop := e = .returned (.tuple #[.agg #[.int .i64 0, .int .i64 0, .slice none 0 0, .int .i64 0, .int .i64 0, .slice none 0 0, .int .i64 0, .int .i64 0, .slice none 0 0], .int .i64 2]) ∧ Below u.heap.size u w'
theorem sizes_nat {u : World} {w h w2 h2 : Nat} (h1 : w ≤ 256) (h3 : h ≤ 256) (e1 : w2 = w / 2) (e2 : h2 = h / 2) :
    Calls Tryd.prog 20 #[.int .i64 (w : Int), .int .i64 (h : Int)] u fun e w' => e = .returned (.agg #[.int .i64 (w : Int), .int .i64 (h : Int), .int .i64 (w2 : Int), .int .i64 (h2 : Int), .int .i64 (w2 : Int), .int .i64 (h2 : Int)]) ∧ Below u.heap.size u w' := by
  subst e1 e2
  exact sizes_any (by omega) (by omega) (by omega) (by omega)
def FrInv (v0 : World) (cv : Nat) (fw fh : Nat → Nat) (D : Nat → List Nat) (lo : Nat) (iv : Value) (wr : World) : Prop := ∃ (k : Nat) (G : Nat → Nat), k ≤ 3 ∧ iv = .int .i64 k ∧ Cv wr cv lo fw fh D k G ∧ Below cv v0 wr
set_option maxRecDepth 100000 in
set_option maxHeartbeats 4000000 in
theorem frame_ok {u : World} {w h v : Nat} (hw : Vs (w : Int)) (hh : Vs (h : Int)) :
    Calls Tryd.prog 12 #[.int .i64 (w : Int), .int .i64 (h : Int), .int .u8 (v : Int)] u fun e w' => Fq u w' e w h (w / 2) (h / 2) (w / 2) (h / 2) (List.replicate (w * h) v) (List.replicate (w / 2 * (h / 2)) v) (List.replicate (w / 2 * (h / 2)) v) := by
  obtain ⟨w2, e1⟩ : ∃ a, a = w / 2 := ⟨_, rfl⟩
  obtain ⟨h2, e2⟩ : ∃ a, a = h / 2 := ⟨_, rfl⟩
  rw [← e1, ← e2]
  have i0 := hw.lo
  have i1 := hw.hi
  have i2 := hh.lo
  have i3 := hh.hi
  have HN0 : Hid (∀ x : World, Calls Tryd.prog 21 #[.int .i64 (w : Int), .int .i64 (h : Int), .int .u8 (v : Int)] x fun e w' => Pn x w' e w h (List.replicate (w * h) v)) := fun x => new_ok (by omega) (by omega) (by omega) (by omega)
  have HN1 : Hid (∀ x : World, Calls Tryd.prog 21 #[.int .i64 (w2 : Int), .int .i64 (h2 : Int), .int .u8 (v : Int)] x fun e w' => Pn x w' e w2 h2 (List.replicate (w2 * h2) v)) := fun x => new_ok (by omega) (by omega) (by omega) (by omega)
  generalize List.replicate (w * h) v = D0 at *
  generalize List.replicate (w2 * h2) v = D1 at *
  have HW : Hid _ := hw
  have HH : Hid _ := hh
  have E1 : Hid _ := e1
  have E2 : Hid _ := e2
  clear hw hh e1 e2
  go_enter Tryd.func12, Tryd.ntmps12
  go_wp2_with (first | (go_at_call 19; with_reducible refine (vs_yes HW.out).mono ?_; rintro e w1 ⟨rfl, rfl⟩) | (go_at_call 19; with_reducible refine (vs_yes HH.out).mono ?_; rintro e w2 ⟨rfl, rfl⟩))
  refine (sizes_nat (by omega) (by omega) E1.out E2.out).mono ?_
  rintro e v0 ⟨rfl, hb⟩
  have HC0 : Hid (Cv v0 (u.heap.size + 1) (u.heap.size + 1) (sel w w2 w2) (sel h h2 h2) (sel D0 D1 D1) 0 (fun _ => 0)) := by
    have := (Cv.start (u.alloc (.cells #[.int .i64 0, .int .i64 0, .slice none 0 0, .int .i64 0, .int .i64 0, .slice none 0 0, .int .i64 0, .int .i64 0, .slice none 0 0] 42)) (u.heap.size + 1) (sel w w2 w2) (sel h h2 h2) (sel D0 D1 D1) (fun _ => 0)).to hb
    rwa [show (u.alloc (.cells #[.int .i64 0, .int .i64 0, .slice none 0 0, .int .i64 0, .int .i64 0, .slice none 0 0, .int .i64 0, .int .i64 0, .slice none 0 0] 42)).heap.size = u.heap.size + 1 from by simp] at this
  have HS0 : Hid (v0.cell? ⟨u.heap.size, 0, none⟩ = some (.int .i64 0)) := by unfold Hid; rw [newCell hb _ _ (by simp; omega)]; simp [go_sem]
  have HS1 : Hid (v0.cell? ⟨u.heap.size, 1, none⟩ = some (.int .i64 0)) := by unfold Hid; rw [newCell hb _ _ (by simp; omega)]; simp [go_sem]
  have HS2 : Hid (v0.cell? ⟨u.heap.size, 2, none⟩ = some (.slice none 0 0)) := by unfold Hid; rw [newCell hb _ _ (by simp; omega)]; simp [go_sem]
  have HS3 : Hid (v0.cell? ⟨u.heap.size, 3, none⟩ = some (.int .i64 0)) := by unfold Hid; rw [newCell hb _ _ (by simp; omega)]; simp [go_sem]
  have HS4 : Hid (v0.cell? ⟨u.heap.size, 4, none⟩ = some (.int .i64 0)) := by unfold Hid; rw [newCell hb _ _ (by simp; omega)]; simp [go_sem]
  have HS5 : Hid (v0.cell? ⟨u.heap.size, 5, none⟩ = some (.slice none 0 0)) := by unfold Hid; rw [newCell hb _ _ (by simp; omega)]; simp [go_sem]
  have HS6 : Hid (v0.cell? ⟨u.heap.size, 6, none⟩ = some (.int .i64 0)) := by unfold Hid; rw [newCell hb _ _ (by simp; omega)]; simp [go_sem]
  have HS7 : Hid (v0.cell? ⟨u.heap.size, 7, none⟩ = some (.int .i64 0)) := by unfold Hid; rw [newCell hb _ _ (by simp; omega)]; simp [go_sem]
  have HS8 : Hid (v0.cell? ⟨u.heap.size, 8, none⟩ = some (.slice none 0 0)) := by unfold Hid; rw [newCell hb _ _ (by simp; omega)]; simp [go_sem]
  have HTH : Hid (∀ o, v0.frozen? ⟨u.heap.size, o, none⟩ = false) := fun o => by rw [newFrozen hb _ _ (by simp; omega)]; simp [go_sem]
  have HBv : Hid (Below u.heap.size u v0) := below_to (to_alloc (from_alloc u _) _) hb
  clear hb
  go_wp2_with fail
  go_loopw [23] (fun i wr => FrInv v0 (u.heap.size + 1) (sel w w2 w2) (sel h h2 h2) (sel D0 D1 D1) (u.heap.size + 1) i wr) (fun i _ => 3 - (intOf i).toNat)
  case atStart => exact ⟨0, _, by omega, rfl, HC0.out, Below.refl _ _⟩
  case round =>
    obtain ⟨k, G, hk, rfl, hC, hb⟩ := hrel
    have HC : Hid _ := hC
    have HBr : Hid (Below (u.heap.size + 1) v0 wr) := hb
    clear hC hb HC0
    have hvz : u.heap.size + 1 < wr.heap.size := HC.out.lt
    have hvz2 : u.heap.size ≤ v0.heap.size := HBv.out.size
    rcases (show k = 0 ∨ k = 1 ∨ k = 2 ∨ k = 3 by omega) with rfl | rfl | rfl | rfl
    · have hix : ∀ x : World, (Instr.index 59 (.agg #[.int .i64 (w : Int), .int .i64 (h : Int), .int .i64 (w2 : Int), .int .i64 (h2 : Int), .int .i64 (w2 : Int), .int .i64 (h2 : Int)]) (.int .i64 0)).run Tryd.prog x = .ok (.agg #[.int .i64 (w : Int), .int .i64 (h : Int)]) x := fun x => idx0 _ _ _ _ _ _ x
      have HNk : Hid (Calls Tryd.prog 21 #[.int .i64 (w : Int), .int .i64 (h : Int), .int .u8 (v : Int)] (wr.alloc (.cells #[.int .i64 (w : Int), .int .i64 (h : Int)] 58)) fun e w' => Pn (wr.alloc (.cells #[.int .i64 (w : Int), .int .i64 (h : Int)] 58)) w' e w h D0) := HN0.out _
      go_wp2_with fail
      refine HNk.out.mono ?_
      rintro e w5 ⟨g, rfl, hlo, hr, hb5⟩
      have hC5 := (HC.out.to (from_alloc _ (.cells #[.int .i64 (w : Int), .int .i64 (h : Int)] 58))).to hb5
      have z0 : w5.cell? ⟨u.heap.size + 1, 0, none⟩ = some (.int .i64 0) := hC5.z0 0 (Nat.le_refl _) (by omega)
      have z1 : w5.cell? ⟨u.heap.size + 1, 1, none⟩ = some (.int .i64 0) := hC5.z1 0 (Nat.le_refl _) (by omega)
      have z2 : w5.cell? ⟨u.heap.size + 1, 2, none⟩ = some (.slice none 0 0) := hC5.z2 0 (Nat.le_refl _) (by omega)
      have t0 := hC5.th 0
      have t1 := hC5.th 1
      have t2 := hC5.th 2
      have hsz : wr.heap.size < g := by have : wr.heap.size + 1 ≤ g := by simpa using hlo
                                        omega
      have HN5 : Hid (Cv (((w5.setCell ⟨u.heap.size + 1, 0, none⟩ (.int .i64 (w : Int))).setCell ⟨u.heap.size + 1, 1, none⟩ (.int .i64 (h : Int))).setCell ⟨u.heap.size + 1, 2, none⟩ (.slice (some ⟨g, 0, none⟩) D0.length D0.length)) (u.heap.size + 1) (u.heap.size + 1) (sel w w2 w2) (sel h h2 h2) (sel D0 D1 D1) 1 (fun j => if j = 0 then g else G j)) :=
        hC5.next (by omega) hr (by have := HBr.out.size; omega) (by have := HC.out.lt; omega) (fun j hj => by have := (HC.out.rw j hj).lt; omega)
      have HB5 : Hid (Below (u.heap.size + 1) v0 w5) := (HBr.out.trans ((from_alloc wr (.cells #[.int .i64 (w : Int), .int .i64 (h : Int)] 58)).mono (Nat.le_of_lt HC.out.lt))).trans (hb5.mono (by simp; have := HC.out.lt; omega))
      clear hC5 hb5 hr hlo
      go_wp2_with fail
      go_roundw
      case rel => exact ⟨1, _, by omega, by go_num, HN5.out, below_set (below_set (below_set HB5.out (by simp) _) (by simp) _) (by simp) _⟩
      case measure => simp [intOf]
    · have hix : ∀ x : World, (Instr.index 59 (.agg #[.int .i64 (w : Int), .int .i64 (h : Int), .int .i64 (w2 : Int), .int .i64 (h2 : Int), .int .i64 (w2 : Int), .int .i64 (h2 : Int)]) (.int .i64 1)).run Tryd.prog x = .ok (.agg #[.int .i64 (w2 : Int), .int .i64 (h2 : Int)]) x := fun x => idx1 _ _ _ _ _ _ x
      have HNk : Hid (Calls Tryd.prog 21 #[.int .i64 (w2 : Int), .int .i64 (h2 : Int), .int .u8 (v : Int)] (wr.alloc (.cells #[.int .i64 (w2 : Int), .int .i64 (h2 : Int)] 58)) fun e w' => Pn (wr.alloc (.cells #[.int .i64 (w2 : Int), .int .i64 (h2 : Int)] 58)) w' e w2 h2 D1) := HN1.out _
      go_wp2_with fail
      refine HNk.out.mono ?_
      rintro e w5 ⟨g, rfl, hlo, hr, hb5⟩
      have hC5 := (HC.out.to (from_alloc _ (.cells #[.int .i64 (w2 : Int), .int .i64 (h2 : Int)] 58))).to hb5
      have z0 : w5.cell? ⟨u.heap.size + 1, 3, none⟩ = some (.int .i64 0) := hC5.z0 1 (Nat.le_refl _) (by omega)
      have z1 : w5.cell? ⟨u.heap.size + 1, 4, none⟩ = some (.int .i64 0) := hC5.z1 1 (Nat.le_refl _) (by omega)
      have z2 : w5.cell? ⟨u.heap.size + 1, 5, none⟩ = some (.slice none 0 0) := hC5.z2 1 (Nat.le_refl _) (by omega)
      have t0 := hC5.th 3
      have t1 := hC5.th 4
      have t2 := hC5.th 5
      have hsz : wr.heap.size < g := by have : wr.heap.size + 1 ≤ g := by simpa using hlo
                                        omega
      have HN5 : Hid (Cv (((w5.setCell ⟨u.heap.size + 1, 3, none⟩ (.int .i64 (w2 : Int))).setCell ⟨u.heap.size + 1, 4, none⟩ (.int .i64 (h2 : Int))).setCell ⟨u.heap.size + 1, 5, none⟩ (.slice (some ⟨g, 0, none⟩) D1.length D1.length)) (u.heap.size + 1) (u.heap.size + 1) (sel w w2 w2) (sel h h2 h2) (sel D0 D1 D1) 2 (fun j => if j = 1 then g else G j)) :=
        hC5.next (by omega) hr (by have := HBr.out.size; omega) (by have := HC.out.lt; omega) (fun j hj => by have := (HC.out.rw j hj).lt; omega)
      have HB5 : Hid (Below (u.heap.size + 1) v0 w5) := (HBr.out.trans ((from_alloc wr (.cells #[.int .i64 (w2 : Int), .int .i64 (h2 : Int)] 58)).mono (Nat.le_of_lt HC.out.lt))).trans (hb5.mono (by simp; have := HC.out.lt; omega))
      clear hC5 hb5 hr hlo
      go_wp2_with fail
      go_roundw
      case rel => exact ⟨2, _, by omega, by go_num, HN5.out, below_set (below_set (below_set HB5.out (by simp) _) (by simp) _) (by simp) _⟩
      case measure => simp [intOf]
    · have hix : ∀ x : World, (Instr.index 59 (.agg #[.int .i64 (w : Int), .int .i64 (h : Int), .int .i64 (w2 : Int), .int .i64 (h2 : Int), .int .i64 (w2 : Int), .int .i64 (h2 : Int)]) (.int .i64 2)).run Tryd.prog x = .ok (.agg #[.int .i64 (w2 : Int), .int .i64 (h2 : Int)]) x := fun x => idx2 _ _ _ _ _ _ x
      have HNk : Hid (Calls Tryd.prog 21 #[.int .i64 (w2 : Int), .int .i64 (h2 : Int), .int .u8 (v : Int)] (wr.alloc (.cells #[.int .i64 (w2 : Int), .int .i64 (h2 : Int)] 58)) fun e w' => Pn (wr.alloc (.cells #[.int .i64 (w2 : Int), .int .i64 (h2 : Int)] 58)) w' e w2 h2 D1) := HN1.out _
      go_wp2_with fail
      refine HNk.out.mono ?_
      rintro e w5 ⟨g, rfl, hlo, hr, hb5⟩
      have hC5 := (HC.out.to (from_alloc _ (.cells #[.int .i64 (w2 : Int), .int .i64 (h2 : Int)] 58))).to hb5
      have z0 : w5.cell? ⟨u.heap.size + 1, 6, none⟩ = some (.int .i64 0) := hC5.z0 2 (Nat.le_refl _) (by omega)
      have z1 : w5.cell? ⟨u.heap.size + 1, 7, none⟩ = some (.int .i64 0) := hC5.z1 2 (Nat.le_refl _) (by omega)
      have z2 : w5.cell? ⟨u.heap.size + 1, 8, none⟩ = some (.slice none 0 0) := hC5.z2 2 (Nat.le_refl _) (by omega)
      have t0 := hC5.th 6
      have t1 := hC5.th 7
      have t2 := hC5.th 8
      have hsz : wr.heap.size < g := by have : wr.heap.size + 1 ≤ g := by simpa using hlo
                                        omega
      have HN5 : Hid (Cv (((w5.setCell ⟨u.heap.size + 1, 6, none⟩ (.int .i64 (w2 : Int))).setCell ⟨u.heap.size + 1, 7, none⟩ (.int .i64 (h2 : Int))).setCell ⟨u.heap.size + 1, 8, none⟩ (.slice (some ⟨g, 0, none⟩) D1.length D1.length)) (u.heap.size + 1) (u.heap.size + 1) (sel w w2 w2) (sel h h2 h2) (sel D0 D1 D1) 3 (fun j => if j = 2 then g else G j)) :=
        hC5.next (by omega) hr (by have := HBr.out.size; omega) (by have := HC.out.lt; omega) (fun j hj => by have := (HC.out.rw j hj).lt; omega)
      have HB5 : Hid (Below (u.heap.size + 1) v0 w5) := (HBr.out.trans ((from_alloc wr (.cells #[.int .i64 (w2 : Int), .int .i64 (h2 : Int)] 58)).mono (Nat.le_of_lt HC.out.lt))).trans (hb5.mono (by simp; have := HC.out.lt; omega))
      clear hC5 hb5 hr hlo
      go_wp2_with fail
      go_roundw
      case rel => exact ⟨3, _, by omega, by go_num, HN5.out, below_set (below_set (below_set HB5.out (by simp) _) (by simp) _) (by simp) _⟩
      case measure => simp [intOf]
    · have q0 : wr.cell? ⟨u.heap.size + 1, 0, none⟩ = some (.int .i64 (w : Int)) := HC.out.c0 0 (by omega)
      have q1 : wr.cell? ⟨u.heap.size + 1, 1, none⟩ = some (.int .i64 (h : Int)) := HC.out.c1 0 (by omega)
      have q2 : wr.cell? ⟨u.heap.size + 1, 2, none⟩ = some (.slice (some ⟨G 0, 0, none⟩) D0.length D0.length) := HC.out.c2 0 (by omega)
      have q3 : wr.cell? ⟨u.heap.size + 1, 3, none⟩ = some (.int .i64 (w2 : Int)) := HC.out.c0 1 (by omega)
      have q4 : wr.cell? ⟨u.heap.size + 1, 4, none⟩ = some (.int .i64 (h2 : Int)) := HC.out.c1 1 (by omega)
      have q5 : wr.cell? ⟨u.heap.size + 1, 5, none⟩ = some (.slice (some ⟨G 1, 0, none⟩) D1.length D1.length) := HC.out.c2 1 (by omega)
      have q6 : wr.cell? ⟨u.heap.size + 1, 6, none⟩ = some (.int .i64 (w2 : Int)) := HC.out.c0 2 (by omega)
      have q7 : wr.cell? ⟨u.heap.size + 1, 7, none⟩ = some (.int .i64 (h2 : Int)) := HC.out.c1 2 (by omega)
      have q8 : wr.cell? ⟨u.heap.size + 1, 8, none⟩ = some (.slice (some ⟨G 2, 0, none⟩) D1.length D1.length) := HC.out.c2 2 (by omega)
      have s0 : wr.cell? ⟨u.heap.size, 0, none⟩ = some (.int .i64 0) := by rw [newCell HBr.out _ _ (by omega)]; exact HS0.out
      have s1 : wr.cell? ⟨u.heap.size, 1, none⟩ = some (.int .i64 0) := by rw [newCell HBr.out _ _ (by omega)]; exact HS1.out
      have s2 : wr.cell? ⟨u.heap.size, 2, none⟩ = some (.slice none 0 0) := by rw [newCell HBr.out _ _ (by omega)]; exact HS2.out
      have s3 : wr.cell? ⟨u.heap.size, 3, none⟩ = some (.int .i64 0) := by rw [newCell HBr.out _ _ (by omega)]; exact HS3.out
      have s4 : wr.cell? ⟨u.heap.size, 4, none⟩ = some (.int .i64 0) := by rw [newCell HBr.out _ _ (by omega)]; exact HS4.out
      have s5 : wr.cell? ⟨u.heap.size, 5, none⟩ = some (.slice none 0 0) := by rw [newCell HBr.out _ _ (by omega)]; exact HS5.out
      have s6 : wr.cell? ⟨u.heap.size, 6, none⟩ = some (.int .i64 0) := by rw [newCell HBr.out _ _ (by omega)]; exact HS6.out
      have s7 : wr.cell? ⟨u.heap.size, 7, none⟩ = some (.int .i64 0) := by rw [newCell HBr.out _ _ (by omega)]; exact HS7.out
      have s8 : wr.cell? ⟨u.heap.size, 8, none⟩ = some (.slice none 0 0) := by rw [newCell HBr.out _ _ (by omega)]; exact HS8.out
      have th : ∀ o, wr.frozen? ⟨u.heap.size, o, none⟩ = false := fun o => by rw [newFrozen HBr.out _ _ (by omega)]; exact HTH.out o
      go_wp2_with fail
      refine bodyPost_ret (v := .tuple #[.agg #[.int .i64 (w : Int), .int .i64 (h : Int), .slice (some ⟨G 0, 0, none⟩) D0.length D0.length, .int .i64 (w2 : Int), .int .i64 (h2 : Int), .slice (some ⟨G 1, 0, none⟩) D1.length D1.length, .int .i64 (w2 : Int), .int .i64 (h2 : Int), .slice (some ⟨G 2, 0, none⟩) D1.length D1.length], .int .i64 0]) (by simp [results, Tryd.results12, go_sem, s0, s1, s2, s3, s4, s5, s6, s7, s8]) rfl ?_
      have hk := Kb.set (Kb.set (Kb.set (Kb.set (Kb.set (Kb.set (Kb.set (Kb.set (Kb.set (Kb.refl u.heap.size wr) 0 (.int .i64 (w : Int))) 1 (.int .i64 (h : Int))) 2 (.slice (some ⟨G 0, 0, none⟩) D0.length D0.length)) 3 (.int .i64 (w2 : Int))) 4 (.int .i64 (h2 : Int))) 5 (.slice (some ⟨G 1, 0, none⟩) D1.length D1.length)) 6 (.int .i64 (w2 : Int))) 7 (.int .i64 (h2 : Int))) 8 (.slice (some ⟨G 2, 0, none⟩) D1.length D1.length)
      have hm := fun j hj => (HC.out.lo j hj).1
      have far : ∀ j, j < 3 → G j ≠ u.heap.size := fun j hj e => by have := hm j hj; omega
      exact ⟨G 0, G 1, G 2, rfl, (HC.out.rw 0 (by omega)).carry (hk.block _ (far 0 (by omega))), (HC.out.rw 1 (by omega)).carry (hk.block _ (far 1 (by omega))), (HC.out.rw 2 (by omega)).carry (hk.block _ (far 2 (by omega))), by have := hm 0 (by omega); omega, by have := hm 1 (by omega); omega, by have := hm 2 (by omega); omega, HC.out.inj 0 1 (by omega) (by omega) (by omega), HC.out.inj 0 2 (by omega) (by omega) (by omega), HC.out.inj 1 2 (by omega) (by omega) (by omega), (HBv.out.trans (HBr.out.mono (by omega))).trans (hk.below (Nat.le_refl _))⟩

/-- a frame that may be, in memory -/
structure Fram (w : World) (x y x2 y2 : Nat) (a0 a1 a2 : Option Addr) (c0 c1 c2 : Nat) (C0 C1 C2 : List Nat) : Prop where
  vx : Vs (x : Int)
  vy : Vs (y : Int)
  ex : x2 = x / 2
  ey : y2 = y / 2
  l0 : C0.length = x * y
  l1 : C1.length = x2 * y2
  l2 : C2.length = x2 * y2
  k0 : C0.length ≤ c0
  k1 : C1.length ≤ c1
  k2 : C2.length ≤ c2
  s0 : Sl w .u8 a0 C0
  s1 : Sl w .u8 a1 C1
  s2 : Sl w .u8 a2 C2
theorem Fram.bx {w : World} {x y x2 y2 : Nat} {a0 a1 a2 : Option Addr} {c0 c1 c2 : Nat} {C0 C1 C2 : List Nat} (F : Fram w x y x2 y2 a0 a1 a2 c0 c1 c2 C0 C1 C2) : 16 ≤ x ∧ x ≤ 256 ∧ x % 2 = 0 ∧ 16 ≤ y ∧ y ≤ 256 ∧ y % 2 = 0 := by
  have h1 := F.vx.lo; have h2 := F.vx.hi; have h3 := F.vx.even; have h4 := F.vy.lo; have h5 := F.vy.hi; have h6 := F.vy.even
  omega
theorem Fram.to {w w' : World} {x y x2 y2 : Nat} {a0 a1 a2 : Option Addr} {c0 c1 c2 : Nat} {C0 C1 C2 : List Nat} (F : Fram w x y x2 y2 a0 a1 a2 c0 c1 c2 C0 C1 C2) (hb : Below w.heap.size w w') : Fram w' x y x2 y2 a0 a1 a2 c0 c1 c2 C0 C1 C2 :=
  ⟨F.vx, F.vy, F.ex, F.ey, F.l0, F.l1, F.l2, F.k0, F.k1, F.k2, F.s0.to hb, F.s1.to hb, F.s2.to hb⟩
theorem Fram.fok {w : World} {x y x2 y2 : Nat} {a0 a1 a2 : Option Addr} {c0 c1 c2 : Nat} {C0 C1 C2 : List Nat} (F : Fram w x y x2 y2 a0 a1 a2 c0 c1 c2 C0 C1 C2) : FrOk ⟨(x : Int), (y : Int), a0, c0, C0⟩ ⟨(x2 : Int), (y2 : Int), a1, c1, C1⟩ ⟨(x2 : Int), (y2 : Int), a2, c2, C2⟩ := by
  obtain ⟨h1, h2, h3, h4, h5, h6⟩ := F.bx
  have e1 := F.ex
  have e2 := F.ey
  exact ⟨F.vx, F.vy, POk.of (by omega) (by omega) (by omega) (by omega) F.l0, by simp only; omega, by simp only; omega, POk.of (by omega) (by omega) (by omega) (by omega) F.l1, by simp only; omega, by simp only; omega, POk.of (by omega) (by omega) (by omega) (by omega) F.l2⟩
theorem Fram.of {w : World} {p q r : Pv} (h : FrOk p q r) (k0 : p.C.length ≤ p.c) (k1 : q.C.length ≤ q.c) (k2 : r.C.length ≤ r.c) (s0 : Sl w .u8 p.a p.C) (s1 : Sl w .u8 q.a q.C) (s2 : Sl w .u8 r.a r.C) :
    ∃ x y x2 y2 : Nat, p.W = (x : Int) ∧ p.H = (y : Int) ∧ q.W = (x2 : Int) ∧ q.H = (y2 : Int) ∧ r.W = (x2 : Int) ∧ r.H = (y2 : Int) ∧ Fram w x y x2 y2 p.a q.a r.a p.c q.c r.c p.C q.C r.C := by
  obtain ⟨x, y, ex, ey, b1, b2, b3, b4, hl0⟩ := h.p0.nat
  obtain ⟨x1, y1, ex1, ey1, _, _, _, _, hl1⟩ := h.p1.nat
  obtain ⟨x2, y2, ex2, ey2, _, _, _, _, hl2⟩ := h.p2.nat
  have f1 := h.w1; have f2 := h.h1; have f3 := h.w2; have f4 := h.h2
  obtain rfl : x2 = x1 := by omega
  obtain rfl : y2 = y1 := by omega
  exact ⟨x, y, x2, y2, ex, ey, ex1, ey1, ex2, ey2, by rw [← ex]; exact h.w, by rw [← ey]; exact h.h, by omega, by omega, hl0, hl1, hl2, k0, k1, k2, s0, s1, s2⟩

end Go.Proofs.YtpideemiijhkgabDoor
