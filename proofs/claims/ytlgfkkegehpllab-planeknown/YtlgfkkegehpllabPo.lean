/- DERIVED. The walk of Frame. -/
import Derived.Test.YtlgfkkegehpllabPm
namespace Go.Proofs.Ytlgfkkegehpllab
open Go.RowKit

/-- one of three -/
def sel {α : Type} (a b c : α) : Nat → α
  | 0 => a
  | 1 => b
  | _ => c
theorem Kb.set {g : Nat} {a w : World} (h : Kb g a w) (o : Nat) (v : Value) : Kb g a (w.setCell ⟨g, o, none⟩ v) := h.trans (Kb.setCell _ _ _ _)
/-- a frame is answered, in new memory -/
def Fn (u w' : World) (e : Ending) (w0 h0 w1 h1 w2 h2 : Nat) (D0 D1 D2 : List Nat) : Prop := ∃ g0 g1 g2, e = .returned (.tuple #[.agg #[.int .i64 (w0 : Int), .int .i64 (h0 : Int), .slice (some ⟨g0, 0, none⟩) D0.length D0.length, .int .i64 (w1 : Int), .int .i64 (h1 : Int), .slice (some ⟨g1, 0, none⟩) D1.length D1.length, .int .i64 (w2 : Int), .int .i64 (h2 : Int), .slice (some ⟨g2, 0, none⟩) D2.length D2.length], .int .i64 0]) ∧
  Rw w' g0 D0 ∧ Rw w' g1 D1 ∧ Rw w' g2 D2 ∧ u.heap.size ≤ g0 ∧ u.heap.size ≤ g1 ∧ u.heap.size ≤ g2 ∧ g0 ≠ g1 ∧ g0 ≠ g2 ∧ g1 ≠ g2 ∧ Below u.heap.size u w'
/-- no frame is answered -/
def Fz (u w' : World) (e : Ending) : Prop := e = .returned (.tuple #[.agg #[.int .i64 0, .int .i64 0, .slice none 0 0, .int .i64 0, .int .i64 0, .slice none 0 0, .int .i64 0, .int .i64 0, .slice none 0 0], .int .i64 2]) ∧ Below u.heap.size u w'

theorem sizes_nat {u : World} {w h w2 h2 : Nat} (h1 : w ≤ 256) (h3 : h ≤ 256) (e1 : w2 = w / 2) (e2 : h2 = h / 2) :
    Calls Try.prog 26 #[.int .i64 (w : Int), .int .i64 (h : Int)] u fun e w' => e = .returned (.agg #[.int .i64 (w : Int), .int .i64 (h : Int), .int .i64 (w2 : Int), .int .i64 (h2 : Int), .int .i64 (w2 : Int), .int .i64 (h2 : Int)]) ∧ Below u.heap.size u w' := by
  subst e1 e2
  exact sizes_any (by omega) (by omega) (by omega) (by omega)

def FrInv (v0 : World) (cv : Nat) (fw fh : Nat → Nat) (D : Nat → List Nat) (lo : Nat) (iv : Value) (wr : World) : Prop := ∃ (k : Nat) (G : Nat → Nat), k ≤ 3 ∧ iv = .int .i64 k ∧ Cv wr cv lo fw fh D k G ∧ Below cv v0 wr

set_option maxRecDepth 100000 in
set_option maxHeartbeats 4000000 in
theorem frame_ok {u : World} {w h v : Nat} (hw : Vs (w : Int)) (hh : Vs (h : Int)) :
    Calls Try.prog 14 #[.int .i64 (w : Int), .int .i64 (h : Int), .int .u8 (v : Int)] u fun e w' => Fn u w' e w h (w / 2) (h / 2) (w / 2) (h / 2) (List.replicate (w * h) v) (List.replicate (w / 2 * (h / 2)) v) (List.replicate (w / 2 * (h / 2)) v) := by
  obtain ⟨w2, e1⟩ : ∃ a, a = w / 2 := ⟨_, rfl⟩
  obtain ⟨h2, e2⟩ : ∃ a, a = h / 2 := ⟨_, rfl⟩
  rw [← e1, ← e2]
  have i0 := hw.lo
  have i1 := hw.hi
  have i2 := hh.lo
  have i3 := hh.hi
  have HN0 : Hid (∀ x : World, Calls Try.prog 13 #[.int .i64 (w : Int), .int .i64 (h : Int), .int .u8 (v : Int)] x fun e w' => Pn x w' e w h (List.replicate (w * h) v)) := fun x => new_ok (by omega) (by omega) (by omega) (by omega)
  have HN1 : Hid (∀ x : World, Calls Try.prog 13 #[.int .i64 (w2 : Int), .int .i64 (h2 : Int), .int .u8 (v : Int)] x fun e w' => Pn x w' e w2 h2 (List.replicate (w2 * h2) v)) := fun x => new_ok (by omega) (by omega) (by omega) (by omega)
  generalize List.replicate (w * h) v = D0 at *
  generalize List.replicate (w2 * h2) v = D1 at *
  have HW : Hid _ := hw
  have HH : Hid _ := hh
  have E1 : Hid _ := e1
  have E2 : Hid _ := e2
  clear hw hh e1 e2
  go_enter Try.func14, Try.ntmps14
  go_wp2_with (first | (go_at_call 25; with_reducible refine (vs_yes HW.out).mono ?_; rintro e w1 ⟨rfl, rfl⟩) | (go_at_call 25; with_reducible refine (vs_yes HH.out).mono ?_; rintro e w2 ⟨rfl, rfl⟩))
  refine (sizes_nat (by omega) (by omega) E1.out E2.out).mono ?_
  rintro e v0 ⟨rfl, hb⟩
  have HC0 : Hid (Cv v0 (u.heap.size + 1) (u.heap.size + 1) (sel w w2 w2) (sel h h2 h2) (sel D0 D1 D1) 0 (fun _ => 0)) := by
    have := (Cv.start (u.alloc (.cells #[.int .i64 0, .int .i64 0, .slice none 0 0, .int .i64 0, .int .i64 0, .slice none 0 0, .int .i64 0, .int .i64 0, .slice none 0 0] 48)) (u.heap.size + 1) (sel w w2 w2) (sel h h2 h2) (sel D0 D1 D1) (fun _ => 0)).to hb
    rwa [show (u.alloc (.cells #[.int .i64 0, .int .i64 0, .slice none 0 0, .int .i64 0, .int .i64 0, .slice none 0 0, .int .i64 0, .int .i64 0, .slice none 0 0] 48)).heap.size = u.heap.size + 1 from by simp] at this
  have HS0 : Hid (v0.cell? ⟨u.heap.size, 0, none⟩ = some (.int .i64 0)) := by unfold Hid; rw [newCell hb _ _ (by simp; omega)]; simp [go_sem]
  have HS1 : Hid (v0.cell? ⟨u.heap.size, 1, none⟩ = some (.int .i64 0)) := by unfold Hid; rw [newCell hb _ _ (by simp; omega)]; simp [go_sem]
  have HS2 : Hid (v0.cell? ⟨u.heap.size, 2, none⟩ = some (.slice none 0 0)) := by unfold Hid; rw [newCell hb _ _ (by simp; omega)]; simp [go_sem]
  have HS3 : Hid (v0.cell? ⟨u.heap.size, 3, none⟩ = some (.int .i64 0)) := by unfold Hid; rw [newCell hb _ _ (by simp; omega)]; simp [go_sem]
  have HS4 : Hid (v0.cell? ⟨u.heap.size, 4, none⟩ = some (.int .i64 0)) := by unfold Hid; rw [newCell hb _ _ (by simp; omega)]; simp [go_sem]
  have HS5 : Hid (v0.cell? ⟨u.heap.size, 5, none⟩ = some (.slice none 0 0)) := by unfold Hid; rw [newCell hb _ _ (by simp; omega)]; simp [go_sem]
  have HS6 : Hid (v0.cell? ⟨u.heap.size, 6, none⟩ = some (.int .i64 0)) := by unfold Hid; rw [newCell hb _ _ (by simp; omega)]; simp [go_sem]
  have HS7 : Hid (v0.cell? ⟨u.heap.size, 7, none⟩ = some (.int .i64 0)) := by unfold Hid; rw [newCell hb _ _ (by simp; omega)]; simp [go_sem]
  have HS8 : Hid (v0.cell? ⟨u.heap.size, 8, none⟩ = some (.slice none 0 0)) := by unfold Hid; rw [newCell hb _ _ (by simp; omega)]; simp [go_sem]
  have HTH : Hid (∀ o, v0.frozen? ⟨u.heap.size, o, none⟩ = false) := fun o => by rw [newFrozen hb _ _ (by simp; omega)]; simp [go_sem]
  have HBv : Hid (Below u.heap.size u v0) := below_to (to_alloc (from_alloc u _) _) hb
  clear hb
  go_wp2_with fail
  go_loopw [23] (fun i wr => FrInv v0 (u.heap.size + 1) (sel w w2 w2) (sel h h2 h2) (sel D0 D1 D1) (u.heap.size + 1) i wr) (fun i _ => 3 - (intOf i).toNat)
  case atStart => exact ⟨0, _, by omega, rfl, HC0.out, Below.refl _ _⟩
  case round =>
    obtain ⟨k, G, hk, rfl, hC, hb⟩ := hrel
    have HC : Hid _ := hC
    have HBr : Hid (Below (u.heap.size + 1) v0 wr) := hb
    clear hC hb HC0
    have hvz : u.heap.size + 1 < wr.heap.size := HC.out.lt
    have hvz2 : u.heap.size ≤ v0.heap.size := HBv.out.size
    rcases (show k = 0 ∨ k = 1 ∨ k = 2 ∨ k = 3 by omega) with rfl | rfl | rfl | rfl
    · have hix : ∀ x : World, (Instr.index 62 (.agg #[.int .i64 (w : Int), .int .i64 (h : Int), .int .i64 (w2 : Int), .int .i64 (h2 : Int), .int .i64 (w2 : Int), .int .i64 (h2 : Int)]) (.int .i64 0)).run Try.prog x = .ok (.agg #[.int .i64 (w : Int), .int .i64 (h : Int)]) x := fun x => idx0 _ _ _ _ _ _ x
      have HNk : Hid (Calls Try.prog 13 #[.int .i64 (w : Int), .int .i64 (h : Int), .int .u8 (v : Int)] (wr.alloc (.cells #[.int .i64 (w : Int), .int .i64 (h : Int)] 61)) fun e w' => Pn (wr.alloc (.cells #[.int .i64 (w : Int), .int .i64 (h : Int)] 61)) w' e w h D0) := HN0.out _
      go_wp2_with fail
      refine HNk.out.mono ?_
      rintro e w5 ⟨g, rfl, hlo, hr, hb5⟩
      have hC5 := (HC.out.to (from_alloc _ (.cells #[.int .i64 (w : Int), .int .i64 (h : Int)] 61))).to hb5
      have z0 : w5.cell? ⟨u.heap.size + 1, 0, none⟩ = some (.int .i64 0) := hC5.z0 0 (Nat.le_refl _) (by omega)
      have z1 : w5.cell? ⟨u.heap.size + 1, 1, none⟩ = some (.int .i64 0) := hC5.z1 0 (Nat.le_refl _) (by omega)
      have z2 : w5.cell? ⟨u.heap.size + 1, 2, none⟩ = some (.slice none 0 0) := hC5.z2 0 (Nat.le_refl _) (by omega)
      have t0 := hC5.th 0
      have t1 := hC5.th 1
      have t2 := hC5.th 2
      have hsz : wr.heap.size < g := by have : wr.heap.size + 1 ≤ g := by simpa using hlo
                                        omega
      have HN5 : Hid (Cv (((w5.setCell ⟨u.heap.size + 1, 0, none⟩ (.int .i64 (w : Int))).setCell ⟨u.heap.size + 1, 1, none⟩ (.int .i64 (h : Int))).setCell ⟨u.heap.size + 1, 2, none⟩ (.slice (some ⟨g, 0, none⟩) D0.length D0.length)) (u.heap.size + 1) (u.heap.size + 1) (sel w w2 w2) (sel h h2 h2) (sel D0 D1 D1) 1 (fun j => if j = 0 then g else G j)) :=
        hC5.next (by omega) hr (by have := HBr.out.size; omega) (by have := HC.out.lt; omega) (fun j hj => by have := (HC.out.rw j hj).lt; omega)
      have HB5 : Hid (Below (u.heap.size + 1) v0 w5) := (HBr.out.trans ((from_alloc wr (.cells #[.int .i64 (w : Int), .int .i64 (h : Int)] 61)).mono (Nat.le_of_lt HC.out.lt))).trans (hb5.mono (by simp; have := HC.out.lt; omega))
      clear hC5 hb5 hr hlo
      go_wp2_with fail
      go_roundw
      case rel => exact ⟨1, _, by omega, by go_num, HN5.out, below_set (below_set (below_set HB5.out (by simp) _) (by simp) _) (by simp) _⟩
      case measure => simp [intOf]
    · have hix : ∀ x : World, (Instr.index 62 (.agg #[.int .i64 (w : Int), .int .i64 (h : Int), .int .i64 (w2 : Int), .int .i64 (h2 : Int), .int .i64 (w2 : Int), .int .i64 (h2 : Int)]) (.int .i64 1)).run Try.prog x = .ok (.agg #[.int .i64 (w2 : Int), .int .i64 (h2 : Int)]) x := fun x => idx1 _ _ _ _ _ _ x
      have HNk : Hid (Calls Try.prog 13 #[.int .i64 (w2 : Int), .int .i64 (h2 : Int), .int .u8 (v : Int)] (wr.alloc (.cells #[.int .i64 (w2 : Int), .int .i64 (h2 : Int)] 61)) fun e w' => Pn (wr.alloc (.cells #[.int .i64 (w2 : Int), .int .i64 (h2 : Int)] 61)) w' e w2 h2 D1) := HN1.out _
      go_wp2_with fail
      refine HNk.out.mono ?_
      rintro e w5 ⟨g, rfl, hlo, hr, hb5⟩
      have hC5 := (HC.out.to (from_alloc _ (.cells #[.int .i64 (w2 : Int), .int .i64 (h2 : Int)] 61))).to hb5
      have z0 : w5.cell? ⟨u.heap.size + 1, 3, none⟩ = some (.int .i64 0) := hC5.z0 1 (Nat.le_refl _) (by omega)
      have z1 : w5.cell? ⟨u.heap.size + 1, 4, none⟩ = some (.int .i64 0) := hC5.z1 1 (Nat.le_refl _) (by omega)
      have z2 : w5.cell? ⟨u.heap.size + 1, 5, none⟩ = some (.slice none 0 0) := hC5.z2 1 (Nat.le_refl _) (by omega)
      have t0 := hC5.th 3
      have t1 := hC5.th 4
      have t2 := hC5.th 5
      have hsz : wr.heap.size < g := by have : wr.heap.size + 1 ≤ g := by simpa using hlo
                                        omega
      have HN5 : Hid (Cv (((w5.setCell ⟨u.heap.size + 1, 3, none⟩ (.int .i64 (w2 : Int))).setCell ⟨u.heap.size + 1, 4, none⟩ (.int .i64 (h2 : Int))).setCell ⟨u.heap.size + 1, 5, none⟩ (.slice (some ⟨g, 0, none⟩) D1.length D1.length)) (u.heap.size + 1) (u.heap.size + 1) (sel w w2 w2) (sel h h2 h2) (sel D0 D1 D1) 2 (fun j => if j = 1 then g else G j)) :=
        hC5.next (by omega) hr (by have := HBr.out.size; omega) (by have := HC.out.lt; omega) (fun j hj => by have := (HC.out.rw j hj).lt; omega)
      have HB5 : Hid (Below (u.heap.size + 1) v0 w5) := (HBr.out.trans ((from_alloc wr (.cells #[.int .i64 (w2 : Int), .int .i64 (h2 : Int)] 61)).mono (Nat.le_of_lt HC.out.lt))).trans (hb5.mono (by simp; have := HC.out.lt; omega))
      clear hC5 hb5 hr hlo
      go_wp2_with fail
      go_roundw
      case rel => exact ⟨2, _, by omega, by go_num, HN5.out, below_set (below_set (below_set HB5.out (by simp) _) (by simp) _) (by simp) _⟩
      case measure => simp [intOf]
    · have hix : ∀ x : World, (Instr.index 62 (.agg #[.int .i64 (w : Int), .int .i64 (h : Int), .int .i64 (w2 : Int), .int .i64 (h2 : Int), .int .i64 (w2 : Int), .int .i64 (h2 : Int)]) (.int .i64 2)).run Try.prog x = .ok (.agg #[.int .i64 (w2 : Int), .int .i64 (h2 : Int)]) x := fun x => idx2 _ _ _ _ _ _ x
      have HNk : Hid (Calls Try.prog 13 #[.int .i64 (w2 : Int), .int .i64 (h2 : Int), .int .u8 (v : Int)] (wr.alloc (.cells #[.int .i64 (w2 : Int), .int .i64 (h2 : Int)] 61)) fun e w' => Pn (wr.alloc (.cells #[.int .i64 (w2 : Int), .int .i64 (h2 : Int)] 61)) w' e w2 h2 D1) := HN1.out _
      go_wp2_with fail
      refine HNk.out.mono ?_
      rintro e w5 ⟨g, rfl, hlo, hr, hb5⟩
      have hC5 := (HC.out.to (from_alloc _ (.cells #[.int .i64 (w2 : Int), .int .i64 (h2 : Int)] 61))).to hb5
      have z0 : w5.cell? ⟨u.heap.size + 1, 6, none⟩ = some (.int .i64 0) := hC5.z0 2 (Nat.le_refl _) (by omega)
      have z1 : w5.cell? ⟨u.heap.size + 1, 7, none⟩ = some (.int .i64 0) := hC5.z1 2 (Nat.le_refl _) (by omega)
      have z2 : w5.cell? ⟨u.heap.size + 1, 8, none⟩ = some (.slice none 0 0) := hC5.z2 2 (Nat.le_refl _) (by omega)
      have t0 := hC5.th 6
      have t1 := hC5.th 7
      have t2 := hC5.th 8
      have hsz : wr.heap.size < g := by have : wr.heap.size + 1 ≤ g := by simpa using hlo
                                        omega
      have HN5 : Hid (Cv (((w5.setCell ⟨u.heap.size + 1, 6, none⟩ (.int .i64 (w2 : Int))).setCell ⟨u.heap.size + 1, 7, none⟩ (.int .i64 (h2 : Int))).setCell ⟨u.heap.size + 1, 8, none⟩ (.slice (some ⟨g, 0, none⟩) D1.length D1.length)) (u.heap.size + 1) (u.heap.size + 1) (sel w w2 w2) (sel h h2 h2) (sel D0 D1 D1) 3 (fun j => if j = 2 then g else G j)) :=
        hC5.next (by omega) hr (by have := HBr.out.size; omega) (by have := HC.out.lt; omega) (fun j hj => by have := (HC.out.rw j hj).lt; omega)
      have HB5 : Hid (Below (u.heap.size + 1) v0 w5) := (HBr.out.trans ((from_alloc wr (.cells #[.int .i64 (w2 : Int), .int .i64 (h2 : Int)] 61)).mono (Nat.le_of_lt HC.out.lt))).trans (hb5.mono (by simp; have := HC.out.lt; omega))
      clear hC5 hb5 hr hlo
      go_wp2_with fail
      go_roundw
      case rel => exact ⟨3, _, by omega, by go_num, HN5.out, below_set (below_set (below_set HB5.out (by simp) _) (by simp) _) (by simp) _⟩
      case measure => simp [intOf]
    · have q0 : wr.cell? ⟨u.heap.size + 1, 0, none⟩ = some (.int .i64 (w : Int)) := HC.out.c0 0 (by omega)
      have q1 : wr.cell? ⟨u.heap.size + 1, 1, none⟩ = some (.int .i64 (h : Int)) := HC.out.c1 0 (by omega)
      have q2 : wr.cell? ⟨u.heap.size + 1, 2, none⟩ = some (.slice (some ⟨G 0, 0, none⟩) D0.length D0.length) := HC.out.c2 0 (by omega)
      have q3 : wr.cell? ⟨u.heap.size + 1, 3, none⟩ = some (.int .i64 (w2 : Int)) := HC.out.c0 1 (by omega)
      have q4 : wr.cell? ⟨u.heap.size + 1, 4, none⟩ = some (.int .i64 (h2 : Int)) := HC.out.c1 1 (by omega)
      have q5 : wr.cell? ⟨u.heap.size + 1, 5, none⟩ = some (.slice (some ⟨G 1, 0, none⟩) D1.length D1.length) := HC.out.c2 1 (by omega)
      have q6 : wr.cell? ⟨u.heap.size + 1, 6, none⟩ = some (.int .i64 (w2 : Int)) := HC.out.c0 2 (by omega)
      have q7 : wr.cell? ⟨u.heap.size + 1, 7, none⟩ = some (.int .i64 (h2 : Int)) := HC.out.c1 2 (by omega)
      have q8 : wr.cell? ⟨u.heap.size + 1, 8, none⟩ = some (.slice (some ⟨G 2, 0, none⟩) D1.length D1.length) := HC.out.c2 2 (by omega)
      have s0 : wr.cell? ⟨u.heap.size, 0, none⟩ = some (.int .i64 0) := by rw [newCell HBr.out _ _ (by omega)]; exact HS0.out
      have s1 : wr.cell? ⟨u.heap.size, 1, none⟩ = some (.int .i64 0) := by rw [newCell HBr.out _ _ (by omega)]; exact HS1.out
      have s2 : wr.cell? ⟨u.heap.size, 2, none⟩ = some (.slice none 0 0) := by rw [newCell HBr.out _ _ (by omega)]; exact HS2.out
      have s3 : wr.cell? ⟨u.heap.size, 3, none⟩ = some (.int .i64 0) := by rw [newCell HBr.out _ _ (by omega)]; exact HS3.out
      have s4 : wr.cell? ⟨u.heap.size, 4, none⟩ = some (.int .i64 0) := by rw [newCell HBr.out _ _ (by omega)]; exact HS4.out
      have s5 : wr.cell? ⟨u.heap.size, 5, none⟩ = some (.slice none 0 0) := by rw [newCell HBr.out _ _ (by omega)]; exact HS5.out
      have s6 : wr.cell? ⟨u.heap.size, 6, none⟩ = some (.int .i64 0) := by rw [newCell HBr.out _ _ (by omega)]; exact HS6.out
      have s7 : wr.cell? ⟨u.heap.size, 7, none⟩ = some (.int .i64 0) := by rw [newCell HBr.out _ _ (by omega)]; exact HS7.out
      have s8 : wr.cell? ⟨u.heap.size, 8, none⟩ = some (.slice none 0 0) := by rw [newCell HBr.out _ _ (by omega)]; exact HS8.out
      have th : ∀ o, wr.frozen? ⟨u.heap.size, o, none⟩ = false := fun o => by rw [newFrozen HBr.out _ _ (by omega)]; exact HTH.out o
      go_wp2_with fail
      refine bodyPost_ret (v := .tuple #[.agg #[.int .i64 (w : Int), .int .i64 (h : Int), .slice (some ⟨G 0, 0, none⟩) D0.length D0.length, .int .i64 (w2 : Int), .int .i64 (h2 : Int), .slice (some ⟨G 1, 0, none⟩) D1.length D1.length, .int .i64 (w2 : Int), .int .i64 (h2 : Int), .slice (some ⟨G 2, 0, none⟩) D1.length D1.length], .int .i64 0]) (by simp [results, Try.results14, go_sem, s0, s1, s2, s3, s4, s5, s6, s7, s8]) rfl ?_
      have hk := Kb.set (Kb.set (Kb.set (Kb.set (Kb.set (Kb.set (Kb.set (Kb.set (Kb.set (Kb.refl u.heap.size wr) 0 (.int .i64 (w : Int))) 1 (.int .i64 (h : Int))) 2 (.slice (some ⟨G 0, 0, none⟩) D0.length D0.length)) 3 (.int .i64 (w2 : Int))) 4 (.int .i64 (h2 : Int))) 5 (.slice (some ⟨G 1, 0, none⟩) D1.length D1.length)) 6 (.int .i64 (w2 : Int))) 7 (.int .i64 (h2 : Int))) 8 (.slice (some ⟨G 2, 0, none⟩) D1.length D1.length)
      have hm := fun j hj => (HC.out.lo j hj).1
      have far : ∀ j, j < 3 → G j ≠ u.heap.size := fun j hj e => by have := hm j hj; omega
      exact ⟨G 0, G 1, G 2, rfl, (HC.out.rw 0 (by omega)).carry (hk.block _ (far 0 (by omega))), (HC.out.rw 1 (by omega)).carry (hk.block _ (far 1 (by omega))), (HC.out.rw 2 (by omega)).carry (hk.block _ (far 2 (by omega))), by have := hm 0 (by omega); omega, by have := hm 1 (by omega); omega, by have := hm 2 (by omega); omega, HC.out.inj 0 1 (by omega) (by omega) (by omega), HC.out.inj 0 2 (by omega) (by omega) (by omega), HC.out.inj 1 2 (by omega) (by omega) (by omega), (HBv.out.trans (HBr.out.mono (by omega))).trans (hk.below (Nat.le_refl _))⟩

end Go.Proofs.Ytlgfkkegehpllab
