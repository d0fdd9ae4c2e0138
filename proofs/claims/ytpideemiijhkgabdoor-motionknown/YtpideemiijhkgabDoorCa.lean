/- DERIVED. The tables of taps in memory; turned, tapsOf, Taps. -/
import Derived.Test.YtpideemiijhkgabDoorPl
namespace Go.Proofs.YtpideemiijhkgabDoor
open Go.RowKit

/-- the tables of taps lie in their blocks -/
structure Gt (w : World) : Prop where
  lo : 1 < w.heap.size
  s : ∀ k j, k < 9 → j < 8 → w.cell? ⟨0, k * 8 + j, none⟩ = some (.int .i64 ((smT.getD k []).getD j 0))
  r : ∀ k j, k < 9 → j < 8 → w.cell? ⟨1, k * 8 + j, none⟩ = some (.int .i64 ((rgT.getD k []).getD j 0))
theorem Gt.below {B : Nat} {w w' : World} (h : Gt w) (hb : Below B w w') (hB : 1 < B) : Gt w' := ⟨Nat.lt_of_lt_of_le h.lo hb.size, fun k j hk hj => by rw [newCell hb _ _ (by omega)]; exact h.s k j hk hj, fun k j hk hj => by rw [newCell hb _ _ hB]; exact h.r k j hk hj⟩
theorem Gt.to {w w' : World} (h : Gt w) (hb : Below w.heap.size w w') : Gt w' := h.below hb h.lo
theorem Gt.drew {w : World} (h : Gt w) : Gt w.drew := h.to (below_drew (Below.refl _ _))

theorem rep_geti {n j : Nat} (h : j < n) : (List.replicate n (0 : Int)).getD j 0 = 0 := by simp [List.getD_eq_getElem?_getD, h]
/-- eight numbers as a value -/
def tv (T : List Int) : Value := .agg (is T).toArray
theorem tv8 (t0 t1 t2 t3 t4 t5 t6 t7 : Int) : tv [t0, t1, t2, t3, t4, t5, t6, t7] = .agg #[.int .i64 t0, .int .i64 t1, .int .i64 t2, .int .i64 t3, .int .i64 t4, .int .i64 t5, .int .i64 t6, .int .i64 t7] := rfl

set_option maxRecDepth 100000 in
set_option maxHeartbeats 1000000 in
theorem isKind_any {w : World} {z : Int} : Calls Tryd.prog 35 #[.int .i64 z] w fun e w' => e = .returned (.bool (decide (0 ≤ z ∧ z ≤ 2))) ∧ w = w' := by
  by_cases h0 : 0 ≤ z
  · by_cases h1 : z ≤ 2
    · rw [decide_eq_true (show 0 ≤ z ∧ z ≤ 2 from ⟨h0, h1⟩)]
      go_enter Tryd.func35, Tryd.ntmps35
      go_wp2
      go_ret
      exact ⟨rfl, rfl⟩
    · rw [decide_eq_false (show ¬ (0 ≤ z ∧ z ≤ 2) from fun k => h1 k.2)]
      go_enter Tryd.func35, Tryd.ntmps35
      go_wp2
      go_ret
      exact ⟨rfl, rfl⟩
  · rw [decide_eq_false (show ¬ (0 ≤ z ∧ z ≤ 2) from fun k => h0 k.1)]
    go_enter Tryd.func35, Tryd.ntmps35
    go_wp2
    go_ret
    exact ⟨rfl, rfl⟩

theorem idx8 (t0 t1 t2 t3 t4 t5 t6 t7 : Int) (k : Nat) (hk : k < 8) (w : World) : (Instr.index 74 (.agg #[.int .i64 t0, .int .i64 t1, .int .i64 t2, .int .i64 t3, .int .i64 t4, .int .i64 t5, .int .i64 t6, .int .i64 t7]) (.int .i64 (k : Int))).run Tryd.prog w = .ok (.int .i64 ([t0, t1, t2, t3, t4, t5, t6, t7].getD k 0)) w := by
  rcases (show k = 0 ∨ k = 1 ∨ k = 2 ∨ k = 3 ∨ k = 4 ∨ k = 5 ∨ k = 6 ∨ k = 7 by omega) with rfl | rfl | rfl | rfl | rfl | rfl | rfl | rfl <;> rfl
theorem below_set8 {B : Nat} {w u : World} (h : Below B w u) {g : Nat} (hg : B ≤ g) {v0 v1 v2 v3 v4 v5 v6 v7 : Value} : Below B w ((((((((u.setCell ⟨g, 0, none⟩ v0).setCell ⟨g, 1, none⟩ v1).setCell ⟨g, 2, none⟩ v2).setCell ⟨g, 3, none⟩ v3).setCell ⟨g, 4, none⟩ v4).setCell ⟨g, 5, none⟩ v5).setCell ⟨g, 6, none⟩ v6).setCell ⟨g, 7, none⟩ v7) :=
  below_set (below_set (below_set (below_set (below_set (below_set (below_set (below_set h hg _) hg _) hg _) hg _) hg _) hg _) hg _) hg _
/-- eight numbers, the first k of them laid from the end on -/
def rvK (T : List Int) (k : Nat) : List Int := tbi 8 fun j => if 8 - k ≤ j then T.getD (7 - j) 0 else 0
theorem rvK_zero (T : List Int) : rvK T 0 = List.replicate 8 0 := (tbi_zero fun j hj => by rw [if_neg (by omega)]).symm
theorem rvK_set (T : List Int) {k : Nat} (hk : k < 8) : (rvK T k).set (7 - k) (T.getD k 0) = rvK T (k + 1) := tbi_set (by omega) (by rw [if_pos (by omega), show 7 - (7 - k) = k from by omega]) fun j hj hne => by
  by_cases h : 8 - k ≤ j
  · rw [if_pos h, if_pos (by omega)]
  · rw [if_neg h, if_neg (by omega)]
theorem Ri.out8 {t : Nat} {w : World} {g : Nat} {T : List Int} (h : Ri t w g T) (hl : T.length = 8) (j : Nat) (hj : j < 8) : w.cell? ⟨g, j, none⟩ = some (.int .i64 (T.getD j 0)) := h.cell j (by omega)
theorem zero8 (w : World) : Ri 74 (w.alloc (.cells #[.int .i64 0, .int .i64 0, .int .i64 0, .int .i64 0, .int .i64 0, .int .i64 0, .int .i64 0, .int .i64 0] 74)) w.heap.size (List.replicate 8 0) := Ri.built 74 w (List.replicate 8 0) rfl

set_option maxRecDepth 100000 in
set_option maxHeartbeats 1000000 in
theorem turned_8 {w : World} {t0 t1 t2 t3 t4 t5 t6 t7 : Int} : Calls Tryd.prog 43 #[tv [t0, t1, t2, t3, t4, t5, t6, t7]] w fun e w' => e = .returned (tv [t7, t6, t5, t4, t3, t2, t1, t0]) ∧ Below w.heap.size w w' := by
  rw [tv8, tv8]
  go_enter Tryd.func43, Tryd.ntmps43
  go_wp2_with fail
  generalize hW : ((w.alloc _).alloc _).alloc _ = W0
  have HR : Hid (Ri 74 W0 (w.heap.size + 1 + 1) (rvK [t0, t1, t2, t3, t4, t5, t6, t7] 0)) := by
    show Ri _ _ _ _
    rw [rvK_zero, ← hW]
    simpa using zero8 ((w.alloc _).alloc _)
  have HB : Hid (Below w.heap.size w W0) := by show Below _ _ _; rw [← hW]; exact to_alloc (to_alloc (from_alloc _ _) _) _
  have HZ : Hid (∀ j, j < 8 → W0.cell? ⟨w.heap.size + 1, j, none⟩ = some (.int .i64 0)) := fun j hj => by
    rw [← hW, newCell (from_alloc _ _) _ _ (by simp)]
    have := (zero8 (w.alloc (.cells #[.int .i64 t0, .int .i64 t1, .int .i64 t2, .int .i64 t3, .int .i64 t4, .int .i64 t5, .int .i64 t6, .int .i64 t7] 74))).cell j (by simpa using hj)
    rw [rep_geti hj] at this
    simpa using this
  have HF : Hid (∀ j, W0.frozen? ⟨w.heap.size + 1, j, none⟩ = false) := fun j => by
    rw [← hW, newFrozen (from_alloc _ _) _ _ (by simp)]
    have := (zero8 (w.alloc (.cells #[.int .i64 t0, .int .i64 t1, .int .i64 t2, .int .i64 t3, .int .i64 t4, .int .i64 t5, .int .i64 t6, .int .i64 t7] 74))).thaw j
    simp
  have HL : Hid (W0.heap.size = w.heap.size + 3) := by show _ = _; rw [← hW]; simp
  clear hW
  go_loopw [7] (fun i wr => ∃ k : Nat, k ≤ 8 ∧ i = .int .i64 k ∧ Ri 74 wr (w.heap.size + 1 + 1) (rvK [t0, t1, t2, t3, t4, t5, t6, t7] k) ∧ Below (w.heap.size + 1 + 1) W0 wr) (fun i _ => 8 - (intOf i).toNat)
  case atStart => exact ⟨0, by omega, rfl, HR.out, Below.refl _ _⟩
  case round =>
    obtain ⟨k, hk, rfl, hr, hb⟩ := hrel
    by_cases hlt : k < 8
    · have c0 := hr.cell (7 - k) (by rw [rvK, tbi_len]; omega)
      have f0 := hr.thaw (7 - k)
      have HS : Hid (∀ x, x = [t0, t1, t2, t3, t4, t5, t6, t7].getD k 0 → Ri 74 (wr.setCell ⟨w.heap.size + 1 + 1, 7 - k, none⟩ (.int .i64 x)) (w.heap.size + 1 + 1) (rvK [t0, t1, t2, t3, t4, t5, t6, t7] (k + 1))) := by
        rintro x rfl
        rw [← rvK_set _ hlt]
        exact hr.set _ _
      have HB2 : Hid _ := hb
      clear hr hb
      generalize (rvK [t0, t1, t2, t3, t4, t5, t6, t7] k).getD (7 - k) 0 = old at *
      have hix := fun x => idx8 t0 t1 t2 t3 t4 t5 t6 t7 k hlt x
      generalize [t0, t1, t2, t3, t4, t5, t6, t7].getD k 0 = v at *
      have k0 : 0 ≤ (k : Int) := by omega
      have k1 : (k : Int) < 8 := by omega
      have k2 : 7 - (k : Int) = ((7 - k : Nat) : Int) := by omega
      have k3 : ((7 - k : Nat) : Int) < 8 := by omega
      generalize 7 - k = q at *
      go_wp2_with fail
      go_roundw
      case rel => exact ⟨k + 1, by omega, by go_num, HS.out _ rfl, below_set HB2.out (by simp) _⟩
      case measure => simp [intOf]; omega
    · obtain rfl : k = 8 := by omega
      have d0 := hr.cell 0 (by rw [rvK, tbi_len]; omega)
      have d1 := hr.cell 1 (by rw [rvK, tbi_len]; omega)
      have d2 := hr.cell 2 (by rw [rvK, tbi_len]; omega)
      have d3 := hr.cell 3 (by rw [rvK, tbi_len]; omega)
      have d4 := hr.cell 4 (by rw [rvK, tbi_len]; omega)
      have d5 := hr.cell 5 (by rw [rvK, tbi_len]; omega)
      have d6 := hr.cell 6 (by rw [rvK, tbi_len]; omega)
      have d7 := hr.cell 7 (by rw [rvK, tbi_len]; omega)
      change _ = some (Value.int .i64 t7) at d0
      change _ = some (Value.int .i64 t6) at d1
      change _ = some (Value.int .i64 t5) at d2
      change _ = some (Value.int .i64 t4) at d3
      change _ = some (Value.int .i64 t3) at d4
      change _ = some (Value.int .i64 t2) at d5
      change _ = some (Value.int .i64 t1) at d6
      change _ = some (Value.int .i64 t0) at d7
      have z : ∀ j, j < 8 → wr.cell? ⟨w.heap.size + 1, j, none⟩ = some (.int .i64 0) := fun j hj => by rw [newCell hb _ _ (by omega)]; exact HZ.out j hj
      have f : ∀ j, wr.frozen? ⟨w.heap.size + 1, j, none⟩ = false := fun j => by rw [newFrozen hb _ _ (by omega)]; exact HF.out j
      have e0 := z 0 (by omega)
      have e1 := z 1 (by omega)
      have e2 := z 2 (by omega)
      have e3 := z 3 (by omega)
      have e4 := z 4 (by omega)
      have e5 := z 5 (by omega)
      have e6 := z 6 (by omega)
      have e7 := z 7 (by omega)
      have g0 := f 0
      have g1 := f 1
      have g2 := f 2
      have g3 := f 3
      have g4 := f 4
      have g5 := f 5
      have g6 := f 6
      have g7 := f 7
      have HB3 : Hid (Below w.heap.size w wr) := HB.out.trans (hb.mono (by omega))
      clear hr hb HR HB HZ HF HL z f
      go_wp2_with fail
      exact bodyPost_ret (v := .agg #[.int .i64 t7, .int .i64 t6, .int .i64 t5, .int .i64 t4, .int .i64 t3, .int .i64 t2, .int .i64 t1, .int .i64 t0]) (by simp [results, Tryd.results43, go_sem, e0, e1, e2, e3, e4, e5, e6, e7]) rfl ⟨rfl, below_set8 HB3.out (by omega)⟩

theorem turned_any {w : World} {T : List Int} (hT : T.length = 8) : Calls Tryd.prog 43 #[tv T] w fun e w' => e = .returned (tv T.reverse) ∧ Below w.heap.size w w' := by
  obtain ⟨t0, t1, t2, t3, t4, t5, t6, t7, rfl⟩ := eight hT
  exact turned_8

set_option maxRecDepth 100000 in
set_option maxHeartbeats 1000000 in
theorem tapsOf_half {w : World} (h : Gt w) {k f : Nat} (hk : k < 2) (hf8 : f < 9) : Calls Tryd.prog 37 #[.int .i64 (k : Int), .int .i64 (f : Int)] w fun e w' => e = .returned (tv (hf k f)) ∧ Below w.heap.size w w' := by
  obtain ⟨t0, t1, t2, t3, t4, t5, t6, t7, hT⟩ := eight (hf_len k hk f hf8)
  rw [hT, tv8]
  have f0 : (0 : Int) ≤ (f : Int) := by omega
  have f1 : (f : Int) < 9 := by omega
  have f2 : ¬ (8 : Int) < (f : Int) := by omega
  rcases (show k = 0 ∨ k = 1 by omega) with rfl | rfl
  · have c : ∀ j, j < 8 → w.cell? ⟨1, f * 8 + j, none⟩ = some (.int .i64 ([t0, t1, t2, t3, t4, t5, t6, t7].getD j 0)) := fun j hj => by rw [← hT]; exact h.r f j hf8 hj
    have c0 := c 0 (by omega)
    have c1 := c 1 (by omega)
    have c2 := c 2 (by omega)
    have c3 := c 3 (by omega)
    have c4 := c 4 (by omega)
    have c5 := c 5 (by omega)
    have c6 := c 6 (by omega)
    have c7 := c 7 (by omega)
    simp only [List.getD_cons_zero, List.getD_cons_succ, Nat.add_zero] at c0 c1 c2 c3 c4 c5 c6 c7
    have hlo := h.lo
    have hlo0 : 0 < w.heap.size := by omega
    clear c h hT hf8 hk
    go_enter Tryd.func37, Tryd.ntmps37
    go_wp2_with fail
    exact bodyPost_ret (v := .agg #[.int .i64 t0, .int .i64 t1, .int .i64 t2, .int .i64 t3, .int .i64 t4, .int .i64 t5, .int .i64 t6, .int .i64 t7]) (by simp [results, Tryd.results37, go_sem]) rfl ⟨rfl, from_alloc _ _⟩
  · have c : ∀ j, j < 8 → w.cell? ⟨0, f * 8 + j, none⟩ = some (.int .i64 ([t0, t1, t2, t3, t4, t5, t6, t7].getD j 0)) := fun j hj => by rw [← hT]; exact h.s f j hf8 hj
    have c0 := c 0 (by omega)
    have c1 := c 1 (by omega)
    have c2 := c 2 (by omega)
    have c3 := c 3 (by omega)
    have c4 := c 4 (by omega)
    have c5 := c 5 (by omega)
    have c6 := c 6 (by omega)
    have c7 := c 7 (by omega)
    simp only [List.getD_cons_zero, List.getD_cons_succ, Nat.add_zero] at c0 c1 c2 c3 c4 c5 c6 c7
    have hlo := h.lo
    have hlo0 : 0 < w.heap.size := by omega
    clear c h hT hf8 hk
    go_enter Tryd.func37, Tryd.ntmps37
    go_wp2_with fail
    exact bodyPost_ret (v := .agg #[.int .i64 t0, .int .i64 t1, .int .i64 t2, .int .i64 t3, .int .i64 t4, .int .i64 t5, .int .i64 t6, .int .i64 t7]) (by simp [results, Tryd.results37, go_sem]) rfl ⟨rfl, from_alloc _ _⟩

set_option maxRecDepth 100000 in
set_option maxHeartbeats 1000000 in
theorem tapsOf_any {w : World} (h : Gt w) {k f : Nat} (hk : k < 3) (hf16 : f < 16) : Calls Tryd.prog 37 #[.int .i64 (k : Int), .int .i64 (f : Int)] w fun e w' => e = .returned (tv (tp k f)) ∧ Below w.heap.size w w' := by
  by_cases h2 : k = 2
  · subst h2
    have f0 : (0 : Int) ≤ (f : Int) := by omega
    have f1 : (f : Int) ≤ 15 := by omega
    show Calls Tryd.prog 37 _ w fun e w' => e = .returned (tv [0, 0, 0, 128 - 8 * (f : Int), 8 * (f : Int), 0, 0, 0]) ∧ Below w.heap.size w w'
    rw [tv8]
    go_enter Tryd.func37, Tryd.ntmps37
    go_wp2_with fail
    exact bodyPost_ret (v := .agg #[.int .i64 0, .int .i64 0, .int .i64 0, .int .i64 (128 - 8 * (f : Int)), .int .i64 (8 * (f : Int)), .int .i64 0, .int .i64 0, .int .i64 0]) (by simp [results, Tryd.results37, go_sem]) rfl ⟨rfl, from_alloc _ _⟩
  · by_cases h8 : 8 < f
    · have e : tp k f = (hf k (16 - f)).reverse := by unfold tp; rw [if_neg h2, if_pos h8]
      have hl := hf_len k (by omega) (16 - f) (by omega)
      rw [e]
      have e2 : 16 - (f : Int) = ((16 - f : Nat) : Int) := by omega
      have HT : Hid (∀ u : World, Below w.heap.size w u → Calls Tryd.prog 37 #[.int .i64 (k : Int), .int .i64 ((16 - f : Nat) : Int)] u fun e w' => e = .returned (tv (hf k (16 - f))) ∧ Below u.heap.size u w') := fun u hu => tapsOf_half (h.to hu) (by omega) (by omega)
      have HV : Hid (∀ u : World, Calls Tryd.prog 43 #[tv (hf k (16 - f))] u fun e w' => e = .returned (tv (hf k (16 - f)).reverse) ∧ Below u.heap.size u w') := fun u => turned_any hl
      obtain ⟨t0, t1, t2, t3, t4, t5, t6, t7, hT⟩ := eight (T := (hf k (16 - f)).reverse) (by rw [List.length_reverse]; exact hl)
      rw [hT] at HV ⊢
      generalize tv (hf k (16 - f)) = V at *
      have k0 : ((k : Int) == 2) = false := by rw [beq_eq_false_iff_ne]; omega
      have f0 : (8 : Int) < (f : Int) := by omega
      have f1 : (f : Int) < 16 := by omega
      rw [tv8] at HV ⊢
      clear e h hl hT
      generalize 16 - f = q at *
      go_enter Tryd.func37, Tryd.ntmps37
      go_wp2_with fail
      refine (HT.out _ (from_alloc _ _)).mono ?_
      rintro e w1 ⟨rfl, hb1⟩
      have HB1 : Hid (Below w.heap.size w w1) := below_to (from_alloc _ _) hb1
      have z : ∀ j, j < 8 → w1.cell? ⟨w.heap.size, j, none⟩ = some (.int .i64 0) := fun j hj => by
        rw [newCell hb1 _ _ (by simp)]
        have := (zero8 w).cell j (by simpa using hj)
        rwa [rep_geti hj] at this
      have f : ∀ j, w1.frozen? ⟨w.heap.size, j, none⟩ = false := fun j => by rw [newFrozen hb1 _ _ (by simp)]; simp
      have HZ : Hid _ := z
      have HF : Hid _ := f
      have hlt : w.heap.size < w1.heap.size := Nat.lt_of_lt_of_le (by simp) hb1.size
      clear hb1 z f
      go_wp2_with fail
      refine (HV.out _).mono ?_
      rintro e w2 ⟨rfl, hb2⟩
      have HB2 : Hid (Below w.heap.size w w2) := below_to HB1.out hb2
      have z : ∀ j, j < 8 → w2.cell? ⟨w.heap.size, j, none⟩ = some (.int .i64 0) := fun j hj => by rw [newCell hb2 _ _ hlt]; exact HZ.out j hj
      have f : ∀ j, w2.frozen? ⟨w.heap.size, j, none⟩ = false := fun j => by rw [newFrozen hb2 _ _ hlt]; exact HF.out j
      have e0 := z 0 (by omega)
      have e1 := z 1 (by omega)
      have e2 := z 2 (by omega)
      have e3 := z 3 (by omega)
      have e4 := z 4 (by omega)
      have e5 := z 5 (by omega)
      have e6 := z 6 (by omega)
      have e7 := z 7 (by omega)
      have g0 := f 0
      have g1 := f 1
      have g2 := f 2
      have g3 := f 3
      have g4 := f 4
      have g5 := f 5
      have g6 := f 6
      have g7 := f 7
      clear hb2 HZ HF HB1 z f HT HV
      go_wp2_with fail
      exact bodyPost_ret (v := .agg #[.int .i64 t0, .int .i64 t1, .int .i64 t2, .int .i64 t3, .int .i64 t4, .int .i64 t5, .int .i64 t6, .int .i64 t7]) (by simp [results, Tryd.results37, go_sem, e0, e1, e2, e3, e4, e5, e6, e7]) rfl ⟨rfl, below_set8 HB2.out (by omega)⟩
    · have e : tp k f = hf k f := by unfold tp; rw [if_neg h2, if_neg h8]
      rw [e]
      exact tapsOf_half h (by omega) (by omega)

end Go.Proofs.YtpideemiijhkgabDoor
