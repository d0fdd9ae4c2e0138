/- DERIVED. The program's partsOf and Cuts. -/
import Derived.Test.YtjijgeeejhijhaaCb
namespace Go.Proofs.Ytjijgeeejhijhaa
open Go.RowKit

set_option maxRecDepth 100000 in
set_option maxHeartbeats 1000000 in
theorem parts_any {w : World} {kd : Nat} (h : kd < 10) : Calls Try.prog 25 #[.int .i64 (kd : Int)] w fun e w' => e = .returned (.slice (some ⟨w.heap.size, 0, none⟩) (prt kd).length (prt kd).length) ∧ Hr w' w.heap.size (prt kd) ∧ Below w.heap.size w w' := by
  match kd, h with
  | 0, _ | 1, _ | 2, _ | 3, _ | 4, _ | 5, _ | 6, _ | 7, _ | 8, _ | 9, _ =>
    go_enter Try.func25, Try.ntmps25
    go_wp2_with fail
    go_ret
    exact ⟨rfl, Hr.lit _ _ rfl rfl, from_alloc _ _⟩

theorem Cl4.far {w : World} {b o : Nat} {r : Rc} (h : Cl4 w b o r) {a : Addr} (ha : b ≠ a.block) (v : Value) : Cl4 (w.setCell a v) b o r :=
  ⟨by rw [World.cell?_setCell_other _ _ _ _ (fun e => ha (by rw [e]))]; exact h.c0, by rw [World.cell?_setCell_other _ _ _ _ (fun e => ha (by rw [e]))]; exact h.c1, by rw [World.cell?_setCell_other _ _ _ _ (fun e => ha (by rw [e]))]; exact h.c2, by rw [World.cell?_setCell_other _ _ _ _ (fun e => ha (by rw [e]))]; exact h.c3⟩
theorem Cl4.alloc {w : World} {b o : Nat} {r : Rc} (h : Cl4 w b o r) (hb : b < w.heap.size) (O : Obj) : Cl4 (w.alloc O) b o r := h.below (from_alloc w O) hb
/-- k of a row's rectangles made -/
def mixR (F : Rc → Rc) (L : List Rc) (k : Nat) : List Rc := (L.take k).map F ++ L.drop k
theorem mixR_len (F : Rc → Rc) (L : List Rc) (k : Nat) : (mixR F L k).length = L.length := by simp [mixR]; omega
theorem mixR_zero (F : Rc → Rc) (L : List Rc) : mixR F L 0 = L := by simp [mixR]
theorem mixR_all (F : Rc → Rc) (L : List Rc) : mixR F L L.length = L.map F := by simp [mixR]
theorem mixR_get {F : Rc → Rc} {L : List Rc} {k : Nat} (h : k < L.length) : (mixR F L k).getD k rz = L.getD k rz := by
  unfold mixR
  rw [List.getD_eq_getElem?_getD, List.getElem?_append_right (by simp; omega), List.getD_eq_getElem?_getD]
  simp [List.getElem?_drop, Nat.min_eq_left (Nat.le_of_lt h)]
theorem mixR_set {F : Rc → Rc} {L : List Rc} {k : Nat} (h : k < L.length) : (mixR F L k).set k (F (L.getD k rz)) = mixR F L (k + 1) := by
  unfold mixR
  have e1 : L.drop k = L.getD k rz :: L.drop (k + 1) := by rw [List.drop_eq_getElem_cons h, List.getD_eq_getElem?_getD, List.getElem?_eq_getElem h]; rfl
  have e2 : L.take (k + 1) = L.take k ++ [L.getD k rz] := by rw [List.take_succ_eq_append_getElem h, List.getD_eq_getElem?_getD, List.getElem?_eq_getElem h]; rfl
  rw [e1, e2, List.set_append_right _ _ (by simp; omega)]
  have : k - (List.map F (List.take k L)).length = 0 := by simp; omega
  rw [this]
  simp
theorem getD_mem {L : List Rc} {k : Nat} (h : k < L.length) : L.getD k rz ∈ L := by
  rw [List.getD_eq_getElem?_getD, List.getElem?_eq_getElem h]; exact List.getElem_mem h

/-- rectangles are answered, in new memory -/
def Cq (w w' : World) (e : Ending) (L : List Rc) : Prop := ∃ g, e = .returned (.tuple #[.slice (some ⟨g, 0, none⟩) L.length L.length, .int .i64 0]) ∧ Hr w' g L ∧ w.heap.size ≤ g ∧ Below w.heap.size w w'
theorem rgn_in {x y a b : Int} (h : rgn x y a b = true) : (a = 64 ∨ a = 32 ∨ a = 16 ∨ a = 8) ∧ a = b ∧ (0 ≤ x ∧ x ≤ 2048 ∧ x % 8 = 0) ∧ (0 ≤ y ∧ y ≤ 2048 ∧ y % 8 = 0) := by
  unfold rgn isS un at h
  simp only [Bool.and_eq_true, decide_eq_true_eq] at h
  exact ⟨h.1, h.2.1, h.2.2.1, h.2.2.2⟩
theorem erS_0 {s : Int} (h : s = 64 ∨ s = 32 ∨ s = 16 ∨ s = 8) : erS s = 0 := by unfold erS isS; rw [if_pos (by simpa using h)]
theorem tyN_in {s : Int} (h : s = 64 ∨ s = 32 ∨ s = 16 ∨ s = 8) : 1 ≤ tyN s ∧ tyN s ≤ 10 := by rcases h with rfl | rfl | rfl | rfl <;> decide

set_option maxRecDepth 100000 in
set_option maxHeartbeats 2000000 in
theorem cuts_ok {w : World} {x y s : Int} {kd : Nat} (hr : rgn x y s s = true) (hk : (kd : Int) < tyN s) : Calls Try.prog 11 #[.agg #[.int .i64 x, .int .i64 y, .int .i64 s, .int .i64 s], .int .i64 (kd : Int)] w fun e w' => Cq w w' e (cutR kd x y s) := by
  obtain ⟨hs, _, ⟨x0, x1, _⟩, ⟨y0, y1, _⟩⟩ := rgn_in hr
  have s0 : 8 ≤ s := by omega
  have s1 : s ≤ 64 := by omega
  have hty := tyN_in hs
  have k10 : kd < 10 := by omega
  have HIR : Hid (∀ u, Calls Try.prog 24 #[.agg #[.int .i64 x, .int .i64 y, .int .i64 s, .int .i64 s]] u fun e w' => e = .returned (.bool true) ∧ Below u.heap.size u w') := fun u => by rw [← hr]; exact isRegion_any
  have HTy : Hid (∀ u, Calls Try.prog 9 #[.int .i64 s] u fun e w' => e = .returned (.tuple #[.int .i64 (tyN s), .int .i64 0]) ∧ u = w') := fun u => by have := types_any (w := u) (s := s); rwa [erS_0 hs] at this
  generalize tyN s = tn at *
  have HB0 : Hid (Below w.heap.size w (w.alloc (.cells #[.int .i64 x, .int .i64 y, .int .i64 s, .int .i64 s] 23))) := from_alloc _ _
  have kd0 : (0 : Int) ≤ (kd : Int) := by omega
  have HPL : Hid ((prt kd).length = (prt kd).length) := rfl
  have hl := prt_len kd
  have hin := prt_in kd
  have HIN : Hid (∀ p ∈ prt kd, (0 ≤ p.1 ∧ p.1 ≤ 3) ∧ (0 ≤ p.2.1 ∧ p.2.1 ≤ 3) ∧ (1 ≤ p.2.2.1 ∧ p.2.2.1 ≤ 4) ∧ (1 ≤ p.2.2.2 ∧ p.2.2.2 ≤ 4)) := hin
  have HPA : Hid (∀ u, Calls Try.prog 25 #[.int .i64 (kd : Int)] u fun e w' => e = .returned (.slice (some ⟨u.heap.size, 0, none⟩) (prt kd).length (prt kd).length) ∧ Hr w' u.heap.size (prt kd) ∧ Below u.heap.size u w') := fun u => parts_any k10
  unfold Cq cutR
  generalize prt kd = L at *
  clear hin hr hs hty k10 HPL
  have HG : Hid (mixR (prF x y s) L L.length = L.map (prF x y s)) := mixR_all _ _
  have HL : Hid ((L.map (prF x y s)).length = L.length) := by show _ = _; simp
  go_enter Try.func11, Try.ntmps11
  go_wp2_with fail
  refine (HIR.out _).mono ?_
  rintro e w1 ⟨rfl, hb⟩
  have HB1 : Hid (Below w.heap.size w w1) := below_to HB0.out hb
  have HC1 : Hid (Cl4 w1 w.heap.size 0 (x, y, s, s)) := Cl4.below ⟨by simp [go_sem], by simp [go_sem], by simp [go_sem], by simp [go_sem]⟩ hb (by simp)
  have HS1 : Hid (w.heap.size < w1.heap.size) := Nat.lt_of_lt_of_le (by simp) hb.size
  clear hb HIR HB0
  have c2 := HC1.out.c2
  go_wp2_with (refine (HTy.out _).mono ?_; rintro e w5 ⟨rfl, rfl⟩)
  refine (HPA.out _).mono ?_
  rintro e w2 ⟨rfl, hrow, hb⟩
  have HB2 : Hid (Below w.heap.size w w2) := below_to HB1.out hb
  have HC2 : Hid (Cl4 w2 w.heap.size 0 (x, y, s, s)) := HC1.out.below hb HS1.out
  have HR2 : Hid (Hr w2 w1.heap.size (mixR (prF x y s) L 0)) := by show Hr _ _ _; rw [mixR_zero]; exact hrow
  have HS2 : Hid (w.heap.size < w1.heap.size) := HS1.out
  generalize w1.heap.size = g at *
  generalize hP : w.heap.size = pr at *
  have HP : Hid (w.heap.size = pr) := hP
  clear hb hrow HPA HTy HC1 HB1 HS1 hP c2
  go_wp2_with fail
  go_loopw [31] (fun i wr => ∃ k : Nat, k ≤ L.length ∧ i = .int .i64 k ∧ Hr wr g (mixR (prF x y s) L k) ∧ Below pr w wr ∧ Cl4 wr pr 0 (x, y, s, s)) (fun i _ => L.length - (intOf i).toNat)
  case atStart => exact ⟨0, by omega, rfl, HR2.out, HB2.out, HC2.out⟩
  case round =>
    clear HR2 HB2 HC2
    obtain ⟨k, hk2, rfl, hrow, hb, hcl⟩ := hrel
    have HRw : Hid _ := hrow
    have HBw : Hid _ := hb
    by_cases hlt : k < L.length
    · have hc := hrow.cl (j := k) (by rw [mixR_len]; exact hlt)
      rw [mixR_get hlt] at hc
      have HM : Hid (∀ r, r = prF x y s (L.getD k rz) → (mixR (prF x y s) L k).set k r = mixR (prF x y s) L (k + 1)) := by rintro r rfl; exact mixR_set hlt
      have hp := HIN.out _ (getD_mem hlt)
      generalize L.getD k rz = p at *
      obtain ⟨a, b, c, d⟩ := p
      obtain ⟨⟨a0, a1⟩, ⟨b0, b1⟩, ⟨c0, c1⟩, ⟨d0, d1⟩⟩ := hp
      obtain ⟨p0, p1, p2, p3⟩ := hc
      simp only at a0 a1 b0 b1 c0 c1 d0 d1 p0 p1 p2 p3
      have HQ : Hid (prF x y s (a, b, c, d) = (x + a * s / 4, y + b * s / 4, c * s / 4, d * s / 4)) := rfl
      have mul : ∀ z : Int, 0 ≤ z → z ≤ 4 → ∃ m q : Int, z * s = m ∧ 0 ≤ m ∧ m ≤ 256 ∧ m.tdiv 4 = q ∧ 0 ≤ q ∧ q ≤ 64 ∧ z * s / 4 = q := fun z z0 z1 => by
        have h1 : 0 ≤ z * s := Int.mul_nonneg z0 (by omega)
        have h2 : z * s ≤ 4 * 64 := Int.mul_le_mul z1 s1 (by omega) (by omega)
        refine ⟨z * s, z * s / 4, rfl, h1, by omega, Int.tdiv_eq_ediv_of_nonneg h1, by omega, by omega, rfl⟩
      obtain ⟨m0, q0, ma, _, _, qa, qa0, qa1, ea⟩ := mul a (by omega) (by omega)
      obtain ⟨m1, q1, mb, _, _, qb, qb0, qb1, eb⟩ := mul b (by omega) (by omega)
      obtain ⟨m2, q2, mc, _, _, qc, qc0, qc1, ec⟩ := mul c (by omega) (by omega)
      obtain ⟨m3, q3, md, _, _, qd, qd0, qd1, ed⟩ := mul d (by omega) (by omega)
      rw [ea, eb, ec, ed] at HQ
      clear ea eb ec ed mul
      have t0 := hrow.thaw (k * 4)
      have t1 := hrow.thaw (k * 4 + 1)
      have t2 := hrow.thaw (k * 4 + 2)
      have t3 := hrow.thaw (k * 4 + 3)
      obtain ⟨g0, g1, g2, g3⟩ := hcl
      simp only [Nat.zero_add] at g0 g1 g2 g3
      have hgs := hrow.lt
      have hps : pr < wr.heap.size := World.block_lt_of_cell? wr _ g0
      have k0 : (0 : Int) ≤ (k : Int) := by omega
      have k1 : (k : Int) < (L.length : Int) := by omega
      clear hrow hb
      go_wp2_with fail
      go_roundw
      case rel => 
        refine ⟨k + 1, by omega, by go_num, ?_, ?_, ?_⟩
        · rw [← HM.out _ HQ.out.symm]
          exact (Hr.set HRw.out k (x + q0, y + q1, q2, q3)).to (from_alloc _ _)
        · have hpg : pr ≤ g := Nat.le_of_lt HS2.out
          exact below_alloc (below_set (below_set (below_set (below_set HBw.out hpg _) hpg _) hpg _) hpg _) (Nat.le_of_eq HP.out.symm) _
        · have hpg : pr ≠ g := Nat.ne_of_lt HS2.out
          exact Cl4.alloc (Cl4.far (Cl4.far (Cl4.far (Cl4.far ⟨by simpa using g0, by simpa using g1, by simpa using g2, by simpa using g3⟩ hpg _) hpg _) hpg _) hpg _) (by simpa using hps) _
      case measure => simp [intOf]; omega
    · obtain rfl : k = L.length := by omega
      clear hrow hb
      go_wp2_with fail
      go_ret2
      refine ⟨g, ?_, ?_, ?_, ?_⟩
      · rw [HL.out]; rfl
      · rw [← HG.out]; exact HRw.out
      · rw [HP.out]; exact Nat.le_of_lt HS2.out
      · rw [HP.out]; exact HBw.out
end Go.Proofs.Ytjijgeeejhijhaa
