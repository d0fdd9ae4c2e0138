/- DERIVED. The walk of the statement PlaneBack. -/
import Derived.Test.YtlgfkkegehpllaaLd
import Derived.Test.YtlgfkkegehpllaaLb
namespace Go.Proofs.Ytlgfkkegehpllaa
open Go.RowKit

theorem nr_if {v : Int} {y : Nat} (h : 1 ≤ y) : (if (y : Int) - 1 < (if v < 0 then (0 : Int) else v) then (y : Int) - 1 else (if v < 0 then (0 : Int) else v)) = (nr v y : Nat) := by
  unfold nr
  by_cases h1 : v < 0
  · simp only [if_pos h1]; split <;> omega
  · simp only [if_neg h1]; split <;> omega
set_option maxRecDepth 100000 in
set_option maxHeartbeats 8000000 in
theorem back_walk {u : World} {W0 H0 W1 H1 W2 H2 px py : Int} {a0 a1 a2 : Option Addr} {c0 c1 c2 : Nat} {C0 C1 C2 : List Nat} (s0 : Sl u .u8 a0 C0) (s1 : Sl u .u8 a1 C1) (s2 : Sl u .u8 a2 C2) (z0 : C0.length ≤ c0) (z1 : C1.length ≤ c1) (z2 : C2.length ≤ c2) :
    Calls Try.prog 7 #[.agg #[.int .i64 W0, .int .i64 H0, .slice a0 C0.length c0, .int .i64 W1, .int .i64 H1, .slice a1 C1.length c1, .int .i64 W2, .int .i64 H2, .slice a2 C2.length c2], .int .i64 px, .int .i64 py] u fun e w' => e = .returned (.bool true) ∧ Below u.heap.size u w' := by
  have HS : Hid (Sl u .u8 a0 C0 ∧ Sl u .u8 a1 C1 ∧ Sl u .u8 a2 C2 ∧ C0.length ≤ c0 ∧ C1.length ≤ c1 ∧ C2.length ≤ c2) := ⟨s0, s1, s2, z0, z1, z2⟩
  clear s0 s1 s2 z0 z1 z2
  go_enter Try.func7, Try.ntmps7
  go_wp2_with fail
  refine works_true.mono ?_
  rintro e w1 ⟨rfl, hb⟩
  have d0 : w1.cell? ⟨u.heap.size, 0, none⟩ = some (.int .i64 W0) := by rw [newCell hb _ _ (by simp)]; simp [go_sem]
  have d1 : w1.cell? ⟨u.heap.size, 1, none⟩ = some (.int .i64 H0) := by rw [newCell hb _ _ (by simp)]; simp [go_sem]
  have d2 : w1.cell? ⟨u.heap.size, 2, none⟩ = some (.slice a0 C0.length c0) := by rw [newCell hb _ _ (by simp)]; simp [go_sem]
  have d3 : w1.cell? ⟨u.heap.size, 3, none⟩ = some (.int .i64 W1) := by rw [newCell hb _ _ (by simp)]; simp [go_sem]
  have d4 : w1.cell? ⟨u.heap.size, 4, none⟩ = some (.int .i64 H1) := by rw [newCell hb _ _ (by simp)]; simp [go_sem]
  have d5 : w1.cell? ⟨u.heap.size, 5, none⟩ = some (.slice a1 C1.length c1) := by rw [newCell hb _ _ (by simp)]; simp [go_sem]
  have d6 : w1.cell? ⟨u.heap.size, 6, none⟩ = some (.int .i64 W2) := by rw [newCell hb _ _ (by simp)]; simp [go_sem]
  have d7 : w1.cell? ⟨u.heap.size, 7, none⟩ = some (.int .i64 H2) := by rw [newCell hb _ _ (by simp)]; simp [go_sem]
  have d8 : w1.cell? ⟨u.heap.size, 8, none⟩ = some (.slice a2 C2.length c2) := by rw [newCell hb _ _ (by simp)]; simp [go_sem]
  have HB1 : Hid (Below u.heap.size u w1) := below_to (from_alloc u _) hb
  have hz1 : u.heap.size < w1.heap.size := by have := hb.size; simp at this; omega
  clear hb
  go_wp2_with fail
  refine whole_any.mono ?_
  rintro e w2 ⟨rfl, hb⟩
  have e0 : w2.cell? ⟨u.heap.size, 0, none⟩ = some (.int .i64 W0) := by rw [newCell hb _ _ hz1]; exact d0
  have e1 : w2.cell? ⟨u.heap.size, 1, none⟩ = some (.int .i64 H0) := by rw [newCell hb _ _ hz1]; exact d1
  have e2 : w2.cell? ⟨u.heap.size, 2, none⟩ = some (.slice a0 C0.length c0) := by rw [newCell hb _ _ hz1]; exact d2
  have e3 : w2.cell? ⟨u.heap.size, 3, none⟩ = some (.int .i64 W1) := by rw [newCell hb _ _ hz1]; exact d3
  have e4 : w2.cell? ⟨u.heap.size, 4, none⟩ = some (.int .i64 H1) := by rw [newCell hb _ _ hz1]; exact d4
  have e5 : w2.cell? ⟨u.heap.size, 5, none⟩ = some (.slice a1 C1.length c1) := by rw [newCell hb _ _ hz1]; exact d5
  have e6 : w2.cell? ⟨u.heap.size, 6, none⟩ = some (.int .i64 W2) := by rw [newCell hb _ _ hz1]; exact d6
  have e7 : w2.cell? ⟨u.heap.size, 7, none⟩ = some (.int .i64 H2) := by rw [newCell hb _ _ hz1]; exact d7
  have e8 : w2.cell? ⟨u.heap.size, 8, none⟩ = some (.slice a2 C2.length c2) := by rw [newCell hb _ _ hz1]; exact d8
  have HB2 : Hid (Below u.heap.size u w2) := below_to HB1.out hb
  have hz2 : u.heap.size < w2.heap.size := Nat.lt_of_lt_of_le hz1 hb.size
  clear hb d0 d1 d2 d3 d4 d5 d6 d7 d8 HB1 hz1
  by_cases hF : FOk ⟨W0, H0, a0, c0, C0⟩ ⟨W1, H1, a1, c1, C1⟩ ⟨W2, H2, a2, c2, C2⟩
  · rw [fk_ok hF]
    obtain ⟨x, y, x2, y2, f1, f2, f3, f4, f5, f6, hFr⟩ := Fr.of (w := u) hF HS.out.2.2.2.1 HS.out.2.2.2.2.1 HS.out.2.2.2.2.2 HS.out.1 HS.out.2.1 HS.out.2.2.1
    simp only at f1 f2 f3 f4 f5 f6 hFr
    subst f1 f2 f3 f4 f5 f6
    clear hF HS
    obtain ⟨ba0, oa0, rfl, _, _⟩ := hFr.s0.form (by rw [hFr.l0]; have := hFr.bx; exact Nat.mul_pos (by omega) (by omega))
    obtain ⟨ba1, oa1, rfl, _, _⟩ := hFr.s1.form (by rw [hFr.l1]; have := hFr.bx; have := hFr.ex; have := hFr.ey; exact Nat.mul_pos (by omega) (by omega))
    obtain ⟨ba2, oa2, rfl, _, _⟩ := hFr.s2.form (by rw [hFr.l2]; have := hFr.bx; have := hFr.ex; have := hFr.ey; exact Nat.mul_pos (by omega) (by omega))
    have HFr : Hid (Fr u x y x2 y2 (some ⟨ba0, oa0, none⟩) (some ⟨ba1, oa1, none⟩) (some ⟨ba2, oa2, none⟩) c0 c1 c2 C0 C1 C2) := hFr
    obtain ⟨gx0, gx1, gx2, gy0, gy1, gy2⟩ := hFr.bx
    have ex2 := hFr.ex
    have ey2 := hFr.ey
    have hcx := cs_le gx1
    have hcy := cs_le gy1
    obtain ⟨w, ew⟩ : ∃ w, w = cs x := ⟨_, rfl⟩
    obtain ⟨h, eh⟩ : ∃ h, h = cs y := ⟨_, rfl⟩
    rw [← ew] at hcx
    rw [← eh] at hcy
    obtain ⟨wh, ew2⟩ : ∃ q, q = w / 2 := ⟨_, rfl⟩
    obtain ⟨hh, eh2⟩ : ∃ q, q = h / 2 := ⟨_, rfl⟩
    obtain ⟨D0, eD0⟩ : ∃ D, D = padL x y C0 w h := ⟨_, rfl⟩
    obtain ⟨D1, eD1⟩ : ∃ D, D = padL x2 y2 C1 wh hh := ⟨_, rfl⟩
    obtain ⟨D2, eD2⟩ : ∃ D, D = padL x2 y2 C2 wh hh := ⟨_, rfl⟩
    have lD0 : D0.length = w * h := by rw [eD0, padL_len]
    have lD1 : D1.length = wh * hh := by rw [eD1, padL_len]
    have lD2 : D2.length = wh * hh := by rw [eD2, padL_len]
    have vW : Vs (w : Int) := ⟨by omega, by omega, by omega⟩
    have vH : Vs (h : Int) := ⟨by omega, by omega, by omega⟩
    have K3 : Hid (∀ t : World, Below u.heap.size u t → Calls Try.prog 36 #[.agg #[.int .i64 (x : Int), .int .i64 (y : Int), .slice (some ⟨ba0, oa0, none⟩) C0.length c0, .int .i64 (x2 : Int), .int .i64 (y2 : Int), .slice (some ⟨ba1, oa1, none⟩) C1.length c1, .int .i64 (x2 : Int), .int .i64 (y2 : Int), .slice (some ⟨ba2, oa2, none⟩) C2.length c2]] t fun e w' => Fn t w' e w h wh hh wh hh D0 D1 D2) := fun t ht => by
      rw [eD0, eD1, eD2]; exact coded_ok (HFr.out.to ht) ew eh ew2 eh2
    have FC : ∀ (t : World) (g0 g1 g2 : Nat), Rw t g0 D0 → Rw t g1 D1 → Rw t g2 D2 → Fr t w h wh hh (some ⟨g0, 0, none⟩) (some ⟨g1, 0, none⟩) (some ⟨g2, 0, none⟩) D0.length D1.length D2.length D0 D1 D2 := fun t g0 g1 g2 r0 r1 r2 =>
      ⟨vW, vH, ew2, eh2, lD0, lD1, lD2, Nat.le_refl _, Nat.le_refl _, Nat.le_refl _, r0.sl, r1.sl, r2.sl⟩
    have K4 : Hid (∀ (t : World) (g0 g1 g2 : Nat), Rw t g0 D0 → Rw t g1 D1 → Rw t g2 D2 → Calls Try.prog 38 #[.agg #[.int .i64 (w : Int), .int .i64 (h : Int), .slice (some ⟨g0, 0, none⟩) D0.length D0.length, .int .i64 (wh : Int), .int .i64 (hh : Int), .slice (some ⟨g1, 0, none⟩) D1.length D1.length, .int .i64 (wh : Int), .int .i64 (hh : Int), .slice (some ⟨g2, 0, none⟩) D2.length D2.length], .int .i64 (x : Int), .int .i64 (y : Int)] t fun e w' => Fn t w' e x y x2 y2 x2 y2 C0 C1 C2) := fun t g0 g1 g2 r0 r1 r2 => by
      have := crop_ok (FC t g0 g1 g2 r0 r1 r2) HFr.out.vx HFr.out.vy (by omega) (by omega) ex2 ey2
      rw [eD0, eD1, eD2, crop_pad HFr.out.l0 (by omega) (by omega), crop_pad HFr.out.l1 (by omega) (by omega), crop_pad HFr.out.l2 (by omega) (by omega), ← eD0, ← eD1, ← eD2] at this
      exact this
    have K5 : Hid (∀ (t : World) (g0 g1 g2 : Nat), Rw t g0 D0 → Rw t g1 D1 → Rw t g2 D2 → Calls Try.prog 36 #[.agg #[.int .i64 (w : Int), .int .i64 (h : Int), .slice (some ⟨g0, 0, none⟩) D0.length D0.length, .int .i64 (wh : Int), .int .i64 (hh : Int), .slice (some ⟨g1, 0, none⟩) D1.length D1.length, .int .i64 (wh : Int), .int .i64 (hh : Int), .slice (some ⟨g2, 0, none⟩) D2.length D2.length]] t fun e w' => Fn t w' e w h wh hh wh hh D0 D1 D2) := fun t g0 g1 g2 r0 r1 r2 => by
      have := coded_ok (w := w) (h := h) (FC t g0 g1 g2 r0 r1 r2) (by unfold cs; omega) (by unfold cs; omega) ew2 eh2
      rwa [pad_self lD0, pad_self lD1, pad_self lD2] at this
    have K6 : Hid (∀ (t : World) (g0 g1 g2 : Nat), Rw t g0 D0 → Rw t g1 D1 → Rw t g2 D2 → Calls Try.prog 32 #[.agg #[.int .i64 (w : Int), .int .i64 (h : Int), .slice (some ⟨g0, 0, none⟩) D0.length D0.length, .int .i64 (wh : Int), .int .i64 (hh : Int), .slice (some ⟨g1, 0, none⟩) D1.length D1.length, .int .i64 (wh : Int), .int .i64 (hh : Int), .slice (some ⟨g2, 0, none⟩) D2.length D2.length]] t fun e w' => e = .returned (.int .i64 0) ∧ Below t.heap.size t w') := fun t g0 g1 g2 r0 r1 r2 => by
      rw [← fk_ok (FC t g0 g1 g2 r0 r1 r2).fok]; exact whole_any
    have n1 : (((w : Int) % 8) != 0) = false := by simp; omega
    have n2 : (((h : Int) % 8) != 0) = false := by simp; omega
    have n3 : (w : Int) - (x : Int) ≤ 7 := by omega
    have n4 : (h : Int) - (y : Int) ≤ 7 := by omega
    have n5 : (w : Int) ≤ 256 := by omega
    have n6 : (h : Int) ≤ 256 := by omega
    have n7 : (x : Int) ≤ (w : Int) := by omega
    have n8 : (y : Int) ≤ (h : Int) := by omega
    have HX0 : Hid (1 ≤ x) := by unfold Hid; omega
    have HX1 : Hid (1 ≤ x2) := by unfold Hid; omega
    have HX2 : Hid (1 ≤ x2) := HX1
    have HY0 : Hid (1 ≤ y) := by unfold Hid; omega
    have HY1 : Hid (1 ≤ y2) := by unfold Hid; omega
    have HY2 : Hid (1 ≤ y2) := HY1
    have HX0b : Hid (x ≤ 512) := by unfold Hid; omega
    have HX1b : Hid (x2 ≤ 512) := by unfold Hid; omega
    have HX2b : Hid (x2 ≤ 512) := HX1b
    have HY0b : Hid (y ≤ 512) := by unfold Hid; omega
    have HY1b : Hid (y2 ≤ 512) := by unfold Hid; omega
    have HY2b : Hid (y2 ≤ 512) := HY1b
    have HL0 : Hid (C0.length = x * y) := hFr.l0
    have HL1 : Hid (C1.length = x2 * y2) := hFr.l1
    have HL2 : Hid (C2.length = x2 * y2) := hFr.l2
    have HCb0 : Hid (C0.length ≤ 262144) := by unfold Hid; rw [hFr.l0]; exact prod_le (by omega) (by omega)
    have HCb1 : Hid (C1.length ≤ 262144) := by unfold Hid; rw [hFr.l1]; exact prod_le (by omega) (by omega)
    have HCb2 : Hid (C2.length ≤ 262144) := by unfold Hid; rw [hFr.l2]; exact prod_le (by omega) (by omega)
    have HG : Hid (x ≤ w ∧ y ≤ h ∧ x2 ≤ wh ∧ y2 ≤ hh ∧ w ≤ 512 ∧ h ≤ 512 ∧ wh ≤ 512 ∧ hh ≤ 512) := by unfold Hid; omega
    have HD : Hid (D0 = padL x y C0 w h ∧ D1 = padL x2 y2 C1 wh hh ∧ D2 = padL x2 y2 C2 wh hh) := ⟨eD0, eD1, eD2⟩
    have HlD : Hid (D0.length = w * h ∧ D1.length = wh * hh ∧ D2.length = wh * hh) := ⟨lD0, lD1, lD2⟩
    clear hFr FC vW vH lD0 lD1 lD2 eD0 eD1 eD2 eh2 ew2 ew eh hcx hcy gx0 gx1 gx2 gy0 gy1 gy2 ex2 ey2
    go_wp2_with fail
    refine (K3.out _ HB2.out).mono ?_
    rintro e w3 ⟨g0, g1, g2, rfl, hr0, hr1, hr2, _, _, _, _, _, _, hb⟩
    have HB3 : Hid (Below u.heap.size u w3) := below_to HB2.out hb
    have hz3 : u.heap.size < w3.heap.size := Nat.lt_of_lt_of_le hz2 hb.size
    have RD0 : Hid (Rw w3 g0 D0) := hr0
    have RD1 : Hid (Rw w3 g1 D1) := hr1
    have RD2 : Hid (Rw w3 g2 D2) := hr2
    have F0 : Hid (w3.cell? ⟨u.heap.size, 0, none⟩ = some (.int .i64 (x : Int))) := by unfold Hid; rw [newCell hb _ _ hz2]; exact e0
    have F1 : Hid (w3.cell? ⟨u.heap.size, 1, none⟩ = some (.int .i64 (y : Int))) := by unfold Hid; rw [newCell hb _ _ hz2]; exact e1
    have F2 : Hid (w3.cell? ⟨u.heap.size, 2, none⟩ = some (.slice (some ⟨ba0, oa0, none⟩) C0.length c0)) := by unfold Hid; rw [newCell hb _ _ hz2]; exact e2
    have F3 : Hid (w3.cell? ⟨u.heap.size, 3, none⟩ = some (.int .i64 (x2 : Int))) := by unfold Hid; rw [newCell hb _ _ hz2]; exact e3
    have F4 : Hid (w3.cell? ⟨u.heap.size, 4, none⟩ = some (.int .i64 (y2 : Int))) := by unfold Hid; rw [newCell hb _ _ hz2]; exact e4
    have F5 : Hid (w3.cell? ⟨u.heap.size, 5, none⟩ = some (.slice (some ⟨ba1, oa1, none⟩) C1.length c1)) := by unfold Hid; rw [newCell hb _ _ hz2]; exact e5
    have F6 : Hid (w3.cell? ⟨u.heap.size, 6, none⟩ = some (.int .i64 (x2 : Int))) := by unfold Hid; rw [newCell hb _ _ hz2]; exact e6
    have F7 : Hid (w3.cell? ⟨u.heap.size, 7, none⟩ = some (.int .i64 (y2 : Int))) := by unfold Hid; rw [newCell hb _ _ hz2]; exact e7
    have F8 : Hid (w3.cell? ⟨u.heap.size, 8, none⟩ = some (.slice (some ⟨ba2, oa2, none⟩) C2.length c2)) := by unfold Hid; rw [newCell hb _ _ hz2]; exact e8
    clear hb hr0 hr1 hr2 e0 e1 e2 e3 e4 e5 e6 e7 e8 HB2 hz2 K3
    have p0 : (w3.alloc (.cells #[.int .i64 (w : Int), .int .i64 (h : Int), .slice (some ⟨g0, 0, none⟩) D0.length D0.length, .int .i64 (wh : Int), .int .i64 (hh : Int), .slice (some ⟨g1, 0, none⟩) D1.length D1.length, .int .i64 (wh : Int), .int .i64 (hh : Int), .slice (some ⟨g2, 0, none⟩) D2.length D2.length] 51)).cell? ⟨u.heap.size, 0, none⟩ = some (.int .i64 (x : Int)) := by rw [newCell (from_alloc _ _) _ _ hz3]; exact F0.out
    have p1 : (w3.alloc (.cells #[.int .i64 (w : Int), .int .i64 (h : Int), .slice (some ⟨g0, 0, none⟩) D0.length D0.length, .int .i64 (wh : Int), .int .i64 (hh : Int), .slice (some ⟨g1, 0, none⟩) D1.length D1.length, .int .i64 (wh : Int), .int .i64 (hh : Int), .slice (some ⟨g2, 0, none⟩) D2.length D2.length] 51)).cell? ⟨u.heap.size, 1, none⟩ = some (.int .i64 (y : Int)) := by rw [newCell (from_alloc _ _) _ _ hz3]; exact F1.out
    have HA3 : Hid (Below w3.heap.size w3 (w3.alloc (.cells #[.int .i64 (w : Int), .int .i64 (h : Int), .slice (some ⟨g0, 0, none⟩) D0.length D0.length, .int .i64 (wh : Int), .int .i64 (hh : Int), .slice (some ⟨g1, 0, none⟩) D1.length D1.length, .int .i64 (wh : Int), .int .i64 (hh : Int), .slice (some ⟨g2, 0, none⟩) D2.length D2.length] 51))) := from_alloc _ _
    go_wp2_with fail
    refine (K4.out _ _ _ _ (RD0.out.to HA3.out) (RD1.out.to HA3.out) (RD2.out.to HA3.out)).mono ?_
    rintro e w4 ⟨k0, k1, k2, rfl, hr0, hr1, hr2, _, _, _, _, _, _, hb⟩
    have hb3 : Below w3.heap.size w3 w4 := below_to HA3.out hb
    have HB4 : Hid (Below u.heap.size u w4) := below_to HB3.out hb3
    have HZ34 : Hid (w3.heap.size < w4.heap.size) := by have := hb.size; simp at this; unfold Hid; omega
    have Q0a : Hid (w4.cell? ⟨w3.heap.size, 0, none⟩ = some (.int .i64 (w : Int))) := by unfold Hid; rw [newCell hb _ _ (by simp)]; simp [go_sem]
    have Q1a : Hid (w4.cell? ⟨w3.heap.size, 1, none⟩ = some (.int .i64 (h : Int))) := by unfold Hid; rw [newCell hb _ _ (by simp)]; simp [go_sem]
    have Q2a : Hid (w4.cell? ⟨w3.heap.size, 2, none⟩ = some (.slice (some ⟨g0, 0, none⟩) D0.length D0.length)) := by unfold Hid; rw [newCell hb _ _ (by simp)]; simp [go_sem]
    have Q3a : Hid (w4.cell? ⟨w3.heap.size, 3, none⟩ = some (.int .i64 (wh : Int))) := by unfold Hid; rw [newCell hb _ _ (by simp)]; simp [go_sem]
    have Q4a : Hid (w4.cell? ⟨w3.heap.size, 4, none⟩ = some (.int .i64 (hh : Int))) := by unfold Hid; rw [newCell hb _ _ (by simp)]; simp [go_sem]
    have Q5a : Hid (w4.cell? ⟨w3.heap.size, 5, none⟩ = some (.slice (some ⟨g1, 0, none⟩) D1.length D1.length)) := by unfold Hid; rw [newCell hb _ _ (by simp)]; simp [go_sem]
    have Q6a : Hid (w4.cell? ⟨w3.heap.size, 6, none⟩ = some (.int .i64 (wh : Int))) := by unfold Hid; rw [newCell hb _ _ (by simp)]; simp [go_sem]
    have Q7a : Hid (w4.cell? ⟨w3.heap.size, 7, none⟩ = some (.int .i64 (hh : Int))) := by unfold Hid; rw [newCell hb _ _ (by simp)]; simp [go_sem]
    have Q8a : Hid (w4.cell? ⟨w3.heap.size, 8, none⟩ = some (.slice (some ⟨g2, 0, none⟩) D2.length D2.length)) := by unfold Hid; rw [newCell hb _ _ (by simp)]; simp [go_sem]
    have F0a : Hid (w4.cell? ⟨u.heap.size, 0, none⟩ = some (.int .i64 (x : Int))) := by unfold Hid; rw [newCell hb3 _ _ hz3]; exact F0.out
    have F1a : Hid (w4.cell? ⟨u.heap.size, 1, none⟩ = some (.int .i64 (y : Int))) := by unfold Hid; rw [newCell hb3 _ _ hz3]; exact F1.out
    have F2a : Hid (w4.cell? ⟨u.heap.size, 2, none⟩ = some (.slice (some ⟨ba0, oa0, none⟩) C0.length c0)) := by unfold Hid; rw [newCell hb3 _ _ hz3]; exact F2.out
    have F3a : Hid (w4.cell? ⟨u.heap.size, 3, none⟩ = some (.int .i64 (x2 : Int))) := by unfold Hid; rw [newCell hb3 _ _ hz3]; exact F3.out
    have F4a : Hid (w4.cell? ⟨u.heap.size, 4, none⟩ = some (.int .i64 (y2 : Int))) := by unfold Hid; rw [newCell hb3 _ _ hz3]; exact F4.out
    have F5a : Hid (w4.cell? ⟨u.heap.size, 5, none⟩ = some (.slice (some ⟨ba1, oa1, none⟩) C1.length c1)) := by unfold Hid; rw [newCell hb3 _ _ hz3]; exact F5.out
    have F6a : Hid (w4.cell? ⟨u.heap.size, 6, none⟩ = some (.int .i64 (x2 : Int))) := by unfold Hid; rw [newCell hb3 _ _ hz3]; exact F6.out
    have F7a : Hid (w4.cell? ⟨u.heap.size, 7, none⟩ = some (.int .i64 (y2 : Int))) := by unfold Hid; rw [newCell hb3 _ _ hz3]; exact F7.out
    have F8a : Hid (w4.cell? ⟨u.heap.size, 8, none⟩ = some (.slice (some ⟨ba2, oa2, none⟩) C2.length c2)) := by unfold Hid; rw [newCell hb3 _ _ hz3]; exact F8.out
    have RD0a : Hid (Rw w4 g0 D0) := RD0.out.to hb3
    have RD1a : Hid (Rw w4 g1 D1) := RD1.out.to hb3
    have RD2a : Hid (Rw w4 g2 D2) := RD2.out.to hb3
    have RC0 : Hid (Rw w4 k0 C0) := hr0
    have RC1 : Hid (Rw w4 k1 C1) := hr1
    have RC2 : Hid (Rw w4 k2 C2) := hr2
    clear hb hb3 hr0 hr1 hr2 p0 p1 HA3 HB3 RD0 RD1 RD2 F0 F1 F2 F3 F4 F5 F6 F7 F8 K4
    have HA4 : Hid (Below w4.heap.size w4 (w4.alloc (.cells #[.int .i64 (x : Int), .int .i64 (y : Int), .slice (some ⟨k0, 0, none⟩) C0.length C0.length, .int .i64 (x2 : Int), .int .i64 (y2 : Int), .slice (some ⟨k1, 0, none⟩) C1.length C1.length, .int .i64 (x2 : Int), .int .i64 (y2 : Int), .slice (some ⟨k2, 0, none⟩) C2.length C2.length] 51))) := from_alloc _ _
    have p0 : (w4.alloc (.cells #[.int .i64 (x : Int), .int .i64 (y : Int), .slice (some ⟨k0, 0, none⟩) C0.length C0.length, .int .i64 (x2 : Int), .int .i64 (y2 : Int), .slice (some ⟨k1, 0, none⟩) C1.length C1.length, .int .i64 (x2 : Int), .int .i64 (y2 : Int), .slice (some ⟨k2, 0, none⟩) C2.length C2.length] 51)).cell? ⟨w3.heap.size, 0, none⟩ = some (.int .i64 (w : Int)) := by rw [newCell HA4.out _ _ HZ34.out]; exact Q0a.out
    have p1 : (w4.alloc (.cells #[.int .i64 (x : Int), .int .i64 (y : Int), .slice (some ⟨k0, 0, none⟩) C0.length C0.length, .int .i64 (x2 : Int), .int .i64 (y2 : Int), .slice (some ⟨k1, 0, none⟩) C1.length C1.length, .int .i64 (x2 : Int), .int .i64 (y2 : Int), .slice (some ⟨k2, 0, none⟩) C2.length C2.length] 51)).cell? ⟨w3.heap.size, 1, none⟩ = some (.int .i64 (h : Int)) := by rw [newCell HA4.out _ _ HZ34.out]; exact Q1a.out
    have p2 : (w4.alloc (.cells #[.int .i64 (x : Int), .int .i64 (y : Int), .slice (some ⟨k0, 0, none⟩) C0.length C0.length, .int .i64 (x2 : Int), .int .i64 (y2 : Int), .slice (some ⟨k1, 0, none⟩) C1.length C1.length, .int .i64 (x2 : Int), .int .i64 (y2 : Int), .slice (some ⟨k2, 0, none⟩) C2.length C2.length] 51)).cell? ⟨w3.heap.size, 2, none⟩ = some (.slice (some ⟨g0, 0, none⟩) D0.length D0.length) := by rw [newCell HA4.out _ _ HZ34.out]; exact Q2a.out
    have p3 : (w4.alloc (.cells #[.int .i64 (x : Int), .int .i64 (y : Int), .slice (some ⟨k0, 0, none⟩) C0.length C0.length, .int .i64 (x2 : Int), .int .i64 (y2 : Int), .slice (some ⟨k1, 0, none⟩) C1.length C1.length, .int .i64 (x2 : Int), .int .i64 (y2 : Int), .slice (some ⟨k2, 0, none⟩) C2.length C2.length] 51)).cell? ⟨w3.heap.size, 3, none⟩ = some (.int .i64 (wh : Int)) := by rw [newCell HA4.out _ _ HZ34.out]; exact Q3a.out
    have p4 : (w4.alloc (.cells #[.int .i64 (x : Int), .int .i64 (y : Int), .slice (some ⟨k0, 0, none⟩) C0.length C0.length, .int .i64 (x2 : Int), .int .i64 (y2 : Int), .slice (some ⟨k1, 0, none⟩) C1.length C1.length, .int .i64 (x2 : Int), .int .i64 (y2 : Int), .slice (some ⟨k2, 0, none⟩) C2.length C2.length] 51)).cell? ⟨w3.heap.size, 4, none⟩ = some (.int .i64 (hh : Int)) := by rw [newCell HA4.out _ _ HZ34.out]; exact Q4a.out
    have p5 : (w4.alloc (.cells #[.int .i64 (x : Int), .int .i64 (y : Int), .slice (some ⟨k0, 0, none⟩) C0.length C0.length, .int .i64 (x2 : Int), .int .i64 (y2 : Int), .slice (some ⟨k1, 0, none⟩) C1.length C1.length, .int .i64 (x2 : Int), .int .i64 (y2 : Int), .slice (some ⟨k2, 0, none⟩) C2.length C2.length] 51)).cell? ⟨w3.heap.size, 5, none⟩ = some (.slice (some ⟨g1, 0, none⟩) D1.length D1.length) := by rw [newCell HA4.out _ _ HZ34.out]; exact Q5a.out
    have p6 : (w4.alloc (.cells #[.int .i64 (x : Int), .int .i64 (y : Int), .slice (some ⟨k0, 0, none⟩) C0.length C0.length, .int .i64 (x2 : Int), .int .i64 (y2 : Int), .slice (some ⟨k1, 0, none⟩) C1.length C1.length, .int .i64 (x2 : Int), .int .i64 (y2 : Int), .slice (some ⟨k2, 0, none⟩) C2.length C2.length] 51)).cell? ⟨w3.heap.size, 6, none⟩ = some (.int .i64 (wh : Int)) := by rw [newCell HA4.out _ _ HZ34.out]; exact Q6a.out
    have p7 : (w4.alloc (.cells #[.int .i64 (x : Int), .int .i64 (y : Int), .slice (some ⟨k0, 0, none⟩) C0.length C0.length, .int .i64 (x2 : Int), .int .i64 (y2 : Int), .slice (some ⟨k1, 0, none⟩) C1.length C1.length, .int .i64 (x2 : Int), .int .i64 (y2 : Int), .slice (some ⟨k2, 0, none⟩) C2.length C2.length] 51)).cell? ⟨w3.heap.size, 7, none⟩ = some (.int .i64 (hh : Int)) := by rw [newCell HA4.out _ _ HZ34.out]; exact Q7a.out
    have p8 : (w4.alloc (.cells #[.int .i64 (x : Int), .int .i64 (y : Int), .slice (some ⟨k0, 0, none⟩) C0.length C0.length, .int .i64 (x2 : Int), .int .i64 (y2 : Int), .slice (some ⟨k1, 0, none⟩) C1.length C1.length, .int .i64 (x2 : Int), .int .i64 (y2 : Int), .slice (some ⟨k2, 0, none⟩) C2.length C2.length] 51)).cell? ⟨w3.heap.size, 8, none⟩ = some (.slice (some ⟨g2, 0, none⟩) D2.length D2.length) := by rw [newCell HA4.out _ _ HZ34.out]; exact Q8a.out
    go_wp2_with fail
    refine (K5.out _ _ _ _ (RD0a.out.to HA4.out) (RD1a.out.to HA4.out) (RD2a.out.to HA4.out)).mono ?_
    rintro e w5 ⟨m0, m1, m2, rfl, hr0, hr1, hr2, _, _, _, _, _, _, hb⟩
    have hb4 : Below w4.heap.size w4 w5 := below_to HA4.out hb
    have HB5 : Hid (Below u.heap.size u w5) := below_to HB4.out hb4
    have HZ45 : Hid (w4.heap.size < w5.heap.size) := by have := hb.size; simp at this; unfold Hid; omega
    have hz45 := HZ45.out
    have hz34 := HZ34.out
    have A0b : Hid (w5.cell? ⟨w4.heap.size, 0, none⟩ = some (.int .i64 (x : Int))) := by unfold Hid; rw [newCell hb _ _ (by simp)]; simp [go_sem]
    have A1b : Hid (w5.cell? ⟨w4.heap.size, 1, none⟩ = some (.int .i64 (y : Int))) := by unfold Hid; rw [newCell hb _ _ (by simp)]; simp [go_sem]
    have A2b : Hid (w5.cell? ⟨w4.heap.size, 2, none⟩ = some (.slice (some ⟨k0, 0, none⟩) C0.length C0.length)) := by unfold Hid; rw [newCell hb _ _ (by simp)]; simp [go_sem]
    have A3b : Hid (w5.cell? ⟨w4.heap.size, 3, none⟩ = some (.int .i64 (x2 : Int))) := by unfold Hid; rw [newCell hb _ _ (by simp)]; simp [go_sem]
    have A4b : Hid (w5.cell? ⟨w4.heap.size, 4, none⟩ = some (.int .i64 (y2 : Int))) := by unfold Hid; rw [newCell hb _ _ (by simp)]; simp [go_sem]
    have A5b : Hid (w5.cell? ⟨w4.heap.size, 5, none⟩ = some (.slice (some ⟨k1, 0, none⟩) C1.length C1.length)) := by unfold Hid; rw [newCell hb _ _ (by simp)]; simp [go_sem]
    have A6b : Hid (w5.cell? ⟨w4.heap.size, 6, none⟩ = some (.int .i64 (x2 : Int))) := by unfold Hid; rw [newCell hb _ _ (by simp)]; simp [go_sem]
    have A7b : Hid (w5.cell? ⟨w4.heap.size, 7, none⟩ = some (.int .i64 (y2 : Int))) := by unfold Hid; rw [newCell hb _ _ (by simp)]; simp [go_sem]
    have A8b : Hid (w5.cell? ⟨w4.heap.size, 8, none⟩ = some (.slice (some ⟨k2, 0, none⟩) C2.length C2.length)) := by unfold Hid; rw [newCell hb _ _ (by simp)]; simp [go_sem]
    have Q0b : Hid (w5.cell? ⟨w3.heap.size, 0, none⟩ = some (.int .i64 (w : Int))) := by unfold Hid; rw [newCell hb4 _ _ hz34]; exact Q0a.out
    have Q1b : Hid (w5.cell? ⟨w3.heap.size, 1, none⟩ = some (.int .i64 (h : Int))) := by unfold Hid; rw [newCell hb4 _ _ hz34]; exact Q1a.out
    have Q2b : Hid (w5.cell? ⟨w3.heap.size, 2, none⟩ = some (.slice (some ⟨g0, 0, none⟩) D0.length D0.length)) := by unfold Hid; rw [newCell hb4 _ _ hz34]; exact Q2a.out
    have Q3b : Hid (w5.cell? ⟨w3.heap.size, 3, none⟩ = some (.int .i64 (wh : Int))) := by unfold Hid; rw [newCell hb4 _ _ hz34]; exact Q3a.out
    have Q4b : Hid (w5.cell? ⟨w3.heap.size, 4, none⟩ = some (.int .i64 (hh : Int))) := by unfold Hid; rw [newCell hb4 _ _ hz34]; exact Q4a.out
    have Q5b : Hid (w5.cell? ⟨w3.heap.size, 5, none⟩ = some (.slice (some ⟨g1, 0, none⟩) D1.length D1.length)) := by unfold Hid; rw [newCell hb4 _ _ hz34]; exact Q5a.out
    have Q6b : Hid (w5.cell? ⟨w3.heap.size, 6, none⟩ = some (.int .i64 (wh : Int))) := by unfold Hid; rw [newCell hb4 _ _ hz34]; exact Q6a.out
    have Q7b : Hid (w5.cell? ⟨w3.heap.size, 7, none⟩ = some (.int .i64 (hh : Int))) := by unfold Hid; rw [newCell hb4 _ _ hz34]; exact Q7a.out
    have Q8b : Hid (w5.cell? ⟨w3.heap.size, 8, none⟩ = some (.slice (some ⟨g2, 0, none⟩) D2.length D2.length)) := by unfold Hid; rw [newCell hb4 _ _ hz34]; exact Q8a.out
    have F0b : Hid (w5.cell? ⟨u.heap.size, 0, none⟩ = some (.int .i64 (x : Int))) := by unfold Hid; rw [newCell hb4 _ _ (by omega)]; exact F0a.out
    have F1b : Hid (w5.cell? ⟨u.heap.size, 1, none⟩ = some (.int .i64 (y : Int))) := by unfold Hid; rw [newCell hb4 _ _ (by omega)]; exact F1a.out
    have F2b : Hid (w5.cell? ⟨u.heap.size, 2, none⟩ = some (.slice (some ⟨ba0, oa0, none⟩) C0.length c0)) := by unfold Hid; rw [newCell hb4 _ _ (by omega)]; exact F2a.out
    have F3b : Hid (w5.cell? ⟨u.heap.size, 3, none⟩ = some (.int .i64 (x2 : Int))) := by unfold Hid; rw [newCell hb4 _ _ (by omega)]; exact F3a.out
    have F4b : Hid (w5.cell? ⟨u.heap.size, 4, none⟩ = some (.int .i64 (y2 : Int))) := by unfold Hid; rw [newCell hb4 _ _ (by omega)]; exact F4a.out
    have F5b : Hid (w5.cell? ⟨u.heap.size, 5, none⟩ = some (.slice (some ⟨ba1, oa1, none⟩) C1.length c1)) := by unfold Hid; rw [newCell hb4 _ _ (by omega)]; exact F5a.out
    have F6b : Hid (w5.cell? ⟨u.heap.size, 6, none⟩ = some (.int .i64 (x2 : Int))) := by unfold Hid; rw [newCell hb4 _ _ (by omega)]; exact F6a.out
    have F7b : Hid (w5.cell? ⟨u.heap.size, 7, none⟩ = some (.int .i64 (y2 : Int))) := by unfold Hid; rw [newCell hb4 _ _ (by omega)]; exact F7a.out
    have F8b : Hid (w5.cell? ⟨u.heap.size, 8, none⟩ = some (.slice (some ⟨ba2, oa2, none⟩) C2.length c2)) := by unfold Hid; rw [newCell hb4 _ _ (by omega)]; exact F8a.out
    have RD0b : Hid (Rw w5 g0 D0) := RD0a.out.to hb4
    have RD1b : Hid (Rw w5 g1 D1) := RD1a.out.to hb4
    have RD2b : Hid (Rw w5 g2 D2) := RD2a.out.to hb4
    have RC0b : Hid (Rw w5 k0 C0) := RC0.out.to hb4
    have RC1b : Hid (Rw w5 k1 C1) := RC1.out.to hb4
    have RC2b : Hid (Rw w5 k2 C2) := RC2.out.to hb4
    have RG0 : Hid (Rw w5 m0 D0) := hr0
    have RG1 : Hid (Rw w5 m1 D1) := hr1
    have RG2 : Hid (Rw w5 m2 D2) := hr2
    clear hb hb4 hr0 hr1 hr2 p0 p1 p2 p3 p4 p5 p6 p7 p8 HA4 HB4 RD0a RD1a RD2a RC0 RC1 RC2 F0a Q0a F1a Q1a F2a Q2a F3a Q3a F4a Q4a F5a Q5a F6a Q6a F7a Q7a F8a Q8a K5 HZ34 HZ45
    have HA5 : Hid (Below w5.heap.size w5 (w5.alloc (.cells #[.int .i64 (w : Int), .int .i64 (h : Int), .slice (some ⟨m0, 0, none⟩) D0.length D0.length, .int .i64 (wh : Int), .int .i64 (hh : Int), .slice (some ⟨m1, 0, none⟩) D1.length D1.length, .int .i64 (wh : Int), .int .i64 (hh : Int), .slice (some ⟨m2, 0, none⟩) D2.length D2.length] 51))) := from_alloc _ _
    have p0 : (w5.alloc (.cells #[.int .i64 (w : Int), .int .i64 (h : Int), .slice (some ⟨m0, 0, none⟩) D0.length D0.length, .int .i64 (wh : Int), .int .i64 (hh : Int), .slice (some ⟨m1, 0, none⟩) D1.length D1.length, .int .i64 (wh : Int), .int .i64 (hh : Int), .slice (some ⟨m2, 0, none⟩) D2.length D2.length] 51)).cell? ⟨w3.heap.size, 0, none⟩ = some (.int .i64 (w : Int)) := by rw [newCell HA5.out _ _ (by omega)]; exact Q0b.out
    have p1 : (w5.alloc (.cells #[.int .i64 (w : Int), .int .i64 (h : Int), .slice (some ⟨m0, 0, none⟩) D0.length D0.length, .int .i64 (wh : Int), .int .i64 (hh : Int), .slice (some ⟨m1, 0, none⟩) D1.length D1.length, .int .i64 (wh : Int), .int .i64 (hh : Int), .slice (some ⟨m2, 0, none⟩) D2.length D2.length] 51)).cell? ⟨w3.heap.size, 1, none⟩ = some (.int .i64 (h : Int)) := by rw [newCell HA5.out _ _ (by omega)]; exact Q1b.out
    have p2 : (w5.alloc (.cells #[.int .i64 (w : Int), .int .i64 (h : Int), .slice (some ⟨m0, 0, none⟩) D0.length D0.length, .int .i64 (wh : Int), .int .i64 (hh : Int), .slice (some ⟨m1, 0, none⟩) D1.length D1.length, .int .i64 (wh : Int), .int .i64 (hh : Int), .slice (some ⟨m2, 0, none⟩) D2.length D2.length] 51)).cell? ⟨w3.heap.size, 2, none⟩ = some (.slice (some ⟨g0, 0, none⟩) D0.length D0.length) := by rw [newCell HA5.out _ _ (by omega)]; exact Q2b.out
    have p3 : (w5.alloc (.cells #[.int .i64 (w : Int), .int .i64 (h : Int), .slice (some ⟨m0, 0, none⟩) D0.length D0.length, .int .i64 (wh : Int), .int .i64 (hh : Int), .slice (some ⟨m1, 0, none⟩) D1.length D1.length, .int .i64 (wh : Int), .int .i64 (hh : Int), .slice (some ⟨m2, 0, none⟩) D2.length D2.length] 51)).cell? ⟨w3.heap.size, 3, none⟩ = some (.int .i64 (wh : Int)) := by rw [newCell HA5.out _ _ (by omega)]; exact Q3b.out
    have p4 : (w5.alloc (.cells #[.int .i64 (w : Int), .int .i64 (h : Int), .slice (some ⟨m0, 0, none⟩) D0.length D0.length, .int .i64 (wh : Int), .int .i64 (hh : Int), .slice (some ⟨m1, 0, none⟩) D1.length D1.length, .int .i64 (wh : Int), .int .i64 (hh : Int), .slice (some ⟨m2, 0, none⟩) D2.length D2.length] 51)).cell? ⟨w3.heap.size, 4, none⟩ = some (.int .i64 (hh : Int)) := by rw [newCell HA5.out _ _ (by omega)]; exact Q4b.out
    have p5 : (w5.alloc (.cells #[.int .i64 (w : Int), .int .i64 (h : Int), .slice (some ⟨m0, 0, none⟩) D0.length D0.length, .int .i64 (wh : Int), .int .i64 (hh : Int), .slice (some ⟨m1, 0, none⟩) D1.length D1.length, .int .i64 (wh : Int), .int .i64 (hh : Int), .slice (some ⟨m2, 0, none⟩) D2.length D2.length] 51)).cell? ⟨w3.heap.size, 5, none⟩ = some (.slice (some ⟨g1, 0, none⟩) D1.length D1.length) := by rw [newCell HA5.out _ _ (by omega)]; exact Q5b.out
    have p6 : (w5.alloc (.cells #[.int .i64 (w : Int), .int .i64 (h : Int), .slice (some ⟨m0, 0, none⟩) D0.length D0.length, .int .i64 (wh : Int), .int .i64 (hh : Int), .slice (some ⟨m1, 0, none⟩) D1.length D1.length, .int .i64 (wh : Int), .int .i64 (hh : Int), .slice (some ⟨m2, 0, none⟩) D2.length D2.length] 51)).cell? ⟨w3.heap.size, 6, none⟩ = some (.int .i64 (wh : Int)) := by rw [newCell HA5.out _ _ (by omega)]; exact Q6b.out
    have p7 : (w5.alloc (.cells #[.int .i64 (w : Int), .int .i64 (h : Int), .slice (some ⟨m0, 0, none⟩) D0.length D0.length, .int .i64 (wh : Int), .int .i64 (hh : Int), .slice (some ⟨m1, 0, none⟩) D1.length D1.length, .int .i64 (wh : Int), .int .i64 (hh : Int), .slice (some ⟨m2, 0, none⟩) D2.length D2.length] 51)).cell? ⟨w3.heap.size, 7, none⟩ = some (.int .i64 (hh : Int)) := by rw [newCell HA5.out _ _ (by omega)]; exact Q7b.out
    have p8 : (w5.alloc (.cells #[.int .i64 (w : Int), .int .i64 (h : Int), .slice (some ⟨m0, 0, none⟩) D0.length D0.length, .int .i64 (wh : Int), .int .i64 (hh : Int), .slice (some ⟨m1, 0, none⟩) D1.length D1.length, .int .i64 (wh : Int), .int .i64 (hh : Int), .slice (some ⟨m2, 0, none⟩) D2.length D2.length] 51)).cell? ⟨w3.heap.size, 8, none⟩ = some (.slice (some ⟨g2, 0, none⟩) D2.length D2.length) := by rw [newCell HA5.out _ _ (by omega)]; exact Q8b.out
    go_wp2_with fail
    refine (K6.out _ _ _ _ (RD0b.out.to HA5.out) (RD1b.out.to HA5.out) (RD2b.out.to HA5.out)).mono ?_
    rintro e T ⟨rfl, hb⟩
    have hb5 : Below w5.heap.size w5 T := below_to HA5.out hb
    have HBT : Hid (Below u.heap.size u T) := below_to HB5.out hb5
    have hz5T : w5.heap.size < T.heap.size := by have := hb.size; simp at this; omega
    have G0 : Hid (T.cell? ⟨w5.heap.size, 0, none⟩ = some (.int .i64 (w : Int))) := by unfold Hid; rw [newCell hb _ _ (by simp)]; simp [go_sem]
    have G1 : Hid (T.cell? ⟨w5.heap.size, 1, none⟩ = some (.int .i64 (h : Int))) := by unfold Hid; rw [newCell hb _ _ (by simp)]; simp [go_sem]
    have G2 : Hid (T.cell? ⟨w5.heap.size, 2, none⟩ = some (.slice (some ⟨m0, 0, none⟩) D0.length D0.length)) := by unfold Hid; rw [newCell hb _ _ (by simp)]; simp [go_sem]
    have G3 : Hid (T.cell? ⟨w5.heap.size, 3, none⟩ = some (.int .i64 (wh : Int))) := by unfold Hid; rw [newCell hb _ _ (by simp)]; simp [go_sem]
    have G4 : Hid (T.cell? ⟨w5.heap.size, 4, none⟩ = some (.int .i64 (hh : Int))) := by unfold Hid; rw [newCell hb _ _ (by simp)]; simp [go_sem]
    have G5 : Hid (T.cell? ⟨w5.heap.size, 5, none⟩ = some (.slice (some ⟨m1, 0, none⟩) D1.length D1.length)) := by unfold Hid; rw [newCell hb _ _ (by simp)]; simp [go_sem]
    have G6 : Hid (T.cell? ⟨w5.heap.size, 6, none⟩ = some (.int .i64 (wh : Int))) := by unfold Hid; rw [newCell hb _ _ (by simp)]; simp [go_sem]
    have G7 : Hid (T.cell? ⟨w5.heap.size, 7, none⟩ = some (.int .i64 (hh : Int))) := by unfold Hid; rw [newCell hb _ _ (by simp)]; simp [go_sem]
    have G8 : Hid (T.cell? ⟨w5.heap.size, 8, none⟩ = some (.slice (some ⟨m2, 0, none⟩) D2.length D2.length)) := by unfold Hid; rw [newCell hb _ _ (by simp)]; simp [go_sem]
    have A0 : Hid (T.cell? ⟨w4.heap.size, 0, none⟩ = some (.int .i64 (x : Int))) := by unfold Hid; rw [newCell hb5 _ _ (by omega)]; exact A0b.out
    have A1 : Hid (T.cell? ⟨w4.heap.size, 1, none⟩ = some (.int .i64 (y : Int))) := by unfold Hid; rw [newCell hb5 _ _ (by omega)]; exact A1b.out
    have A2 : Hid (T.cell? ⟨w4.heap.size, 2, none⟩ = some (.slice (some ⟨k0, 0, none⟩) C0.length C0.length)) := by unfold Hid; rw [newCell hb5 _ _ (by omega)]; exact A2b.out
    have A3 : Hid (T.cell? ⟨w4.heap.size, 3, none⟩ = some (.int .i64 (x2 : Int))) := by unfold Hid; rw [newCell hb5 _ _ (by omega)]; exact A3b.out
    have A4 : Hid (T.cell? ⟨w4.heap.size, 4, none⟩ = some (.int .i64 (y2 : Int))) := by unfold Hid; rw [newCell hb5 _ _ (by omega)]; exact A4b.out
    have A5 : Hid (T.cell? ⟨w4.heap.size, 5, none⟩ = some (.slice (some ⟨k1, 0, none⟩) C1.length C1.length)) := by unfold Hid; rw [newCell hb5 _ _ (by omega)]; exact A5b.out
    have A6 : Hid (T.cell? ⟨w4.heap.size, 6, none⟩ = some (.int .i64 (x2 : Int))) := by unfold Hid; rw [newCell hb5 _ _ (by omega)]; exact A6b.out
    have A7 : Hid (T.cell? ⟨w4.heap.size, 7, none⟩ = some (.int .i64 (y2 : Int))) := by unfold Hid; rw [newCell hb5 _ _ (by omega)]; exact A7b.out
    have A8 : Hid (T.cell? ⟨w4.heap.size, 8, none⟩ = some (.slice (some ⟨k2, 0, none⟩) C2.length C2.length)) := by unfold Hid; rw [newCell hb5 _ _ (by omega)]; exact A8b.out
    have Q0 : Hid (T.cell? ⟨w3.heap.size, 0, none⟩ = some (.int .i64 (w : Int))) := by unfold Hid; rw [newCell hb5 _ _ (by omega)]; exact Q0b.out
    have Q1 : Hid (T.cell? ⟨w3.heap.size, 1, none⟩ = some (.int .i64 (h : Int))) := by unfold Hid; rw [newCell hb5 _ _ (by omega)]; exact Q1b.out
    have Q2 : Hid (T.cell? ⟨w3.heap.size, 2, none⟩ = some (.slice (some ⟨g0, 0, none⟩) D0.length D0.length)) := by unfold Hid; rw [newCell hb5 _ _ (by omega)]; exact Q2b.out
    have Q3 : Hid (T.cell? ⟨w3.heap.size, 3, none⟩ = some (.int .i64 (wh : Int))) := by unfold Hid; rw [newCell hb5 _ _ (by omega)]; exact Q3b.out
    have Q4 : Hid (T.cell? ⟨w3.heap.size, 4, none⟩ = some (.int .i64 (hh : Int))) := by unfold Hid; rw [newCell hb5 _ _ (by omega)]; exact Q4b.out
    have Q5 : Hid (T.cell? ⟨w3.heap.size, 5, none⟩ = some (.slice (some ⟨g1, 0, none⟩) D1.length D1.length)) := by unfold Hid; rw [newCell hb5 _ _ (by omega)]; exact Q5b.out
    have Q6 : Hid (T.cell? ⟨w3.heap.size, 6, none⟩ = some (.int .i64 (wh : Int))) := by unfold Hid; rw [newCell hb5 _ _ (by omega)]; exact Q6b.out
    have Q7 : Hid (T.cell? ⟨w3.heap.size, 7, none⟩ = some (.int .i64 (hh : Int))) := by unfold Hid; rw [newCell hb5 _ _ (by omega)]; exact Q7b.out
    have Q8 : Hid (T.cell? ⟨w3.heap.size, 8, none⟩ = some (.slice (some ⟨g2, 0, none⟩) D2.length D2.length)) := by unfold Hid; rw [newCell hb5 _ _ (by omega)]; exact Q8b.out
    have F0 : Hid (T.cell? ⟨u.heap.size, 0, none⟩ = some (.int .i64 (x : Int))) := by unfold Hid; rw [newCell hb5 _ _ (by omega)]; exact F0b.out
    have F1 : Hid (T.cell? ⟨u.heap.size, 1, none⟩ = some (.int .i64 (y : Int))) := by unfold Hid; rw [newCell hb5 _ _ (by omega)]; exact F1b.out
    have F2 : Hid (T.cell? ⟨u.heap.size, 2, none⟩ = some (.slice (some ⟨ba0, oa0, none⟩) C0.length c0)) := by unfold Hid; rw [newCell hb5 _ _ (by omega)]; exact F2b.out
    have F3 : Hid (T.cell? ⟨u.heap.size, 3, none⟩ = some (.int .i64 (x2 : Int))) := by unfold Hid; rw [newCell hb5 _ _ (by omega)]; exact F3b.out
    have F4 : Hid (T.cell? ⟨u.heap.size, 4, none⟩ = some (.int .i64 (y2 : Int))) := by unfold Hid; rw [newCell hb5 _ _ (by omega)]; exact F4b.out
    have F5 : Hid (T.cell? ⟨u.heap.size, 5, none⟩ = some (.slice (some ⟨ba1, oa1, none⟩) C1.length c1)) := by unfold Hid; rw [newCell hb5 _ _ (by omega)]; exact F5b.out
    have F6 : Hid (T.cell? ⟨u.heap.size, 6, none⟩ = some (.int .i64 (x2 : Int))) := by unfold Hid; rw [newCell hb5 _ _ (by omega)]; exact F6b.out
    have F7 : Hid (T.cell? ⟨u.heap.size, 7, none⟩ = some (.int .i64 (y2 : Int))) := by unfold Hid; rw [newCell hb5 _ _ (by omega)]; exact F7b.out
    have F8 : Hid (T.cell? ⟨u.heap.size, 8, none⟩ = some (.slice (some ⟨ba2, oa2, none⟩) C2.length c2)) := by unfold Hid; rw [newCell hb5 _ _ (by omega)]; exact F8b.out
    have KS : ∀ k, k < 3 → ∀ t : World, Below T.heap.size T t → Rw t (sel k0 k1 k2 k) (sel C0 C1 C2 k) ∧ Rw t (sel m0 m1 m2 k) (sel D0 D1 D2 k) ∧ Rw t (sel g0 g1 g2 k) (sel D0 D1 D2 k) := fun k hk t ht => by
      rcases (show k = 0 ∨ k = 1 ∨ k = 2 by omega) with rfl | rfl | rfl
      · exact ⟨(RC0b.out.to hb5).to ht, (RG0.out.to hb5).to ht, (RD0b.out.to hb5).to ht⟩
      · exact ⟨(RC1b.out.to hb5).to ht, (RG1.out.to hb5).to ht, (RD1b.out.to hb5).to ht⟩
      · exact ⟨(RC2b.out.to hb5).to ht, (RG2.out.to hb5).to ht, (RD2b.out.to hb5).to ht⟩
    have KSl0 : ∀ t : World, Below T.heap.size T t → Sl t .u8 (some ⟨ba0, oa0, none⟩) C0 := fun t ht => (HFr.out.to (below_to HBT.out ht)).s0
    have KS0 : Hid (∀ t : World, Below T.heap.size T t → Calls Try.prog 12 #[.agg #[.int .i64 (x : Int), .int .i64 (y : Int), .slice (some ⟨k0, 0, none⟩) C0.length C0.length], .agg #[.int .i64 (x : Int), .int .i64 (y : Int), .slice (some ⟨ba0, oa0, none⟩) C0.length c0]] t fun e w' => e = .returned (.bool true) ∧ Below t.heap.size t w') := fun t ht => by
      have := same_any (w := t) (W := (x : Int)) (H := (y : Int)) (W' := (x : Int)) (H' := (y : Int)) (c := C0.length) (d := c0) (show Rw t k0 C0 from (KS 0 (by omega) t ht).1).sl (KSl0 t ht) (Or.inl rfl)
      rwa [smB_eq, eqB_self] at this
    have KG0 : Hid (∀ t : World, Below T.heap.size T t → Calls Try.prog 12 #[.agg #[.int .i64 (w : Int), .int .i64 (h : Int), .slice (some ⟨m0, 0, none⟩) D0.length D0.length], .agg #[.int .i64 (w : Int), .int .i64 (h : Int), .slice (some ⟨g0, 0, none⟩) D0.length D0.length]] t fun e w' => e = .returned (.bool true) ∧ Below t.heap.size t w') := fun t ht => by
      have := same_any (w := t) (W := (w : Int)) (H := (h : Int)) (W' := (w : Int)) (H' := (h : Int)) (c := D0.length) (d := D0.length) (KS 0 (by omega) t ht).2.1.sl (KS 0 (by omega) t ht).2.2.sl (Or.inl rfl)
      rwa [smB_eq, eqB_self] at this
    have KO0 : Hid (∀ t : World, Calls Try.prog 42 #[.agg #[.int .i64 (x : Int), .int .i64 (y : Int), .slice (some ⟨ba0, oa0, none⟩) C0.length c0]] t fun e w' => e = .returned (.bool true) ∧ Below t.heap.size t w') := fun t => solid_yes HX0.out HX0b.out HY0.out HY0b.out HL0.out
    have KA0 : Hid (∀ t : World, Below T.heap.size T t → ∀ uu vv : Int, Calls Try.prog 14 #[.agg #[.int .i64 (x : Int), .int .i64 (y : Int), .slice (some ⟨ba0, oa0, none⟩) C0.length c0], .int .i64 uu, .int .i64 vv] t fun e w' => e = .returned (.int .u8 (C0.getD (nr vv y * x + nr uu x) 0 : Nat)) ∧ Below t.heap.size t w') := fun t ht uu vv => at_ok (KSl0 t ht) HX0.out HX0b.out HY0.out HY0b.out HL0.out
    have KB0 : Hid (∀ t : World, Below T.heap.size T t → ∀ uu vv : Int, Calls Try.prog 14 #[.agg #[.int .i64 (w : Int), .int .i64 (h : Int), .slice (some ⟨g0, 0, none⟩) D0.length D0.length], .int .i64 uu, .int .i64 vv] t fun e w' => e = .returned (.int .u8 (C0.getD (nr vv y * x + nr uu x) 0 : Nat)) ∧ Below t.heap.size t w') := fun t ht uu vv => by
      have hG := HG.out
      have q1 := HX0.out
      have q2 := HY0.out
      have := at_ok (w := t) (i := uu) (j := vv) (c := D0.length) (KS 0 (by omega) t ht).2.2.sl (show 1 ≤ w by omega) (by omega) (show 1 ≤ h by omega) (by omega) HlD.out.1
      rw [show (sel D0 D1 D2 0).getD (nr vv h * w + nr uu w) 0 = C0.getD (nr vv y * x + nr uu x) 0 from by
        show D0.getD _ 0 = _
        rw [HD.out.1]; exact at_pad q1 q2 (by omega) (by omega)] at this
      exact this
    have KC0 : Hid (∀ t : World, Below T.heap.size T t → ∀ i, i < C0.length → t.cell? ⟨ba0, oa0 + i, none⟩ = some (.int .u8 (C0.getD i 0 : Nat))) := fun t ht i hi => by
      obtain ⟨b, o, e, _, hcc⟩ := (KSl0 t ht).form (by omega)
      simp only [Option.some.injEq, Addr.mk.injEq] at e
      obtain ⟨rfl, rfl, _⟩ := e
      exact hcc i hi
    have KSl1 : ∀ t : World, Below T.heap.size T t → Sl t .u8 (some ⟨ba1, oa1, none⟩) C1 := fun t ht => (HFr.out.to (below_to HBT.out ht)).s1
    have KS1 : Hid (∀ t : World, Below T.heap.size T t → Calls Try.prog 12 #[.agg #[.int .i64 (x2 : Int), .int .i64 (y2 : Int), .slice (some ⟨k1, 0, none⟩) C1.length C1.length], .agg #[.int .i64 (x2 : Int), .int .i64 (y2 : Int), .slice (some ⟨ba1, oa1, none⟩) C1.length c1]] t fun e w' => e = .returned (.bool true) ∧ Below t.heap.size t w') := fun t ht => by
      have := same_any (w := t) (W := (x2 : Int)) (H := (y2 : Int)) (W' := (x2 : Int)) (H' := (y2 : Int)) (c := C1.length) (d := c1) (show Rw t k1 C1 from (KS 1 (by omega) t ht).1).sl (KSl1 t ht) (Or.inl rfl)
      rwa [smB_eq, eqB_self] at this
    have KG1 : Hid (∀ t : World, Below T.heap.size T t → Calls Try.prog 12 #[.agg #[.int .i64 (wh : Int), .int .i64 (hh : Int), .slice (some ⟨m1, 0, none⟩) D1.length D1.length], .agg #[.int .i64 (wh : Int), .int .i64 (hh : Int), .slice (some ⟨g1, 0, none⟩) D1.length D1.length]] t fun e w' => e = .returned (.bool true) ∧ Below t.heap.size t w') := fun t ht => by
      have := same_any (w := t) (W := (wh : Int)) (H := (hh : Int)) (W' := (wh : Int)) (H' := (hh : Int)) (c := D1.length) (d := D1.length) (KS 1 (by omega) t ht).2.1.sl (KS 1 (by omega) t ht).2.2.sl (Or.inl rfl)
      rwa [smB_eq, eqB_self] at this
    have KO1 : Hid (∀ t : World, Calls Try.prog 42 #[.agg #[.int .i64 (x2 : Int), .int .i64 (y2 : Int), .slice (some ⟨ba1, oa1, none⟩) C1.length c1]] t fun e w' => e = .returned (.bool true) ∧ Below t.heap.size t w') := fun t => solid_yes HX1.out HX1b.out HY1.out HY1b.out HL1.out
    have KA1 : Hid (∀ t : World, Below T.heap.size T t → ∀ uu vv : Int, Calls Try.prog 14 #[.agg #[.int .i64 (x2 : Int), .int .i64 (y2 : Int), .slice (some ⟨ba1, oa1, none⟩) C1.length c1], .int .i64 uu, .int .i64 vv] t fun e w' => e = .returned (.int .u8 (C1.getD (nr vv y2 * x2 + nr uu x2) 0 : Nat)) ∧ Below t.heap.size t w') := fun t ht uu vv => at_ok (KSl1 t ht) HX1.out HX1b.out HY1.out HY1b.out HL1.out
    have KB1 : Hid (∀ t : World, Below T.heap.size T t → ∀ uu vv : Int, Calls Try.prog 14 #[.agg #[.int .i64 (wh : Int), .int .i64 (hh : Int), .slice (some ⟨g1, 0, none⟩) D1.length D1.length], .int .i64 uu, .int .i64 vv] t fun e w' => e = .returned (.int .u8 (C1.getD (nr vv y2 * x2 + nr uu x2) 0 : Nat)) ∧ Below t.heap.size t w') := fun t ht uu vv => by
      have hG := HG.out
      have q1 := HX1.out
      have q2 := HY1.out
      have := at_ok (w := t) (i := uu) (j := vv) (c := D1.length) (KS 1 (by omega) t ht).2.2.sl (show 1 ≤ wh by omega) (by omega) (show 1 ≤ hh by omega) (by omega) HlD.out.2.1
      rw [show (sel D0 D1 D2 1).getD (nr vv hh * wh + nr uu wh) 0 = C1.getD (nr vv y2 * x2 + nr uu x2) 0 from by
        show D1.getD _ 0 = _
        rw [HD.out.2.1]; exact at_pad q1 q2 (by omega) (by omega)] at this
      exact this
    have KC1 : Hid (∀ t : World, Below T.heap.size T t → ∀ i, i < C1.length → t.cell? ⟨ba1, oa1 + i, none⟩ = some (.int .u8 (C1.getD i 0 : Nat))) := fun t ht i hi => by
      obtain ⟨b, o, e, _, hcc⟩ := (KSl1 t ht).form (by omega)
      simp only [Option.some.injEq, Addr.mk.injEq] at e
      obtain ⟨rfl, rfl, _⟩ := e
      exact hcc i hi
    have KSl2 : ∀ t : World, Below T.heap.size T t → Sl t .u8 (some ⟨ba2, oa2, none⟩) C2 := fun t ht => (HFr.out.to (below_to HBT.out ht)).s2
    have KS2 : Hid (∀ t : World, Below T.heap.size T t → Calls Try.prog 12 #[.agg #[.int .i64 (x2 : Int), .int .i64 (y2 : Int), .slice (some ⟨k2, 0, none⟩) C2.length C2.length], .agg #[.int .i64 (x2 : Int), .int .i64 (y2 : Int), .slice (some ⟨ba2, oa2, none⟩) C2.length c2]] t fun e w' => e = .returned (.bool true) ∧ Below t.heap.size t w') := fun t ht => by
      have := same_any (w := t) (W := (x2 : Int)) (H := (y2 : Int)) (W' := (x2 : Int)) (H' := (y2 : Int)) (c := C2.length) (d := c2) (show Rw t k2 C2 from (KS 2 (by omega) t ht).1).sl (KSl2 t ht) (Or.inl rfl)
      rwa [smB_eq, eqB_self] at this
    have KG2 : Hid (∀ t : World, Below T.heap.size T t → Calls Try.prog 12 #[.agg #[.int .i64 (wh : Int), .int .i64 (hh : Int), .slice (some ⟨m2, 0, none⟩) D2.length D2.length], .agg #[.int .i64 (wh : Int), .int .i64 (hh : Int), .slice (some ⟨g2, 0, none⟩) D2.length D2.length]] t fun e w' => e = .returned (.bool true) ∧ Below t.heap.size t w') := fun t ht => by
      have := same_any (w := t) (W := (wh : Int)) (H := (hh : Int)) (W' := (wh : Int)) (H' := (hh : Int)) (c := D2.length) (d := D2.length) (KS 2 (by omega) t ht).2.1.sl (KS 2 (by omega) t ht).2.2.sl (Or.inl rfl)
      rwa [smB_eq, eqB_self] at this
    have KO2 : Hid (∀ t : World, Calls Try.prog 42 #[.agg #[.int .i64 (x2 : Int), .int .i64 (y2 : Int), .slice (some ⟨ba2, oa2, none⟩) C2.length c2]] t fun e w' => e = .returned (.bool true) ∧ Below t.heap.size t w') := fun t => solid_yes HX2.out HX2b.out HY2.out HY2b.out HL2.out
    have KA2 : Hid (∀ t : World, Below T.heap.size T t → ∀ uu vv : Int, Calls Try.prog 14 #[.agg #[.int .i64 (x2 : Int), .int .i64 (y2 : Int), .slice (some ⟨ba2, oa2, none⟩) C2.length c2], .int .i64 uu, .int .i64 vv] t fun e w' => e = .returned (.int .u8 (C2.getD (nr vv y2 * x2 + nr uu x2) 0 : Nat)) ∧ Below t.heap.size t w') := fun t ht uu vv => at_ok (KSl2 t ht) HX2.out HX2b.out HY2.out HY2b.out HL2.out
    have KB2 : Hid (∀ t : World, Below T.heap.size T t → ∀ uu vv : Int, Calls Try.prog 14 #[.agg #[.int .i64 (wh : Int), .int .i64 (hh : Int), .slice (some ⟨g2, 0, none⟩) D2.length D2.length], .int .i64 uu, .int .i64 vv] t fun e w' => e = .returned (.int .u8 (C2.getD (nr vv y2 * x2 + nr uu x2) 0 : Nat)) ∧ Below t.heap.size t w') := fun t ht uu vv => by
      have hG := HG.out
      have q1 := HX2.out
      have q2 := HY2.out
      have := at_ok (w := t) (i := uu) (j := vv) (c := D2.length) (KS 2 (by omega) t ht).2.2.sl (show 1 ≤ wh by omega) (by omega) (show 1 ≤ hh by omega) (by omega) HlD.out.2.2
      rw [show (sel D0 D1 D2 2).getD (nr vv hh * wh + nr uu wh) 0 = C2.getD (nr vv y2 * x2 + nr uu x2) 0 from by
        show D2.getD _ 0 = _
        rw [HD.out.2.2]; exact at_pad q1 q2 (by omega) (by omega)] at this
      exact this
    have KC2 : Hid (∀ t : World, Below T.heap.size T t → ∀ i, i < C2.length → t.cell? ⟨ba2, oa2 + i, none⟩ = some (.int .u8 (C2.getD i 0 : Nat))) := fun t ht i hi => by
      obtain ⟨b, o, e, _, hcc⟩ := (KSl2 t ht).form (by omega)
      simp only [Option.some.injEq, Addr.mk.injEq] at e
      obtain ⟨rfl, rfl, _⟩ := e
      exact hcc i hi
    clear KS KSl0 KSl1 KSl2
    have q0 := Q0.out
    have q1 := Q1.out
    have q3 := F0.out
    have q4 := F1.out
    clear hb hb5 p0 p1 p2 p3 p4 p5 p6 p7 p8 HA5 HB5 RD0b RD1b RD2b RC0b RC1b RC2b RG0 RG1 RG2 F0b Q0b A0b F1b Q1b A1b F2b Q2b A2b F3b Q3b A3b F4b Q4b A4b F5b Q5b A5b F6b Q6b A6b F7b Q7b A7b F8b Q8b A8b K6 HG HD HlD
    obtain ⟨b1, hb1, Bx1⟩ := bring_nat (i := px) (n := 300) (by omega) (by omega)
    obtain ⟨b2, hb2, By1⟩ := bring_nat (i := py) (n := 300) (by omega) (by omega)
    have HBx : Hid (∀ t : World, Calls Try.prog 30 #[.int .i64 px, .int .i64 300] t fun e w' => e = .returned (.int .i64 (b1 : Int)) ∧ w' = t) := Bx1
    have HBy : Hid (∀ t : World, Calls Try.prog 30 #[.int .i64 py, .int .i64 300] t fun e w' => e = .returned (.int .i64 (b2 : Int)) ∧ w' = t) := By1
    clear Bx1 By1
    go_wp2_with fail
    generalize w3.heap.size = cb at *
    generalize w4.heap.size = ab at *
    generalize w5.heap.size = gb at *
    clear q0 q1 q3 q4 n1 n2 n3 n4 n5 n6 n7 n8
    go_loopw [15] (fun i wr => ∃ k : Nat, k ≤ 3 ∧ i = .int .i64 k ∧ Below T.heap.size T wr) (fun i _ => 3 - (intOf i).toNat)
    case atStart => exact ⟨0, by omega, rfl, Below.refl _ _⟩
    case round =>
      obtain ⟨k, hk, rfl, hb⟩ := hrel
      have HBr : Hid (Below T.heap.size T wr) := hb
      clear hb
      rcases (show k = 0 ∨ k = 1 ∨ k = 2 ∨ k = 3 by omega) with rfl | rfl | rfl | rfl
      · obtain ⟨V, hV⟩ : ∃ V, V = (wr.alloc (.cells #[.int .i64 (x : Int), .int .i64 (y : Int), .slice (some ⟨ba0, oa0, none⟩) C0.length c0] 24)) := ⟨_, rfl⟩
        have HA : Hid (Below wr.heap.size wr V) := by unfold Hid; rw [hV]; exact from_alloc _ _
        have HTV : Hid (Below T.heap.size T V) := below_to HBr.out HA.out
        have HZV : Hid (V.heap.size = wr.heap.size + 1) := by unfold Hid; rw [hV]; simp
        have hTr := HBr.out.size
        have r0 : V.cell? ⟨wr.heap.size, 0, none⟩ = some (.int .i64 (x : Int)) := by rw [hV]; simp
        have r1 : V.cell? ⟨wr.heap.size, 1, none⟩ = some (.int .i64 (y : Int)) := by rw [hV]; simp
        have r2 : V.cell? ⟨wr.heap.size, 2, none⟩ = some (.slice (some ⟨ba0, oa0, none⟩) C0.length c0) := by rw [hV]; simp
        have r3 : V.cell? ⟨ab, 0, none⟩ = some (.int .i64 (x : Int)) := by rw [newCell HTV.out _ _ (by omega)]; exact A0.out
        have r4 : V.cell? ⟨ab, 1, none⟩ = some (.int .i64 (y : Int)) := by rw [newCell HTV.out _ _ (by omega)]; exact A1.out
        have r5 : V.cell? ⟨ab, 2, none⟩ = some (.slice (some ⟨k0, 0, none⟩) C0.length C0.length) := by rw [newCell HTV.out _ _ (by omega)]; exact A2.out
        have r6 : V.cell? ⟨gb, 0, none⟩ = some (.int .i64 (w : Int)) := by rw [newCell HTV.out _ _ (by omega)]; exact G0.out
        have r7 : V.cell? ⟨gb, 1, none⟩ = some (.int .i64 (h : Int)) := by rw [newCell HTV.out _ _ (by omega)]; exact G1.out
        have r8 : V.cell? ⟨gb, 2, none⟩ = some (.slice (some ⟨m0, 0, none⟩) D0.length D0.length) := by rw [newCell HTV.out _ _ (by omega)]; exact G2.out
        have r9 : V.cell? ⟨cb, 0, none⟩ = some (.int .i64 (w : Int)) := by rw [newCell HTV.out _ _ (by omega)]; exact Q0.out
        have r10 : V.cell? ⟨cb, 1, none⟩ = some (.int .i64 (h : Int)) := by rw [newCell HTV.out _ _ (by omega)]; exact Q1.out
        have r11 : V.cell? ⟨cb, 2, none⟩ = some (.slice (some ⟨g0, 0, none⟩) D0.length D0.length) := by rw [newCell HTV.out _ _ (by omega)]; exact Q2.out
        have HK : Hid (∀ t : World, Below V.heap.size V t → (t.cell? ⟨wr.heap.size, 0, none⟩ = some (.int .i64 (x : Int)) ∧ t.cell? ⟨wr.heap.size, 1, none⟩ = some (.int .i64 (y : Int)) ∧ t.cell? ⟨wr.heap.size, 2, none⟩ = some (.slice (some ⟨ba0, oa0, none⟩) C0.length c0) ∧ t.cell? ⟨ab, 0, none⟩ = some (.int .i64 (x : Int)) ∧ t.cell? ⟨ab, 1, none⟩ = some (.int .i64 (y : Int)) ∧ t.cell? ⟨ab, 2, none⟩ = some (.slice (some ⟨k0, 0, none⟩) C0.length C0.length) ∧ t.cell? ⟨gb, 0, none⟩ = some (.int .i64 (w : Int)) ∧ t.cell? ⟨gb, 1, none⟩ = some (.int .i64 (h : Int)) ∧ t.cell? ⟨gb, 2, none⟩ = some (.slice (some ⟨m0, 0, none⟩) D0.length D0.length) ∧ t.cell? ⟨cb, 0, none⟩ = some (.int .i64 (w : Int)) ∧ t.cell? ⟨cb, 1, none⟩ = some (.int .i64 (h : Int)) ∧ t.cell? ⟨cb, 2, none⟩ = some (.slice (some ⟨g0, 0, none⟩) D0.length D0.length) ∧ Below V.heap.size V t)) := fun t ht => ⟨by rw [newCell ht _ _ (by rw [HZV.out]; omega)]; exact r0, by rw [newCell ht _ _ (by rw [HZV.out]; omega)]; exact r1, by rw [newCell ht _ _ (by rw [HZV.out]; omega)]; exact r2, by rw [newCell ht _ _ (by rw [HZV.out]; omega)]; exact r3, by rw [newCell ht _ _ (by rw [HZV.out]; omega)]; exact r4, by rw [newCell ht _ _ (by rw [HZV.out]; omega)]; exact r5, by rw [newCell ht _ _ (by rw [HZV.out]; omega)]; exact r6, by rw [newCell ht _ _ (by rw [HZV.out]; omega)]; exact r7, by rw [newCell ht _ _ (by rw [HZV.out]; omega)]; exact r8, by rw [newCell ht _ _ (by rw [HZV.out]; omega)]; exact r9, by rw [newCell ht _ _ (by rw [HZV.out]; omega)]; exact r10, by rw [newCell ht _ _ (by rw [HZV.out]; omega)]; exact r11, ht⟩
        have HVD : Hid (Below V.heap.size V V.drew) := below_drew (Below.refl _ _)
        have q0 : wr.cell? ⟨u.heap.size, 0, none⟩ = some (.int .i64 (x : Int)) := by rw [newCell HBr.out _ _ (by omega)]; exact F0.out
        have q1 : wr.cell? ⟨u.heap.size, 1, none⟩ = some (.int .i64 (y : Int)) := by rw [newCell HBr.out _ _ (by omega)]; exact F1.out
        have q2 : wr.cell? ⟨u.heap.size, 2, none⟩ = some (.slice (some ⟨ba0, oa0, none⟩) C0.length c0) := by rw [newCell HBr.out _ _ (by omega)]; exact F2.out
        have HS1 : Hid (∀ t : World, Below V.heap.size V t → Calls Try.prog 12 #[.agg #[.int .i64 (x : Int), .int .i64 (y : Int), .slice (some ⟨k0, 0, none⟩) C0.length C0.length], .agg #[.int .i64 (x : Int), .int .i64 (y : Int), .slice (some ⟨ba0, oa0, none⟩) C0.length c0]] t fun e w' => e = .returned (.bool true) ∧ Below t.heap.size t w') := fun t ht => KS0.out t (below_to HTV.out ht)
        have HS2 : Hid (∀ t : World, Below V.heap.size V t → Calls Try.prog 12 #[.agg #[.int .i64 (w : Int), .int .i64 (h : Int), .slice (some ⟨m0, 0, none⟩) D0.length D0.length], .agg #[.int .i64 (w : Int), .int .i64 (h : Int), .slice (some ⟨g0, 0, none⟩) D0.length D0.length]] t fun e w' => e = .returned (.bool true) ∧ Below t.heap.size t w') := fun t ht => KG0.out t (below_to HTV.out ht)
        clear r0 r1 r2 r3 r4 r5 r6 r7 r8 r9 r10 r11
        go_wp2_with fail
        rw [← hV]
        clear hV
        go_region_held3 (fun t => t.cell? ⟨wr.heap.size, 0, none⟩ = some (.int .i64 (x : Int)) ∧ t.cell? ⟨wr.heap.size, 1, none⟩ = some (.int .i64 (y : Int)) ∧ t.cell? ⟨wr.heap.size, 2, none⟩ = some (.slice (some ⟨ba0, oa0, none⟩) C0.length c0) ∧ t.cell? ⟨ab, 0, none⟩ = some (.int .i64 (x : Int)) ∧ t.cell? ⟨ab, 1, none⟩ = some (.int .i64 (y : Int)) ∧ t.cell? ⟨ab, 2, none⟩ = some (.slice (some ⟨k0, 0, none⟩) C0.length C0.length) ∧ t.cell? ⟨gb, 0, none⟩ = some (.int .i64 (w : Int)) ∧ t.cell? ⟨gb, 1, none⟩ = some (.int .i64 (h : Int)) ∧ t.cell? ⟨gb, 2, none⟩ = some (.slice (some ⟨m0, 0, none⟩) D0.length D0.length) ∧ t.cell? ⟨cb, 0, none⟩ = some (.int .i64 (w : Int)) ∧ t.cell? ⟨cb, 1, none⟩ = some (.int .i64 (h : Int)) ∧ t.cell? ⟨cb, 2, none⟩ = some (.slice (some ⟨g0, 0, none⟩) D0.length D0.length) ∧ Below V.heap.size V t)
          ((exact HK.out _ (by first | exact HVD.out | assumption)))
          (first | (go_at_call 42; refine (KO0.out _).mono ?_; rintro e t1 ⟨rfl, hb1⟩; have hV1 : Below V.heap.size V t1 := below_to HVD.out hb1) | (go_at_call 12; (with_reducible refine (HS1.out _ hV1).mono ?_); rintro e t2 ⟨rfl, hb2⟩; have hV2 : Below V.heap.size V t2 := below_to hV1 hb2) | (go_at_call 12; (with_reducible refine (HS2.out _ hV2).mono ?_); rintro e t3 ⟨rfl, hb3⟩; have hV3 : Below V.heap.size V t3 := below_to hV2 hb3))
        have HV3 : Hid (Below V.heap.size V t3) := hV3
        clear hb1 hb2 hb3 hV1 hV2 hV3 q0 q1 q2 HS1 HS2
        go_wp2_with fail
        go_loopw [17] (fun i wr' => ∃ kv : Int, -3 ≤ kv ∧ kv ≤ 12 ∧ i = .int .i64 kv ∧ Hid (Below V.heap.size V wr')) (fun i _ => (12 - intOf i).toNat)
        case atStart => exact ⟨-3, by omega, by omega, rfl, HV3.out⟩
        case round =>
          obtain ⟨kv, hk0, hk1, rfl, HBw⟩ := hrel
          clear HV3
          by_cases hkl : kv < 12
          · obtain ⟨s0, s1, s2, _, _, _, _, _, _, s3, s4, s5, _⟩ := HK.out _ HBw.out
            obtain ⟨uu, hu⟩ : ∃ q : Int, q = (b1 : Int) + kv := ⟨_, rfl⟩
            obtain ⟨vv, hv⟩ : ∃ q : Int, q = (b2 : Int) - kv := ⟨_, rfl⟩
            have eu : (b1 : Int) + kv = uu := hu.symm
            have ev : (b2 : Int) - kv = vv := hv.symm
            have hbu : -3 ≤ uu ∧ uu ≤ 312 := by omega
            have hbv : -12 ≤ vv ∧ vv ≤ 303 := by omega
            obtain ⟨m1, hm1⟩ : ∃ q : Nat, (if vv < 0 then (0 : Int) else vv) = (q : Int) := ⟨(if vv < 0 then (0 : Int) else vv).toNat, by split <;> omega⟩
            obtain ⟨m2, hm2⟩ : ∃ q : Nat, (if uu < 0 then (0 : Int) else uu) = (q : Int) := ⟨(if uu < 0 then (0 : Int) else uu).toNat, by split <;> omega⟩
            have hm3 : (if (y : Int) - 1 < (m1 : Int) then (y : Int) - 1 else (m1 : Int)) = (nr vv y : Nat) := by
              rw [← hm1]; exact nr_if HY0.out
            have hm4 : (if (x : Int) - 1 < (m2 : Int) then (x : Int) - 1 else (m2 : Int)) = (nr uu x : Nat) := by
              rw [← hm2]; exact nr_if HX0.out
            have hny := nr_lt (i := vv) HY0.out
            have hnx := nr_lt (i := uu) HX0.out
            have hin : nr vv y * x + nr uu x < C0.length := by rw [HL0.out]; exact at_lt hny hnx
            have hval := KC0.out _ (below_to HTV.out HBw.out) _ hin
            have HA1 : Hid (∀ t : World, Below V.heap.size V t → Calls Try.prog 14 #[.agg #[.int .i64 (x : Int), .int .i64 (y : Int), .slice (some ⟨ba0, oa0, none⟩) C0.length c0], .int .i64 uu, .int .i64 vv] t fun e w' => e = .returned (.int .u8 (C0.getD (nr vv y * x + nr uu x) 0 : Nat)) ∧ Below t.heap.size t w') := fun t ht => KA0.out t (below_to HTV.out ht) uu vv
            have HA2 : Hid (∀ t : World, Below V.heap.size V t → Calls Try.prog 14 #[.agg #[.int .i64 (w : Int), .int .i64 (h : Int), .slice (some ⟨g0, 0, none⟩) D0.length D0.length], .int .i64 uu, .int .i64 vv] t fun e w' => e = .returned (.int .u8 (C0.getD (nr vv y * x + nr uu x) 0 : Nat)) ∧ Below t.heap.size t w') := fun t ht => KB0.out t (below_to HTV.out ht) uu vv
            generalize nr vv y = q1 at *
            generalize nr uu x = q2 at *
            obtain ⟨z, hz⟩ : ∃ z, z = q1 * x := ⟨_, rfl⟩
            rw [← hz] at hin hval HA1 HA2
            have ez : (q1 : Int) * (x : Int) = (z : Int) := by rw [← Int.natCast_mul, hz]
            obtain ⟨idx, hidx⟩ : ∃ i, i = z + q2 := ⟨_, rfl⟩
            rw [← hidx] at hin hval HA1 HA2
            have ei : (z : Int) + (q2 : Int) = (idx : Int) := by omega
            have hCb := HCb0.out
            have p1 : (z : Int) ≤ 262144 := by omega
            have p2 : (q2 : Int) ≤ 512 := by omega
            have p3 : (0 : Int) ≤ (idx : Int) := by omega
            have p4 : (idx : Int) < (C0.length : Int) := by omega
            have p5 : (x : Int) ≤ 512 := by have := HX0b.out; omega
            have p6 : (y : Int) ≤ 512 := by have := HY0b.out; omega
            have p7 : (1 : Int) ≤ (x : Int) := by have := HX0.out; omega
            have p8 : (1 : Int) ≤ (y : Int) := by have := HY0.out; omega
            generalize C0.getD idx 0 = val at *
            have p9 : ((val : Int) != (val : Int)) = false := by simp
            have hb12 : (b1 : Int) ≤ 300 := by omega
            have hb22 : (b2 : Int) ≤ 300 := by omega
            clear hu hv hny hnx hin hz hidx hCb
            go_wp2_with (first | (go_at_call 30; (with_reducible refine (HBx.out _).mono ?_); rintro e t4 ⟨rfl, ht4⟩; replace ht4 := ht4.symm; subst ht4) | (go_at_call 30; (with_reducible refine (HBy.out _).mono ?_); rintro e t5 ⟨rfl, ht5⟩; replace ht5 := ht5.symm; subst ht5))
            refine (HA1.out _ HBw.out).mono ?_
            rintro e t6 ⟨rfl, hb6⟩
            have HB6 : Hid (Below V.heap.size V t6) := below_to HBw.out hb6
            clear hb6 s0 s1 s2 s3 s4 s5 hval
            obtain ⟨_, _, _, _, _, _, _, _, _, s3, s4, s5, _⟩ := HK.out _ HB6.out
            go_wp2_with fail
            refine (HA2.out _ HB6.out).mono ?_
            rintro e t7 ⟨rfl, hb7⟩
            have HB7 : Hid (Below V.heap.size V t7) := below_to HB6.out hb7
            clear hb7
            go_wp2_with fail
            go_roundw
            case rel => exact ⟨kv + 1, by omega, by omega, rfl, HB7.out⟩
            case measure => simp [intOf]; omega
          · go_wp2_with fail
            go_roundw
            case rel => exact ⟨1, by omega, by go_num, below_to HTV.out HBw.out⟩
            case measure => simp [intOf]
      · obtain ⟨V, hV⟩ : ∃ V, V = (wr.alloc (.cells #[.int .i64 (x2 : Int), .int .i64 (y2 : Int), .slice (some ⟨ba1, oa1, none⟩) C1.length c1] 24)) := ⟨_, rfl⟩
        have HA : Hid (Below wr.heap.size wr V) := by unfold Hid; rw [hV]; exact from_alloc _ _
        have HTV : Hid (Below T.heap.size T V) := below_to HBr.out HA.out
        have HZV : Hid (V.heap.size = wr.heap.size + 1) := by unfold Hid; rw [hV]; simp
        have hTr := HBr.out.size
        have r0 : V.cell? ⟨wr.heap.size, 0, none⟩ = some (.int .i64 (x2 : Int)) := by rw [hV]; simp
        have r1 : V.cell? ⟨wr.heap.size, 1, none⟩ = some (.int .i64 (y2 : Int)) := by rw [hV]; simp
        have r2 : V.cell? ⟨wr.heap.size, 2, none⟩ = some (.slice (some ⟨ba1, oa1, none⟩) C1.length c1) := by rw [hV]; simp
        have r3 : V.cell? ⟨ab, 3, none⟩ = some (.int .i64 (x2 : Int)) := by rw [newCell HTV.out _ _ (by omega)]; exact A3.out
        have r4 : V.cell? ⟨ab, 4, none⟩ = some (.int .i64 (y2 : Int)) := by rw [newCell HTV.out _ _ (by omega)]; exact A4.out
        have r5 : V.cell? ⟨ab, 5, none⟩ = some (.slice (some ⟨k1, 0, none⟩) C1.length C1.length) := by rw [newCell HTV.out _ _ (by omega)]; exact A5.out
        have r6 : V.cell? ⟨gb, 3, none⟩ = some (.int .i64 (wh : Int)) := by rw [newCell HTV.out _ _ (by omega)]; exact G3.out
        have r7 : V.cell? ⟨gb, 4, none⟩ = some (.int .i64 (hh : Int)) := by rw [newCell HTV.out _ _ (by omega)]; exact G4.out
        have r8 : V.cell? ⟨gb, 5, none⟩ = some (.slice (some ⟨m1, 0, none⟩) D1.length D1.length) := by rw [newCell HTV.out _ _ (by omega)]; exact G5.out
        have r9 : V.cell? ⟨cb, 3, none⟩ = some (.int .i64 (wh : Int)) := by rw [newCell HTV.out _ _ (by omega)]; exact Q3.out
        have r10 : V.cell? ⟨cb, 4, none⟩ = some (.int .i64 (hh : Int)) := by rw [newCell HTV.out _ _ (by omega)]; exact Q4.out
        have r11 : V.cell? ⟨cb, 5, none⟩ = some (.slice (some ⟨g1, 0, none⟩) D1.length D1.length) := by rw [newCell HTV.out _ _ (by omega)]; exact Q5.out
        have HK : Hid (∀ t : World, Below V.heap.size V t → (t.cell? ⟨wr.heap.size, 0, none⟩ = some (.int .i64 (x2 : Int)) ∧ t.cell? ⟨wr.heap.size, 1, none⟩ = some (.int .i64 (y2 : Int)) ∧ t.cell? ⟨wr.heap.size, 2, none⟩ = some (.slice (some ⟨ba1, oa1, none⟩) C1.length c1) ∧ t.cell? ⟨ab, 3, none⟩ = some (.int .i64 (x2 : Int)) ∧ t.cell? ⟨ab, 4, none⟩ = some (.int .i64 (y2 : Int)) ∧ t.cell? ⟨ab, 5, none⟩ = some (.slice (some ⟨k1, 0, none⟩) C1.length C1.length) ∧ t.cell? ⟨gb, 3, none⟩ = some (.int .i64 (wh : Int)) ∧ t.cell? ⟨gb, 4, none⟩ = some (.int .i64 (hh : Int)) ∧ t.cell? ⟨gb, 5, none⟩ = some (.slice (some ⟨m1, 0, none⟩) D1.length D1.length) ∧ t.cell? ⟨cb, 3, none⟩ = some (.int .i64 (wh : Int)) ∧ t.cell? ⟨cb, 4, none⟩ = some (.int .i64 (hh : Int)) ∧ t.cell? ⟨cb, 5, none⟩ = some (.slice (some ⟨g1, 0, none⟩) D1.length D1.length) ∧ Below V.heap.size V t)) := fun t ht => ⟨by rw [newCell ht _ _ (by rw [HZV.out]; omega)]; exact r0, by rw [newCell ht _ _ (by rw [HZV.out]; omega)]; exact r1, by rw [newCell ht _ _ (by rw [HZV.out]; omega)]; exact r2, by rw [newCell ht _ _ (by rw [HZV.out]; omega)]; exact r3, by rw [newCell ht _ _ (by rw [HZV.out]; omega)]; exact r4, by rw [newCell ht _ _ (by rw [HZV.out]; omega)]; exact r5, by rw [newCell ht _ _ (by rw [HZV.out]; omega)]; exact r6, by rw [newCell ht _ _ (by rw [HZV.out]; omega)]; exact r7, by rw [newCell ht _ _ (by rw [HZV.out]; omega)]; exact r8, by rw [newCell ht _ _ (by rw [HZV.out]; omega)]; exact r9, by rw [newCell ht _ _ (by rw [HZV.out]; omega)]; exact r10, by rw [newCell ht _ _ (by rw [HZV.out]; omega)]; exact r11, ht⟩
        have HVD : Hid (Below V.heap.size V V.drew) := below_drew (Below.refl _ _)
        have q0 : wr.cell? ⟨u.heap.size, 3, none⟩ = some (.int .i64 (x2 : Int)) := by rw [newCell HBr.out _ _ (by omega)]; exact F3.out
        have q1 : wr.cell? ⟨u.heap.size, 4, none⟩ = some (.int .i64 (y2 : Int)) := by rw [newCell HBr.out _ _ (by omega)]; exact F4.out
        have q2 : wr.cell? ⟨u.heap.size, 5, none⟩ = some (.slice (some ⟨ba1, oa1, none⟩) C1.length c1) := by rw [newCell HBr.out _ _ (by omega)]; exact F5.out
        have HS1 : Hid (∀ t : World, Below V.heap.size V t → Calls Try.prog 12 #[.agg #[.int .i64 (x2 : Int), .int .i64 (y2 : Int), .slice (some ⟨k1, 0, none⟩) C1.length C1.length], .agg #[.int .i64 (x2 : Int), .int .i64 (y2 : Int), .slice (some ⟨ba1, oa1, none⟩) C1.length c1]] t fun e w' => e = .returned (.bool true) ∧ Below t.heap.size t w') := fun t ht => KS1.out t (below_to HTV.out ht)
        have HS2 : Hid (∀ t : World, Below V.heap.size V t → Calls Try.prog 12 #[.agg #[.int .i64 (wh : Int), .int .i64 (hh : Int), .slice (some ⟨m1, 0, none⟩) D1.length D1.length], .agg #[.int .i64 (wh : Int), .int .i64 (hh : Int), .slice (some ⟨g1, 0, none⟩) D1.length D1.length]] t fun e w' => e = .returned (.bool true) ∧ Below t.heap.size t w') := fun t ht => KG1.out t (below_to HTV.out ht)
        clear r0 r1 r2 r3 r4 r5 r6 r7 r8 r9 r10 r11
        go_wp2_with fail
        rw [← hV]
        clear hV
        go_region_held3 (fun t => t.cell? ⟨wr.heap.size, 0, none⟩ = some (.int .i64 (x2 : Int)) ∧ t.cell? ⟨wr.heap.size, 1, none⟩ = some (.int .i64 (y2 : Int)) ∧ t.cell? ⟨wr.heap.size, 2, none⟩ = some (.slice (some ⟨ba1, oa1, none⟩) C1.length c1) ∧ t.cell? ⟨ab, 3, none⟩ = some (.int .i64 (x2 : Int)) ∧ t.cell? ⟨ab, 4, none⟩ = some (.int .i64 (y2 : Int)) ∧ t.cell? ⟨ab, 5, none⟩ = some (.slice (some ⟨k1, 0, none⟩) C1.length C1.length) ∧ t.cell? ⟨gb, 3, none⟩ = some (.int .i64 (wh : Int)) ∧ t.cell? ⟨gb, 4, none⟩ = some (.int .i64 (hh : Int)) ∧ t.cell? ⟨gb, 5, none⟩ = some (.slice (some ⟨m1, 0, none⟩) D1.length D1.length) ∧ t.cell? ⟨cb, 3, none⟩ = some (.int .i64 (wh : Int)) ∧ t.cell? ⟨cb, 4, none⟩ = some (.int .i64 (hh : Int)) ∧ t.cell? ⟨cb, 5, none⟩ = some (.slice (some ⟨g1, 0, none⟩) D1.length D1.length) ∧ Below V.heap.size V t)
          ((exact HK.out _ (by first | exact HVD.out | assumption)))
          (first | (go_at_call 42; refine (KO1.out _).mono ?_; rintro e t1 ⟨rfl, hb1⟩; have hV1 : Below V.heap.size V t1 := below_to HVD.out hb1) | (go_at_call 12; (with_reducible refine (HS1.out _ hV1).mono ?_); rintro e t2 ⟨rfl, hb2⟩; have hV2 : Below V.heap.size V t2 := below_to hV1 hb2) | (go_at_call 12; (with_reducible refine (HS2.out _ hV2).mono ?_); rintro e t3 ⟨rfl, hb3⟩; have hV3 : Below V.heap.size V t3 := below_to hV2 hb3))
        have HV3 : Hid (Below V.heap.size V t3) := hV3
        clear hb1 hb2 hb3 hV1 hV2 hV3 q0 q1 q2 HS1 HS2
        go_wp2_with fail
        go_loopw [17] (fun i wr' => ∃ kv : Int, -3 ≤ kv ∧ kv ≤ 12 ∧ i = .int .i64 kv ∧ Hid (Below V.heap.size V wr')) (fun i _ => (12 - intOf i).toNat)
        case atStart => exact ⟨-3, by omega, by omega, rfl, HV3.out⟩
        case round =>
          obtain ⟨kv, hk0, hk1, rfl, HBw⟩ := hrel
          clear HV3
          by_cases hkl : kv < 12
          · obtain ⟨s0, s1, s2, _, _, _, _, _, _, s3, s4, s5, _⟩ := HK.out _ HBw.out
            obtain ⟨uu, hu⟩ : ∃ q : Int, q = (b1 : Int) + kv := ⟨_, rfl⟩
            obtain ⟨vv, hv⟩ : ∃ q : Int, q = (b2 : Int) - kv := ⟨_, rfl⟩
            have eu : (b1 : Int) + kv = uu := hu.symm
            have ev : (b2 : Int) - kv = vv := hv.symm
            have hbu : -3 ≤ uu ∧ uu ≤ 312 := by omega
            have hbv : -12 ≤ vv ∧ vv ≤ 303 := by omega
            obtain ⟨m1, hm1⟩ : ∃ q : Nat, (if vv < 0 then (0 : Int) else vv) = (q : Int) := ⟨(if vv < 0 then (0 : Int) else vv).toNat, by split <;> omega⟩
            obtain ⟨m2, hm2⟩ : ∃ q : Nat, (if uu < 0 then (0 : Int) else uu) = (q : Int) := ⟨(if uu < 0 then (0 : Int) else uu).toNat, by split <;> omega⟩
            have hm3 : (if (y2 : Int) - 1 < (m1 : Int) then (y2 : Int) - 1 else (m1 : Int)) = (nr vv y2 : Nat) := by
              rw [← hm1]; exact nr_if HY1.out
            have hm4 : (if (x2 : Int) - 1 < (m2 : Int) then (x2 : Int) - 1 else (m2 : Int)) = (nr uu x2 : Nat) := by
              rw [← hm2]; exact nr_if HX1.out
            have hny := nr_lt (i := vv) HY1.out
            have hnx := nr_lt (i := uu) HX1.out
            have hin : nr vv y2 * x2 + nr uu x2 < C1.length := by rw [HL1.out]; exact at_lt hny hnx
            have hval := KC1.out _ (below_to HTV.out HBw.out) _ hin
            have HA1 : Hid (∀ t : World, Below V.heap.size V t → Calls Try.prog 14 #[.agg #[.int .i64 (x2 : Int), .int .i64 (y2 : Int), .slice (some ⟨ba1, oa1, none⟩) C1.length c1], .int .i64 uu, .int .i64 vv] t fun e w' => e = .returned (.int .u8 (C1.getD (nr vv y2 * x2 + nr uu x2) 0 : Nat)) ∧ Below t.heap.size t w') := fun t ht => KA1.out t (below_to HTV.out ht) uu vv
            have HA2 : Hid (∀ t : World, Below V.heap.size V t → Calls Try.prog 14 #[.agg #[.int .i64 (wh : Int), .int .i64 (hh : Int), .slice (some ⟨g1, 0, none⟩) D1.length D1.length], .int .i64 uu, .int .i64 vv] t fun e w' => e = .returned (.int .u8 (C1.getD (nr vv y2 * x2 + nr uu x2) 0 : Nat)) ∧ Below t.heap.size t w') := fun t ht => KB1.out t (below_to HTV.out ht) uu vv
            generalize nr vv y2 = q1 at *
            generalize nr uu x2 = q2 at *
            obtain ⟨z, hz⟩ : ∃ z, z = q1 * x2 := ⟨_, rfl⟩
            rw [← hz] at hin hval HA1 HA2
            have ez : (q1 : Int) * (x2 : Int) = (z : Int) := by rw [← Int.natCast_mul, hz]
            obtain ⟨idx, hidx⟩ : ∃ i, i = z + q2 := ⟨_, rfl⟩
            rw [← hidx] at hin hval HA1 HA2
            have ei : (z : Int) + (q2 : Int) = (idx : Int) := by omega
            have hCb := HCb1.out
            have p1 : (z : Int) ≤ 262144 := by omega
            have p2 : (q2 : Int) ≤ 512 := by omega
            have p3 : (0 : Int) ≤ (idx : Int) := by omega
            have p4 : (idx : Int) < (C1.length : Int) := by omega
            have p5 : (x2 : Int) ≤ 512 := by have := HX1b.out; omega
            have p6 : (y2 : Int) ≤ 512 := by have := HY1b.out; omega
            have p7 : (1 : Int) ≤ (x2 : Int) := by have := HX1.out; omega
            have p8 : (1 : Int) ≤ (y2 : Int) := by have := HY1.out; omega
            generalize C1.getD idx 0 = val at *
            have p9 : ((val : Int) != (val : Int)) = false := by simp
            have hb12 : (b1 : Int) ≤ 300 := by omega
            have hb22 : (b2 : Int) ≤ 300 := by omega
            clear hu hv hny hnx hin hz hidx hCb
            go_wp2_with (first | (go_at_call 30; (with_reducible refine (HBx.out _).mono ?_); rintro e t4 ⟨rfl, ht4⟩; replace ht4 := ht4.symm; subst ht4) | (go_at_call 30; (with_reducible refine (HBy.out _).mono ?_); rintro e t5 ⟨rfl, ht5⟩; replace ht5 := ht5.symm; subst ht5))
            refine (HA1.out _ HBw.out).mono ?_
            rintro e t6 ⟨rfl, hb6⟩
            have HB6 : Hid (Below V.heap.size V t6) := below_to HBw.out hb6
            clear hb6 s0 s1 s2 s3 s4 s5 hval
            obtain ⟨_, _, _, _, _, _, _, _, _, s3, s4, s5, _⟩ := HK.out _ HB6.out
            go_wp2_with fail
            refine (HA2.out _ HB6.out).mono ?_
            rintro e t7 ⟨rfl, hb7⟩
            have HB7 : Hid (Below V.heap.size V t7) := below_to HB6.out hb7
            clear hb7
            go_wp2_with fail
            go_roundw
            case rel => exact ⟨kv + 1, by omega, by omega, rfl, HB7.out⟩
            case measure => simp [intOf]; omega
          · go_wp2_with fail
            go_roundw
            case rel => exact ⟨2, by omega, by go_num, below_to HTV.out HBw.out⟩
            case measure => simp [intOf]
      · obtain ⟨V, hV⟩ : ∃ V, V = (wr.alloc (.cells #[.int .i64 (x2 : Int), .int .i64 (y2 : Int), .slice (some ⟨ba2, oa2, none⟩) C2.length c2] 24)) := ⟨_, rfl⟩
        have HA : Hid (Below wr.heap.size wr V) := by unfold Hid; rw [hV]; exact from_alloc _ _
        have HTV : Hid (Below T.heap.size T V) := below_to HBr.out HA.out
        have HZV : Hid (V.heap.size = wr.heap.size + 1) := by unfold Hid; rw [hV]; simp
        have hTr := HBr.out.size
        have r0 : V.cell? ⟨wr.heap.size, 0, none⟩ = some (.int .i64 (x2 : Int)) := by rw [hV]; simp
        have r1 : V.cell? ⟨wr.heap.size, 1, none⟩ = some (.int .i64 (y2 : Int)) := by rw [hV]; simp
        have r2 : V.cell? ⟨wr.heap.size, 2, none⟩ = some (.slice (some ⟨ba2, oa2, none⟩) C2.length c2) := by rw [hV]; simp
        have r3 : V.cell? ⟨ab, 6, none⟩ = some (.int .i64 (x2 : Int)) := by rw [newCell HTV.out _ _ (by omega)]; exact A6.out
        have r4 : V.cell? ⟨ab, 7, none⟩ = some (.int .i64 (y2 : Int)) := by rw [newCell HTV.out _ _ (by omega)]; exact A7.out
        have r5 : V.cell? ⟨ab, 8, none⟩ = some (.slice (some ⟨k2, 0, none⟩) C2.length C2.length) := by rw [newCell HTV.out _ _ (by omega)]; exact A8.out
        have r6 : V.cell? ⟨gb, 6, none⟩ = some (.int .i64 (wh : Int)) := by rw [newCell HTV.out _ _ (by omega)]; exact G6.out
        have r7 : V.cell? ⟨gb, 7, none⟩ = some (.int .i64 (hh : Int)) := by rw [newCell HTV.out _ _ (by omega)]; exact G7.out
        have r8 : V.cell? ⟨gb, 8, none⟩ = some (.slice (some ⟨m2, 0, none⟩) D2.length D2.length) := by rw [newCell HTV.out _ _ (by omega)]; exact G8.out
        have r9 : V.cell? ⟨cb, 6, none⟩ = some (.int .i64 (wh : Int)) := by rw [newCell HTV.out _ _ (by omega)]; exact Q6.out
        have r10 : V.cell? ⟨cb, 7, none⟩ = some (.int .i64 (hh : Int)) := by rw [newCell HTV.out _ _ (by omega)]; exact Q7.out
        have r11 : V.cell? ⟨cb, 8, none⟩ = some (.slice (some ⟨g2, 0, none⟩) D2.length D2.length) := by rw [newCell HTV.out _ _ (by omega)]; exact Q8.out
        have HK : Hid (∀ t : World, Below V.heap.size V t → (t.cell? ⟨wr.heap.size, 0, none⟩ = some (.int .i64 (x2 : Int)) ∧ t.cell? ⟨wr.heap.size, 1, none⟩ = some (.int .i64 (y2 : Int)) ∧ t.cell? ⟨wr.heap.size, 2, none⟩ = some (.slice (some ⟨ba2, oa2, none⟩) C2.length c2) ∧ t.cell? ⟨ab, 6, none⟩ = some (.int .i64 (x2 : Int)) ∧ t.cell? ⟨ab, 7, none⟩ = some (.int .i64 (y2 : Int)) ∧ t.cell? ⟨ab, 8, none⟩ = some (.slice (some ⟨k2, 0, none⟩) C2.length C2.length) ∧ t.cell? ⟨gb, 6, none⟩ = some (.int .i64 (wh : Int)) ∧ t.cell? ⟨gb, 7, none⟩ = some (.int .i64 (hh : Int)) ∧ t.cell? ⟨gb, 8, none⟩ = some (.slice (some ⟨m2, 0, none⟩) D2.length D2.length) ∧ t.cell? ⟨cb, 6, none⟩ = some (.int .i64 (wh : Int)) ∧ t.cell? ⟨cb, 7, none⟩ = some (.int .i64 (hh : Int)) ∧ t.cell? ⟨cb, 8, none⟩ = some (.slice (some ⟨g2, 0, none⟩) D2.length D2.length) ∧ Below V.heap.size V t)) := fun t ht => ⟨by rw [newCell ht _ _ (by rw [HZV.out]; omega)]; exact r0, by rw [newCell ht _ _ (by rw [HZV.out]; omega)]; exact r1, by rw [newCell ht _ _ (by rw [HZV.out]; omega)]; exact r2, by rw [newCell ht _ _ (by rw [HZV.out]; omega)]; exact r3, by rw [newCell ht _ _ (by rw [HZV.out]; omega)]; exact r4, by rw [newCell ht _ _ (by rw [HZV.out]; omega)]; exact r5, by rw [newCell ht _ _ (by rw [HZV.out]; omega)]; exact r6, by rw [newCell ht _ _ (by rw [HZV.out]; omega)]; exact r7, by rw [newCell ht _ _ (by rw [HZV.out]; omega)]; exact r8, by rw [newCell ht _ _ (by rw [HZV.out]; omega)]; exact r9, by rw [newCell ht _ _ (by rw [HZV.out]; omega)]; exact r10, by rw [newCell ht _ _ (by rw [HZV.out]; omega)]; exact r11, ht⟩
        have HVD : Hid (Below V.heap.size V V.drew) := below_drew (Below.refl _ _)
        have q0 : wr.cell? ⟨u.heap.size, 6, none⟩ = some (.int .i64 (x2 : Int)) := by rw [newCell HBr.out _ _ (by omega)]; exact F6.out
        have q1 : wr.cell? ⟨u.heap.size, 7, none⟩ = some (.int .i64 (y2 : Int)) := by rw [newCell HBr.out _ _ (by omega)]; exact F7.out
        have q2 : wr.cell? ⟨u.heap.size, 8, none⟩ = some (.slice (some ⟨ba2, oa2, none⟩) C2.length c2) := by rw [newCell HBr.out _ _ (by omega)]; exact F8.out
        have HS1 : Hid (∀ t : World, Below V.heap.size V t → Calls Try.prog 12 #[.agg #[.int .i64 (x2 : Int), .int .i64 (y2 : Int), .slice (some ⟨k2, 0, none⟩) C2.length C2.length], .agg #[.int .i64 (x2 : Int), .int .i64 (y2 : Int), .slice (some ⟨ba2, oa2, none⟩) C2.length c2]] t fun e w' => e = .returned (.bool true) ∧ Below t.heap.size t w') := fun t ht => KS2.out t (below_to HTV.out ht)
        have HS2 : Hid (∀ t : World, Below V.heap.size V t → Calls Try.prog 12 #[.agg #[.int .i64 (wh : Int), .int .i64 (hh : Int), .slice (some ⟨m2, 0, none⟩) D2.length D2.length], .agg #[.int .i64 (wh : Int), .int .i64 (hh : Int), .slice (some ⟨g2, 0, none⟩) D2.length D2.length]] t fun e w' => e = .returned (.bool true) ∧ Below t.heap.size t w') := fun t ht => KG2.out t (below_to HTV.out ht)
        clear r0 r1 r2 r3 r4 r5 r6 r7 r8 r9 r10 r11
        go_wp2_with fail
        rw [← hV]
        clear hV
        go_region_held3 (fun t => t.cell? ⟨wr.heap.size, 0, none⟩ = some (.int .i64 (x2 : Int)) ∧ t.cell? ⟨wr.heap.size, 1, none⟩ = some (.int .i64 (y2 : Int)) ∧ t.cell? ⟨wr.heap.size, 2, none⟩ = some (.slice (some ⟨ba2, oa2, none⟩) C2.length c2) ∧ t.cell? ⟨ab, 6, none⟩ = some (.int .i64 (x2 : Int)) ∧ t.cell? ⟨ab, 7, none⟩ = some (.int .i64 (y2 : Int)) ∧ t.cell? ⟨ab, 8, none⟩ = some (.slice (some ⟨k2, 0, none⟩) C2.length C2.length) ∧ t.cell? ⟨gb, 6, none⟩ = some (.int .i64 (wh : Int)) ∧ t.cell? ⟨gb, 7, none⟩ = some (.int .i64 (hh : Int)) ∧ t.cell? ⟨gb, 8, none⟩ = some (.slice (some ⟨m2, 0, none⟩) D2.length D2.length) ∧ t.cell? ⟨cb, 6, none⟩ = some (.int .i64 (wh : Int)) ∧ t.cell? ⟨cb, 7, none⟩ = some (.int .i64 (hh : Int)) ∧ t.cell? ⟨cb, 8, none⟩ = some (.slice (some ⟨g2, 0, none⟩) D2.length D2.length) ∧ Below V.heap.size V t)
          ((exact HK.out _ (by first | exact HVD.out | assumption)))
          (first | (go_at_call 42; refine (KO2.out _).mono ?_; rintro e t1 ⟨rfl, hb1⟩; have hV1 : Below V.heap.size V t1 := below_to HVD.out hb1) | (go_at_call 12; (with_reducible refine (HS1.out _ hV1).mono ?_); rintro e t2 ⟨rfl, hb2⟩; have hV2 : Below V.heap.size V t2 := below_to hV1 hb2) | (go_at_call 12; (with_reducible refine (HS2.out _ hV2).mono ?_); rintro e t3 ⟨rfl, hb3⟩; have hV3 : Below V.heap.size V t3 := below_to hV2 hb3))
        have HV3 : Hid (Below V.heap.size V t3) := hV3
        clear hb1 hb2 hb3 hV1 hV2 hV3 q0 q1 q2 HS1 HS2
        go_wp2_with fail
        go_loopw [17] (fun i wr' => ∃ kv : Int, -3 ≤ kv ∧ kv ≤ 12 ∧ i = .int .i64 kv ∧ Hid (Below V.heap.size V wr')) (fun i _ => (12 - intOf i).toNat)
        case atStart => exact ⟨-3, by omega, by omega, rfl, HV3.out⟩
        case round =>
          obtain ⟨kv, hk0, hk1, rfl, HBw⟩ := hrel
          clear HV3
          by_cases hkl : kv < 12
          · obtain ⟨s0, s1, s2, _, _, _, _, _, _, s3, s4, s5, _⟩ := HK.out _ HBw.out
            obtain ⟨uu, hu⟩ : ∃ q : Int, q = (b1 : Int) + kv := ⟨_, rfl⟩
            obtain ⟨vv, hv⟩ : ∃ q : Int, q = (b2 : Int) - kv := ⟨_, rfl⟩
            have eu : (b1 : Int) + kv = uu := hu.symm
            have ev : (b2 : Int) - kv = vv := hv.symm
            have hbu : -3 ≤ uu ∧ uu ≤ 312 := by omega
            have hbv : -12 ≤ vv ∧ vv ≤ 303 := by omega
            obtain ⟨m1, hm1⟩ : ∃ q : Nat, (if vv < 0 then (0 : Int) else vv) = (q : Int) := ⟨(if vv < 0 then (0 : Int) else vv).toNat, by split <;> omega⟩
            obtain ⟨m2, hm2⟩ : ∃ q : Nat, (if uu < 0 then (0 : Int) else uu) = (q : Int) := ⟨(if uu < 0 then (0 : Int) else uu).toNat, by split <;> omega⟩
            have hm3 : (if (y2 : Int) - 1 < (m1 : Int) then (y2 : Int) - 1 else (m1 : Int)) = (nr vv y2 : Nat) := by
              rw [← hm1]; exact nr_if HY2.out
            have hm4 : (if (x2 : Int) - 1 < (m2 : Int) then (x2 : Int) - 1 else (m2 : Int)) = (nr uu x2 : Nat) := by
              rw [← hm2]; exact nr_if HX2.out
            have hny := nr_lt (i := vv) HY2.out
            have hnx := nr_lt (i := uu) HX2.out
            have hin : nr vv y2 * x2 + nr uu x2 < C2.length := by rw [HL2.out]; exact at_lt hny hnx
            have hval := KC2.out _ (below_to HTV.out HBw.out) _ hin
            have HA1 : Hid (∀ t : World, Below V.heap.size V t → Calls Try.prog 14 #[.agg #[.int .i64 (x2 : Int), .int .i64 (y2 : Int), .slice (some ⟨ba2, oa2, none⟩) C2.length c2], .int .i64 uu, .int .i64 vv] t fun e w' => e = .returned (.int .u8 (C2.getD (nr vv y2 * x2 + nr uu x2) 0 : Nat)) ∧ Below t.heap.size t w') := fun t ht => KA2.out t (below_to HTV.out ht) uu vv
            have HA2 : Hid (∀ t : World, Below V.heap.size V t → Calls Try.prog 14 #[.agg #[.int .i64 (wh : Int), .int .i64 (hh : Int), .slice (some ⟨g2, 0, none⟩) D2.length D2.length], .int .i64 uu, .int .i64 vv] t fun e w' => e = .returned (.int .u8 (C2.getD (nr vv y2 * x2 + nr uu x2) 0 : Nat)) ∧ Below t.heap.size t w') := fun t ht => KB2.out t (below_to HTV.out ht) uu vv
            generalize nr vv y2 = q1 at *
            generalize nr uu x2 = q2 at *
            obtain ⟨z, hz⟩ : ∃ z, z = q1 * x2 := ⟨_, rfl⟩
            rw [← hz] at hin hval HA1 HA2
            have ez : (q1 : Int) * (x2 : Int) = (z : Int) := by rw [← Int.natCast_mul, hz]
            obtain ⟨idx, hidx⟩ : ∃ i, i = z + q2 := ⟨_, rfl⟩
            rw [← hidx] at hin hval HA1 HA2
            have ei : (z : Int) + (q2 : Int) = (idx : Int) := by omega
            have hCb := HCb2.out
            have p1 : (z : Int) ≤ 262144 := by omega
            have p2 : (q2 : Int) ≤ 512 := by omega
            have p3 : (0 : Int) ≤ (idx : Int) := by omega
            have p4 : (idx : Int) < (C2.length : Int) := by omega
            have p5 : (x2 : Int) ≤ 512 := by have := HX2b.out; omega
            have p6 : (y2 : Int) ≤ 512 := by have := HY2b.out; omega
            have p7 : (1 : Int) ≤ (x2 : Int) := by have := HX2.out; omega
            have p8 : (1 : Int) ≤ (y2 : Int) := by have := HY2.out; omega
            generalize C2.getD idx 0 = val at *
            have p9 : ((val : Int) != (val : Int)) = false := by simp
            have hb12 : (b1 : Int) ≤ 300 := by omega
            have hb22 : (b2 : Int) ≤ 300 := by omega
            clear hu hv hny hnx hin hz hidx hCb
            go_wp2_with (first | (go_at_call 30; (with_reducible refine (HBx.out _).mono ?_); rintro e t4 ⟨rfl, ht4⟩; replace ht4 := ht4.symm; subst ht4) | (go_at_call 30; (with_reducible refine (HBy.out _).mono ?_); rintro e t5 ⟨rfl, ht5⟩; replace ht5 := ht5.symm; subst ht5))
            refine (HA1.out _ HBw.out).mono ?_
            rintro e t6 ⟨rfl, hb6⟩
            have HB6 : Hid (Below V.heap.size V t6) := below_to HBw.out hb6
            clear hb6 s0 s1 s2 s3 s4 s5 hval
            obtain ⟨_, _, _, _, _, _, _, _, _, s3, s4, s5, _⟩ := HK.out _ HB6.out
            go_wp2_with fail
            refine (HA2.out _ HB6.out).mono ?_
            rintro e t7 ⟨rfl, hb7⟩
            have HB7 : Hid (Below V.heap.size V t7) := below_to HB6.out hb7
            clear hb7
            go_wp2_with fail
            go_roundw
            case rel => exact ⟨kv + 1, by omega, by omega, rfl, HB7.out⟩
            case measure => simp [intOf]; omega
          · go_wp2_with fail
            go_roundw
            case rel => exact ⟨3, by omega, by go_num, below_to HTV.out HBw.out⟩
            case measure => simp [intOf]
      · go_wp2_with fail
        go_ret
        exact ⟨rfl, below_to HBT.out HBr.out⟩
  · rw [fk_no hF]
    have HF : Hid _ := hF
    clear hF
    go_wp2_with fail
    refine (coded_no HF.out).mono ?_
    rintro e w3 ⟨rfl, hb⟩
    have HB3 : Hid (Below u.heap.size u w3) := below_to HB2.out hb
    clear hb
    go_wp2_with fail
    go_ret
    exact ⟨rfl, to_alloc HB3.out _⟩

end Go.Proofs.Ytlgfkkegehpllaa
