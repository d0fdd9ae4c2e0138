/- DERIVED. The walk of SubpelKnown. -/
import Derived.Test.YtgmdanipcnkhdabDoorEa
import Derived.Test.YtgmdanipcnkhdabDoorOp
import Derived.Deep.DeepCutAuto
namespace Go.Proofs.YtgmdanipcnkhdabDoor
open Go.RowKit

/-- places that Fetch refuses, and pairs that Taps refuses -/
def kT : List Int := [0, 0, 3, 4, 0, 0, 0, 4, 3, 0, 0, 0, 65, 4, 0, 0, 0, 4, 65, 0, 1048577, 0, 4, 4, 0, -1048577, 0, 4, 4, 0, 0, 1048577, 4, 4, 0, 0, -1048577, 4, 4, 0, 0, 0, 4, 4, -1, 0, 0, 4, 4, 3]
def kP : List Int := [3, 0, -1, 0, 0, 16, 0, -1, 2, 16]
def badB (a b c d f : Int) : Bool := !(decide (-1048576 ≤ a ∧ a ≤ 1048576) && decide (-1048576 ≤ b ∧ b ≤ 1048576) && decide (4 ≤ c ∧ c ≤ 64) && decide (4 ≤ d ∧ d ≤ 64) && decide (0 ≤ f ∧ f ≤ 2))
theorem bad_no {W H : Int} {C : List Nat} {a b c d f : Int} (h : badB a b c d f = true) : ¬ FOk W H C a b c d f := fun k => by
  unfold badB at h
  rw [decide_eq_true k.x, decide_eq_true k.y, decide_eq_true k.w, decide_eq_true k.h, decide_eq_true k.k] at h
  cases h
theorem kT_bad : ∀ q, q < 10 → badB (kT.getD (q * 5) 0) (kT.getD (q * 5 + 1) 0) (kT.getD (q * 5 + 2) 0) (kT.getD (q * 5 + 3) 0) (kT.getD (q * 5 + 4) 0) = true := by decide +kernel
theorem kP_bad : ∀ q, q < 5 → ¬ (0 ≤ kP.getD (q * 2) 0 ∧ kP.getD (q * 2) 0 ≤ 2 ∧ 0 ≤ kP.getD (q * 2 + 1) 0 ∧ kP.getD (q * 2 + 1) 0 ≤ 15) := by decide +kernel
set_option maxRecDepth 100000 in
theorem gR_c : gR 0 0 0 = [0, 100, 100, 0] := by decide +kernel
set_option maxRecDepth 100000 in
theorem gR_d : gR (-16) 0 2 = [0, 0, 100, 100] := by decide +kernel
set_option maxRecDepth 100000 in
theorem gR_e : gR 1048576 (-1048576) 0 = [0, 0, 0, 0] := by decide +kernel
/-- a row, and what it is held against -/
theorem eq_row {w : World} {g : Nat} {p q r s : Nat} (hs : Sl w .u8 (some ⟨g, 0, none⟩) [p, q, r, s]) : Calls Tryd.prog 12 #[.slice (some ⟨g, 0, none⟩) 4 16, .slice (some ⟨w.heap.size, 0, none⟩) 4 4] (w.alloc (.cells #[.int .u8 (p : Int), .int .u8 (q : Int), .int .u8 (r : Int), .int .u8 (s : Int)] 5)) fun e w' => e = .returned (.bool true) ∧ Below (w.alloc (.cells #[.int .u8 (p : Int), .int .u8 (q : Int), .int .u8 (r : Int), .int .u8 (s : Int)] 5)).heap.size (w.alloc (.cells #[.int .u8 (p : Int), .int .u8 (q : Int), .int .u8 (r : Int), .int .u8 (s : Int)] 5)) w' := by
  have := eqBytes_at (c := 16) (d := 4) (hs.alloc (.cells #[.int .u8 (p : Int), .int .u8 (q : Int), .int .u8 (r : Int), .int .u8 (s : Int)] 5)) (lit4 w p q r s).sl rfl rfl (by simp) (by simp)
  rwa [eqB_self] at this

set_option maxRecDepth 100000 in
set_option maxHeartbeats 4000000 in
theorem known_walk {u : World} (hg : Gt u) : Calls Tryd.prog 5 #[] u fun e w' => e = .returned (.bool true) ∧ Below u.heap.size u w' := by
  have HG : Hid (Gt u) := hg
  clear hg
  have HT0 : Hid (∀ t : World, Below u.heap.size u t → Calls Tryd.prog 11 #[.int .i64 0, .int .i64 8] t fun e w' => e = .returned (.tuple #[.agg #[.int .i64 0, .int .i64 2, .int .i64 (-14), .int .i64 76, .int .i64 76, .int .i64 (-14), .int .i64 2, .int .i64 0], .int .i64 0]) ∧ Below t.heap.size t w') := fun t ht => taps_ok (k := 0) (f := 8) (HG.out.to ht) (by omega) (by omega)
  have HT1 : Hid (∀ t : World, Below u.heap.size u t → Calls Tryd.prog 11 #[.int .i64 2, .int .i64 3] t fun e w' => e = .returned (.tuple #[.agg #[.int .i64 0, .int .i64 0, .int .i64 0, .int .i64 104, .int .i64 24, .int .i64 0, .int .i64 0, .int .i64 0], .int .i64 0]) ∧ Below t.heap.size t w') := fun t ht => taps_ok (k := 2) (f := 3) (HG.out.to ht) (by omega) (by omega)
  have HT2 : Hid (∀ t : World, Below u.heap.size u t → Calls Tryd.prog 11 #[.int .i64 1, .int .i64 9] t fun e w' => e = .returned (.tuple #[.agg #[.int .i64 0, .int .i64 0, .int .i64 12, .int .i64 48, .int .i64 54, .int .i64 16, .int .i64 (-2), .int .i64 0], .int .i64 0]) ∧ Below t.heap.size t w') := fun t ht => taps_ok (k := 1) (f := 9) (HG.out.to ht) (by omega) (by omega)
  have HR0 : Hid (∀ t : World, Below u.heap.size u t → Calls Tryd.prog 13 #[.int .i64 0, .int .i64 0, .int .i64 0] t fun e w' => Rn t w' e [0, 100, 100, 0]) := fun t ht => by
    have := row_any (u := t) (px := 0) (py := 0) (k := 0) (HG.out.to ht) (by omega) (by omega) (by omega)
    rwa [gR_c] at this
  have HR1 : Hid (∀ t : World, Below u.heap.size u t → Calls Tryd.prog 13 #[.int .i64 (-16), .int .i64 0, .int .i64 2] t fun e w' => Rn t w' e [0, 0, 100, 100]) := fun t ht => by
    have := row_any (u := t) (px := (-16)) (py := 0) (k := 2) (HG.out.to ht) (by omega) (by omega) (by omega)
    rwa [gR_d] at this
  have HR2 : Hid (∀ t : World, Below u.heap.size u t → Calls Tryd.prog 13 #[.int .i64 1048576, .int .i64 (-1048576), .int .i64 0] t fun e w' => Rn t w' e [0, 0, 0, 0]) := fun t ht => by
    have := row_any (u := t) (px := 1048576) (py := (-1048576)) (k := 0) (HG.out.to ht) (by omega) (by omega) (by omega)
    rwa [gR_e] at this
  go_enter Tryd.func5, Tryd.ntmps5
  go_wp2_with fail
  refine (HT0.out _ (Below.refl _ _)).mono ?_
  rintro e w0 ⟨rfl, hb⟩
  have HB0 : Hid (Below u.heap.size u w0) := below_to (Below.refl _ _) hb
  clear hb
  go_upto_region 2 with fail
  have HA000 : Hid (Ri 37 (w0.alloc (.cells #[.int .i64 0, .int .i64 2, .int .i64 (-14), .int .i64 76, .int .i64 76, .int .i64 (-14), .int .i64 2, .int .i64 0] 37)) w0.heap.size [0, 2, -14, 76, 76, -14, 2, 0]) := Ri.built 37 w0 [0, 2, -14, 76, 76, -14, 2, 0] rfl
  have HC0 : Hid (Below u.heap.size u (w0.alloc (.cells #[.int .i64 0, .int .i64 2, .int .i64 (-14), .int .i64 76, .int .i64 76, .int .i64 (-14), .int .i64 2, .int .i64 0] 37))) := to_alloc HB0.out _
  generalize (w0.alloc (.cells #[.int .i64 0, .int .i64 2, .int .i64 (-14), .int .i64 76, .int .i64 76, .int .i64 (-14), .int .i64 2, .int .i64 0] 37)) = x0 at *
  generalize w0.heap.size = b0 at *
  have HA00 : Hid (Ri 37 x0 b0 [0, 2, -14, 76, 76, -14, 2, 0]) := HA000.out
  clear HA000
  clear HB0 HT0
  go_wp2_with fail
  refine (HT1.out _ HC0.out).mono ?_
  rintro e w1 ⟨rfl, hb⟩
  have HA01 : Hid (Ri 37 w1 b0 [0, 2, -14, 76, 76, -14, 2, 0]) := HA00.out.to hb
  have HB1 : Hid (Below u.heap.size u w1) := below_to HC0.out hb
  clear hb HA00 HC0
  go_upto_region 3 with fail
  have HA110 : Hid (Ri 37 (w1.alloc (.cells #[.int .i64 0, .int .i64 0, .int .i64 0, .int .i64 104, .int .i64 24, .int .i64 0, .int .i64 0, .int .i64 0] 37)) w1.heap.size [0, 0, 0, 104, 24, 0, 0, 0]) := Ri.built 37 w1 [0, 0, 0, 104, 24, 0, 0, 0] rfl
  have HC1 : Hid (Below u.heap.size u (w1.alloc (.cells #[.int .i64 0, .int .i64 0, .int .i64 0, .int .i64 104, .int .i64 24, .int .i64 0, .int .i64 0, .int .i64 0] 37))) := to_alloc HB1.out _
  have HA010 : Hid (Ri 37 (w1.alloc (.cells #[.int .i64 0, .int .i64 0, .int .i64 0, .int .i64 104, .int .i64 24, .int .i64 0, .int .i64 0, .int .i64 0] 37)) b0 [0, 2, -14, 76, 76, -14, 2, 0]) := HA01.out.to (from_alloc _ _)
  generalize (w1.alloc (.cells #[.int .i64 0, .int .i64 0, .int .i64 0, .int .i64 104, .int .i64 24, .int .i64 0, .int .i64 0, .int .i64 0] 37)) = x1 at *
  generalize w1.heap.size = b1 at *
  clear HA01
  have HA01 : Hid (Ri 37 x1 b0 [0, 2, -14, 76, 76, -14, 2, 0]) := HA010.out
  clear HA010
  have HA11 : Hid (Ri 37 x1 b1 [0, 0, 0, 104, 24, 0, 0, 0]) := HA110.out
  clear HA110
  clear HB1 HT1
  go_wp2_with fail
  refine (HT2.out _ HC1.out).mono ?_
  rintro e w2 ⟨rfl, hb⟩
  have HA02 : Hid (Ri 37 w2 b0 [0, 2, -14, 76, 76, -14, 2, 0]) := HA01.out.to hb
  have HA12 : Hid (Ri 37 w2 b1 [0, 0, 0, 104, 24, 0, 0, 0]) := HA11.out.to hb
  have HB2 : Hid (Below u.heap.size u w2) := below_to HC1.out hb
  clear hb HA01 HA11 HC1
  go_upto_region 4 with fail
  have HA220 : Hid (Ri 37 (w2.alloc (.cells #[.int .i64 0, .int .i64 0, .int .i64 12, .int .i64 48, .int .i64 54, .int .i64 16, .int .i64 (-2), .int .i64 0] 37)) w2.heap.size [0, 0, 12, 48, 54, 16, -2, 0]) := Ri.built 37 w2 [0, 0, 12, 48, 54, 16, -2, 0] rfl
  have HC2 : Hid (Below u.heap.size u (w2.alloc (.cells #[.int .i64 0, .int .i64 0, .int .i64 12, .int .i64 48, .int .i64 54, .int .i64 16, .int .i64 (-2), .int .i64 0] 37))) := to_alloc HB2.out _
  have HA020 : Hid (Ri 37 (w2.alloc (.cells #[.int .i64 0, .int .i64 0, .int .i64 12, .int .i64 48, .int .i64 54, .int .i64 16, .int .i64 (-2), .int .i64 0] 37)) b0 [0, 2, -14, 76, 76, -14, 2, 0]) := HA02.out.to (from_alloc _ _)
  have HA120 : Hid (Ri 37 (w2.alloc (.cells #[.int .i64 0, .int .i64 0, .int .i64 12, .int .i64 48, .int .i64 54, .int .i64 16, .int .i64 (-2), .int .i64 0] 37)) b1 [0, 0, 0, 104, 24, 0, 0, 0]) := HA12.out.to (from_alloc _ _)
  generalize (w2.alloc (.cells #[.int .i64 0, .int .i64 0, .int .i64 12, .int .i64 48, .int .i64 54, .int .i64 16, .int .i64 (-2), .int .i64 0] 37)) = x2 at *
  generalize w2.heap.size = b2 at *
  clear HA02
  clear HA12
  have HA02 : Hid (Ri 37 x2 b0 [0, 2, -14, 76, 76, -14, 2, 0]) := HA020.out
  clear HA020
  have HA12 : Hid (Ri 37 x2 b1 [0, 0, 0, 104, 24, 0, 0, 0]) := HA120.out
  clear HA120
  have HA22 : Hid (Ri 37 x2 b2 [0, 0, 12, 48, 54, 16, -2, 0]) := HA220.out
  clear HA220
  clear HB2 HT2
  have c00 := HA02.out.cell 0 (by simp)
  have c01 := HA02.out.cell 1 (by simp)
  have c02 := HA02.out.cell 2 (by simp)
  have c03 := HA02.out.cell 3 (by simp)
  have c04 := HA02.out.cell 4 (by simp)
  have c05 := HA02.out.cell 5 (by simp)
  have c06 := HA02.out.cell 6 (by simp)
  have c07 := HA02.out.cell 7 (by simp)
  have c10 := HA12.out.cell 0 (by simp)
  have c11 := HA12.out.cell 1 (by simp)
  have c12 := HA12.out.cell 2 (by simp)
  have c13 := HA12.out.cell 3 (by simp)
  have c14 := HA12.out.cell 4 (by simp)
  have c15 := HA12.out.cell 5 (by simp)
  have c16 := HA12.out.cell 6 (by simp)
  have c17 := HA12.out.cell 7 (by simp)
  have c20 := HA22.out.cell 0 (by simp)
  have c21 := HA22.out.cell 1 (by simp)
  have c22 := HA22.out.cell 2 (by simp)
  have c23 := HA22.out.cell 3 (by simp)
  have c24 := HA22.out.cell 4 (by simp)
  have c25 := HA22.out.cell 5 (by simp)
  have c26 := HA22.out.cell 6 (by simp)
  have c27 := HA22.out.cell 7 (by simp)
  simp only [List.getD_cons_zero, List.getD_cons_succ] at c00 c01 c02 c03 c04 c05 c06 c07 c10 c11 c12 c13 c14 c15 c16 c17 c20 c21 c22 c23 c24 c25 c26 c27
  have hq0 := fun v => eq8s v (0) (2) (-14) (76) (76) (-14) (2) (0)
  have hq1 := fun v => eq8s v (0) (0) (0) (104) (24) (0) (0) (0)
  have hq2 := fun v => eq8s v (0) (0) (12) (48) (54) (16) (-2) (0)
  go_upto_region 5 with fail
  clear c00 c01 c02 c03 c04 c05 c06 c07 c10 c11 c12 c13 c14 c15 c16 c17 c20 c21 c22 c23 c24 c25 c26 c27 hq0 hq1 hq2 HA02 HA12 HA22
  go_wp2_with fail
  refine (HR0.out _ HC2.out).mono ?_
  rintro e y0 ⟨g, rfl, hs, hb⟩
  have HD0 : Hid (Below u.heap.size u y0) := below_to HC2.out hb
  have HE0 : Hid (Calls Tryd.prog 12 #[.slice (some ⟨g, 0, none⟩) 4 16, .slice (some ⟨y0.heap.size, 0, none⟩) 4 4] (y0.alloc (.cells #[.int .u8 0, .int .u8 100, .int .u8 100, .int .u8 0] 5)) fun e w' => e = .returned (.bool true) ∧ Below (y0.alloc (.cells #[.int .u8 0, .int .u8 100, .int .u8 100, .int .u8 0] 5)).heap.size (y0.alloc (.cells #[.int .u8 0, .int .u8 100, .int .u8 100, .int .u8 0] 5)) w') := eq_row hs
  clear hs hb HR0 HC2
  go_wp2_with fail
  refine HE0.out.mono ?_
  rintro e z0 ⟨rfl, hb⟩
  have HF0 : Hid (Below u.heap.size u z0) := below_to (to_alloc HD0.out _) hb
  clear hb HE0 HD0
  go_wp2_with fail
  refine (HR1.out _ HF0.out).mono ?_
  rintro e y1 ⟨g, rfl, hs, hb⟩
  have HD1 : Hid (Below u.heap.size u y1) := below_to HF0.out hb
  have HE1 : Hid (Calls Tryd.prog 12 #[.slice (some ⟨g, 0, none⟩) 4 16, .slice (some ⟨y1.heap.size, 0, none⟩) 4 4] (y1.alloc (.cells #[.int .u8 0, .int .u8 0, .int .u8 100, .int .u8 100] 5)) fun e w' => e = .returned (.bool true) ∧ Below (y1.alloc (.cells #[.int .u8 0, .int .u8 0, .int .u8 100, .int .u8 100] 5)).heap.size (y1.alloc (.cells #[.int .u8 0, .int .u8 0, .int .u8 100, .int .u8 100] 5)) w') := eq_row hs
  clear hs hb HR1 HF0
  go_wp2_with fail
  refine HE1.out.mono ?_
  rintro e z1 ⟨rfl, hb⟩
  have HF1 : Hid (Below u.heap.size u z1) := below_to (to_alloc HD1.out _) hb
  clear hb HE1 HD1
  go_wp2_with fail
  refine (HR2.out _ HF1.out).mono ?_
  rintro e y2 ⟨g, rfl, hs, hb⟩
  have HD2 : Hid (Below u.heap.size u y2) := below_to HF1.out hb
  have HE2 : Hid (Calls Tryd.prog 12 #[.slice (some ⟨g, 0, none⟩) 4 16, .slice (some ⟨y2.heap.size, 0, none⟩) 4 4] (y2.alloc (.cells #[.int .u8 0, .int .u8 0, .int .u8 0, .int .u8 0] 5)) fun e w' => e = .returned (.bool true) ∧ Below (y2.alloc (.cells #[.int .u8 0, .int .u8 0, .int .u8 0, .int .u8 0] 5)).heap.size (y2.alloc (.cells #[.int .u8 0, .int .u8 0, .int .u8 0, .int .u8 0] 5)) w') := eq_row hs
  clear hs hb HR2 HF1
  go_wp2_with fail
  refine HE2.out.mono ?_
  rintro e z2 ⟨rfl, hb⟩
  have HF2 : Hid (Below u.heap.size u z2) := below_to (to_alloc HD2.out _) hb
  clear hb HE2 HD2
  go_upto_region 6 with fail
  go_wp2_with fail
  have HTb : Hid (Ri 26 (z2.alloc (.cells #[.int .i64 0, .int .i64 0, .int .i64 3, .int .i64 4, .int .i64 0, .int .i64 0, .int .i64 0, .int .i64 4, .int .i64 3, .int .i64 0, .int .i64 0, .int .i64 0, .int .i64 65, .int .i64 4, .int .i64 0, .int .i64 0, .int .i64 0, .int .i64 4, .int .i64 65, .int .i64 0, .int .i64 1048577, .int .i64 0, .int .i64 4, .int .i64 4, .int .i64 0, .int .i64 (-1048577), .int .i64 0, .int .i64 4, .int .i64 4, .int .i64 0, .int .i64 0, .int .i64 1048577, .int .i64 4, .int .i64 4, .int .i64 0, .int .i64 0, .int .i64 (-1048577), .int .i64 4, .int .i64 4, .int .i64 0, .int .i64 0, .int .i64 0, .int .i64 4, .int .i64 4, .int .i64 (-1), .int .i64 0, .int .i64 0, .int .i64 4, .int .i64 4, .int .i64 3] 26)) z2.heap.size kT) := Ri.built 26 z2 kT rfl
  have HG2 : Hid (Below u.heap.size u (z2.alloc (.cells #[.int .i64 0, .int .i64 0, .int .i64 3, .int .i64 4, .int .i64 0, .int .i64 0, .int .i64 0, .int .i64 4, .int .i64 3, .int .i64 0, .int .i64 0, .int .i64 0, .int .i64 65, .int .i64 4, .int .i64 0, .int .i64 0, .int .i64 0, .int .i64 4, .int .i64 65, .int .i64 0, .int .i64 1048577, .int .i64 0, .int .i64 4, .int .i64 4, .int .i64 0, .int .i64 (-1048577), .int .i64 0, .int .i64 4, .int .i64 4, .int .i64 0, .int .i64 0, .int .i64 1048577, .int .i64 4, .int .i64 4, .int .i64 0, .int .i64 0, .int .i64 (-1048577), .int .i64 4, .int .i64 4, .int .i64 0, .int .i64 0, .int .i64 0, .int .i64 4, .int .i64 4, .int .i64 (-1), .int .i64 0, .int .i64 0, .int .i64 4, .int .i64 4, .int .i64 3] 26))) := to_alloc HF2.out _
  generalize (z2.alloc (.cells #[.int .i64 0, .int .i64 0, .int .i64 3, .int .i64 4, .int .i64 0, .int .i64 0, .int .i64 0, .int .i64 4, .int .i64 3, .int .i64 0, .int .i64 0, .int .i64 0, .int .i64 65, .int .i64 4, .int .i64 0, .int .i64 0, .int .i64 0, .int .i64 4, .int .i64 65, .int .i64 0, .int .i64 1048577, .int .i64 0, .int .i64 4, .int .i64 4, .int .i64 0, .int .i64 (-1048577), .int .i64 0, .int .i64 4, .int .i64 4, .int .i64 0, .int .i64 0, .int .i64 1048577, .int .i64 4, .int .i64 4, .int .i64 0, .int .i64 0, .int .i64 (-1048577), .int .i64 4, .int .i64 4, .int .i64 0, .int .i64 0, .int .i64 0, .int .i64 4, .int .i64 4, .int .i64 (-1), .int .i64 0, .int .i64 0, .int .i64 4, .int .i64 4, .int .i64 3] 26)) = v at *
  generalize z2.heap.size = gt at *
  clear HF2
  go_loopw [83] (fun i wr => ∃ q : Nat, q ≤ 10 ∧ i = .int .i64 q ∧ Below v.heap.size v wr) (fun i _ => 10 - (intOf i).toNat)
  case atStart => exact ⟨0, by omega, rfl, Below.refl _ _⟩
  case round =>
    obtain ⟨q, hq, rfl, hbr⟩ := hrel
    have HBr : Hid (Below v.heap.size v wr) := hbr
    by_cases hlt : q < 10
    · have q0 : (0 : Int) ≤ (q : Int) := by omega
      have q1 : (q : Int) < 10 := by omega
      have hr := HTb.out.to hbr
      have hkl : kT.length = 50 := by decide
      have c0 := hr.cell (q * 5) (by omega)
      have c1 := hr.cell (q * 5 + 1) (by omega)
      have c2 := hr.cell (q * 5 + 2) (by omega)
      have c3 := hr.cell (q * 5 + 3) (by omega)
      have c4 := hr.cell (q * 5 + 4) (by omega)
      have HBd : Hid _ := kT_bad q hlt
      generalize kT.getD (q * 5) 0 = a at *
      generalize kT.getD (q * 5 + 1) 0 = b at *
      generalize kT.getD (q * 5 + 2) 0 = c at *
      generalize kT.getD (q * 5 + 3) 0 = d at *
      generalize kT.getD (q * 5 + 4) 0 = f at *
      have HFt : Hid (∀ (t : World) (g : Nat), Calls Tryd.prog 9 #[.agg #[.int .i64 4, .int .i64 1, .slice (some ⟨g, 0, none⟩) 4 4], .int .i64 a, .int .i64 b, .int .i64 c, .int .i64 d, .int .i64 f] t fun e w' => e = .returned (.tuple #[.slice none 0 0, .int .i64 2]) ∧ Below t.heap.size t w') := fun t g => fetch_no (C := [0, 100, 100, 0]) (bad_no HBd.out)
      clear hr hkl hbr
      go_upto_region 9 with fail
      have HS : Hid (Fv wr.heap.size a b c d f (wr.alloc (.cells #[.int .i64 a, .int .i64 b, .int .i64 c, .int .i64 d, .int .i64 f] 26))) := by
        have hr := Ri.built 26 wr [a, b, c, d, f] rfl
        exact ⟨hr.cell 0 (by simp), hr.cell 1 (by simp), hr.cell 2 (by simp), hr.cell 3 (by simp), hr.cell 4 (by simp)⟩
      have HBs : Hid (Below v.heap.size v (wr.alloc (.cells #[.int .i64 a, .int .i64 b, .int .i64 c, .int .i64 d, .int .i64 f] 26))) := to_alloc HBr.out _
      have HLs : Hid (wr.heap.size < (wr.alloc (.cells #[.int .i64 a, .int .i64 b, .int .i64 c, .int .i64 d, .int .i64 f] 26)).heap.size) := by show _ < _; simp
      generalize (wr.alloc (.cells #[.int .i64 a, .int .i64 b, .int .i64 c, .int .i64 d, .int .i64 f] 26)) = vs at *
      generalize wr.heap.size = lb at *
      have HLd : Hid (lb < vs.drew.heap.size) := HLs.out
      clear c0 c1 c2 c3 c4 HBr
      go_region_held3 (fun t => t.cell? ⟨lb, 0, none⟩ = some (.int .i64 a) ∧ t.cell? ⟨lb, 1, none⟩ = some (.int .i64 b) ∧ t.cell? ⟨lb, 2, none⟩ = some (.int .i64 c) ∧ t.cell? ⟨lb, 3, none⟩ = some (.int .i64 d) ∧ t.cell? ⟨lb, 4, none⟩ = some (.int .i64 f)) ((first | (with_reducible exact HS.out.drew.all) | (with_reducible exact (HS.out.drew.to HLd.out hb1).all) | (with_reducible exact (HS.out.drew.to HLd.out (below_to hb1 hb2)).all))) ((first | (go_at_call 14; refine given_any.mono ?_; rintro e s1 ⟨rfl, hr1, hb1⟩) | (go_at_call 9; refine (HFt.out _ _).mono ?_; rintro e s2 ⟨rfl, hb2⟩)))
      all_goals
        have HB2 : Hid (Below v.heap.size v s2) := below_to (below_to (below_drew HBs.out) hb1) hb2
        clear hr1 hb1 hb2
        go_wp2_with fail
        go_roundw
        case rel => exact ⟨q + 1, by omega, by go_num, HB2.out⟩
        case measure => simp [intOf]; omega
    · have HB3 : Hid (Below u.heap.size u wr) := below_to HG2.out hbr
      clear hbr HBr HTb HG2
      go_upto_region 13 with fail
      go_wp2_with fail
      have HTp : Hid (Ri 27 (wr.alloc (.cells #[.int .i64 3, .int .i64 0, .int .i64 (-1), .int .i64 0, .int .i64 0, .int .i64 16, .int .i64 0, .int .i64 (-1), .int .i64 2, .int .i64 16] 27)) wr.heap.size kP) := Ri.built 27 wr kP rfl
      have HG3 : Hid (Below u.heap.size u (wr.alloc (.cells #[.int .i64 3, .int .i64 0, .int .i64 (-1), .int .i64 0, .int .i64 0, .int .i64 16, .int .i64 0, .int .i64 (-1), .int .i64 2, .int .i64 16] 27))) := to_alloc HB3.out _
      generalize (wr.alloc (.cells #[.int .i64 3, .int .i64 0, .int .i64 (-1), .int .i64 0, .int .i64 0, .int .i64 16, .int .i64 0, .int .i64 (-1), .int .i64 2, .int .i64 16] 27)) = v2 at *
      generalize wr.heap.size = gp at *
      clear HB3
      go_loopw [112] (fun i wr => ∃ q : Nat, q ≤ 5 ∧ i = .int .i64 q ∧ Below v2.heap.size v2 wr) (fun i _ => 5 - (intOf i).toNat)
      case atStart => exact ⟨0, by omega, rfl, Below.refl _ _⟩
      case round =>
        obtain ⟨p, hp, rfl, hbr⟩ := hrel
        have HBr : Hid (Below v2.heap.size v2 wr) := hbr
        by_cases hlp : p < 5
        · have p0 : (0 : Int) ≤ (p : Int) := by omega
          have p1 : (p : Int) < 5 := by omega
          have hr := HTp.out.to hbr
          have hkl : kP.length = 10 := by decide
          have c0 := hr.cell (p * 2) (by omega)
          have c1 := hr.cell (p * 2 + 1) (by omega)
          have HBd : Hid _ := kP_bad p hlp
          generalize kP.getD (p * 2) 0 = a at *
          generalize kP.getD (p * 2 + 1) 0 = b at *
          have HTt : Hid (∀ t : World, Calls Tryd.prog 11 #[.int .i64 a, .int .i64 b] t fun e w' => e = .returned (.tuple #[.agg #[.int .i64 0, .int .i64 0, .int .i64 0, .int .i64 0, .int .i64 0, .int .i64 0, .int .i64 0, .int .i64 0], .int .i64 2]) ∧ Below t.heap.size t w') := fun t => taps_no HBd.out
          have hq8 := fun v => eq8s v 0 0 0 0 0 0 0 0
          clear hr hkl hbr
          go_wp2_with fail
          refine (HTt.out _).mono ?_
          rintro e s1 ⟨rfl, hb1⟩
          have HB4 : Hid (Below v2.heap.size v2 (s1.alloc (.cells #[.int .i64 0, .int .i64 0, .int .i64 0, .int .i64 0, .int .i64 0, .int .i64 0, .int .i64 0, .int .i64 0] 37))) := to_alloc (below_to (to_alloc HBr.out _) hb1) _
          clear hb1 HTt c0 c1 HBr
          go_wp2_with fail
          go_roundw
          case rel => exact ⟨p + 1, by omega, by go_num, HB4.out⟩
          case measure => simp [intOf]; omega
        · have HB4 : Hid (Below u.heap.size u wr) := below_to HG3.out hbr
          clear hbr HBr HTp HG3
          go_wp2_with fail
          refine (fetch_no (C := []) (fun k => by have := k.pl.w0; omega)).mono ?_
          rintro e s1 ⟨rfl, hb1⟩
          have HB5 : Hid (Below u.heap.size u s1) := below_to HB4.out hb1
          clear hb1 HB4
          go_wp2_with fail
          refine given_any.mono ?_
          rintro e s2 ⟨rfl, hr2, hb2⟩
          have HB6 : Hid (Below u.heap.size u s2) := below_to HB5.out hb2
          have HFt : Hid (Calls Tryd.prog 9 #[.agg #[.int .i64 4, .int .i64 1, .slice (some ⟨s1.heap.size + 1, 0, none⟩) 4 4], .int .i64 0, .int .i64 0, .int .i64 64, .int .i64 64, .int .i64 1] s2 fun e w' => Fd s2 w' e (fe [0, 100, 100, 0] 4 1 0 0 64 64 1)) :=
            fetch_ok (x := 4) (y := 1) (wd := 64) (ht := 64) (k := 1) (C := [0, 100, 100, 0]) (HG.out.to HB6.out) hr2.sl byt_given ⟨⟨by omega, by omega, by omega, by omega, by simp⟩, by omega, by omega, by omega, by omega, by omega⟩
          clear hr2 hb2 HB5
          go_wp2_with fail
          refine HFt.out.mono ?_
          rintro e s3 ⟨g, rfl, _, _, hb3⟩
          rw [show (fe [0, 100, 100, 0] 4 1 0 0 64 64 1).length = 4096 from fe_len _ _ _ _ _ _ _ _]
          have HB7 : Hid (Below u.heap.size u s3) := below_to HB6.out hb3
          clear hb3 HFt HB6
          go_wp2_with fail
          refine (works_true (HG.out.to HB7.out)).mono ?_
          rintro e s4 ⟨rfl, hb4⟩
          have HB8 : Hid (Below u.heap.size u s4) := below_to HB7.out hb4
          clear hb4 HB7
          go_wp2_with fail
          go_ret
          exact ⟨rfl, HB8.out⟩

end Go.Proofs.YtgmdanipcnkhdabDoor
