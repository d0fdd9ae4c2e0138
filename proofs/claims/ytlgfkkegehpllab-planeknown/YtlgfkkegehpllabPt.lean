/- DERIVED. The walk of the statements' own 'works'. -/
import Derived.Test.YtlgfkkegehpllabPs
namespace Go.Proofs.Ytlgfkkegehpllab
open Go.RowKit

theorem wk_cut {u : World} {g : Nat} (h : Rw u g [1, 2, 3, 4]) : Calls Try.prog 6 #[.agg #[.int .i64 2, .int .i64 2, .slice (some ⟨g, 0, none⟩) 4 4], .agg #[.int .i64 1, .int .i64 0, .int .i64 1, .int .i64 2]] u fun e w' => ∃ g', e = .returned (.tuple #[.slice (some ⟨g', 0, none⟩) 2 2, .int .i64 0]) ∧ Rw w' g' [2, 4] ∧ Below u.heap.size u w' :=
  (cut_ok (x := 2) (y := 2) (C := [1, 2, 3, 4]) (c := 4) (X := 1) (Y := 0) (w := 1) (h := 2) h.sl (by omega) (by omega) (by omega) (by omega) rfl (by simp) (by omega) (by omega) (by omega) (by omega)).mono fun _ _ ⟨g', he, _, hr, hb⟩ => ⟨g', he, hr, hb⟩
theorem wk_lay {u : World} {g g2 : Nat} (h : Rw u g [1, 2, 3, 4]) (h2 : Rw u g2 [7, 8]) : Calls Try.prog 10 #[.agg #[.int .i64 2, .int .i64 2, .slice (some ⟨g, 0, none⟩) 4 4], .agg #[.int .i64 0, .int .i64 1, .int .i64 2, .int .i64 1], .slice (some ⟨g2, 0, none⟩) 2 2] u fun e w' => ∃ g', e = .returned (.tuple #[.agg #[.int .i64 2, .int .i64 2, .slice (some ⟨g', 0, none⟩) 4 4], .int .i64 0]) ∧ Rw w' g' [1, 2, 7, 8] ∧ Below u.heap.size u w' :=
  (lay_ok (x := 2) (y := 2) (C := [1, 2, 3, 4]) (c := 4) (X := 0) (Y := 1) (w := 2) (ht := 1) (B := [7, 8]) (cb := 2) h.sl (by omega) (by omega) (by omega) (by omega) rfl (by omega) (by omega) (by omega) (by omega) h2.sl rfl (by simp)).mono fun _ _ ⟨g', he, _, hr, hb⟩ => ⟨g', he, hr, hb⟩
theorem wk_pad {u : World} {g : Nat} (h : Rw u g [1, 2, 3, 4]) : Calls Try.prog 7 #[.agg #[.int .i64 2, .int .i64 2, .slice (some ⟨g, 0, none⟩) 4 4], .int .i64 3, .int .i64 3] u fun e w' => ∃ g', e = .returned (.tuple #[.agg #[.int .i64 3, .int .i64 3, .slice (some ⟨g', 0, none⟩) 9 9], .int .i64 0]) ∧ Rw w' g' [1, 2, 2, 3, 4, 4, 3, 4, 4] ∧ Below u.heap.size u w' :=
  (pad_ok (x := 2) (y := 2) (C := [1, 2, 3, 4]) (c := 4) (wd := 3) (hd := 3) h.sl (by omega) (by omega) (by omega) (by omega) rfl (by simp) (by omega) (by omega) (by omega) (by omega)).mono fun _ _ ⟨g', he, _, hr, hb⟩ => ⟨g', he, hr, hb⟩
theorem byt_of {C : List Nat} (h : ∀ x ∈ C, x < 256) : Byt C := fun j => by
  by_cases hj : j < C.length
  · rw [List.getD_eq_getElem?_getD, List.getElem?_eq_getElem hj]; exact h _ (List.getElem_mem _)
  · rw [List.getD_eq_getElem?_getD, List.getElem?_eq_none (by omega)]; exact Nat.zero_lt_succ _
theorem wk_apart {u : World} {g g2 : Nat} (h : Rw u g [1, 2, 3, 4]) (h2 : Rw u g2 [1, 2, 3, 7]) : Calls Try.prog 8 #[.agg #[.int .i64 2, .int .i64 2, .slice (some ⟨g, 0, none⟩) 4 4], .agg #[.int .i64 2, .int .i64 2, .slice (some ⟨g2, 0, none⟩) 4 4]] u fun e w' => e = .returned (.tuple #[.int .u64 9, .int .i64 0]) ∧ Below u.heap.size u w' :=
  apart_ok (W := 2) (H := 2) (C := [1, 2, 3, 4]) (c := 4) (D := [1, 2, 3, 7]) (d := 4) h.sl h2.sl ⟨by omega, by omega, by omega, by omega, rfl⟩ ⟨by omega, by omega, by omega, by omega, rfl⟩ (byt_of (by simp)) (byt_of (by simp))
theorem wk_frame {u : World} {C0 C1 : List Nat} (e0 : C0 = List.replicate (18 * 16) 5) (e1 : C1 = List.replicate (9 * 8) 5) : Calls Try.prog 14 #[.int .i64 18, .int .i64 16, .int .u8 5] u fun e w' => ∃ g0 g1 g2, e = .returned (.tuple #[.agg #[.int .i64 18, .int .i64 16, .slice (some ⟨g0, 0, none⟩) C0.length C0.length, .int .i64 9, .int .i64 8, .slice (some ⟨g1, 0, none⟩) C1.length C1.length, .int .i64 9, .int .i64 8, .slice (some ⟨g2, 0, none⟩) C1.length C1.length], .int .i64 0]) ∧ Rw w' g0 C0 ∧ Rw w' g1 C1 ∧ Rw w' g2 C1 ∧ Below u.heap.size u w' := by
  subst e0 e1
  exact (frame_ok (w := 18) (h := 16) (v := 5) ⟨by omega, by omega, by omega⟩ ⟨by omega, by omega, by omega⟩).mono fun _ _ ⟨g0, g1, g2, he, r0, r1, r2, _, _, _, _, _, _, hb⟩ => ⟨g0, g1, g2, he, r0, r1, r2, hb⟩
theorem wk_coded {u : World} {C0 C1 D0 D1 : List Nat} {g0 g1 g2 : Nat} (l0 : C0.length = 288) (l1 : C1.length = 72) (e0 : D0 = padL 18 16 C0 24 16) (e1 : D1 = padL 9 8 C1 12 8) (r0 : Rw u g0 C0) (r1 : Rw u g1 C1) (r2 : Rw u g2 C1) : Calls Try.prog 27 #[.agg #[.int .i64 18, .int .i64 16, .slice (some ⟨g0, 0, none⟩) C0.length C0.length, .int .i64 9, .int .i64 8, .slice (some ⟨g1, 0, none⟩) C1.length C1.length, .int .i64 9, .int .i64 8, .slice (some ⟨g2, 0, none⟩) C1.length C1.length]] u fun e w' => ∃ h0 h1 h2, e = .returned (.tuple #[.agg #[.int .i64 24, .int .i64 16, .slice (some ⟨h0, 0, none⟩) D0.length D0.length, .int .i64 12, .int .i64 8, .slice (some ⟨h1, 0, none⟩) D1.length D1.length, .int .i64 12, .int .i64 8, .slice (some ⟨h2, 0, none⟩) D1.length D1.length], .int .i64 0]) ∧ Rw w' h0 D0 ∧ Rw w' h1 D1 ∧ Rw w' h2 D1 ∧ Below u.heap.size u w' := by
  subst e0 e1
  exact (coded_ok (x := 18) (y := 16) (x2 := 9) (y2 := 8) (w := 24) (h := 16) (w2 := 12) (h2 := 8) ⟨⟨by omega, by omega, by omega⟩, ⟨by omega, by omega, by omega⟩, rfl, rfl, l0, l1, l1, Nat.le_refl _, Nat.le_refl _, Nat.le_refl _, r0.sl, r1.sl, r2.sl⟩ rfl rfl rfl rfl).mono fun _ _ ⟨g0, g1, g2, he, r0, r1, r2, _, _, _, _, _, _, hb⟩ => ⟨g0, g1, g2, he, r0, r1, r2, hb⟩
theorem wk_whole {u : World} {D0 D1 : List Nat} {g0 g1 g2 : Nat} (l0 : D0.length = 384) (l1 : D1.length = 96) : Calls Try.prog 17 #[.agg #[.int .i64 24, .int .i64 16, .slice (some ⟨g0, 0, none⟩) D0.length D0.length, .int .i64 12, .int .i64 8, .slice (some ⟨g1, 0, none⟩) D1.length D1.length, .int .i64 12, .int .i64 8, .slice (some ⟨g2, 0, none⟩) D1.length D1.length]] u fun e w' => e = .returned (.int .i64 0) ∧ Below u.heap.size u w' := by
  have h : fk ⟨24, 16, some ⟨g0, 0, none⟩, D0.length, D0⟩ ⟨12, 8, some ⟨g1, 0, none⟩, D1.length, D1⟩ ⟨12, 8, some ⟨g2, 0, none⟩, D1.length, D1⟩ = 0 :=
    fk_ok ⟨⟨by simp, by simp, by simp⟩, ⟨by simp, by simp, by simp⟩, ⟨by simp, by simp, by simp, by simp, by simp [l0]⟩, rfl, rfl, ⟨by simp, by simp, by simp, by simp, by simp [l1]⟩, rfl, rfl, ⟨by simp, by simp, by simp, by simp, by simp [l1]⟩⟩
  rw [← h]
  exact whole_any
theorem wk_eq {u : World} {g g2 n : Nat} {C : List Nat} (hn : C.length = n) (hl : n ≤ 140737488355328) (h : Rw u g C) (h2 : Rw u g2 C) : Calls Try.prog 12 #[.slice (some ⟨g, 0, none⟩) n n, .slice (some ⟨g2, 0, none⟩) n n] u fun e w' => e = .returned (.bool true) ∧ Below u.heap.size u w' := by
  subst hn
  have := eqBytes_any (c := C.length) (d := C.length) h.sl h2.sl hl hl
  rwa [eqB_self] at this

set_option maxRecDepth 100000 in
set_option maxHeartbeats 4000000 in
theorem works_true {u : World} : Calls Try.prog 16 #[] u fun e w' => e = .returned (.bool true) ∧ Below u.heap.size u w' := by
  obtain ⟨C0, e0⟩ : ∃ C, C = List.replicate (18 * 16) 5 := ⟨_, rfl⟩
  obtain ⟨C1, e1⟩ : ∃ C, C = List.replicate (9 * 8) 5 := ⟨_, rfl⟩
  obtain ⟨D0, e2⟩ : ∃ D, D = padL 18 16 C0 24 16 := ⟨_, rfl⟩
  obtain ⟨D1, e3⟩ : ∃ D, D = padL 9 8 C1 12 8 := ⟨_, rfl⟩
  have L0 : Hid (C0.length = 288) := by unfold Hid; rw [e0]; simp
  have L1 : Hid (C1.length = 72) := by unfold Hid; rw [e1]; simp
  have L2 : Hid (D0.length = 384) := by unfold Hid; rw [e2, padL_len]
  have L3 : Hid (D1.length = 96) := by unfold Hid; rw [e3, padL_len]
  have E0 : Hid _ := e0
  have E1 : Hid _ := e1
  have E2 : Hid _ := e2
  have E3 : Hid _ := e3
  clear e0 e1 e2 e3
  go_enter Try.func16, Try.ntmps16
  go_wp2_with fail
  refine (four_ok).mono ?_
  rintro e w1 ⟨ga, rfl, _, hr1, hb1⟩
  have HB1 : Hid (Below u.heap.size u w1) := hb1
  have Rga_1 : Hid (Rw w1 ga [1, 2, 3, 4]) := hr1
  have HU_1 : Hid (Below u.heap.size u w1) := HB1.out
  clear hb1 HB1
  go_wp2_with fail
  refine (wk_cut Rga_1.out).mono ?_
  rintro e w2 ⟨gb, rfl, hr2, hb2⟩
  have HB2 : Hid (Below w1.heap.size w1 w2) := hb2
  have Rga_2 : Hid (Rw w2 ga [1, 2, 3, 4]) := Rga_1.out.to HB2.out
  have Rgb_2 : Hid (Rw w2 gb [2, 4]) := hr2
  have HU_2 : Hid (Below u.heap.size u w2) := below_to HU_1.out HB2.out
  clear Rga_1 hb2 HU_1 HB2
  clear Rga_2
  go_wp2_with fail
  refine (four_ok).mono ?_
  rintro e w3 ⟨gc, rfl, _, hr3, hb3⟩
  have HB3 : Hid (Below w2.heap.size w2 w3) := hb3
  have Rgb_3 : Hid (Rw w3 gb [2, 4]) := Rgb_2.out.to HB3.out
  have Rgc_3 : Hid (Rw w3 gc [1, 2, 3, 4]) := hr3
  have HU_3 : Hid (Below u.heap.size u w3) := below_to HU_2.out HB3.out
  clear Rgb_2 hb3 HU_2 HB3
  have Q3 : Hid (Rw (w3.alloc (.cells #[.int .u8 7, .int .u8 8] 5)) w3.heap.size [7, 8]) := Rw.ofAlloc rfl (by simp [ns])
  go_wp2_with fail
  refine (wk_lay (Rgc_3.out.to (from_alloc _ _)) Q3.out).mono ?_
  rintro e w4 ⟨gd, rfl, hr4, hb4⟩
  have HB4 : Hid (Below w3.heap.size w3 w4) := below_to (from_alloc _ _) hb4
  have Rgb_4 : Hid (Rw w4 gb [2, 4]) := Rgb_3.out.to HB4.out
  have Rgc_4 : Hid (Rw w4 gc [1, 2, 3, 4]) := Rgc_3.out.to HB4.out
  have Rgd_4 : Hid (Rw w4 gd [1, 2, 7, 8]) := hr4
  have HU_4 : Hid (Below u.heap.size u w4) := below_to HU_3.out HB4.out
  clear Rgb_3 Rgc_3 hb4 HU_3 HB4
  clear Rgc_4
  clear Q3
  go_wp2_with fail
  refine (four_ok).mono ?_
  rintro e w5 ⟨ge, rfl, _, hr5, hb5⟩
  have HB5 : Hid (Below w4.heap.size w4 w5) := below_to (from_alloc _ _) hb5
  have Rgb_5 : Hid (Rw w5 gb [2, 4]) := Rgb_4.out.to HB5.out
  have Rgd_5 : Hid (Rw w5 gd [1, 2, 7, 8]) := Rgd_4.out.to HB5.out
  have Rge_5 : Hid (Rw w5 ge [1, 2, 3, 4]) := hr5
  have Lv3_5 : Hid (w4.heap.size < w5.heap.size) := by have := hb5.size; simp at this; unfold Hid; omega
  have Cv3_5 : Hid (w5.cell? ⟨w4.heap.size, 2, none⟩ = some (.slice (some ⟨gd, 0, none⟩) 4 4)) := by unfold Hid; rw [newCell hb5 _ _ (by simp)]; simp
  have HU_5 : Hid (Below u.heap.size u w5) := below_to HU_4.out HB5.out
  clear Rgb_4 Rgd_4 hb5 HU_4 HB5
  go_wp2_with fail
  refine (wk_pad Rge_5.out).mono ?_
  rintro e w6 ⟨gf, rfl, hr6, hb6⟩
  have HB6 : Hid (Below w5.heap.size w5 w6) := hb6
  have Rgb_6 : Hid (Rw w6 gb [2, 4]) := Rgb_5.out.to HB6.out
  have Rgd_6 : Hid (Rw w6 gd [1, 2, 7, 8]) := Rgd_5.out.to HB6.out
  have Rge_6 : Hid (Rw w6 ge [1, 2, 3, 4]) := Rge_5.out.to HB6.out
  have Lv3_6 : Hid (w4.heap.size < w6.heap.size) := Nat.lt_of_lt_of_le Lv3_5.out HB6.out.size
  have Cv3_6 : Hid (w6.cell? ⟨w4.heap.size, 2, none⟩ = some (.slice (some ⟨gd, 0, none⟩) 4 4)) := (newCell HB6.out _ _ Lv3_5.out).trans Cv3_5.out
  have Rgf_6 : Hid (Rw w6 gf [1, 2, 2, 3, 4, 4, 3, 4, 4]) := hr6
  have HU_6 : Hid (Below u.heap.size u w6) := below_to HU_5.out HB6.out
  clear Rgb_5 Rgd_5 Rge_5 Lv3_5 Cv3_5 hb6 HU_5 HB6
  clear Rge_6
  go_wp2_with fail
  refine (four_ok).mono ?_
  rintro e w7 ⟨gh, rfl, _, hr7, hb7⟩
  have HB7 : Hid (Below w6.heap.size w6 w7) := below_to (from_alloc _ _) hb7
  have Rgb_7 : Hid (Rw w7 gb [2, 4]) := Rgb_6.out.to HB7.out
  have Rgd_7 : Hid (Rw w7 gd [1, 2, 7, 8]) := Rgd_6.out.to HB7.out
  have Lv3_7 : Hid (w4.heap.size < w7.heap.size) := Nat.lt_of_lt_of_le Lv3_6.out HB7.out.size
  have Cv3_7 : Hid (w7.cell? ⟨w4.heap.size, 2, none⟩ = some (.slice (some ⟨gd, 0, none⟩) 4 4)) := (newCell HB7.out _ _ Lv3_6.out).trans Cv3_6.out
  have Rgf_7 : Hid (Rw w7 gf [1, 2, 2, 3, 4, 4, 3, 4, 4]) := Rgf_6.out.to HB7.out
  have Rgh_7 : Hid (Rw w7 gh [1, 2, 3, 4]) := hr7
  have Lv5_7 : Hid (w6.heap.size < w7.heap.size) := by have := hb7.size; simp at this; unfold Hid; omega
  have Cv5_7 : Hid (w7.cell? ⟨w6.heap.size, 2, none⟩ = some (.slice (some ⟨gf, 0, none⟩) 9 9)) := by unfold Hid; rw [newCell hb7 _ _ (by simp)]; simp
  have HU_7 : Hid (Below u.heap.size u w7) := below_to HU_6.out HB7.out
  clear Rgb_6 Rgd_6 Lv3_6 Cv3_6 Rgf_6 hb7 HU_6 HB7
  have Q7 : Hid (Rw (w7.alloc (.cells #[.int .u8 1, .int .u8 2, .int .u8 3, .int .u8 7] 5)) w7.heap.size [1, 2, 3, 7]) := Rw.ofAlloc rfl (by simp [ns])
  go_wp2_with fail
  refine (wk_apart (Rgh_7.out.to (from_alloc _ _)) Q7.out).mono ?_
  rintro e w8 ⟨rfl, hb8⟩
  have HB8 : Hid (Below w7.heap.size w7 w8) := below_to (from_alloc _ _) hb8
  have Rgb_8 : Hid (Rw w8 gb [2, 4]) := Rgb_7.out.to HB8.out
  have Rgd_8 : Hid (Rw w8 gd [1, 2, 7, 8]) := Rgd_7.out.to HB8.out
  have Lv3_8 : Hid (w4.heap.size < w8.heap.size) := Nat.lt_of_lt_of_le Lv3_7.out HB8.out.size
  have Cv3_8 : Hid (w8.cell? ⟨w4.heap.size, 2, none⟩ = some (.slice (some ⟨gd, 0, none⟩) 4 4)) := (newCell HB8.out _ _ Lv3_7.out).trans Cv3_7.out
  have Rgf_8 : Hid (Rw w8 gf [1, 2, 2, 3, 4, 4, 3, 4, 4]) := Rgf_7.out.to HB8.out
  have Rgh_8 : Hid (Rw w8 gh [1, 2, 3, 4]) := Rgh_7.out.to HB8.out
  have Lv5_8 : Hid (w6.heap.size < w8.heap.size) := Nat.lt_of_lt_of_le Lv5_7.out HB8.out.size
  have Cv5_8 : Hid (w8.cell? ⟨w6.heap.size, 2, none⟩ = some (.slice (some ⟨gf, 0, none⟩) 9 9)) := (newCell HB8.out _ _ Lv5_7.out).trans Cv5_7.out
  have HU_8 : Hid (Below u.heap.size u w8) := below_to HU_7.out HB8.out
  clear Rgb_7 Rgd_7 Lv3_7 Cv3_7 Rgf_7 Rgh_7 Lv5_7 Cv5_7 hb8 HU_7 HB8
  clear Rgh_8
  clear Q7
  go_wp2_with fail
  refine (wk_frame E0.out E1.out).mono ?_
  rintro e w9 ⟨f0, f1, f2, rfl, hr9, hs9, ht9, hb9⟩
  have HB9 : Hid (Below w8.heap.size w8 w9) := hb9
  have Rgb_9 : Hid (Rw w9 gb [2, 4]) := Rgb_8.out.to HB9.out
  have Rgd_9 : Hid (Rw w9 gd [1, 2, 7, 8]) := Rgd_8.out.to HB9.out
  have Lv3_9 : Hid (w4.heap.size < w9.heap.size) := Nat.lt_of_lt_of_le Lv3_8.out HB9.out.size
  have Cv3_9 : Hid (w9.cell? ⟨w4.heap.size, 2, none⟩ = some (.slice (some ⟨gd, 0, none⟩) 4 4)) := (newCell HB9.out _ _ Lv3_8.out).trans Cv3_8.out
  have Rgf_9 : Hid (Rw w9 gf [1, 2, 2, 3, 4, 4, 3, 4, 4]) := Rgf_8.out.to HB9.out
  have Lv5_9 : Hid (w6.heap.size < w9.heap.size) := Nat.lt_of_lt_of_le Lv5_8.out HB9.out.size
  have Cv5_9 : Hid (w9.cell? ⟨w6.heap.size, 2, none⟩ = some (.slice (some ⟨gf, 0, none⟩) 9 9)) := (newCell HB9.out _ _ Lv5_8.out).trans Cv5_8.out
  have Rf0_9 : Hid (Rw w9 f0 C0) := hr9
  have Rf1_9 : Hid (Rw w9 f1 C1) := hs9
  have Rf2_9 : Hid (Rw w9 f2 C1) := ht9
  have HU_9 : Hid (Below u.heap.size u w9) := below_to HU_8.out HB9.out
  clear Rgb_8 Rgd_8 Lv3_8 Cv3_8 Rgf_8 Lv5_8 Cv5_8 hb9 HU_8 HB9
  go_wp2_with fail
  refine (wk_coded L0.out L1.out E2.out E3.out (Rf0_9.out.to (from_alloc _ _)) (Rf1_9.out.to (from_alloc _ _)) (Rf2_9.out.to (from_alloc _ _))).mono ?_
  rintro e w10 ⟨k0, k1, k2, rfl, hr10, hs10, ht10, hb10⟩
  have HB10 : Hid (Below w9.heap.size w9 w10) := below_to (from_alloc _ _) hb10
  have Rgb_10 : Hid (Rw w10 gb [2, 4]) := Rgb_9.out.to HB10.out
  have Rgd_10 : Hid (Rw w10 gd [1, 2, 7, 8]) := Rgd_9.out.to HB10.out
  have Lv3_10 : Hid (w4.heap.size < w10.heap.size) := Nat.lt_of_lt_of_le Lv3_9.out HB10.out.size
  have Cv3_10 : Hid (w10.cell? ⟨w4.heap.size, 2, none⟩ = some (.slice (some ⟨gd, 0, none⟩) 4 4)) := (newCell HB10.out _ _ Lv3_9.out).trans Cv3_9.out
  have Rgf_10 : Hid (Rw w10 gf [1, 2, 2, 3, 4, 4, 3, 4, 4]) := Rgf_9.out.to HB10.out
  have Lv5_10 : Hid (w6.heap.size < w10.heap.size) := Nat.lt_of_lt_of_le Lv5_9.out HB10.out.size
  have Cv5_10 : Hid (w10.cell? ⟨w6.heap.size, 2, none⟩ = some (.slice (some ⟨gf, 0, none⟩) 9 9)) := (newCell HB10.out _ _ Lv5_9.out).trans Cv5_9.out
  have Rf0_10 : Hid (Rw w10 f0 C0) := Rf0_9.out.to HB10.out
  have Rf1_10 : Hid (Rw w10 f1 C1) := Rf1_9.out.to HB10.out
  have Rf2_10 : Hid (Rw w10 f2 C1) := Rf2_9.out.to HB10.out
  have Rk0_10 : Hid (Rw w10 k0 D0) := hr10
  have Rk1_10 : Hid (Rw w10 k1 D1) := hs10
  have Rk2_10 : Hid (Rw w10 k2 D1) := ht10
  have HU_10 : Hid (Below u.heap.size u w10) := below_to HU_9.out HB10.out
  clear Rgb_9 Rgd_9 Lv3_9 Cv3_9 Rgf_9 Lv5_9 Cv5_9 Rf0_9 Rf1_9 Rf2_9 hb10 HU_9 HB10
  clear Rf0_10
  clear Rf1_10
  clear Rf2_10
  have hz10 : (w10.alloc (.cells #[.int .i64 24, .int .i64 16, .slice (some ⟨k0, 0, none⟩) D0.length D0.length, .int .i64 12, .int .i64 8, .slice (some ⟨k1, 0, none⟩) D1.length D1.length, .int .i64 12, .int .i64 8, .slice (some ⟨k2, 0, none⟩) D1.length D1.length] 48)).heap.size = w10.heap.size + 1 := by simp
  have Q11 : Hid (Rw ((w10.alloc (.cells #[.int .i64 24, .int .i64 16, .slice (some ⟨k0, 0, none⟩) D0.length D0.length, .int .i64 12, .int .i64 8, .slice (some ⟨k1, 0, none⟩) D1.length D1.length, .int .i64 12, .int .i64 8, .slice (some ⟨k2, 0, none⟩) D1.length D1.length] 48)).alloc (.cells #[.int .u8 2, .int .u8 4] 5)) (w10.heap.size + 1) [2, 4]) := Rw.ofAlloc hz10 (by simp [ns])
  clear hz10
  go_wp2_with fail
  refine (wk_eq (n := 2) rfl (by omega) ((Rgb_10.out.to (from_alloc _ _)).to (from_alloc _ _)) Q11.out).mono ?_
  rintro e w11 ⟨rfl, hb11⟩
  have HB11 : Hid (Below w10.heap.size w10 w11) := below_to (to_alloc (from_alloc _ _) _) hb11
  have Rgb_11 : Hid (Rw w11 gb [2, 4]) := Rgb_10.out.to HB11.out
  have Rgd_11 : Hid (Rw w11 gd [1, 2, 7, 8]) := Rgd_10.out.to HB11.out
  have Lv3_11 : Hid (w4.heap.size < w11.heap.size) := Nat.lt_of_lt_of_le Lv3_10.out HB11.out.size
  have Cv3_11 : Hid (w11.cell? ⟨w4.heap.size, 2, none⟩ = some (.slice (some ⟨gd, 0, none⟩) 4 4)) := (newCell HB11.out _ _ Lv3_10.out).trans Cv3_10.out
  have Rgf_11 : Hid (Rw w11 gf [1, 2, 2, 3, 4, 4, 3, 4, 4]) := Rgf_10.out.to HB11.out
  have Lv5_11 : Hid (w6.heap.size < w11.heap.size) := Nat.lt_of_lt_of_le Lv5_10.out HB11.out.size
  have Cv5_11 : Hid (w11.cell? ⟨w6.heap.size, 2, none⟩ = some (.slice (some ⟨gf, 0, none⟩) 9 9)) := (newCell HB11.out _ _ Lv5_10.out).trans Cv5_10.out
  have Rk0_11 : Hid (Rw w11 k0 D0) := Rk0_10.out.to HB11.out
  have Rk1_11 : Hid (Rw w11 k1 D1) := Rk1_10.out.to HB11.out
  have Rk2_11 : Hid (Rw w11 k2 D1) := Rk2_10.out.to HB11.out
  have Lv11_11 : Hid (w10.heap.size < w11.heap.size) := by have := hb11.size; simp at this; unfold Hid; omega
  have D0v_11 : Hid (w11.cell? ⟨w10.heap.size, 0, none⟩ = some (.int .i64 24)) := by unfold Hid; rw [newCell hb11 _ _ (by simp; omega)]; simp [go_sem]
  have D1v_11 : Hid (w11.cell? ⟨w10.heap.size, 1, none⟩ = some (.int .i64 16)) := by unfold Hid; rw [newCell hb11 _ _ (by simp; omega)]; simp [go_sem]
  have D2v_11 : Hid (w11.cell? ⟨w10.heap.size, 2, none⟩ = some (.slice (some ⟨k0, 0, none⟩) D0.length D0.length)) := by unfold Hid; rw [newCell hb11 _ _ (by simp; omega)]; simp [go_sem]
  have D3v_11 : Hid (w11.cell? ⟨w10.heap.size, 3, none⟩ = some (.int .i64 12)) := by unfold Hid; rw [newCell hb11 _ _ (by simp; omega)]; simp [go_sem]
  have D4v_11 : Hid (w11.cell? ⟨w10.heap.size, 4, none⟩ = some (.int .i64 8)) := by unfold Hid; rw [newCell hb11 _ _ (by simp; omega)]; simp [go_sem]
  have D5v_11 : Hid (w11.cell? ⟨w10.heap.size, 5, none⟩ = some (.slice (some ⟨k1, 0, none⟩) D1.length D1.length)) := by unfold Hid; rw [newCell hb11 _ _ (by simp; omega)]; simp [go_sem]
  have D6v_11 : Hid (w11.cell? ⟨w10.heap.size, 6, none⟩ = some (.int .i64 12)) := by unfold Hid; rw [newCell hb11 _ _ (by simp; omega)]; simp [go_sem]
  have D7v_11 : Hid (w11.cell? ⟨w10.heap.size, 7, none⟩ = some (.int .i64 8)) := by unfold Hid; rw [newCell hb11 _ _ (by simp; omega)]; simp [go_sem]
  have D8v_11 : Hid (w11.cell? ⟨w10.heap.size, 8, none⟩ = some (.slice (some ⟨k2, 0, none⟩) D1.length D1.length)) := by unfold Hid; rw [newCell hb11 _ _ (by simp; omega)]; simp [go_sem]
  have HU_11 : Hid (Below u.heap.size u w11) := below_to HU_10.out HB11.out
  clear Rgb_10 Rgd_10 Lv3_10 Cv3_10 Rgf_10 Lv5_10 Cv5_10 Rk0_10 Rk1_10 Rk2_10 HU_10 HB11 hb11 Q11
  clear Rgb_11
  have Q12 : Hid (Rw (w11.alloc (.cells #[.int .u8 1, .int .u8 2, .int .u8 7, .int .u8 8] 5)) w11.heap.size [1, 2, 7, 8]) := Rw.ofAlloc rfl (by simp [ns])
  have x3 := Cv3_11.out
  go_wp2_with fail
  refine (wk_eq (n := 4) rfl (by omega) (Rgd_11.out.to (from_alloc _ _)) Q12.out).mono ?_
  rintro e w12 ⟨rfl, hb12⟩
  have HB12 : Hid (Below w11.heap.size w11 w12) := below_to (from_alloc _ _) hb12
  have Rgd_12 : Hid (Rw w12 gd [1, 2, 7, 8]) := Rgd_11.out.to HB12.out
  have Lv3_12 : Hid (w4.heap.size < w12.heap.size) := Nat.lt_of_lt_of_le Lv3_11.out HB12.out.size
  have Cv3_12 : Hid (w12.cell? ⟨w4.heap.size, 2, none⟩ = some (.slice (some ⟨gd, 0, none⟩) 4 4)) := (newCell HB12.out _ _ Lv3_11.out).trans Cv3_11.out
  have Rgf_12 : Hid (Rw w12 gf [1, 2, 2, 3, 4, 4, 3, 4, 4]) := Rgf_11.out.to HB12.out
  have Lv5_12 : Hid (w6.heap.size < w12.heap.size) := Nat.lt_of_lt_of_le Lv5_11.out HB12.out.size
  have Cv5_12 : Hid (w12.cell? ⟨w6.heap.size, 2, none⟩ = some (.slice (some ⟨gf, 0, none⟩) 9 9)) := (newCell HB12.out _ _ Lv5_11.out).trans Cv5_11.out
  have Rk0_12 : Hid (Rw w12 k0 D0) := Rk0_11.out.to HB12.out
  have Rk1_12 : Hid (Rw w12 k1 D1) := Rk1_11.out.to HB12.out
  have Rk2_12 : Hid (Rw w12 k2 D1) := Rk2_11.out.to HB12.out
  have Lv11_12 : Hid (w10.heap.size < w12.heap.size) := Nat.lt_of_lt_of_le Lv11_11.out HB12.out.size
  have D0v_12 : Hid (w12.cell? ⟨w10.heap.size, 0, none⟩ = some (.int .i64 24)) := (newCell HB12.out _ _ Lv11_11.out).trans D0v_11.out
  have D1v_12 : Hid (w12.cell? ⟨w10.heap.size, 1, none⟩ = some (.int .i64 16)) := (newCell HB12.out _ _ Lv11_11.out).trans D1v_11.out
  have D2v_12 : Hid (w12.cell? ⟨w10.heap.size, 2, none⟩ = some (.slice (some ⟨k0, 0, none⟩) D0.length D0.length)) := (newCell HB12.out _ _ Lv11_11.out).trans D2v_11.out
  have D3v_12 : Hid (w12.cell? ⟨w10.heap.size, 3, none⟩ = some (.int .i64 12)) := (newCell HB12.out _ _ Lv11_11.out).trans D3v_11.out
  have D4v_12 : Hid (w12.cell? ⟨w10.heap.size, 4, none⟩ = some (.int .i64 8)) := (newCell HB12.out _ _ Lv11_11.out).trans D4v_11.out
  have D5v_12 : Hid (w12.cell? ⟨w10.heap.size, 5, none⟩ = some (.slice (some ⟨k1, 0, none⟩) D1.length D1.length)) := (newCell HB12.out _ _ Lv11_11.out).trans D5v_11.out
  have D6v_12 : Hid (w12.cell? ⟨w10.heap.size, 6, none⟩ = some (.int .i64 12)) := (newCell HB12.out _ _ Lv11_11.out).trans D6v_11.out
  have D7v_12 : Hid (w12.cell? ⟨w10.heap.size, 7, none⟩ = some (.int .i64 8)) := (newCell HB12.out _ _ Lv11_11.out).trans D7v_11.out
  have D8v_12 : Hid (w12.cell? ⟨w10.heap.size, 8, none⟩ = some (.slice (some ⟨k2, 0, none⟩) D1.length D1.length)) := (newCell HB12.out _ _ Lv11_11.out).trans D8v_11.out
  have HU_12 : Hid (Below u.heap.size u w12) := below_to HU_11.out HB12.out
  clear Rgd_11 Lv3_11 Cv3_11 Rgf_11 Lv5_11 Cv5_11 Rk0_11 Rk1_11 Rk2_11 Lv11_11 D0v_11 D1v_11 D2v_11 D3v_11 D4v_11 D5v_11 D6v_11 D7v_11 D8v_11 hb12 HU_11 HB12
  clear x3 Q12
  clear Rgd_12
  clear Cv3_12
  clear Lv3_12
  have Q13 : Hid (Rw (w12.alloc (.cells #[.int .u8 1, .int .u8 2, .int .u8 2, .int .u8 3, .int .u8 4, .int .u8 4, .int .u8 3, .int .u8 4, .int .u8 4] 5)) w12.heap.size [1, 2, 2, 3, 4, 4, 3, 4, 4]) := Rw.ofAlloc rfl (by simp [ns])
  have x5 := Cv5_12.out
  go_wp2_with fail
  refine (wk_eq (n := 9) rfl (by omega) (Rgf_12.out.to (from_alloc _ _)) Q13.out).mono ?_
  rintro e w13 ⟨rfl, hb13⟩
  have HB13 : Hid (Below w12.heap.size w12 w13) := below_to (from_alloc _ _) hb13
  have Rgf_13 : Hid (Rw w13 gf [1, 2, 2, 3, 4, 4, 3, 4, 4]) := Rgf_12.out.to HB13.out
  have Lv5_13 : Hid (w6.heap.size < w13.heap.size) := Nat.lt_of_lt_of_le Lv5_12.out HB13.out.size
  have Cv5_13 : Hid (w13.cell? ⟨w6.heap.size, 2, none⟩ = some (.slice (some ⟨gf, 0, none⟩) 9 9)) := (newCell HB13.out _ _ Lv5_12.out).trans Cv5_12.out
  have Rk0_13 : Hid (Rw w13 k0 D0) := Rk0_12.out.to HB13.out
  have Rk1_13 : Hid (Rw w13 k1 D1) := Rk1_12.out.to HB13.out
  have Rk2_13 : Hid (Rw w13 k2 D1) := Rk2_12.out.to HB13.out
  have Lv11_13 : Hid (w10.heap.size < w13.heap.size) := Nat.lt_of_lt_of_le Lv11_12.out HB13.out.size
  have D0v_13 : Hid (w13.cell? ⟨w10.heap.size, 0, none⟩ = some (.int .i64 24)) := (newCell HB13.out _ _ Lv11_12.out).trans D0v_12.out
  have D1v_13 : Hid (w13.cell? ⟨w10.heap.size, 1, none⟩ = some (.int .i64 16)) := (newCell HB13.out _ _ Lv11_12.out).trans D1v_12.out
  have D2v_13 : Hid (w13.cell? ⟨w10.heap.size, 2, none⟩ = some (.slice (some ⟨k0, 0, none⟩) D0.length D0.length)) := (newCell HB13.out _ _ Lv11_12.out).trans D2v_12.out
  have D3v_13 : Hid (w13.cell? ⟨w10.heap.size, 3, none⟩ = some (.int .i64 12)) := (newCell HB13.out _ _ Lv11_12.out).trans D3v_12.out
  have D4v_13 : Hid (w13.cell? ⟨w10.heap.size, 4, none⟩ = some (.int .i64 8)) := (newCell HB13.out _ _ Lv11_12.out).trans D4v_12.out
  have D5v_13 : Hid (w13.cell? ⟨w10.heap.size, 5, none⟩ = some (.slice (some ⟨k1, 0, none⟩) D1.length D1.length)) := (newCell HB13.out _ _ Lv11_12.out).trans D5v_12.out
  have D6v_13 : Hid (w13.cell? ⟨w10.heap.size, 6, none⟩ = some (.int .i64 12)) := (newCell HB13.out _ _ Lv11_12.out).trans D6v_12.out
  have D7v_13 : Hid (w13.cell? ⟨w10.heap.size, 7, none⟩ = some (.int .i64 8)) := (newCell HB13.out _ _ Lv11_12.out).trans D7v_12.out
  have D8v_13 : Hid (w13.cell? ⟨w10.heap.size, 8, none⟩ = some (.slice (some ⟨k2, 0, none⟩) D1.length D1.length)) := (newCell HB13.out _ _ Lv11_12.out).trans D8v_12.out
  have HU_13 : Hid (Below u.heap.size u w13) := below_to HU_12.out HB13.out
  clear Rgf_12 Lv5_12 Cv5_12 Rk0_12 Rk1_12 Rk2_12 Lv11_12 D0v_12 D1v_12 D2v_12 D3v_12 D4v_12 D5v_12 D6v_12 D7v_12 D8v_12 hb13 HU_12 HB13
  clear x5 Q13
  clear Rgf_13
  clear Cv5_13
  clear Lv5_13
  have y0 := D0v_13.out
  have y1 := D1v_13.out
  have y2 := D2v_13.out
  have y3 := D3v_13.out
  have y4 := D4v_13.out
  have y5 := D5v_13.out
  have y6 := D6v_13.out
  have y7 := D7v_13.out
  have y8 := D8v_13.out
  go_wp2_with fail
  refine (wk_whole L2.out L3.out).mono ?_
  rintro e w14 ⟨rfl, hb14⟩
  have HB14 : Hid (Below w13.heap.size w13 w14) := hb14
  have Rk0_14 : Hid (Rw w14 k0 D0) := Rk0_13.out.to HB14.out
  have Rk1_14 : Hid (Rw w14 k1 D1) := Rk1_13.out.to HB14.out
  have Rk2_14 : Hid (Rw w14 k2 D1) := Rk2_13.out.to HB14.out
  have Lv11_14 : Hid (w10.heap.size < w14.heap.size) := Nat.lt_of_lt_of_le Lv11_13.out HB14.out.size
  have D0v_14 : Hid (w14.cell? ⟨w10.heap.size, 0, none⟩ = some (.int .i64 24)) := (newCell HB14.out _ _ Lv11_13.out).trans D0v_13.out
  have D1v_14 : Hid (w14.cell? ⟨w10.heap.size, 1, none⟩ = some (.int .i64 16)) := (newCell HB14.out _ _ Lv11_13.out).trans D1v_13.out
  have D2v_14 : Hid (w14.cell? ⟨w10.heap.size, 2, none⟩ = some (.slice (some ⟨k0, 0, none⟩) D0.length D0.length)) := (newCell HB14.out _ _ Lv11_13.out).trans D2v_13.out
  have D3v_14 : Hid (w14.cell? ⟨w10.heap.size, 3, none⟩ = some (.int .i64 12)) := (newCell HB14.out _ _ Lv11_13.out).trans D3v_13.out
  have D4v_14 : Hid (w14.cell? ⟨w10.heap.size, 4, none⟩ = some (.int .i64 8)) := (newCell HB14.out _ _ Lv11_13.out).trans D4v_13.out
  have D5v_14 : Hid (w14.cell? ⟨w10.heap.size, 5, none⟩ = some (.slice (some ⟨k1, 0, none⟩) D1.length D1.length)) := (newCell HB14.out _ _ Lv11_13.out).trans D5v_13.out
  have D6v_14 : Hid (w14.cell? ⟨w10.heap.size, 6, none⟩ = some (.int .i64 12)) := (newCell HB14.out _ _ Lv11_13.out).trans D6v_13.out
  have D7v_14 : Hid (w14.cell? ⟨w10.heap.size, 7, none⟩ = some (.int .i64 8)) := (newCell HB14.out _ _ Lv11_13.out).trans D7v_13.out
  have D8v_14 : Hid (w14.cell? ⟨w10.heap.size, 8, none⟩ = some (.slice (some ⟨k2, 0, none⟩) D1.length D1.length)) := (newCell HB14.out _ _ Lv11_13.out).trans D8v_13.out
  have HU_14 : Hid (Below u.heap.size u w14) := below_to HU_13.out HB14.out
  clear Rk0_13 Rk1_13 Rk2_13 Lv11_13 D0v_13 D1v_13 D2v_13 D3v_13 D4v_13 D5v_13 D6v_13 D7v_13 D8v_13 hb14 HU_13 HB14
  go_wp2_with fail
  go_ret
  exact ⟨rfl, HU_14.out⟩

end Go.Proofs.Ytlgfkkegehpllab
