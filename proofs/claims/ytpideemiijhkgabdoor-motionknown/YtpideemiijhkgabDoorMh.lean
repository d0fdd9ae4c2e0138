/- DERIVED. works. -/
import Derived.Test.YtpideemiijhkgabDoorMg
namespace Go.Proofs.YtpideemiijhkgabDoor
open Go.RowKit

set_option maxRecDepth 100000 in
set_option maxHeartbeats 2000000 in
theorem works_true {u : World} (hg : Gt u) : Calls Tryd.prog 5 #[] u fun e w' => e = .returned (.bool true) ∧ Below u.heap.size u w' := by
  have F1 : Hid (∀ t : World, Calls Tryd.prog 15 #[.int .i64 8, .int .u8 100] t fun e w' => e = .returned (.slice (some ⟨t.heap.size, 0, none⟩) 8 8) ∧ Rw w' t.heap.size (List.replicate 8 100) ∧ Below t.heap.size t w') := fun t => flat_any (n := 8) (v := 100) (by omega)
  have F2 : Hid (∀ t : World, Calls Tryd.prog 15 #[.int .i64 4, .int .u8 0] t fun e w' => e = .returned (.slice (some ⟨t.heap.size, 0, none⟩) 4 4) ∧ Rw w' t.heap.size (List.replicate 4 0) ∧ Below t.heap.size t w') := fun t => flat_any (n := 4) (v := 0) (by omega)
  have F3 : Hid (∀ t : World, Calls Tryd.prog 15 #[.int .i64 4, .int .u8 200] t fun e w' => e = .returned (.slice (some ⟨t.heap.size, 0, none⟩) 4 4) ∧ Rw w' t.heap.size (List.replicate 4 200) ∧ Below t.heap.size t w') := fun t => flat_any (n := 4) (v := 200) (by omega)
  have F4 : Hid (∀ t : World, Calls Tryd.prog 15 #[.int .i64 16, .int .u8 9] t fun e w' => e = .returned (.slice (some ⟨t.heap.size, 0, none⟩) 16 16) ∧ Rw w' t.heap.size (List.replicate 16 9) ∧ Below t.heap.size t w') := fun t => flat_any (n := 16) (v := 9) (by omega)
  have HAb : Hid (∀ (t : World) (g g' : Nat), Rw t g (List.replicate 8 100) → Rw t g' (List.replicate 4 0) → Calls Tryd.prog 7 #[.slice (some ⟨g, 0, none⟩) 8 8, .int .i64 2, .agg #[.int .i64 0, .int .i64 0, .int .i64 1, .int .i64 4], .slice (some ⟨g', 0, none⟩) 4 4] t fun e w' => So t w' e 8 [56, 100, 69, 100, 81, 100, 94, 100]) := fun t g g' h h' =>
    (above_ok (w := 2) (h := 4) (X := 0) (Y := 0) (rw := 1) (rh := 4) (c := 8) (co := 4) h.sl (rep_byt (by omega)) h'.sl (rep_byt (by omega)) (by omega) (by omega) (by omega) (by omega) (by simp) (by simp) (by omega) (by omega) (by omega) (by omega) (by simp) (by omega) (by omega)).mono fun _ _ k => k.so ex_above rfl
  have HLe : Hid (∀ (t : World) (g g' : Nat), Rw t g (List.replicate 8 100) → Rw t g' (List.replicate 4 200) → Calls Tryd.prog 8 #[.slice (some ⟨g, 0, none⟩) 8 8, .int .i64 4, .agg #[.int .i64 0, .int .i64 1, .int .i64 4, .int .i64 1], .slice (some ⟨g', 0, none⟩) 4 4] t fun e w' => So t w' e 8 [100, 100, 100, 100, 144, 131, 119, 106]) := fun t g g' h h' =>
    (left_ok (w := 4) (h := 2) (X := 0) (Y := 1) (rw := 4) (rh := 1) (c := 8) (co := 4) h.sl (rep_byt (by omega)) h'.sl (rep_byt (by omega)) (by omega) (by omega) (by omega) (by omega) (by simp) (by simp) (by omega) (by omega) (by omega) (by omega) (by simp) (by omega) (by omega)).mono fun _ _ k => k.so ex_left rfl
  have HPa : Hid (∀ (t : World) (g g' : Nat), Rw t g [0, 1, 255] → Rw t g' [1, 2, 255] → Calls Tryd.prog 14 #[.slice (some ⟨g, 0, none⟩) 3 3, .slice (some ⟨g', 0, none⟩) 3 3] t fun e w' => So t w' e 3 [1, 2, 255]) := fun t g g' h h' =>
    (pair_ok (c := 3) (d := 3) h.sl h'.sl (byt3 (by omega) (by omega) (by omega)) (byt3 (by omega) (by omega) (by omega)) rfl (by simp)).mono fun _ _ k => k.so ex_pair rfl
  have HFr : Hid (∀ t : World, Calls Tryd.prog 12 #[.int .i64 16, .int .i64 16, .int .u8 9] t fun e w' => ∃ g0 g1 g2, e = .returned (.tuple #[.agg #[.int .i64 16, .int .i64 16, .slice (some ⟨g0, 0, none⟩) 256 256, .int .i64 8, .int .i64 8, .slice (some ⟨g1, 0, none⟩) 64 64, .int .i64 8, .int .i64 8, .slice (some ⟨g2, 0, none⟩) 64 64], .int .i64 0]) ∧ Rw w' g1 (List.replicate 64 9) ∧ Below t.heap.size t w') := fun t => by
    refine (frame_ok (u := t) (w := 16) (h := 16) (v := 9) vs16 vs16).mono ?_
    rintro e w' ⟨g0, g1, g2, rfl, _, hr, _, _, _, _, _, _, _, hb⟩
    exact ⟨g0, g1, g2, by simp only [List.length_replicate]; rfl, hr, hb⟩
  have HSi : Hid (∀ (t : World) (g0 g1 g2 : Nat), Below u.heap.size u t → Rw t g1 (List.replicate 64 9) → Calls Tryd.prog 13 #[.agg #[.int .i64 16, .int .i64 16, .slice (some ⟨g0, 0, none⟩) 256 256, .int .i64 8, .int .i64 8, .slice (some ⟨g1, 0, none⟩) 64 64, .int .i64 8, .int .i64 8, .slice (some ⟨g2, 0, none⟩) 64 64], .int .i64 1, .agg #[.int .i64 0, .int .i64 0, .int .i64 4, .int .i64 4], .agg #[.int .i64 5, .int .i64 (-7)], .int .i64 0] t fun e w' => ∃ a, e = .returned (.tuple #[.slice a 16 16, .int .i64 0]) ∧ Sl w' .u8 a (List.replicate 16 9) ∧ Below t.heap.size t w') := fun t g0 g1 g2 ht hr => by
    have h := single_1 (u := t) (W0 := 16) (H0 := 16) (W1 := 8) (H1 := 8) (W2 := 8) (H2 := 8) (a0 := some ⟨g0, 0, none⟩) (a1 := some ⟨g1, 0, none⟩) (a2 := some ⟨g2, 0, none⟩) (c0 := 256) (c1 := 64) (c2 := 64) (C0 := List.replicate 256 9) (C1 := List.replicate 64 9) (C2 := List.replicate 64 9) (X := 0) (Y := 0) (pw := 4) (ph := 4) (vx := 5) (vy := -7) (pk := 0) (er := 0) (L := fe (List.replicate 64 9) 8 8 (16 * 0 + 5) (16 * 0 + -7) 4 4 0)
      ⟨⟨by simp, by simp, by simp⟩, ⟨by simp, by simp, by simp⟩, ⟨by simp, by simp, by simp, by simp, by simp⟩, by simp, by simp, ⟨by simp, by simp, by simp, by simp, by simp⟩, by simp, by simp, ⟨by simp, by simp, by simp, by simp, by simp⟩⟩ ⟨by omega, by omega, by omega, by omega, by omega, by omega⟩
      (fun t' ht' => (fetch_ok (x := 8) (y := 8) (wd := 4) (ht := 4) (k := 0) ((hg.to ht).to ht') (hr.to ht').sl (rep_byt (by omega)) ⟨⟨by omega, by omega, by omega, by omega, by simp⟩, by omega, by omega, by omega, by omega, by omega⟩).mono fun _ _ k => k.rs)
    rw [ex_single] at h
    simp only [List.length_replicate] at h
    refine h.mono ?_
    rintro e w' ⟨a, rfl, haw, hb⟩
    simp only [List.length_replicate]
    exact ⟨a, rfl, haw.sl, hb⟩
  clear hg
  go_enter Tryd.func5, Tryd.ntmps5
  go_wp2_with fail
  refine (F1.out _).mono ?_
  rintro e w1 ⟨rfl, hr1, hb1⟩
  have R1 : Hid _ := hr1
  have B1 : Hid _ := hb1
  clear hr1 hb1
  go_wp2_with fail
  refine (F2.out _).mono ?_
  rintro e w2 ⟨rfl, hr2, hb2⟩
  have R2 : Hid _ := hr2
  have R1b : Hid _ := R1.out.to hb2
  have B2 : Hid (Below u.heap.size u w2) := below_to B1.out hb2
  clear hr2 hb2 R1 B1 F2
  go_wp2_with fail
  refine (HAb.out _ _ _ R1b.out R2.out).mono ?_
  rintro e w3 ⟨ga, rfl, hra, _, hb3⟩
  have RA : Hid (Rw w3 ga [56, 100, 69, 100, 81, 100, 94, 100]) := hra
  have B3 : Hid (Below u.heap.size u w3) := below_to B2.out hb3
  clear hra hb3 R1b R2 B2 HAb
  go_wp2_with fail
  refine (F1.out _).mono ?_
  rintro e w4 ⟨rfl, hr4, hb4⟩
  have R4 : Hid _ := hr4
  have RA4 : Hid _ := RA.out.to hb4
  have B4 : Hid (Below u.heap.size u w4) := below_to B3.out hb4
  clear hr4 hb4 RA B3 F1
  go_wp2_with fail
  refine (F3.out _).mono ?_
  rintro e w5 ⟨rfl, hr5, hb5⟩
  have R5 : Hid _ := hr5
  have R45 : Hid _ := R4.out.to hb5
  have RA5 : Hid _ := RA4.out.to hb5
  have B5 : Hid (Below u.heap.size u w5) := below_to B4.out hb5
  clear hr5 hb5 R4 RA4 B4 F3
  go_wp2_with fail
  refine (HLe.out _ _ _ R45.out R5.out).mono ?_
  rintro e w6 ⟨gb, rfl, hrb, _, hb6⟩
  have RB : Hid (Rw w6 gb [100, 100, 100, 100, 144, 131, 119, 106]) := hrb
  have RA6 : Hid _ := RA5.out.to hb6
  have B6 : Hid (Below u.heap.size u w6) := below_to B5.out hb6
  clear hrb hb6 R45 R5 RA5 B5 HLe
  go_wp2_with fail
  refine (HPa.out _ _ _ (Rw.to (litg (L := [0, 1, 255]) rfl rfl) (from_alloc _ _)) (litg (L := [1, 2, 255]) (by simp) rfl)).mono ?_
  rintro e w7 ⟨gc, rfl, hrc, _, hb7⟩
  have RC : Hid (Rw w7 gc [1, 2, 255]) := hrc
  have hb7' : Below w6.heap.size w6 w7 := below_to (to_alloc (from_alloc _ _) _) hb7
  have RA7 : Hid _ := RA6.out.to hb7'
  have RB7 : Hid _ := RB.out.to hb7'
  have B7 : Hid (Below u.heap.size u w7) := below_to B6.out hb7'
  clear hrc hb7 hb7' RA6 RB B6 HPa
  go_wp2_with fail
  refine (HFr.out _).mono ?_
  rintro e w8 ⟨g0, g1, g2, rfl, hr8, hb8⟩
  have R8 : Hid _ := hr8
  have RA8 : Hid _ := RA7.out.to hb8
  have RB8 : Hid _ := RB7.out.to hb8
  have RC8 : Hid _ := RC.out.to hb8
  have B8 : Hid (Below u.heap.size u w8) := below_to B7.out hb8
  clear hr8 hb8 RA7 RB7 RC B7 HFr
  go_wp2_with fail
  refine (HSi.out _ g0 g1 g2 (to_alloc B8.out _) (R8.out.to (from_alloc _ _))).mono ?_
  rintro e w9 ⟨ad, rfl, hs9, hb9⟩
  have hb9' : Below w8.heap.size w8 w9 := below_to (from_alloc _ _) hb9
  have S9 : Hid (Sl w9 .u8 ad (List.replicate 16 9)) := hs9
  have RA9 : Hid _ := RA8.out.to hb9'
  have RB9 : Hid _ := RB8.out.to hb9'
  have RC9 : Hid _ := RC8.out.to hb9'
  have B9 : Hid (Below u.heap.size u w9) := below_to B8.out hb9'
  clear hs9 hb9 hb9' R8 RA8 RB8 RC8 B8 HSi
  go_wp2_with fail
  refine (eqBytes_same (n := 8) (C := [56, 100, 69, 100, 81, 100, 94, 100]) (RA9.out.sl.to (from_alloc _ _)) (Rw.sl (litg rfl rfl)) rfl (by omega)).mono ?_
  rintro e x1 ⟨rfl, hb⟩
  have hb' : Below w9.heap.size w9 x1 := below_to (from_alloc _ _) hb
  have S10 : Hid (Sl x1 .u8 ad (List.replicate 16 9)) := S9.out.to hb'
  have RB10 : Hid _ := RB9.out.to hb'
  have RC10 : Hid _ := RC9.out.to hb'
  have B10 : Hid (Below u.heap.size u x1) := below_to B9.out hb'
  clear hb hb' S9 RA9 RB9 RC9 B9
  go_wp2_with fail
  refine (eqBytes_same (n := 8) (C := [100, 100, 100, 100, 144, 131, 119, 106]) (RB10.out.sl.to (from_alloc _ _)) (Rw.sl (litg rfl rfl)) rfl (by omega)).mono ?_
  rintro e x2 ⟨rfl, hb⟩
  have hb' : Below x1.heap.size x1 x2 := below_to (from_alloc _ _) hb
  have S11 : Hid (Sl x2 .u8 ad (List.replicate 16 9)) := S10.out.to hb'
  have RC11 : Hid _ := RC10.out.to hb'
  have B11 : Hid (Below u.heap.size u x2) := below_to B10.out hb'
  clear hb hb' S10 RB10 RC10 B10
  go_wp2_with fail
  refine (eqBytes_same (n := 3) (C := [1, 2, 255]) (RC11.out.sl.to (from_alloc _ _)) (Rw.sl (litg rfl rfl)) rfl (by omega)).mono ?_
  rintro e x3 ⟨rfl, hb⟩
  have hb' : Below x2.heap.size x2 x3 := below_to (from_alloc _ _) hb
  have S12 : Hid (Sl x3 .u8 ad (List.replicate 16 9)) := S11.out.to hb'
  have B12 : Hid (Below u.heap.size u x3) := below_to B11.out hb'
  clear hb hb' S11 RC11 B11
  go_wp2_with fail
  refine (F4.out _).mono ?_
  rintro e x4 ⟨rfl, hr, hb⟩
  have R13 : Hid _ := hr
  have S13 : Hid (Sl x4 .u8 ad (List.replicate 16 9)) := S12.out.to hb
  have B13 : Hid (Below u.heap.size u x4) := below_to B12.out hb
  clear hr hb S12 B12 F4
  go_wp2_with fail
  refine (eqBytes_same (n := 16) (C := List.replicate 16 9) S13.out R13.out.sl (by simp) (by omega)).mono ?_
  rintro e x5 ⟨rfl, hb⟩
  have B14 : Hid (Below u.heap.size u x5) := below_to B13.out hb
  clear hb S13 R13 B13
  go_wp2_with fail
  go_ret
  exact ⟨rfl, B14.out⟩

end Go.Proofs.YtpideemiijhkgabDoor
