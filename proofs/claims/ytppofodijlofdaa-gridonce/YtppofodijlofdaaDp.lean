/- DERIVED. What the document's Vecs refuses. -/
import Derived.Test.YtppofodijlofdaaDo
namespace Go.Proofs.Ytppofodijlofdaa
open Go.RowKit

set_option maxRecDepth 100000 in
set_option maxHeartbeats 2000000 in
theorem rvecs_no1 {w : World} {p : Nat} {X Y W H r : Int} (ha : ¬ X % 8 = 0) :
    Calls Try.prog 33 #[.pointer (some ⟨p, 0, none⟩), .agg #[.int .i64 X, .int .i64 Y, .int .i64 W, .int .i64 H], .int .i64 r] w fun e w' => Vq w w' e [] 2 := by
  have tx := tmod_no' ha
  clear ha
  have HZ : Hid (Vz w w.heap.size (X, Y, W, H) (((w.alloc (.cells #[.int .i64 X, .int .i64 Y, .int .i64 W, .int .i64 H] 23)).alloc (.cells #[.int .i64 0, .int .i64 0, .int .i64 0, .int .i64 0] 38)).alloc (.cells #[.int .i64 0, .int .i64 0, .int .i64 0, .int .i64 0] 38))) := vz_mk
  go_enter Try.func33, Try.ntmps33
  go_upto_region 2 with fail
  generalize (((w.alloc (.cells #[.int .i64 X, .int .i64 Y, .int .i64 W, .int .i64 H] 23)).alloc (.cells #[.int .i64 0, .int .i64 0, .int .i64 0, .int .i64 0] 38)).alloc (.cells #[.int .i64 0, .int .i64 0, .int .i64 0, .int .i64 0] 38)) = V at *
  generalize hP : w.heap.size = z at *
  have HP : Hid (w.heap.size = z) := hP
  clear hP
  obtain ⟨c0, c1, c2, c3⟩ := HZ.out.rc
  simp only at c0 c1 c2 c3
  have d0 := HZ.out.vecs.cell 0 (by simp)
  have d1 := HZ.out.vecs.cell 1 (by simp)
  have d2 := HZ.out.vecs.cell 2 (by simp)
  have d3 := HZ.out.vecs.cell 3 (by simp)
  have f0 := HZ.out.res.thaw 0
  have f1 := HZ.out.res.thaw 1
  have f2 := HZ.out.res.thaw 2
  have f3 := HZ.out.res.thaw 3
  have g0 := HZ.out.res.cell 0 (by simp)
  have g1 := HZ.out.res.cell 1 (by simp)
  have g2 := HZ.out.res.cell 2 (by simp)
  have g3 := HZ.out.res.cell 3 (by simp)
  simp only [List.getD_cons_zero, List.getD_cons_succ] at d0 d1 d2 d3 g0 g1 g2 g3
  have HBl : Hid (Below z w V) := HZ.out.bel
  clear HZ
  go_wp2_with fail
  refine bodyPost_ret (v := .tuple #[.agg #[.int .i64 0, .int .i64 0, .int .i64 0, .int .i64 0], .int .i64 0, .int .i64 2]) (by simp [results, Try.results33, go_sem, g0, g1, g2, g3]) rfl ?_
  refine ⟨by rfl, ?_⟩
  rw [HP.out]
  exact below_set (below_set (below_set (below_set HBl.out (by show z ≤ z + 1; omega) _) (by show z ≤ z + 1; omega) _) (by show z ≤ z + 1; omega) _) (by show z ≤ z + 1; omega) _
set_option maxRecDepth 100000 in
set_option maxHeartbeats 2000000 in
theorem rvecs_no2 {w : World} {p : Nat} {X Y W H r : Int} (ha : X % 8 = 0) (hb : ¬ Y % 8 = 0) :
    Calls Try.prog 33 #[.pointer (some ⟨p, 0, none⟩), .agg #[.int .i64 X, .int .i64 Y, .int .i64 W, .int .i64 H], .int .i64 r] w fun e w' => Vq w w' e [] 2 := by
  have tx := tmod_yes ha
  have ty := tmod_no' hb
  clear ha hb
  have HZ : Hid (Vz w w.heap.size (X, Y, W, H) (((w.alloc (.cells #[.int .i64 X, .int .i64 Y, .int .i64 W, .int .i64 H] 23)).alloc (.cells #[.int .i64 0, .int .i64 0, .int .i64 0, .int .i64 0] 38)).alloc (.cells #[.int .i64 0, .int .i64 0, .int .i64 0, .int .i64 0] 38))) := vz_mk
  go_enter Try.func33, Try.ntmps33
  go_upto_region 2 with fail
  generalize (((w.alloc (.cells #[.int .i64 X, .int .i64 Y, .int .i64 W, .int .i64 H] 23)).alloc (.cells #[.int .i64 0, .int .i64 0, .int .i64 0, .int .i64 0] 38)).alloc (.cells #[.int .i64 0, .int .i64 0, .int .i64 0, .int .i64 0] 38)) = V at *
  generalize hP : w.heap.size = z at *
  have HP : Hid (w.heap.size = z) := hP
  clear hP
  obtain ⟨c0, c1, c2, c3⟩ := HZ.out.rc
  simp only at c0 c1 c2 c3
  have d0 := HZ.out.vecs.cell 0 (by simp)
  have d1 := HZ.out.vecs.cell 1 (by simp)
  have d2 := HZ.out.vecs.cell 2 (by simp)
  have d3 := HZ.out.vecs.cell 3 (by simp)
  have f0 := HZ.out.res.thaw 0
  have f1 := HZ.out.res.thaw 1
  have f2 := HZ.out.res.thaw 2
  have f3 := HZ.out.res.thaw 3
  have g0 := HZ.out.res.cell 0 (by simp)
  have g1 := HZ.out.res.cell 1 (by simp)
  have g2 := HZ.out.res.cell 2 (by simp)
  have g3 := HZ.out.res.cell 3 (by simp)
  simp only [List.getD_cons_zero, List.getD_cons_succ] at d0 d1 d2 d3 g0 g1 g2 g3
  have HBl : Hid (Below z w V) := HZ.out.bel
  clear HZ
  go_wp2_with fail
  refine bodyPost_ret (v := .tuple #[.agg #[.int .i64 0, .int .i64 0, .int .i64 0, .int .i64 0], .int .i64 0, .int .i64 2]) (by simp [results, Try.results33, go_sem, g0, g1, g2, g3]) rfl ?_
  refine ⟨by rfl, ?_⟩
  rw [HP.out]
  exact below_set (below_set (below_set (below_set HBl.out (by show z ≤ z + 1; omega) _) (by show z ≤ z + 1; omega) _) (by show z ≤ z + 1; omega) _) (by show z ≤ z + 1; omega) _
set_option maxRecDepth 100000 in
set_option maxHeartbeats 2000000 in
theorem rvecs_no3 {w : World} {p : Nat} {T : Rc} {v : Value} {L : List Bl} {X Y W H r : Int} (hg : Rd w p T v L) (ha : X % 8 = 0) (hb : Y % 8 = 0) (hh : hasT T X Y = false) :
    Calls Try.prog 33 #[.pointer (some ⟨p, 0, none⟩), .agg #[.int .i64 X, .int .i64 Y, .int .i64 W, .int .i64 H], .int .i64 r] w fun e w' => Vq w w' e [] 2 := by
  have tx := tmod_yes ha
  have ty := tmod_yes hb
  clear ha hb
  have HI : Hid (∀ u, Below w.heap.size w u → Calls Try.prog 28 #[.pointer (some ⟨p, 0, none⟩), .int .i64 X, .int .i64 Y] u fun e w' => e = .returned (.bool false) ∧ Below u.heap.size u w') := fun u hb => by rw [← hh]; exact inn_any (hg.to hb).cl hg.tok
  clear hh
  clear hg
  have HZ : Hid (Vz w w.heap.size (X, Y, W, H) (((w.alloc (.cells #[.int .i64 X, .int .i64 Y, .int .i64 W, .int .i64 H] 23)).alloc (.cells #[.int .i64 0, .int .i64 0, .int .i64 0, .int .i64 0] 38)).alloc (.cells #[.int .i64 0, .int .i64 0, .int .i64 0, .int .i64 0] 38))) := vz_mk
  go_enter Try.func33, Try.ntmps33
  go_upto_region 2 with fail
  generalize (((w.alloc (.cells #[.int .i64 X, .int .i64 Y, .int .i64 W, .int .i64 H] 23)).alloc (.cells #[.int .i64 0, .int .i64 0, .int .i64 0, .int .i64 0] 38)).alloc (.cells #[.int .i64 0, .int .i64 0, .int .i64 0, .int .i64 0] 38)) = V at *
  generalize hP : w.heap.size = z at *
  have HP : Hid (w.heap.size = z) := hP
  clear hP
  obtain ⟨c0, c1, c2, c3⟩ := HZ.out.rc
  simp only at c0 c1 c2 c3
  go_wp2_with fail
  refine (HI.out _ HZ.out.bel).mono ?_
  rintro e V1 ⟨rfl, hb⟩
  have HZ1 : Hid (Vz w z (X, Y, W, H) V1) := HZ.out.to hb
  clear hb c0 c1 c2 c3 HI HZ
  have HZ := HZ1
  clear HZ1
  obtain ⟨c0, c1, c2, c3⟩ := HZ.out.rc
  simp only at c0 c1 c2 c3
  have d0 := HZ.out.vecs.cell 0 (by simp)
  have d1 := HZ.out.vecs.cell 1 (by simp)
  have d2 := HZ.out.vecs.cell 2 (by simp)
  have d3 := HZ.out.vecs.cell 3 (by simp)
  have f0 := HZ.out.res.thaw 0
  have f1 := HZ.out.res.thaw 1
  have f2 := HZ.out.res.thaw 2
  have f3 := HZ.out.res.thaw 3
  have g0 := HZ.out.res.cell 0 (by simp)
  have g1 := HZ.out.res.cell 1 (by simp)
  have g2 := HZ.out.res.cell 2 (by simp)
  have g3 := HZ.out.res.cell 3 (by simp)
  simp only [List.getD_cons_zero, List.getD_cons_succ] at d0 d1 d2 d3 g0 g1 g2 g3
  have HBl : Hid (Below z w V1) := HZ.out.bel
  clear HZ
  go_wp2_with fail
  refine bodyPost_ret (v := .tuple #[.agg #[.int .i64 0, .int .i64 0, .int .i64 0, .int .i64 0], .int .i64 0, .int .i64 2]) (by simp [results, Try.results33, go_sem, g0, g1, g2, g3]) rfl ?_
  refine ⟨by rfl, ?_⟩
  rw [HP.out]
  exact below_set (below_set (below_set (below_set HBl.out (by show z ≤ z + 1; omega) _) (by show z ≤ z + 1; omega) _) (by show z ≤ z + 1; omega) _) (by show z ≤ z + 1; omega) _
set_option maxRecDepth 100000 in
set_option maxHeartbeats 2000000 in
theorem rvecs_no4 {w : World} {p : Nat} {T : Rc} {v : Value} {L : List Bl} {X Y W H r : Int} (hg : Rd w p T v L) (ha : X % 8 = 0) (hb : Y % 8 = 0) (hh : hasT T X Y = true) (h1 : W < 8) :
    Calls Try.prog 33 #[.pointer (some ⟨p, 0, none⟩), .agg #[.int .i64 X, .int .i64 Y, .int .i64 W, .int .i64 H], .int .i64 r] w fun e w' => Vq w w' e [] 2 := by
  have tx := tmod_yes ha
  have ty := tmod_yes hb
  clear ha hb
  have HI : Hid (∀ u, Below w.heap.size w u → Calls Try.prog 28 #[.pointer (some ⟨p, 0, none⟩), .int .i64 X, .int .i64 Y] u fun e w' => e = .returned (.bool true) ∧ Below u.heap.size u w') := fun u hb => by rw [← hh]; exact inn_any (hg.to hb).cl hg.tok
  clear hh
  clear hg
  have HZ : Hid (Vz w w.heap.size (X, Y, W, H) (((w.alloc (.cells #[.int .i64 X, .int .i64 Y, .int .i64 W, .int .i64 H] 23)).alloc (.cells #[.int .i64 0, .int .i64 0, .int .i64 0, .int .i64 0] 38)).alloc (.cells #[.int .i64 0, .int .i64 0, .int .i64 0, .int .i64 0] 38))) := vz_mk
  go_enter Try.func33, Try.ntmps33
  go_upto_region 2 with fail
  generalize (((w.alloc (.cells #[.int .i64 X, .int .i64 Y, .int .i64 W, .int .i64 H] 23)).alloc (.cells #[.int .i64 0, .int .i64 0, .int .i64 0, .int .i64 0] 38)).alloc (.cells #[.int .i64 0, .int .i64 0, .int .i64 0, .int .i64 0] 38)) = V at *
  generalize hP : w.heap.size = z at *
  have HP : Hid (w.heap.size = z) := hP
  clear hP
  obtain ⟨c0, c1, c2, c3⟩ := HZ.out.rc
  simp only at c0 c1 c2 c3
  go_wp2_with fail
  refine (HI.out _ HZ.out.bel).mono ?_
  rintro e V1 ⟨rfl, hb⟩
  have HZ1 : Hid (Vz w z (X, Y, W, H) V1) := HZ.out.to hb
  clear hb c0 c1 c2 c3 HI HZ
  have HZ := HZ1
  clear HZ1
  obtain ⟨c0, c1, c2, c3⟩ := HZ.out.rc
  simp only at c0 c1 c2 c3
  have d0 := HZ.out.vecs.cell 0 (by simp)
  have d1 := HZ.out.vecs.cell 1 (by simp)
  have d2 := HZ.out.vecs.cell 2 (by simp)
  have d3 := HZ.out.vecs.cell 3 (by simp)
  have f0 := HZ.out.res.thaw 0
  have f1 := HZ.out.res.thaw 1
  have f2 := HZ.out.res.thaw 2
  have f3 := HZ.out.res.thaw 3
  have g0 := HZ.out.res.cell 0 (by simp)
  have g1 := HZ.out.res.cell 1 (by simp)
  have g2 := HZ.out.res.cell 2 (by simp)
  have g3 := HZ.out.res.cell 3 (by simp)
  simp only [List.getD_cons_zero, List.getD_cons_succ] at d0 d1 d2 d3 g0 g1 g2 g3
  have HBl : Hid (Below z w V1) := HZ.out.bel
  clear HZ
  go_wp2_with fail
  refine bodyPost_ret (v := .tuple #[.agg #[.int .i64 0, .int .i64 0, .int .i64 0, .int .i64 0], .int .i64 0, .int .i64 2]) (by simp [results, Try.results33, go_sem, g0, g1, g2, g3]) rfl ?_
  refine ⟨by rfl, ?_⟩
  rw [HP.out]
  exact below_set (below_set (below_set (below_set HBl.out (by show z ≤ z + 1; omega) _) (by show z ≤ z + 1; omega) _) (by show z ≤ z + 1; omega) _) (by show z ≤ z + 1; omega) _
set_option maxRecDepth 100000 in
set_option maxHeartbeats 2000000 in
theorem rvecs_no5 {w : World} {p : Nat} {T : Rc} {v : Value} {L : List Bl} {X Y W H r : Int} (hg : Rd w p T v L) (ha : X % 8 = 0) (hb : Y % 8 = 0) (hh : hasT T X Y = true) (h0 : 8 ≤ W) (h1 : 64 < W) :
    Calls Try.prog 33 #[.pointer (some ⟨p, 0, none⟩), .agg #[.int .i64 X, .int .i64 Y, .int .i64 W, .int .i64 H], .int .i64 r] w fun e w' => Vq w w' e [] 2 := by
  have tx := tmod_yes ha
  have ty := tmod_yes hb
  clear ha hb
  have HI : Hid (∀ u, Below w.heap.size w u → Calls Try.prog 28 #[.pointer (some ⟨p, 0, none⟩), .int .i64 X, .int .i64 Y] u fun e w' => e = .returned (.bool true) ∧ Below u.heap.size u w') := fun u hb => by rw [← hh]; exact inn_any (hg.to hb).cl hg.tok
  clear hh
  clear hg
  have HZ : Hid (Vz w w.heap.size (X, Y, W, H) (((w.alloc (.cells #[.int .i64 X, .int .i64 Y, .int .i64 W, .int .i64 H] 23)).alloc (.cells #[.int .i64 0, .int .i64 0, .int .i64 0, .int .i64 0] 38)).alloc (.cells #[.int .i64 0, .int .i64 0, .int .i64 0, .int .i64 0] 38))) := vz_mk
  go_enter Try.func33, Try.ntmps33
  go_upto_region 2 with fail
  generalize (((w.alloc (.cells #[.int .i64 X, .int .i64 Y, .int .i64 W, .int .i64 H] 23)).alloc (.cells #[.int .i64 0, .int .i64 0, .int .i64 0, .int .i64 0] 38)).alloc (.cells #[.int .i64 0, .int .i64 0, .int .i64 0, .int .i64 0] 38)) = V at *
  generalize hP : w.heap.size = z at *
  have HP : Hid (w.heap.size = z) := hP
  clear hP
  obtain ⟨c0, c1, c2, c3⟩ := HZ.out.rc
  simp only at c0 c1 c2 c3
  go_wp2_with fail
  refine (HI.out _ HZ.out.bel).mono ?_
  rintro e V1 ⟨rfl, hb⟩
  have HZ1 : Hid (Vz w z (X, Y, W, H) V1) := HZ.out.to hb
  clear hb c0 c1 c2 c3 HI HZ
  have HZ := HZ1
  clear HZ1
  obtain ⟨c0, c1, c2, c3⟩ := HZ.out.rc
  simp only at c0 c1 c2 c3
  have d0 := HZ.out.vecs.cell 0 (by simp)
  have d1 := HZ.out.vecs.cell 1 (by simp)
  have d2 := HZ.out.vecs.cell 2 (by simp)
  have d3 := HZ.out.vecs.cell 3 (by simp)
  have f0 := HZ.out.res.thaw 0
  have f1 := HZ.out.res.thaw 1
  have f2 := HZ.out.res.thaw 2
  have f3 := HZ.out.res.thaw 3
  have g0 := HZ.out.res.cell 0 (by simp)
  have g1 := HZ.out.res.cell 1 (by simp)
  have g2 := HZ.out.res.cell 2 (by simp)
  have g3 := HZ.out.res.cell 3 (by simp)
  simp only [List.getD_cons_zero, List.getD_cons_succ] at d0 d1 d2 d3 g0 g1 g2 g3
  have HBl : Hid (Below z w V1) := HZ.out.bel
  clear HZ
  go_wp2_with fail
  refine bodyPost_ret (v := .tuple #[.agg #[.int .i64 0, .int .i64 0, .int .i64 0, .int .i64 0], .int .i64 0, .int .i64 2]) (by simp [results, Try.results33, go_sem, g0, g1, g2, g3]) rfl ?_
  refine ⟨by rfl, ?_⟩
  rw [HP.out]
  exact below_set (below_set (below_set (below_set HBl.out (by show z ≤ z + 1; omega) _) (by show z ≤ z + 1; omega) _) (by show z ≤ z + 1; omega) _) (by show z ≤ z + 1; omega) _
set_option maxRecDepth 100000 in
set_option maxHeartbeats 2000000 in
theorem rvecs_no6 {w : World} {p : Nat} {T : Rc} {v : Value} {L : List Bl} {X Y W H r : Int} (hg : Rd w p T v L) (ha : X % 8 = 0) (hb : Y % 8 = 0) (hh : hasT T X Y = true) (h0 : 8 ≤ W) (h1 : W ≤ 64) (h2 : ¬ W % 8 = 0) :
    Calls Try.prog 33 #[.pointer (some ⟨p, 0, none⟩), .agg #[.int .i64 X, .int .i64 Y, .int .i64 W, .int .i64 H], .int .i64 r] w fun e w' => Vq w w' e [] 2 := by
  have tx := tmod_yes ha
  have ty := tmod_yes hb
  clear ha hb
  have tw := tmod_no' h2
  have tv : (W % 8 != 0) = true := by rw [bne_iff_ne]; exact h2
  have HI : Hid (∀ u, Below w.heap.size w u → Calls Try.prog 28 #[.pointer (some ⟨p, 0, none⟩), .int .i64 X, .int .i64 Y] u fun e w' => e = .returned (.bool true) ∧ Below u.heap.size u w') := fun u hb => by rw [← hh]; exact inn_any (hg.to hb).cl hg.tok
  clear hh
  clear hg
  have HZ : Hid (Vz w w.heap.size (X, Y, W, H) (((w.alloc (.cells #[.int .i64 X, .int .i64 Y, .int .i64 W, .int .i64 H] 23)).alloc (.cells #[.int .i64 0, .int .i64 0, .int .i64 0, .int .i64 0] 38)).alloc (.cells #[.int .i64 0, .int .i64 0, .int .i64 0, .int .i64 0] 38))) := vz_mk
  go_enter Try.func33, Try.ntmps33
  go_upto_region 2 with fail
  generalize (((w.alloc (.cells #[.int .i64 X, .int .i64 Y, .int .i64 W, .int .i64 H] 23)).alloc (.cells #[.int .i64 0, .int .i64 0, .int .i64 0, .int .i64 0] 38)).alloc (.cells #[.int .i64 0, .int .i64 0, .int .i64 0, .int .i64 0] 38)) = V at *
  generalize hP : w.heap.size = z at *
  have HP : Hid (w.heap.size = z) := hP
  clear hP
  obtain ⟨c0, c1, c2, c3⟩ := HZ.out.rc
  simp only at c0 c1 c2 c3
  go_wp2_with fail
  refine (HI.out _ HZ.out.bel).mono ?_
  rintro e V1 ⟨rfl, hb⟩
  have HZ1 : Hid (Vz w z (X, Y, W, H) V1) := HZ.out.to hb
  clear hb c0 c1 c2 c3 HI HZ
  have HZ := HZ1
  clear HZ1
  obtain ⟨c0, c1, c2, c3⟩ := HZ.out.rc
  simp only at c0 c1 c2 c3
  have d0 := HZ.out.vecs.cell 0 (by simp)
  have d1 := HZ.out.vecs.cell 1 (by simp)
  have d2 := HZ.out.vecs.cell 2 (by simp)
  have d3 := HZ.out.vecs.cell 3 (by simp)
  have f0 := HZ.out.res.thaw 0
  have f1 := HZ.out.res.thaw 1
  have f2 := HZ.out.res.thaw 2
  have f3 := HZ.out.res.thaw 3
  have g0 := HZ.out.res.cell 0 (by simp)
  have g1 := HZ.out.res.cell 1 (by simp)
  have g2 := HZ.out.res.cell 2 (by simp)
  have g3 := HZ.out.res.cell 3 (by simp)
  simp only [List.getD_cons_zero, List.getD_cons_succ] at d0 d1 d2 d3 g0 g1 g2 g3
  have HBl : Hid (Below z w V1) := HZ.out.bel
  clear HZ
  go_wp2_with fail
  refine bodyPost_ret (v := .tuple #[.agg #[.int .i64 0, .int .i64 0, .int .i64 0, .int .i64 0], .int .i64 0, .int .i64 2]) (by simp [results, Try.results33, go_sem, g0, g1, g2, g3]) rfl ?_
  refine ⟨by rfl, ?_⟩
  rw [HP.out]
  exact below_set (below_set (below_set (below_set HBl.out (by show z ≤ z + 1; omega) _) (by show z ≤ z + 1; omega) _) (by show z ≤ z + 1; omega) _) (by show z ≤ z + 1; omega) _
set_option maxRecDepth 100000 in
set_option maxHeartbeats 2000000 in
theorem rvecs_no7 {w : World} {p : Nat} {T : Rc} {v : Value} {L : List Bl} {X Y W H r : Int} (hg : Rd w p T v L) (ha : X % 8 = 0) (hb : Y % 8 = 0) (hh : hasT T X Y = true) (h0 : 8 ≤ W) (h1 : W ≤ 64) (h2 : W % 8 = 0) (h3 : r < 0) :
    Calls Try.prog 33 #[.pointer (some ⟨p, 0, none⟩), .agg #[.int .i64 X, .int .i64 Y, .int .i64 W, .int .i64 H], .int .i64 r] w fun e w' => Vq w w' e [] 2 := by
  have tx := tmod_yes ha
  have ty := tmod_yes hb
  clear ha hb
  have tw := tmod_yes h2
  have HI : Hid (∀ u, Below w.heap.size w u → Calls Try.prog 28 #[.pointer (some ⟨p, 0, none⟩), .int .i64 X, .int .i64 Y] u fun e w' => e = .returned (.bool true) ∧ Below u.heap.size u w') := fun u hb => by rw [← hh]; exact inn_any (hg.to hb).cl hg.tok
  clear hh
  clear hg
  have HZ : Hid (Vz w w.heap.size (X, Y, W, H) (((w.alloc (.cells #[.int .i64 X, .int .i64 Y, .int .i64 W, .int .i64 H] 23)).alloc (.cells #[.int .i64 0, .int .i64 0, .int .i64 0, .int .i64 0] 38)).alloc (.cells #[.int .i64 0, .int .i64 0, .int .i64 0, .int .i64 0] 38))) := vz_mk
  go_enter Try.func33, Try.ntmps33
  go_upto_region 2 with fail
  generalize (((w.alloc (.cells #[.int .i64 X, .int .i64 Y, .int .i64 W, .int .i64 H] 23)).alloc (.cells #[.int .i64 0, .int .i64 0, .int .i64 0, .int .i64 0] 38)).alloc (.cells #[.int .i64 0, .int .i64 0, .int .i64 0, .int .i64 0] 38)) = V at *
  generalize hP : w.heap.size = z at *
  have HP : Hid (w.heap.size = z) := hP
  clear hP
  obtain ⟨c0, c1, c2, c3⟩ := HZ.out.rc
  simp only at c0 c1 c2 c3
  go_wp2_with fail
  refine (HI.out _ HZ.out.bel).mono ?_
  rintro e V1 ⟨rfl, hb⟩
  have HZ1 : Hid (Vz w z (X, Y, W, H) V1) := HZ.out.to hb
  clear hb c0 c1 c2 c3 HI HZ
  have HZ := HZ1
  clear HZ1
  obtain ⟨c0, c1, c2, c3⟩ := HZ.out.rc
  simp only at c0 c1 c2 c3
  have d0 := HZ.out.vecs.cell 0 (by simp)
  have d1 := HZ.out.vecs.cell 1 (by simp)
  have d2 := HZ.out.vecs.cell 2 (by simp)
  have d3 := HZ.out.vecs.cell 3 (by simp)
  have f0 := HZ.out.res.thaw 0
  have f1 := HZ.out.res.thaw 1
  have f2 := HZ.out.res.thaw 2
  have f3 := HZ.out.res.thaw 3
  have g0 := HZ.out.res.cell 0 (by simp)
  have g1 := HZ.out.res.cell 1 (by simp)
  have g2 := HZ.out.res.cell 2 (by simp)
  have g3 := HZ.out.res.cell 3 (by simp)
  simp only [List.getD_cons_zero, List.getD_cons_succ] at d0 d1 d2 d3 g0 g1 g2 g3
  have HBl : Hid (Below z w V1) := HZ.out.bel
  clear HZ
  go_wp2_with fail
  refine bodyPost_ret (v := .tuple #[.agg #[.int .i64 0, .int .i64 0, .int .i64 0, .int .i64 0], .int .i64 0, .int .i64 2]) (by simp [results, Try.results33, go_sem, g0, g1, g2, g3]) rfl ?_
  refine ⟨by rfl, ?_⟩
  rw [HP.out]
  exact below_set (below_set (below_set (below_set HBl.out (by show z ≤ z + 1; omega) _) (by show z ≤ z + 1; omega) _) (by show z ≤ z + 1; omega) _) (by show z ≤ z + 1; omega) _
set_option maxRecDepth 100000 in
set_option maxHeartbeats 2000000 in
theorem rvecs_no8 {w : World} {p : Nat} {T : Rc} {v : Value} {L : List Bl} {X Y W H r : Int} (hg : Rd w p T v L) (ha : X % 8 = 0) (hb : Y % 8 = 0) (hh : hasT T X Y = true) (h0 : 8 ≤ W) (h1 : W ≤ 64) (h2 : W % 8 = 0) (h3 : 0 ≤ r) (h4 : 2 < r) :
    Calls Try.prog 33 #[.pointer (some ⟨p, 0, none⟩), .agg #[.int .i64 X, .int .i64 Y, .int .i64 W, .int .i64 H], .int .i64 r] w fun e w' => Vq w w' e [] 2 := by
  have tx := tmod_yes ha
  have ty := tmod_yes hb
  clear ha hb
  have tw := tmod_yes h2
  have HI : Hid (∀ u, Below w.heap.size w u → Calls Try.prog 28 #[.pointer (some ⟨p, 0, none⟩), .int .i64 X, .int .i64 Y] u fun e w' => e = .returned (.bool true) ∧ Below u.heap.size u w') := fun u hb => by rw [← hh]; exact inn_any (hg.to hb).cl hg.tok
  clear hh
  clear hg
  have HZ : Hid (Vz w w.heap.size (X, Y, W, H) (((w.alloc (.cells #[.int .i64 X, .int .i64 Y, .int .i64 W, .int .i64 H] 23)).alloc (.cells #[.int .i64 0, .int .i64 0, .int .i64 0, .int .i64 0] 38)).alloc (.cells #[.int .i64 0, .int .i64 0, .int .i64 0, .int .i64 0] 38))) := vz_mk
  go_enter Try.func33, Try.ntmps33
  go_upto_region 2 with fail
  generalize (((w.alloc (.cells #[.int .i64 X, .int .i64 Y, .int .i64 W, .int .i64 H] 23)).alloc (.cells #[.int .i64 0, .int .i64 0, .int .i64 0, .int .i64 0] 38)).alloc (.cells #[.int .i64 0, .int .i64 0, .int .i64 0, .int .i64 0] 38)) = V at *
  generalize hP : w.heap.size = z at *
  have HP : Hid (w.heap.size = z) := hP
  clear hP
  obtain ⟨c0, c1, c2, c3⟩ := HZ.out.rc
  simp only at c0 c1 c2 c3
  go_wp2_with fail
  refine (HI.out _ HZ.out.bel).mono ?_
  rintro e V1 ⟨rfl, hb⟩
  have HZ1 : Hid (Vz w z (X, Y, W, H) V1) := HZ.out.to hb
  clear hb c0 c1 c2 c3 HI HZ
  have HZ := HZ1
  clear HZ1
  obtain ⟨c0, c1, c2, c3⟩ := HZ.out.rc
  simp only at c0 c1 c2 c3
  have d0 := HZ.out.vecs.cell 0 (by simp)
  have d1 := HZ.out.vecs.cell 1 (by simp)
  have d2 := HZ.out.vecs.cell 2 (by simp)
  have d3 := HZ.out.vecs.cell 3 (by simp)
  have f0 := HZ.out.res.thaw 0
  have f1 := HZ.out.res.thaw 1
  have f2 := HZ.out.res.thaw 2
  have f3 := HZ.out.res.thaw 3
  have g0 := HZ.out.res.cell 0 (by simp)
  have g1 := HZ.out.res.cell 1 (by simp)
  have g2 := HZ.out.res.cell 2 (by simp)
  have g3 := HZ.out.res.cell 3 (by simp)
  simp only [List.getD_cons_zero, List.getD_cons_succ] at d0 d1 d2 d3 g0 g1 g2 g3
  have HBl : Hid (Below z w V1) := HZ.out.bel
  clear HZ
  go_wp2_with fail
  refine bodyPost_ret (v := .tuple #[.agg #[.int .i64 0, .int .i64 0, .int .i64 0, .int .i64 0], .int .i64 0, .int .i64 2]) (by simp [results, Try.results33, go_sem, g0, g1, g2, g3]) rfl ?_
  refine ⟨by rfl, ?_⟩
  rw [HP.out]
  exact below_set (below_set (below_set (below_set HBl.out (by show z ≤ z + 1; omega) _) (by show z ≤ z + 1; omega) _) (by show z ≤ z + 1; omega) _) (by show z ≤ z + 1; omega) _
theorem rvecs_no {w : World} {p : Nat} {T : Rc} {v : Value} {L : List Bl} {X Y W H r : Int} (hg : Rd w p T v L) (h : ¬ vok T X Y W r) :
    Calls Try.prog 33 #[.pointer (some ⟨p, 0, none⟩), .agg #[.int .i64 X, .int .i64 Y, .int .i64 W, .int .i64 H], .int .i64 r] w fun e w' => Vq w w' e [] 2 := by
  by_cases ha : X % 8 = 0
  · by_cases hb : Y % 8 = 0
    · cases hh : hasT T X Y
      · exact rvecs_no3 hg ha hb hh
      · by_cases h1 : W < 8
        · exact rvecs_no4 hg ha hb hh h1
        · by_cases h2 : 64 < W
          · exact rvecs_no5 hg ha hb hh (by omega) h2
          · by_cases h3 : W % 8 = 0
            · by_cases h4 : r < 0
              · exact rvecs_no7 hg ha hb hh (by omega) (by omega) h3 h4
              · by_cases h5 : 2 < r
                · exact rvecs_no8 hg ha hb hh (by omega) (by omega) h3 (by omega) h5
                · exact absurd ⟨by unfold ask; simp [ha, hb, hh], decide_eq_true (by omega), by omega, by omega⟩ h
            · exact rvecs_no6 hg ha hb hh (by omega) (by omega) h3
    · exact rvecs_no2 ha hb
  · exact rvecs_no1 ha
end Go.Proofs.Ytppofodijlofdaa
