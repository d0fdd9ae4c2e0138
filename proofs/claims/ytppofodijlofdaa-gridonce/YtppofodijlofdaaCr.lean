/- DERIVED. What Vecs refuses. -/
import Derived.Test.YtppofodijlofdaaCp
namespace Go.Proofs.Ytppofodijlofdaa
open Go.RowKit

/-- Vecs' own blocks, as it stands ahead of what it asks -/
structure Vz (w : World) (z : Nat) (R : Rc) (V : World) : Prop where
  vecs : Ri 38 V (z + 2) [0, 0, 0, 0]
  res : Ri 38 V (z + 1) [0, 0, 0, 0]
  rc : Cl4 V z R
  bel : Below z w V
  size : z + 3 ≤ V.heap.size
theorem Vz.to {w : World} {z : Nat} {R : Rc} {V x : World} (h : Vz w z R V) (hb : Below V.heap.size V x) : Vz w z R x :=
  have := h.size
  ⟨h.vecs.to hb, h.res.to hb, h.rc.carry (hb.block z (by omega)), h.bel.trans (hb.mono (by omega)), Nat.le_trans h.size hb.size⟩
theorem vz_mk {w : World} {X Y W H : Int} : Vz w w.heap.size (X, Y, W, H) (((w.alloc (.cells #[.int .i64 X, .int .i64 Y, .int .i64 W, .int .i64 H] 23)).alloc (.cells #[.int .i64 0, .int .i64 0, .int .i64 0, .int .i64 0] 38)).alloc (.cells #[.int .i64 0, .int .i64 0, .int .i64 0, .int .i64 0] 38)) := by
  have hs1 : (w.alloc (.cells #[.int .i64 X, .int .i64 Y, .int .i64 W, .int .i64 H] 23)).heap.size = w.heap.size + 1 := by simp
  have hs2 : ((w.alloc (.cells #[.int .i64 X, .int .i64 Y, .int .i64 W, .int .i64 H] 23)).alloc (.cells #[.int .i64 0, .int .i64 0, .int .i64 0, .int .i64 0] 38)).heap.size = w.heap.size + 2 := by simp
  have h1 : Ri 23 (w.alloc (.cells #[.int .i64 X, .int .i64 Y, .int .i64 W, .int .i64 H] 23)) w.heap.size [X, Y, W, H] := Ri.built 23 w [X, Y, W, H] rfl
  have h2 := (h1.to (from_alloc _ (.cells #[.int .i64 0, .int .i64 0, .int .i64 0, .int .i64 0] 38))).to (from_alloc _ (.cells #[.int .i64 0, .int .i64 0, .int .i64 0, .int .i64 0] 38))
  exact ⟨Ri.built 38 _ [0, 0, 0, 0] hs2, (Ri.built 38 _ [0, 0, 0, 0] hs1).to (from_alloc _ _), ⟨h2.cell 0 (by simp), h2.cell 1 (by simp), h2.cell 2 (by simp), h2.cell 3 (by simp)⟩, to_alloc (to_alloc (from_alloc _ _) _) _, by show _ ≤ _; simp⟩
set_option maxRecDepth 100000 in
set_option maxHeartbeats 4000000 in
theorem vecs_non {w : World} {v : Value} {X Y W H r : Int} (h : Non w v) :
    Calls Try.prog 18 #[v, .agg #[.int .i64 X, .int .i64 Y, .int .i64 W, .int .i64 H], .int .i64 r] w fun e w' => Vq w w' e [] 1 := by
  have HZ : Hid (Vz w w.heap.size (X, Y, W, H) (((w.alloc (.cells #[.int .i64 X, .int .i64 Y, .int .i64 W, .int .i64 H] 23)).alloc (.cells #[.int .i64 0, .int .i64 0, .int .i64 0, .int .i64 0] 38)).alloc (.cells #[.int .i64 0, .int .i64 0, .int .i64 0, .int .i64 0] 38))) := vz_mk
  have HW0 : Hid (Below w.heap.size w (((w.alloc (.cells #[.int .i64 X, .int .i64 Y, .int .i64 W, .int .i64 H] 23)).alloc (.cells #[.int .i64 0, .int .i64 0, .int .i64 0, .int .i64 0] 38)).alloc (.cells #[.int .i64 0, .int .i64 0, .int .i64 0, .int .i64 0] 38))) := HZ.out.bel
  have HN : Hid (∀ u, Below w.heap.size w u → Calls Try.prog 24 #[v] u fun e w' => e = .returned (.bool true) ∧ u = w') := fun u hb => isNone_non (h.to hb)
  clear h
  go_enter Try.func18, Try.ntmps18
  go_upto_region 2 with fail
  generalize (((w.alloc (.cells #[.int .i64 X, .int .i64 Y, .int .i64 W, .int .i64 H] 23)).alloc (.cells #[.int .i64 0, .int .i64 0, .int .i64 0, .int .i64 0] 38)).alloc (.cells #[.int .i64 0, .int .i64 0, .int .i64 0, .int .i64 0] 38)) = V at *
  generalize hP : w.heap.size = z at *
  have HP : Hid (w.heap.size = z) := hP
  clear hP
  obtain ⟨c0, c1, c2, c3⟩ := HZ.out.rc
  simp only at c0 c1 c2 c3
  clear c0 c1 c2 c3
  have d0 := HZ.out.vecs.cell 0 (by simp)
  have d1 := HZ.out.vecs.cell 1 (by simp)
  have d2 := HZ.out.vecs.cell 2 (by simp)
  have d3 := HZ.out.vecs.cell 3 (by simp)
  have f0 := HZ.out.res.thaw 0
  have f1 := HZ.out.res.thaw 1
  have f2 := HZ.out.res.thaw 2
  have f3 := HZ.out.res.thaw 3
  have g0 := HZ.out.res.cell 0 (by simp)
  have g1 := HZ.out.res.cell 1 (by simp)
  have g2 := HZ.out.res.cell 2 (by simp)
  have g3 := HZ.out.res.cell 3 (by simp)
  simp only [List.getD_cons_zero, List.getD_cons_succ] at d0 d1 d2 d3 g0 g1 g2 g3
  have HBl : Hid (Below z w V) := HZ.out.bel
  clear HZ
  go_wp2_with ((with_reducible refine (HN.out _ HW0.out).mono ?_); rintro e w5 ⟨rfl, rfl⟩)
  refine bodyPost_ret (v := .tuple #[.agg #[.int .i64 0, .int .i64 0, .int .i64 0, .int .i64 0], .int .i64 0, .int .i64 1]) (by simp [results, Try.results18, go_sem, g0, g1, g2, g3]) rfl ?_
  refine ⟨by rfl, ?_⟩
  rw [HP.out]
  exact below_set (below_set (below_set (below_set HBl.out (by show z ≤ z + 1; omega) _) (by show z ≤ z + 1; omega) _) (by show z ≤ z + 1; omega) _) (by show z ≤ z + 1; omega) _
set_option maxRecDepth 100000 in
set_option maxHeartbeats 4000000 in
theorem vecs_no1 {w : World} {p m : Nat} {T : Rc} {v : Value} {L : List Bl} {X Y W H r : Int} (hg : Gd w p m T v L) (ha : ask T X Y 8 = false) :
    Calls Try.prog 18 #[.pointer (some ⟨p, 0, none⟩), .agg #[.int .i64 X, .int .i64 Y, .int .i64 W, .int .i64 H], .int .i64 r] w fun e w' => Vq w w' e [] 2 := by
  have HZ : Hid (Vz w w.heap.size (X, Y, W, H) (((w.alloc (.cells #[.int .i64 X, .int .i64 Y, .int .i64 W, .int .i64 H] 23)).alloc (.cells #[.int .i64 0, .int .i64 0, .int .i64 0, .int .i64 0] 38)).alloc (.cells #[.int .i64 0, .int .i64 0, .int .i64 0, .int .i64 0] 38))) := vz_mk
  have HW0 : Hid (Below w.heap.size w (((w.alloc (.cells #[.int .i64 X, .int .i64 Y, .int .i64 W, .int .i64 H] 23)).alloc (.cells #[.int .i64 0, .int .i64 0, .int .i64 0, .int .i64 0] 38)).alloc (.cells #[.int .i64 0, .int .i64 0, .int .i64 0, .int .i64 0] 38))) := HZ.out.bel
  have HN : Hid (∀ u, Below w.heap.size w u → Calls Try.prog 24 #[.pointer (some ⟨p, 0, none⟩)] u fun e w' => e = .returned (.bool false) ∧ u = w') := fun u hb => isNone_map (hg.to hb).c5
  have HA : Hid (∀ u, Below w.heap.size w u → Calls Try.prog 36 #[.pointer (some ⟨p, 0, none⟩), .int .i64 X, .int .i64 Y, .int .i64 8] u fun e w' => e = .returned (.bool false) ∧ Below u.heap.size u w') := fun u hb => by rw [← ha]; exact mayAsk_any (hg.to hb).cl hg.tok (by omega)
  clear hg ha
  go_enter Try.func18, Try.ntmps18
  go_upto_region 2 with fail
  generalize (((w.alloc (.cells #[.int .i64 X, .int .i64 Y, .int .i64 W, .int .i64 H] 23)).alloc (.cells #[.int .i64 0, .int .i64 0, .int .i64 0, .int .i64 0] 38)).alloc (.cells #[.int .i64 0, .int .i64 0, .int .i64 0, .int .i64 0] 38)) = V at *
  generalize hP : w.heap.size = z at *
  have HP : Hid (w.heap.size = z) := hP
  clear hP
  obtain ⟨c0, c1, c2, c3⟩ := HZ.out.rc
  simp only at c0 c1 c2 c3
  go_wp2_with ((with_reducible refine (HN.out _ HW0.out).mono ?_); rintro e w5 ⟨rfl, rfl⟩)
  refine (HA.out _ HW0.out).mono ?_
  rintro e V1 ⟨rfl, hb⟩
  have HZ1 : Hid (Vz w z (X, Y, W, H) V1) := HZ.out.to hb
  clear hb c0 c1 c2 c3 HZ HW0 HA HN
  have HZ := HZ1
  clear HZ1
  have d0 := HZ.out.vecs.cell 0 (by simp)
  have d1 := HZ.out.vecs.cell 1 (by simp)
  have d2 := HZ.out.vecs.cell 2 (by simp)
  have d3 := HZ.out.vecs.cell 3 (by simp)
  have f0 := HZ.out.res.thaw 0
  have f1 := HZ.out.res.thaw 1
  have f2 := HZ.out.res.thaw 2
  have f3 := HZ.out.res.thaw 3
  have g0 := HZ.out.res.cell 0 (by simp)
  have g1 := HZ.out.res.cell 1 (by simp)
  have g2 := HZ.out.res.cell 2 (by simp)
  have g3 := HZ.out.res.cell 3 (by simp)
  simp only [List.getD_cons_zero, List.getD_cons_succ] at d0 d1 d2 d3 g0 g1 g2 g3
  have HBl : Hid (Below z w V1) := HZ.out.bel
  clear HZ
  go_wp2_with fail
  refine bodyPost_ret (v := .tuple #[.agg #[.int .i64 0, .int .i64 0, .int .i64 0, .int .i64 0], .int .i64 0, .int .i64 2]) (by simp [results, Try.results18, go_sem, g0, g1, g2, g3]) rfl ?_
  refine ⟨by rfl, ?_⟩
  rw [HP.out]
  exact below_set (below_set (below_set (below_set HBl.out (by show z ≤ z + 1; omega) _) (by show z ≤ z + 1; omega) _) (by show z ≤ z + 1; omega) _) (by show z ≤ z + 1; omega) _
set_option maxRecDepth 100000 in
set_option maxHeartbeats 4000000 in
theorem vecs_no2 {w : World} {p m : Nat} {T : Rc} {v : Value} {L : List Bl} {X Y W H r : Int} (hg : Gd w p m T v L) (ha : ask T X Y 8 = true) (hw : im W 8 8 64 = false) :
    Calls Try.prog 18 #[.pointer (some ⟨p, 0, none⟩), .agg #[.int .i64 X, .int .i64 Y, .int .i64 W, .int .i64 H], .int .i64 r] w fun e w' => Vq w w' e [] 2 := by
  have HZ : Hid (Vz w w.heap.size (X, Y, W, H) (((w.alloc (.cells #[.int .i64 X, .int .i64 Y, .int .i64 W, .int .i64 H] 23)).alloc (.cells #[.int .i64 0, .int .i64 0, .int .i64 0, .int .i64 0] 38)).alloc (.cells #[.int .i64 0, .int .i64 0, .int .i64 0, .int .i64 0] 38))) := vz_mk
  have HW0 : Hid (Below w.heap.size w (((w.alloc (.cells #[.int .i64 X, .int .i64 Y, .int .i64 W, .int .i64 H] 23)).alloc (.cells #[.int .i64 0, .int .i64 0, .int .i64 0, .int .i64 0] 38)).alloc (.cells #[.int .i64 0, .int .i64 0, .int .i64 0, .int .i64 0] 38))) := HZ.out.bel
  have HN : Hid (∀ u, Below w.heap.size w u → Calls Try.prog 24 #[.pointer (some ⟨p, 0, none⟩)] u fun e w' => e = .returned (.bool false) ∧ u = w') := fun u hb => isNone_map (hg.to hb).c5
  have HA : Hid (∀ u, Below w.heap.size w u → Calls Try.prog 36 #[.pointer (some ⟨p, 0, none⟩), .int .i64 X, .int .i64 Y, .int .i64 8] u fun e w' => e = .returned (.bool true) ∧ Below u.heap.size u w') := fun u hb => by rw [← ha]; exact mayAsk_any (hg.to hb).cl hg.tok (by omega)
  have HI : Hid (∀ u, Calls Try.prog 37 #[.int .i64 W, .int .i64 8, .int .i64 8, .int .i64 64] u fun e w' => e = .returned (.bool false) ∧ u = w') := fun u => by rw [← hw]; exact isMultiple_any (by omega)
  clear hg ha hw
  go_enter Try.func18, Try.ntmps18
  go_upto_region 2 with fail
  generalize (((w.alloc (.cells #[.int .i64 X, .int .i64 Y, .int .i64 W, .int .i64 H] 23)).alloc (.cells #[.int .i64 0, .int .i64 0, .int .i64 0, .int .i64 0] 38)).alloc (.cells #[.int .i64 0, .int .i64 0, .int .i64 0, .int .i64 0] 38)) = V at *
  generalize hP : w.heap.size = z at *
  have HP : Hid (w.heap.size = z) := hP
  clear hP
  obtain ⟨c0, c1, c2, c3⟩ := HZ.out.rc
  simp only at c0 c1 c2 c3
  go_wp2_with ((with_reducible refine (HN.out _ HW0.out).mono ?_); rintro e w5 ⟨rfl, rfl⟩)
  refine (HA.out _ HW0.out).mono ?_
  rintro e V1 ⟨rfl, hb⟩
  have HZ1 : Hid (Vz w z (X, Y, W, H) V1) := HZ.out.to hb
  clear hb c0 c1 c2 c3 HZ HW0 HA HN
  have HZ := HZ1
  clear HZ1
  obtain ⟨c0, c1, c2, c3⟩ := HZ.out.rc
  simp only at c0 c1 c2 c3
  have d0 := HZ.out.vecs.cell 0 (by simp)
  have d1 := HZ.out.vecs.cell 1 (by simp)
  have d2 := HZ.out.vecs.cell 2 (by simp)
  have d3 := HZ.out.vecs.cell 3 (by simp)
  have f0 := HZ.out.res.thaw 0
  have f1 := HZ.out.res.thaw 1
  have f2 := HZ.out.res.thaw 2
  have f3 := HZ.out.res.thaw 3
  have g0 := HZ.out.res.cell 0 (by simp)
  have g1 := HZ.out.res.cell 1 (by simp)
  have g2 := HZ.out.res.cell 2 (by simp)
  have g3 := HZ.out.res.cell 3 (by simp)
  simp only [List.getD_cons_zero, List.getD_cons_succ] at d0 d1 d2 d3 g0 g1 g2 g3
  have HBl : Hid (Below z w V1) := HZ.out.bel
  clear HZ
  go_wp2_with ((with_reducible refine (HI.out _).mono ?_); rintro e w5 ⟨rfl, rfl⟩)
  refine bodyPost_ret (v := .tuple #[.agg #[.int .i64 0, .int .i64 0, .int .i64 0, .int .i64 0], .int .i64 0, .int .i64 2]) (by simp [results, Try.results18, go_sem, g0, g1, g2, g3]) rfl ?_
  refine ⟨by rfl, ?_⟩
  rw [HP.out]
  exact below_set (below_set (below_set (below_set HBl.out (by show z ≤ z + 1; omega) _) (by show z ≤ z + 1; omega) _) (by show z ≤ z + 1; omega) _) (by show z ≤ z + 1; omega) _
set_option maxRecDepth 100000 in
set_option maxHeartbeats 4000000 in
theorem vecs_no3 {w : World} {p m : Nat} {T : Rc} {v : Value} {L : List Bl} {X Y W H r : Int} (hg : Gd w p m T v L) (ha : ask T X Y 8 = true) (hw : im W 8 8 64 = true) (hr : r < 0) :
    Calls Try.prog 18 #[.pointer (some ⟨p, 0, none⟩), .agg #[.int .i64 X, .int .i64 Y, .int .i64 W, .int .i64 H], .int .i64 r] w fun e w' => Vq w w' e [] 2 := by
  have HZ : Hid (Vz w w.heap.size (X, Y, W, H) (((w.alloc (.cells #[.int .i64 X, .int .i64 Y, .int .i64 W, .int .i64 H] 23)).alloc (.cells #[.int .i64 0, .int .i64 0, .int .i64 0, .int .i64 0] 38)).alloc (.cells #[.int .i64 0, .int .i64 0, .int .i64 0, .int .i64 0] 38))) := vz_mk
  have HW0 : Hid (Below w.heap.size w (((w.alloc (.cells #[.int .i64 X, .int .i64 Y, .int .i64 W, .int .i64 H] 23)).alloc (.cells #[.int .i64 0, .int .i64 0, .int .i64 0, .int .i64 0] 38)).alloc (.cells #[.int .i64 0, .int .i64 0, .int .i64 0, .int .i64 0] 38))) := HZ.out.bel
  have HN : Hid (∀ u, Below w.heap.size w u → Calls Try.prog 24 #[.pointer (some ⟨p, 0, none⟩)] u fun e w' => e = .returned (.bool false) ∧ u = w') := fun u hb => isNone_map (hg.to hb).c5
  have HA : Hid (∀ u, Below w.heap.size w u → Calls Try.prog 36 #[.pointer (some ⟨p, 0, none⟩), .int .i64 X, .int .i64 Y, .int .i64 8] u fun e w' => e = .returned (.bool true) ∧ Below u.heap.size u w') := fun u hb => by rw [← ha]; exact mayAsk_any (hg.to hb).cl hg.tok (by omega)
  have HI : Hid (∀ u, Calls Try.prog 37 #[.int .i64 W, .int .i64 8, .int .i64 8, .int .i64 64] u fun e w' => e = .returned (.bool true) ∧ u = w') := fun u => by rw [← hw]; exact isMultiple_any (by omega)
  clear hg ha hw
  go_enter Try.func18, Try.ntmps18
  go_upto_region 2 with fail
  generalize (((w.alloc (.cells #[.int .i64 X, .int .i64 Y, .int .i64 W, .int .i64 H] 23)).alloc (.cells #[.int .i64 0, .int .i64 0, .int .i64 0, .int .i64 0] 38)).alloc (.cells #[.int .i64 0, .int .i64 0, .int .i64 0, .int .i64 0] 38)) = V at *
  generalize hP : w.heap.size = z at *
  have HP : Hid (w.heap.size = z) := hP
  clear hP
  obtain ⟨c0, c1, c2, c3⟩ := HZ.out.rc
  simp only at c0 c1 c2 c3
  go_wp2_with ((with_reducible refine (HN.out _ HW0.out).mono ?_); rintro e w5 ⟨rfl, rfl⟩)
  refine (HA.out _ HW0.out).mono ?_
  rintro e V1 ⟨rfl, hb⟩
  have HZ1 : Hid (Vz w z (X, Y, W, H) V1) := HZ.out.to hb
  clear hb c0 c1 c2 c3 HZ HW0 HA HN
  have HZ := HZ1
  clear HZ1
  obtain ⟨c0, c1, c2, c3⟩ := HZ.out.rc
  simp only at c0 c1 c2 c3
  have d0 := HZ.out.vecs.cell 0 (by simp)
  have d1 := HZ.out.vecs.cell 1 (by simp)
  have d2 := HZ.out.vecs.cell 2 (by simp)
  have d3 := HZ.out.vecs.cell 3 (by simp)
  have f0 := HZ.out.res.thaw 0
  have f1 := HZ.out.res.thaw 1
  have f2 := HZ.out.res.thaw 2
  have f3 := HZ.out.res.thaw 3
  have g0 := HZ.out.res.cell 0 (by simp)
  have g1 := HZ.out.res.cell 1 (by simp)
  have g2 := HZ.out.res.cell 2 (by simp)
  have g3 := HZ.out.res.cell 3 (by simp)
  simp only [List.getD_cons_zero, List.getD_cons_succ] at d0 d1 d2 d3 g0 g1 g2 g3
  have HBl : Hid (Below z w V1) := HZ.out.bel
  clear HZ
  go_wp2_with ((with_reducible refine (HI.out _).mono ?_); rintro e w5 ⟨rfl, rfl⟩)
  refine bodyPost_ret (v := .tuple #[.agg #[.int .i64 0, .int .i64 0, .int .i64 0, .int .i64 0], .int .i64 0, .int .i64 2]) (by simp [results, Try.results18, go_sem, g0, g1, g2, g3]) rfl ?_
  refine ⟨by rfl, ?_⟩
  rw [HP.out]
  exact below_set (below_set (below_set (below_set HBl.out (by show z ≤ z + 1; omega) _) (by show z ≤ z + 1; omega) _) (by show z ≤ z + 1; omega) _) (by show z ≤ z + 1; omega) _
set_option maxRecDepth 100000 in
set_option maxHeartbeats 4000000 in
theorem vecs_no4 {w : World} {p m : Nat} {T : Rc} {v : Value} {L : List Bl} {X Y W H r : Int} (hg : Gd w p m T v L) (ha : ask T X Y 8 = true) (hw : im W 8 8 64 = true) (h0 : 0 ≤ r) (hr : 2 < r) :
    Calls Try.prog 18 #[.pointer (some ⟨p, 0, none⟩), .agg #[.int .i64 X, .int .i64 Y, .int .i64 W, .int .i64 H], .int .i64 r] w fun e w' => Vq w w' e [] 2 := by
  have HZ : Hid (Vz w w.heap.size (X, Y, W, H) (((w.alloc (.cells #[.int .i64 X, .int .i64 Y, .int .i64 W, .int .i64 H] 23)).alloc (.cells #[.int .i64 0, .int .i64 0, .int .i64 0, .int .i64 0] 38)).alloc (.cells #[.int .i64 0, .int .i64 0, .int .i64 0, .int .i64 0] 38))) := vz_mk
  have HW0 : Hid (Below w.heap.size w (((w.alloc (.cells #[.int .i64 X, .int .i64 Y, .int .i64 W, .int .i64 H] 23)).alloc (.cells #[.int .i64 0, .int .i64 0, .int .i64 0, .int .i64 0] 38)).alloc (.cells #[.int .i64 0, .int .i64 0, .int .i64 0, .int .i64 0] 38))) := HZ.out.bel
  have HN : Hid (∀ u, Below w.heap.size w u → Calls Try.prog 24 #[.pointer (some ⟨p, 0, none⟩)] u fun e w' => e = .returned (.bool false) ∧ u = w') := fun u hb => isNone_map (hg.to hb).c5
  have HA : Hid (∀ u, Below w.heap.size w u → Calls Try.prog 36 #[.pointer (some ⟨p, 0, none⟩), .int .i64 X, .int .i64 Y, .int .i64 8] u fun e w' => e = .returned (.bool true) ∧ Below u.heap.size u w') := fun u hb => by rw [← ha]; exact mayAsk_any (hg.to hb).cl hg.tok (by omega)
  have HI : Hid (∀ u, Calls Try.prog 37 #[.int .i64 W, .int .i64 8, .int .i64 8, .int .i64 64] u fun e w' => e = .returned (.bool true) ∧ u = w') := fun u => by rw [← hw]; exact isMultiple_any (by omega)
  clear hg ha hw
  go_enter Try.func18, Try.ntmps18
  go_upto_region 2 with fail
  generalize (((w.alloc (.cells #[.int .i64 X, .int .i64 Y, .int .i64 W, .int .i64 H] 23)).alloc (.cells #[.int .i64 0, .int .i64 0, .int .i64 0, .int .i64 0] 38)).alloc (.cells #[.int .i64 0, .int .i64 0, .int .i64 0, .int .i64 0] 38)) = V at *
  generalize hP : w.heap.size = z at *
  have HP : Hid (w.heap.size = z) := hP
  clear hP
  obtain ⟨c0, c1, c2, c3⟩ := HZ.out.rc
  simp only at c0 c1 c2 c3
  go_wp2_with ((with_reducible refine (HN.out _ HW0.out).mono ?_); rintro e w5 ⟨rfl, rfl⟩)
  refine (HA.out _ HW0.out).mono ?_
  rintro e V1 ⟨rfl, hb⟩
  have HZ1 : Hid (Vz w z (X, Y, W, H) V1) := HZ.out.to hb
  clear hb c0 c1 c2 c3 HZ HW0 HA HN
  have HZ := HZ1
  clear HZ1
  obtain ⟨c0, c1, c2, c3⟩ := HZ.out.rc
  simp only at c0 c1 c2 c3
  have d0 := HZ.out.vecs.cell 0 (by simp)
  have d1 := HZ.out.vecs.cell 1 (by simp)
  have d2 := HZ.out.vecs.cell 2 (by simp)
  have d3 := HZ.out.vecs.cell 3 (by simp)
  have f0 := HZ.out.res.thaw 0
  have f1 := HZ.out.res.thaw 1
  have f2 := HZ.out.res.thaw 2
  have f3 := HZ.out.res.thaw 3
  have g0 := HZ.out.res.cell 0 (by simp)
  have g1 := HZ.out.res.cell 1 (by simp)
  have g2 := HZ.out.res.cell 2 (by simp)
  have g3 := HZ.out.res.cell 3 (by simp)
  simp only [List.getD_cons_zero, List.getD_cons_succ] at d0 d1 d2 d3 g0 g1 g2 g3
  have HBl : Hid (Below z w V1) := HZ.out.bel
  clear HZ
  go_wp2_with ((with_reducible refine (HI.out _).mono ?_); rintro e w5 ⟨rfl, rfl⟩)
  refine bodyPost_ret (v := .tuple #[.agg #[.int .i64 0, .int .i64 0, .int .i64 0, .int .i64 0], .int .i64 0, .int .i64 2]) (by simp [results, Try.results18, go_sem, g0, g1, g2, g3]) rfl ?_
  refine ⟨by rfl, ?_⟩
  rw [HP.out]
  exact below_set (below_set (below_set (below_set HBl.out (by show z ≤ z + 1; omega) _) (by show z ≤ z + 1; omega) _) (by show z ≤ z + 1; omega) _) (by show z ≤ z + 1; omega) _
/-- what may be asked of Vecs -/
def vok (T : Rc) (X Y W r : Int) : Prop := ask T X Y 8 = true ∧ im W 8 8 64 = true ∧ 0 ≤ r ∧ r ≤ 2
theorem vecs_no {w : World} {p m : Nat} {T : Rc} {v : Value} {L : List Bl} {X Y W H r : Int} (hg : Gd w p m T v L) (h : ¬ vok T X Y W r) :
    Calls Try.prog 18 #[.pointer (some ⟨p, 0, none⟩), .agg #[.int .i64 X, .int .i64 Y, .int .i64 W, .int .i64 H], .int .i64 r] w fun e w' => Vq w w' e [] 2 := by
  cases ha : ask T X Y 8
  · exact vecs_no1 hg ha
  · cases hw : im W 8 8 64
    · exact vecs_no2 hg ha hw
    · by_cases h0 : 0 ≤ r
      · by_cases h2 : r ≤ 2
        · exact absurd ⟨ha, hw, h0, h2⟩ h
        · exact vecs_no4 hg ha hw h0 (by omega)
      · exact vecs_no3 hg ha hw (by omega)
end Go.Proofs.Ytppofodijlofdaa
