/- DERIVED. The walk of MotionKnown. -/
import Derived.Test.YtpideemiijhkgabDoorKh
import Derived.Test.YtpideemiijhkgabDoorOp
import Derived.Deep.DeepCutAuto
import Derived.Deep.Light
namespace Go.Proofs.YtpideemiijhkgabDoor
open Go.RowKit

theorem run_build_12 (w : World) : (Instr.buildSlice 49 12 #[(0, .agg #[.int .i64 3, .int .i64 0, .int .i64 0, .int .i64 4, .int .i64 4, .int .i64 0, .int .i64 0, .int .i64 0]), (1, .agg #[.int .i64 (-1), .int .i64 0, .int .i64 0, .int .i64 4, .int .i64 4, .int .i64 0, .int .i64 0, .int .i64 0]), (2, .agg #[.int .i64 0, .int .i64 (-1), .int .i64 0, .int .i64 4, .int .i64 4, .int .i64 0, .int .i64 0, .int .i64 0]), (3, .agg #[.int .i64 0, .int .i64 0, .int .i64 1025, .int .i64 4, .int .i64 4, .int .i64 0, .int .i64 0, .int .i64 0]), (4, .agg #[.int .i64 0, .int .i64 0, .int .i64 0, .int .i64 3, .int .i64 4, .int .i64 0, .int .i64 0, .int .i64 0]), (5, .agg #[.int .i64 0, .int .i64 0, .int .i64 0, .int .i64 4, .int .i64 65, .int .i64 0, .int .i64 0, .int .i64 0]), (6, .agg #[.int .i64 0, .int .i64 0, .int .i64 0, .int .i64 4, .int .i64 4, .int .i64 4096, .int .i64 0, .int .i64 0]), (7, .agg #[.int .i64 0, .int .i64 0, .int .i64 0, .int .i64 4, .int .i64 4, .int .i64 (-4096), .int .i64 0, .int .i64 0]), (8, .agg #[.int .i64 0, .int .i64 0, .int .i64 0, .int .i64 4, .int .i64 4, .int .i64 0, .int .i64 4096, .int .i64 0]), (9, .agg #[.int .i64 0, .int .i64 0, .int .i64 0, .int .i64 4, .int .i64 4, .int .i64 0, .int .i64 (-4096), .int .i64 0]), (10, .agg #[.int .i64 0, .int .i64 0, .int .i64 0, .int .i64 4, .int .i64 4, .int .i64 0, .int .i64 0, .int .i64 3]), (11, .agg #[.int .i64 0, .int .i64 0, .int .i64 0, .int .i64 4, .int .i64 4, .int .i64 0, .int .i64 0, .int .i64 (-1)])]).run Tryd.prog w = .ok (.slice (some ⟨w.heap.size, 0, none⟩) 12 12) (w.alloc (.cells (is kM).toArray 48)) := by
  kernel_rfl
theorem wpList_build_12 {w : World} {ops : Array Oper} {rest : List Oper} {o : Oper} {a : Act} {Q : Exit → Act → World → Prop} (x0 x1 x2 x3 x4 x5 x6 x7 x8 x9 x10 x11 : Operand)
    (ho : o.op = .buildSlice 49 12 #[(0, x0), (1, x1), (2, x2), (3, x3), (4, x4), (5, x5), (6, x6), (7, x7), (8, x8), (9, x9), (10, x10), (11, x11)]) (hgd : o.guard = none)
    (h0 : a.eval x0 = .agg #[.int .i64 3, .int .i64 0, .int .i64 0, .int .i64 4, .int .i64 4, .int .i64 0, .int .i64 0, .int .i64 0]) (h1 : a.eval x1 = .agg #[.int .i64 (-1), .int .i64 0, .int .i64 0, .int .i64 4, .int .i64 4, .int .i64 0, .int .i64 0, .int .i64 0]) (h2 : a.eval x2 = .agg #[.int .i64 0, .int .i64 (-1), .int .i64 0, .int .i64 4, .int .i64 4, .int .i64 0, .int .i64 0, .int .i64 0]) (h3 : a.eval x3 = .agg #[.int .i64 0, .int .i64 0, .int .i64 1025, .int .i64 4, .int .i64 4, .int .i64 0, .int .i64 0, .int .i64 0]) (h4 : a.eval x4 = .agg #[.int .i64 0, .int .i64 0, .int .i64 0, .int .i64 3, .int .i64 4, .int .i64 0, .int .i64 0, .int .i64 0]) (h5 : a.eval x5 = .agg #[.int .i64 0, .int .i64 0, .int .i64 0, .int .i64 4, .int .i64 65, .int .i64 0, .int .i64 0, .int .i64 0]) (h6 : a.eval x6 = .agg #[.int .i64 0, .int .i64 0, .int .i64 0, .int .i64 4, .int .i64 4, .int .i64 4096, .int .i64 0, .int .i64 0]) (h7 : a.eval x7 = .agg #[.int .i64 0, .int .i64 0, .int .i64 0, .int .i64 4, .int .i64 4, .int .i64 (-4096), .int .i64 0, .int .i64 0]) (h8 : a.eval x8 = .agg #[.int .i64 0, .int .i64 0, .int .i64 0, .int .i64 4, .int .i64 4, .int .i64 0, .int .i64 4096, .int .i64 0]) (h9 : a.eval x9 = .agg #[.int .i64 0, .int .i64 0, .int .i64 0, .int .i64 4, .int .i64 4, .int .i64 0, .int .i64 (-4096), .int .i64 0]) (h10 : a.eval x10 = .agg #[.int .i64 0, .int .i64 0, .int .i64 0, .int .i64 4, .int .i64 4, .int .i64 0, .int .i64 0, .int .i64 3]) (h11 : a.eval x11 = .agg #[.int .i64 0, .int .i64 0, .int .i64 0, .int .i64 4, .int .i64 4, .int .i64 0, .int .i64 0, .int .i64 (-1)])
    (h : wpList Tryd.prog ops Q rest (a.put o.dst (.slice (some ⟨w.heap.size, 0, none⟩) 12 12)) (w.alloc (.cells (is kM).toArray 48))) : wpList Tryd.prog ops Q (o :: rest) a w := by
  refine wpList_plain hgd fun K hK => ?_
  have hr := run_build_12 w
  unfold Oper.wp execOp
  simp only [ho, h0, h1, h2, h3, h4, h5, h6, h7, h8, h9, h10, h11, List.map_toArray, List.map_cons, List.map_nil, hr, Sem.run_bind, Sem.run_pure, Result.andThen_ok]
  exact hK _ _ h
theorem run_build_6 (w : World) : (Instr.buildSlice 52 6 #[(0, .agg #[.int .i64 0, .int .i64 0, .int .i64 1, .int .i64 3]), (1, .agg #[.int .i64 1, .int .i64 0, .int .i64 2, .int .i64 4]), (2, .agg #[.int .i64 0, .int .i64 1, .int .i64 1, .int .i64 4]), (3, .agg #[.int .i64 (-1), .int .i64 0, .int .i64 1, .int .i64 4]), (4, .agg #[.int .i64 0, .int .i64 0, .int .i64 1, .int .i64 33]), (5, .agg #[.int .i64 0, .int .i64 0, .int .i64 0, .int .i64 4])]).run Tryd.prog w = .ok (.slice (some ⟨w.heap.size, 0, none⟩) 6 6) (w.alloc (.cells (is kR).toArray 24)) := by
  kernel_rfl
theorem wpList_build_6 {w : World} {ops : Array Oper} {rest : List Oper} {o : Oper} {a : Act} {Q : Exit → Act → World → Prop} (x0 x1 x2 x3 x4 x5 : Operand)
    (ho : o.op = .buildSlice 52 6 #[(0, x0), (1, x1), (2, x2), (3, x3), (4, x4), (5, x5)]) (hgd : o.guard = none)
    (h0 : a.eval x0 = .agg #[.int .i64 0, .int .i64 0, .int .i64 1, .int .i64 3]) (h1 : a.eval x1 = .agg #[.int .i64 1, .int .i64 0, .int .i64 2, .int .i64 4]) (h2 : a.eval x2 = .agg #[.int .i64 0, .int .i64 1, .int .i64 1, .int .i64 4]) (h3 : a.eval x3 = .agg #[.int .i64 (-1), .int .i64 0, .int .i64 1, .int .i64 4]) (h4 : a.eval x4 = .agg #[.int .i64 0, .int .i64 0, .int .i64 1, .int .i64 33]) (h5 : a.eval x5 = .agg #[.int .i64 0, .int .i64 0, .int .i64 0, .int .i64 4])
    (h : wpList Tryd.prog ops Q rest (a.put o.dst (.slice (some ⟨w.heap.size, 0, none⟩) 6 6)) (w.alloc (.cells (is kR).toArray 24))) : wpList Tryd.prog ops Q (o :: rest) a w := by
  refine wpList_plain hgd fun K hK => ?_
  have hr := run_build_6 w
  unfold Oper.wp execOp
  simp only [ho, h0, h1, h2, h3, h4, h5, List.map_toArray, List.map_cons, List.map_nil, hr, Sem.run_bind, Sem.run_pure, Result.andThen_ok]
  exact hK _ _ h
set_option maxRecDepth 100000 in
set_option maxHeartbeats 200000000 in
theorem known_walk {u : World} (hg : Gt u) : Calls Tryd.prog 4 #[] u fun e w' => e = .returned (.bool true) ∧ Below u.heap.size u w' := by
  have HG : Hid (Gt u) := hg
  clear hg
  have F8_1 : Hid (∀ t : World, Calls Tryd.prog 15 #[.int .i64 8, .int .u8 1] t fun e w' => e = .returned (.slice (some ⟨t.heap.size, 0, none⟩) 8 8) ∧ Rw w' t.heap.size (List.replicate 8 1) ∧ Below t.heap.size t w') := fun t => flat_any (n := 8) (v := 1) (by omega)
  have F7_1 : Hid (∀ t : World, Calls Tryd.prog 15 #[.int .i64 7, .int .u8 1] t fun e w' => e = .returned (.slice (some ⟨t.heap.size, 0, none⟩) 7 7) ∧ Rw w' t.heap.size (List.replicate 7 1) ∧ Below t.heap.size t w') := fun t => flat_any (n := 7) (v := 1) (by omega)
  have F3_2 : Hid (∀ t : World, Calls Tryd.prog 15 #[.int .i64 3, .int .u8 2] t fun e w' => e = .returned (.slice (some ⟨t.heap.size, 0, none⟩) 3 3) ∧ Rw w' t.heap.size (List.replicate 3 2) ∧ Below t.heap.size t w') := fun t => flat_any (n := 3) (v := 2) (by omega)
  have F4_2 : Hid (∀ t : World, Calls Tryd.prog 15 #[.int .i64 4, .int .u8 2] t fun e w' => e = .returned (.slice (some ⟨t.heap.size, 0, none⟩) 4 4) ∧ Rw w' t.heap.size (List.replicate 4 2) ∧ Below t.heap.size t w') := fun t => flat_any (n := 4) (v := 2) (by omega)
  have F260_1 : Hid (∀ t : World, Calls Tryd.prog 15 #[.int .i64 260, .int .u8 1] t fun e w' => e = .returned (.slice (some ⟨t.heap.size, 0, none⟩) 260 260) ∧ Rw w' t.heap.size (List.replicate 260 1) ∧ Below t.heap.size t w') := fun t => flat_any (n := 260) (v := 1) (by omega)
  have F4096_5 : Hid (∀ t : World, Calls Tryd.prog 15 #[.int .i64 4096, .int .u8 5] t fun e w' => e = .returned (.slice (some ⟨t.heap.size, 0, none⟩) 4096 4096) ∧ Rw w' t.heap.size (List.replicate 4096 5) ∧ Below t.heap.size t w') := fun t => flat_any (n := 4096) (v := 5) (by omega)
  have W4 : Hid (∀ t : World, Calls Tryd.prog 6 #[.int .i64 4] t fun e w' => e = .returned (.tuple #[.slice (some ⟨t.heap.size, 0, none⟩) 4 4, .int .i64 0]) ∧ Ri 3 w' t.heap.size (wtL 4) ∧ Below t.heap.size t w') := fun t => weights_ok (n := 4) (by omega) (by omega)
  have W8 : Hid (∀ t : World, Calls Tryd.prog 6 #[.int .i64 8] t fun e w' => e = .returned (.tuple #[.slice (some ⟨t.heap.size, 0, none⟩) 8 8, .int .i64 0]) ∧ Ri 3 w' t.heap.size (wtL 8) ∧ Below t.heap.size t w') := fun t => weights_ok (n := 8) (by omega) (by omega)
  have W32 : Hid (∀ t : World, Calls Tryd.prog 6 #[.int .i64 32] t fun e w' => e = .returned (.tuple #[.slice (some ⟨t.heap.size, 0, none⟩) 32 32, .int .i64 0]) ∧ Ri 3 w' t.heap.size (wtL 32) ∧ Below t.heap.size t w') := fun t => weights_ok (n := 32) (by omega) (by omega)
  have HFr : Hid (∀ t : World, Calls Tryd.prog 12 #[.int .i64 16, .int .i64 16, .int .u8 5] t fun e w' => ∃ g0 g1 g2, e = .returned (.tuple #[.agg #[.int .i64 16, .int .i64 16, .slice (some ⟨g0, 0, none⟩) 256 256, .int .i64 8, .int .i64 8, .slice (some ⟨g1, 0, none⟩) 64 64, .int .i64 8, .int .i64 8, .slice (some ⟨g2, 0, none⟩) 64 64], .int .i64 0]) ∧ Rw w' g2 (List.replicate 64 5) ∧ Below t.heap.size t w') := fun t => by
    refine (frame_ok (u := t) (w := 16) (h := 16) (v := 5) vs16 vs16).mono ?_
    rintro e w' ⟨g0, g1, g2, rfl, _, _, hr, _, _, _, _, _, _, hb⟩
    exact ⟨g0, g1, g2, by simp only [List.length_replicate]; rfl, hr, hb⟩
  have HFar : Hid (∀ (t : World) (g0 g1 g2 : Nat), Gt t → Rw t g2 (List.replicate 64 5) → Calls Tryd.prog 13 #[.agg #[.int .i64 16, .int .i64 16, .slice (some ⟨g0, 0, none⟩) 256 256, .int .i64 8, .int .i64 8, .slice (some ⟨g1, 0, none⟩) 64 64, .int .i64 8, .int .i64 8, .slice (some ⟨g2, 0, none⟩) 64 64], .int .i64 2, .agg #[.int .i64 1024, .int .i64 1024, .int .i64 64, .int .i64 64], .agg #[.int .i64 4095, .int .i64 (-4095)], .int .i64 1] t fun e w' => ∃ a, e = .returned (.tuple #[.slice a 4096 4096, .int .i64 0]) ∧ Sl w' .u8 a (List.replicate 4096 5) ∧ Below t.heap.size t w') := fun t g0 g1 g2 h1 h2 => far_single h1 h2
  have HLb : Hid ((List.replicate 4096 5 : List Nat).length = 4096) := List.length_replicate
  obtain ⟨big, hbig⟩ : ∃ big : List Nat, List.replicate 4096 5 = big := ⟨_, rfl⟩
  rw [hbig] at HLb HFar F4096_5
  clear hbig
  go_enter Tryd.func4, Tryd.ntmps4
  go_wp2_with fail
  refine (W4.out _).mono ?_
  rintro e w1 ⟨rfl, hr, hb⟩
  have R4 : Hid (Ri 3 w1 u.heap.size (wtL 4)) := hr
  have B1 : Hid (Below u.heap.size u w1) := hb
  clear hr hb W4
  go_wp2_with fail
  refine (W8.out _).mono ?_
  rintro e w2 ⟨rfl, hr, hb⟩
  have R4b : Hid (Ri 3 w2 u.heap.size (wtL 4)) := R4.out.to hb
  have R8 : Hid (Ri 3 w2 w1.heap.size (wtL 8)) := hr
  have B2 : Hid (Below u.heap.size u w2) := below_to B1.out hb
  clear hr hb R4 B1 W8
  go_wp2_with fail
  refine (weights_no (n := 3) (by omega)).mono ?_
  rintro e w2' ⟨rfl, rfl⟩
  go_wp2_with fail
  refine (weights_no (n := 33) (by omega)).mono ?_
  rintro e w2' ⟨rfl, rfl⟩
  go_wp2_with fail
  refine (W32.out _).mono ?_
  rintro e w3 ⟨rfl, hr, hb⟩
  have R4c : Hid (Ri 3 w3 u.heap.size (wtL 4)) := R4b.out.to hb
  have R8c : Hid (Ri 3 w3 w1.heap.size (wtL 8)) := R8.out.to hb
  have R32 : Hid (Ri 3 w3 w2.heap.size (wtL 32)) := hr
  have B3 : Hid (Below u.heap.size u w3) := below_to B2.out hb
  generalize w2.heap.size = g32 at *
  generalize w1.heap.size = g8 at *
  clear hr hb R4b R8 B2 W32
  have HE : Hid (Calls Tryd.prog 11 #[.slice (some ⟨u.heap.size, 0, none⟩) 4 4, .slice (some ⟨w3.heap.size, 0, none⟩) 4 4] (w3.alloc (.cells #[.int .i64 36, .int .i64 44, .int .i64 52, .int .i64 60] 3)) fun e w' => e = .returned (.bool true) ∧ Below (w3.alloc (.cells #[.int .i64 36, .int .i64 44, .int .i64 52, .int .i64 60] 3)).heap.size (w3.alloc (.cells #[.int .i64 36, .int .i64 44, .int .i64 52, .int .i64 60] 3)) w') := by
    have h1 := (R4c.out.to (from_alloc w3 (.cells #[.int .i64 36, .int .i64 44, .int .i64 52, .int .i64 60] 3))).si
    have h2 := (Ri.built 3 w3 [36, 44, 52, 60] rfl).si
    rw [wt4] at h1
    have := eqInts_at (c := 4) (d := 4) h1 h2 rfl rfl (by simp) (by simp)
    rwa [eqI_self] at this
  go_wp2_with fail
  refine HE.out.mono ?_
  rintro e w4 ⟨rfl, hb'⟩
  have hb : Below w3.heap.size w3 w4 := below_to (from_alloc _ _) hb'
  have B4 : Hid (Below u.heap.size u w4) := below_to B3.out hb
  have c0 : w4.cell? ⟨g8, 0, none⟩ = some (.int .i64 34) := (R8c.out.to hb).cell 0 (by decide)
  have c1 : w4.cell? ⟨g8, 7, none⟩ = some (.int .i64 62) := (R8c.out.to hb).cell 7 (by decide)
  have c2 : w4.cell? ⟨g32, 0, none⟩ = some (.int .i64 32) := (R32.out.to hb).cell 0 (by decide)
  have c3 : w4.cell? ⟨g32, 31, none⟩ = some (.int .i64 63) := (R32.out.to hb).cell 31 (by decide)
  clear hb hb' HE R4c R8c R32 B3
  go_wp2_with fail
  clear c0 c1 c2 c3
  refine (HFr.out _).mono ?_
  rintro e w5 ⟨g0, g1, g2, rfl, hr, hb⟩
  have RP : Hid (Rw w5 g2 (List.replicate 64 5)) := hr
  have B5 : Hid (Below u.heap.size u w5) := below_to B4.out hb
  clear hr hb B4 HFr
  go_upto_region 8 with fail
  have KFa : Hid (Kf5 w5.heap.size g0 g1 g2 (w5.alloc (.cells #[.int .i64 16, .int .i64 16, .slice (some ⟨g0, 0, none⟩) 256 256, .int .i64 8, .int .i64 8, .slice (some ⟨g1, 0, none⟩) 64 64, .int .i64 8, .int .i64 8, .slice (some ⟨g2, 0, none⟩) 64 64] 42))) := Kf5.built w5 g0 g1 g2
  have RPa : Hid (Rw (w5.alloc (.cells #[.int .i64 16, .int .i64 16, .slice (some ⟨g0, 0, none⟩) 256 256, .int .i64 8, .int .i64 8, .slice (some ⟨g1, 0, none⟩) 64 64, .int .i64 8, .int .i64 8, .slice (some ⟨g2, 0, none⟩) 64 64] 42)) g2 (List.replicate 64 5)) := RP.out.to (from_alloc _ _)
  have B5a : Hid (Below u.heap.size u (w5.alloc (.cells #[.int .i64 16, .int .i64 16, .slice (some ⟨g0, 0, none⟩) 256 256, .int .i64 8, .int .i64 8, .slice (some ⟨g1, 0, none⟩) 64 64, .int .i64 8, .int .i64 8, .slice (some ⟨g2, 0, none⟩) 64 64] 42))) := to_alloc B5.out _
  generalize (w5.alloc (.cells #[.int .i64 16, .int .i64 16, .slice (some ⟨g0, 0, none⟩) 256 256, .int .i64 8, .int .i64 8, .slice (some ⟨g1, 0, none⟩) 64 64, .int .i64 8, .int .i64 8, .slice (some ⟨g2, 0, none⟩) 64 64] 42)) = y1 at *
  generalize w5.heap.size = pf at *
  clear RP B5
  go_upto_region 9 with fail
  have KOb : Hid (Ri 48 (y1.alloc (.cells #[.int .i64 0, .int .i64 0, .int .i64 0, .int .i64 4, .int .i64 4, .int .i64 0, .int .i64 0, .int .i64 0] 48)) y1.heap.size [0, 0, 0, 4, 4, 0, 0, 0]) := Ri.built 48 y1 [0, 0, 0, 4, 4, 0, 0, 0] rfl
  have KFb : Hid (Kf5 pf g0 g1 g2 (y1.alloc (.cells #[.int .i64 0, .int .i64 0, .int .i64 0, .int .i64 4, .int .i64 4, .int .i64 0, .int .i64 0, .int .i64 0] 48))) := KFa.out.to (from_alloc _ _)
  have RPb : Hid (Rw (y1.alloc (.cells #[.int .i64 0, .int .i64 0, .int .i64 0, .int .i64 4, .int .i64 4, .int .i64 0, .int .i64 0, .int .i64 0] 48)) g2 (List.replicate 64 5)) := RPa.out.to (from_alloc _ _)
  have B5b : Hid (Below u.heap.size u (y1.alloc (.cells #[.int .i64 0, .int .i64 0, .int .i64 0, .int .i64 4, .int .i64 4, .int .i64 0, .int .i64 0, .int .i64 0] 48))) := to_alloc B5a.out _
  generalize (y1.alloc (.cells #[.int .i64 0, .int .i64 0, .int .i64 0, .int .i64 4, .int .i64 4, .int .i64 0, .int .i64 0, .int .i64 0] 48)) = y2 at *
  generalize y1.heap.size = po at *
  clear KFa RPa B5a
  have c1 := KOb.out.cell 1 (by simp)
  have c2 := KOb.out.cell 2 (by simp)
  have c3 := KOb.out.cell 3 (by simp)
  have c4 := KOb.out.cell 4 (by simp)
  simp only [List.getD_cons_zero, List.getD_cons_succ] at c1 c2 c3 c4
  go_wp2_with (refine wpList_build_12 _ _ _ _ _ _ _ _ _ _ _ _ (by rfl) (by rfl) (by rfl) (by rfl) (by rfl) (by rfl) (by rfl) (by rfl) (by rfl) (by rfl) (by rfl) (by rfl) (by rfl) (by rfl) ?_)
  clear c1 c2 c3 c4
  have hb : Below y2.heap.size y2 (y2.alloc (.cells (is kM).toArray 48)) := from_alloc _ _
  have KM : Hid (Ri 48 (y2.alloc (.cells (is kM).toArray 48)) y2.heap.size kM) := Ri.built 48 y2 kM rfl
  have KO : Hid (Ri 48 (y2.alloc (.cells (is kM).toArray 48)) po [0, 0, 0, 4, 4, 0, 0, 0]) := KOb.out.to hb
  have KF : Hid (Kf5 pf g0 g1 g2 (y2.alloc (.cells (is kM).toArray 48))) := KFb.out.to hb
  have RP6 : Hid (Rw (y2.alloc (.cells (is kM).toArray 48)) g2 (List.replicate 64 5)) := RPb.out.to hb
  have B6 : Hid (Below u.heap.size u (y2.alloc (.cells (is kM).toArray 48))) := to_alloc B5b.out _
  clear hb
  clear KOb KFb RPb B5b
  generalize (y2.alloc (.cells (is kM).toArray 48)) = V at *
  generalize y2.heap.size = pm at *
  go_loopw [16] (fun i wr => ∃ q : Nat, q ≤ 12 ∧ i = .int .i64 q ∧ Below V.heap.size V wr) (fun i _ => 12 - (intOf i).toNat)
  case atStart => exact ⟨0, by omega, rfl, Below.refl _ _⟩
  case round =>
    obtain ⟨q, hq, rfl, hbr⟩ := hrel
    have HBr : Hid (Below V.heap.size V wr) := hbr
    by_cases hlt : q < 12
    · as_aux_lemma =>
        have q0 : (0 : Int) ≤ (q : Int) := by omega
        have q1 : (q : Int) < 12 := by omega
        have HMl : Hid (kM.length = 96) := by show _ = _; decide
        have HBd : Hid _ := kM_bad q hlt
        have HK : Hid (∀ t : World, Below V.heap.size V t → Kf5 pf g0 g1 g2 t ∧ t.cell? ⟨pm, q * 8, none⟩ = some (.int .i64 (kM.getD (q * 8) 0)) ∧ t.cell? ⟨pm, q * 8 + 1, none⟩ = some (.int .i64 (kM.getD (q * 8 + 1) 0)) ∧ t.cell? ⟨pm, q * 8 + 2, none⟩ = some (.int .i64 (kM.getD (q * 8 + 2) 0)) ∧ t.cell? ⟨pm, q * 8 + 3, none⟩ = some (.int .i64 (kM.getD (q * 8 + 3) 0)) ∧ t.cell? ⟨pm, q * 8 + 4, none⟩ = some (.int .i64 (kM.getD (q * 8 + 4) 0)) ∧ t.cell? ⟨pm, q * 8 + 5, none⟩ = some (.int .i64 (kM.getD (q * 8 + 5) 0)) ∧ t.cell? ⟨pm, q * 8 + 6, none⟩ = some (.int .i64 (kM.getD (q * 8 + 6) 0)) ∧ t.cell? ⟨pm, q * 8 + 7, none⟩ = some (.int .i64 (kM.getD (q * 8 + 7) 0))) := fun t ht => by
          have h1 := KM.out.to ht
          have hl := HMl.out
          exact ⟨KF.out.to ht, h1.cell (q * 8) (by omega), h1.cell (q * 8 + 1) (by omega), h1.cell (q * 8 + 2) (by omega), h1.cell (q * 8 + 3) (by omega), h1.cell (q * 8 + 4) (by omega), h1.cell (q * 8 + 5) (by omega), h1.cell (q * 8 + 6) (by omega), h1.cell (q * 8 + 7) (by omega)⟩
        generalize kM.getD (q * 8) 0 = n at *
        generalize kM.getD (q * 8 + 1) 0 = X at *
        generalize kM.getD (q * 8 + 2) 0 = Y at *
        generalize kM.getD (q * 8 + 3) 0 = w at *
        generalize kM.getD (q * 8 + 4) 0 = h at *
        generalize kM.getD (q * 8 + 5) 0 = vx at *
        generalize kM.getD (q * 8 + 6) 0 = vy at *
        generalize kM.getD (q * 8 + 7) 0 = k at *
        have HSi : Hid (∀ t : World, Calls Tryd.prog 13 #[.agg #[.int .i64 16, .int .i64 16, .slice (some ⟨g0, 0, none⟩) 256 256, .int .i64 8, .int .i64 8, .slice (some ⟨g1, 0, none⟩) 64 64, .int .i64 8, .int .i64 8, .slice (some ⟨g2, 0, none⟩) 64 64], .int .i64 n, .agg #[.int .i64 X, .int .i64 Y, .int .i64 w, .int .i64 h], .agg #[.int .i64 vx, .int .i64 vy], .int .i64 k] t fun e w' => ∃ a, e = .returned (.tuple #[.slice a 0 0, .int .i64 2]) ∧ Below t.heap.size t w') := fun t => bad_single HBd.out
        have HKK : Hid (∀ t : World, Below wr.drew.heap.size wr.drew t → t.cell? ⟨pf, 0, none⟩ = some (.int .i64 16) ∧ t.cell? ⟨pf, 1, none⟩ = some (.int .i64 16) ∧ t.cell? ⟨pf, 2, none⟩ = some (.slice (some ⟨g0, 0, none⟩) 256 256) ∧ t.cell? ⟨pf, 3, none⟩ = some (.int .i64 8) ∧ t.cell? ⟨pf, 4, none⟩ = some (.int .i64 8) ∧ t.cell? ⟨pf, 5, none⟩ = some (.slice (some ⟨g1, 0, none⟩) 64 64) ∧ t.cell? ⟨pf, 6, none⟩ = some (.int .i64 8) ∧ t.cell? ⟨pf, 7, none⟩ = some (.int .i64 8) ∧ t.cell? ⟨pf, 8, none⟩ = some (.slice (some ⟨g2, 0, none⟩) 64 64) ∧ t.cell? ⟨pm, q * 8, none⟩ = some (.int .i64 n) ∧ t.cell? ⟨pm, q * 8 + 1, none⟩ = some (.int .i64 X) ∧ t.cell? ⟨pm, q * 8 + 2, none⟩ = some (.int .i64 Y) ∧ t.cell? ⟨pm, q * 8 + 3, none⟩ = some (.int .i64 w) ∧ t.cell? ⟨pm, q * 8 + 4, none⟩ = some (.int .i64 h) ∧ t.cell? ⟨pm, q * 8 + 5, none⟩ = some (.int .i64 vx) ∧ t.cell? ⟨pm, q * 8 + 6, none⟩ = some (.int .i64 vy) ∧ t.cell? ⟨pm, q * 8 + 7, none⟩ = some (.int .i64 k)) := fun t ht => by
          obtain ⟨f, m0, m1, m2, m3, m4, m5, m6, m7⟩ := HK.out t (below_to (below_drew HBr.out) ht)
          exact ⟨f.c0, f.c1, f.c2, f.c3, f.c4, f.c5, f.c6, f.c7, f.c8, m0, m1, m2, m3, m4, m5, m6, m7⟩
        clear hbr
        go_wp2_with fail
        go_region_held3 (fun t => t.cell? ⟨pf, 0, none⟩ = some (.int .i64 16) ∧ t.cell? ⟨pf, 1, none⟩ = some (.int .i64 16) ∧ t.cell? ⟨pf, 2, none⟩ = some (.slice (some ⟨g0, 0, none⟩) 256 256) ∧ t.cell? ⟨pf, 3, none⟩ = some (.int .i64 8) ∧ t.cell? ⟨pf, 4, none⟩ = some (.int .i64 8) ∧ t.cell? ⟨pf, 5, none⟩ = some (.slice (some ⟨g1, 0, none⟩) 64 64) ∧ t.cell? ⟨pf, 6, none⟩ = some (.int .i64 8) ∧ t.cell? ⟨pf, 7, none⟩ = some (.int .i64 8) ∧ t.cell? ⟨pf, 8, none⟩ = some (.slice (some ⟨g2, 0, none⟩) 64 64) ∧ t.cell? ⟨pm, q * 8, none⟩ = some (.int .i64 n) ∧ t.cell? ⟨pm, q * 8 + 1, none⟩ = some (.int .i64 X) ∧ t.cell? ⟨pm, q * 8 + 2, none⟩ = some (.int .i64 Y) ∧ t.cell? ⟨pm, q * 8 + 3, none⟩ = some (.int .i64 w) ∧ t.cell? ⟨pm, q * 8 + 4, none⟩ = some (.int .i64 h) ∧ t.cell? ⟨pm, q * 8 + 5, none⟩ = some (.int .i64 vx) ∧ t.cell? ⟨pm, q * 8 + 6, none⟩ = some (.int .i64 vy) ∧ t.cell? ⟨pm, q * 8 + 7, none⟩ = some (.int .i64 k))
          ((exact HKK.out _ (by first | exact Below.refl _ _ | assumption)))
          ((go_at_call 13; (with_reducible refine (HSi.out _).mono ?_); rintro e s1 ⟨a', rfl, hb1⟩))
        all_goals
          have HB2 : Hid (Below V.heap.size V s1) := below_to (below_drew HBr.out) hb1
          clear hb1
          go_wp2_with fail
          go_roundw
          case rel => exact ⟨q + 1, by omega, by go_num, HB2.out⟩
          case measure => simp [intOf]; omega
    · have f := KF.out.to hbr
      have c1 := (KO.out.to hbr).cell 1 (by simp)
      have c2 := (KO.out.to hbr).cell 2 (by simp)
      have c3 := (KO.out.to hbr).cell 3 (by simp)
      have c4 := (KO.out.to hbr).cell 4 (by simp)
      simp only [List.getD_cons_zero, List.getD_cons_succ] at c1 c2 c3 c4
      have KO1 : Hid (Ri 48 wr po [0, 0, 0, 4, 4, 0, 0, 0]) := KO.out.to hbr
      have RP1 : Hid (Rw wr g2 (List.replicate 64 5)) := RP6.out.to hbr
      have B7 : Hid (Below u.heap.size u wr) := below_to B6.out hbr
      have f0 := f.c0
      have f1 := f.c1
      have f2 := f.c2
      have f3 := f.c3
      have f4 := f.c4
      have f5 := f.c5
      have f6 := f.c6
      have f7 := f.c7
      have f8 := f.c8
      clear hbr HBr KF KO KM RP6 B6 f
      go_wp2_with fail
      refine (HFar.out _ _ _ _ (HG.out.to B7.out) RP1.out).mono ?_
      rintro e x1 ⟨fa, rfl, hsf, hb⟩
      have SF1 : Hid (Sl x1 .u8 fa big) := hsf
      have KO2 : Hid (Ri 48 x1 po [0, 0, 0, 4, 4, 0, 0, 0]) := KO1.out.to hb
      have B8 : Hid (Below u.heap.size u x1) := below_to B7.out hb
      clear hsf hb
      clear c1 c2 c3 c4 f0 f1 f2 f3 f4 f5 f6 f7 f8 KO1 RP1 B7
      have c1 := KO2.out.cell 1 (by simp)
      have c2 := KO2.out.cell 2 (by simp)
      have c3 := KO2.out.cell 3 (by simp)
      have c4 := KO2.out.cell 4 (by simp)
      simp only [List.getD_cons_zero, List.getD_cons_succ] at c1 c2 c3 c4
      go_wp2_with fail
      refine none_single.mono ?_
      rintro e x2 ⟨rfl, hb⟩
      have SF2 : Hid (Sl x2 .u8 fa big) := SF1.out.to hb
      have B9 : Hid (Below u.heap.size u x2) := below_to B8.out hb
      clear hb SF1 B8 c1 c2 c3 c4
      go_wp2_with fail
      refine (pair_no (C := [1]) (D := []) (by simp)).mono ?_
      rintro e x3 ⟨rfl, rfl⟩
      have SF3 : Hid (Sl (x2.alloc (.cells #[.int .u8 1] 5)) .u8 fa big) := SF2.out.to (from_alloc _ _)
      have B10 : Hid (Below u.heap.size u (x2.alloc (.cells #[.int .u8 1] 5))) := to_alloc B9.out _
      generalize (x2.alloc (.cells #[.int .u8 1] 5)) = x3 at *
      clear SF2 B9
      go_wp2_with fail
      refine (pair_ok (C := []) (D := []) (Or.inl rfl) (Or.inl rfl) (fun _ => by simp) (fun _ => by simp) rfl (by simp)).mono ?_
      rintro e x4 ⟨gn, rfl, _, _, hb⟩
      have SF4 : Hid (Sl x4 .u8 fa big) := SF3.out.to hb
      have B11 : Hid (Below u.heap.size u x4) := below_to B10.out hb
      clear hb SF3 B10
      go_wp2_with (refine wpList_build_6 _ _ _ _ _ _ (by rfl) (by rfl) (by rfl) (by rfl) (by rfl) (by rfl) (by rfl) (by rfl) ?_)
      have hb : Below x4.heap.size x4 (x4.alloc (.cells (is kR).toArray 24)) := from_alloc _ _
      have KR : Hid (Ri 24 (x4.alloc (.cells (is kR).toArray 24)) x4.heap.size kR) := Ri.built 24 x4 kR rfl
      have SF5 : Hid (Sl (x4.alloc (.cells (is kR).toArray 24)) .u8 fa big) := SF4.out.to hb
      have B12 : Hid (Below u.heap.size u (x4.alloc (.cells (is kR).toArray 24))) := to_alloc B11.out _
      clear hb SF4 B11
      generalize (x4.alloc (.cells (is kR).toArray 24)) = Z at *
      generalize x4.heap.size = pr at *
      go_loopw [28] (fun i wr => ∃ q : Nat, q ≤ 6 ∧ i = .int .i64 q ∧ Below Z.heap.size Z wr) (fun i _ => 6 - (intOf i).toNat)
      case atStart => exact ⟨0, by omega, rfl, Below.refl _ _⟩
      case round =>
        obtain ⟨q, hq, rfl, hbr⟩ := hrel
        have HBr : Hid (Below Z.heap.size Z wr) := hbr
        by_cases hlt : q < 6
        · as_aux_lemma =>
            have q0 : (0 : Int) ≤ (q : Int) := by omega
            have q1 : (q : Int) < 6 := by omega
            have hbd := kR_bad q hlt
            have HKR : Hid (∀ t : World, Below Z.heap.size Z t → t.cell? ⟨pr, q * 4, none⟩ = some (.int .i64 (kR.getD (q * 4) 0)) ∧ t.cell? ⟨pr, q * 4 + 1, none⟩ = some (.int .i64 (kR.getD (q * 4 + 1) 0)) ∧ t.cell? ⟨pr, q * 4 + 2, none⟩ = some (.int .i64 (kR.getD (q * 4 + 2) 0)) ∧ t.cell? ⟨pr, q * 4 + 3, none⟩ = some (.int .i64 (kR.getD (q * 4 + 3) 0))) := fun t ht => by
              have h1 := KR.out.to ht
              have hl : kR.length = 24 := by decide
              exact ⟨h1.cell _ (by omega), h1.cell _ (by omega), h1.cell _ (by omega), h1.cell _ (by omega)⟩
            generalize kR.getD (q * 4) 0 = X at *
            generalize kR.getD (q * 4 + 1) 0 = Y at *
            generalize kR.getD (q * 4 + 2) 0 = w at *
            generalize kR.getD (q * 4 + 3) 0 = h at *
            obtain ⟨rx, ry, ⟨rw0, rw1⟩, rh0, rh1⟩ := rect_in hbd
            obtain ⟨w', rfl⟩ : ∃ n : Nat, w = (n : Int) := ⟨w.toNat, by omega⟩
            obtain ⟨h', rfl⟩ : ∃ n : Nat, h = (n : Int) := ⟨h.toNat, by omega⟩
            have hm1 : w' * h' ≤ 2 * 33 := Nat.mul_le_mul (by omega) (by omega)
            have hm2 : (w' : Int) * (h' : Int) = ((w' * h' : Nat) : Int) := by rw [Int.natCast_mul]
            generalize w' * h' = m at *
            have FM : Hid (∀ t : World, Calls Tryd.prog 15 #[.int .i64 (m : Int), .int .u8 2] t fun e w' => ∃ g, e = .returned (.slice (some ⟨g, 0, none⟩) m m) ∧ Rw w' g (List.replicate m 2) ∧ Below t.heap.size t w') := fun t => (flat_any (n := m) (v := 2) (by omega)).mono fun _ _ h => ⟨_, h⟩
            have FE : Hid (∀ t : World, Calls Tryd.prog 15 #[.int .i64 8, .int .u8 1] t fun e w' => ∃ g, e = .returned (.slice (some ⟨g, 0, none⟩) 8 8) ∧ Rw w' g (List.replicate 8 1) ∧ Below t.heap.size t w') := fun t => (F8_1.out t).mono fun _ _ h => ⟨_, h⟩
            have HAb : Hid (∀ (t : World) (g g' : Nat), Rw t g (List.replicate 8 1) → Calls Tryd.prog 7 #[.slice (some ⟨g, 0, none⟩) 8 8, .int .i64 2, .agg #[.int .i64 X, .int .i64 Y, .int .i64 (w' : Int), .int .i64 (h' : Int)], .slice (some ⟨g', 0, none⟩) m m] t fun e w2 => e = .returned (.tuple #[.slice none 0 0, .int .i64 2]) ∧ Below t.heap.size t w2) := fun t g g' h => ab_no h (by omega) (by omega) (by omega) (bad_rect hbd)
            have m1 : (m : Int) ≤ 66 := by omega
            have m2 : IntKind.i64.wrap (m : Int) = (m : Int) := by rw [IntKind.wrap_i64]; omega
            have HKK : Hid (∀ t : World, Below wr.drew.heap.size wr.drew t → t.cell? ⟨pr, q * 4, none⟩ = some (.int .i64 X) ∧ t.cell? ⟨pr, q * 4 + 1, none⟩ = some (.int .i64 Y) ∧ t.cell? ⟨pr, q * 4 + 2, none⟩ = some (.int .i64 (w' : Int)) ∧ t.cell? ⟨pr, q * 4 + 3, none⟩ = some (.int .i64 (h' : Int))) := fun t ht => HKR.out t (below_to (below_drew HBr.out) ht)
            clear hbr hbd hm1
            go_wp2_with fail
            go_region_held3 (fun t => t.cell? ⟨pr, q * 4, none⟩ = some (.int .i64 X) ∧ t.cell? ⟨pr, q * 4 + 1, none⟩ = some (.int .i64 Y) ∧ t.cell? ⟨pr, q * 4 + 2, none⟩ = some (.int .i64 (w' : Int)) ∧ t.cell? ⟨pr, q * 4 + 3, none⟩ = some (.int .i64 (h' : Int)))
              ((exact HKK.out _ (by first | exact Below.refl _ _ | assumption | exact below_to hbx hby | exact below_to hby hbx | exact below_to (below_to hbx hby) hbz | exact below_to (below_to hby hbx) hbz)))
              ((first
                | (go_at_call 15; (with_reducible refine (FE.out _).mono ?_); rintro e wx ⟨gx, rfl, nx, hbx⟩)
                | (go_at_call 15; (with_reducible refine (FM.out _).mono ?_); rintro e wy ⟨gy, rfl, ny, hby⟩)
                | (go_at_call 7; first | ((with_reducible refine (HAb.out _ _ _ nx).mono ?_); rintro e wz ⟨rfl, hbz⟩) | ((with_reducible refine (HAb.out _ _ _ (nx.to hby)).mono ?_); rintro e wz ⟨rfl, hbz⟩))))
            all_goals
              have HB2 : Hid (Below Z.heap.size Z wz) := by first | exact below_to (below_to (below_to (below_drew HBr.out) hbx) hby) hbz | exact below_to (below_to (below_to (below_drew HBr.out) hby) hbx) hbz
              clear hbx hby hbz nx ny
              go_wp2_with fail
              go_roundw
              case rel => exact ⟨q + 1, by omega, by go_num, HB2.out⟩
              case measure => simp [intOf]; omega
        · as_aux_lemma =>
            have S0 : Hid (Sl wr .u8 fa big) := SF5.out.to hbr
            have D0 : Hid (Below u.heap.size u wr) := below_to B12.out hbr
            clear hbr HBr KR SF5 B12
            go_wp2_with fail
            refine (F7_1.out _).mono ?_
            rintro e a0 ⟨rfl, hr, hb⟩
            have R0 : Hid _ := hr
            have Sa0 : Hid (Sl a0 .u8 fa big) := S0.out.to hb
            have Da0 : Hid (Below u.heap.size u a0) := below_to D0.out hb
            clear hr hb S0 D0
            go_wp2_with fail
            refine (F3_2.out _).mono ?_
            rintro e b0 ⟨rfl, _, hb⟩
            have Rb0 : Hid _ := R0.out.to hb
            have Sb0 : Hid (Sl b0 .u8 fa big) := Sa0.out.to hb
            have Db0 : Hid (Below u.heap.size u b0) := below_to Da0.out hb
            clear hb R0 Sa0 Da0
            go_wp2_with fail
            refine (ab_no Rb0.out (by omega) (by omega) (by omega) kn_a).mono ?_
            rintro e d0 ⟨rfl, hb⟩
            have S1 : Hid (Sl d0 .u8 fa big) := Sb0.out.to hb
            have D1 : Hid (Below u.heap.size u d0) := below_to Db0.out hb
            clear hb Rb0 Sb0 Db0
            as_aux_lemma =>
             go_wp2_with fail
             refine (F8_1.out _).mono ?_
             rintro e a1 ⟨rfl, hr, hb⟩
             have R1 : Hid _ := hr
             have Sa1 : Hid (Sl a1 .u8 fa big) := S1.out.to hb
             have Da1 : Hid (Below u.heap.size u a1) := below_to D1.out hb
             clear hr hb S1 D1
             go_wp2_with fail
             refine (F4_2.out _).mono ?_
             rintro e b1 ⟨rfl, _, hb⟩
             have Rb1 : Hid _ := R1.out.to hb
             have Sb1 : Hid (Sl b1 .u8 fa big) := Sa1.out.to hb
             have Db1 : Hid (Below u.heap.size u b1) := below_to Da1.out hb
             clear hb R1 Sa1 Da1
             go_wp2_with fail
             refine (ab_no Rb1.out (by omega) (by omega) (by omega) kn_b).mono ?_
             rintro e d1 ⟨rfl, hb⟩
             have S2 : Hid (Sl d1 .u8 fa big) := Sb1.out.to hb
             have D2 : Hid (Below u.heap.size u d1) := below_to Db1.out hb
             clear hb Rb1 Sb1 Db1
             as_aux_lemma =>
              go_wp2_with fail
              refine (F260_1.out _).mono ?_
              rintro e a2 ⟨rfl, hr, hb⟩
              have R2 : Hid _ := hr
              have Sa2 : Hid (Sl a2 .u8 fa big) := S2.out.to hb
              have Da2 : Hid (Below u.heap.size u a2) := below_to D2.out hb
              clear hr hb S2 D2
              go_wp2_with fail
              refine (F4_2.out _).mono ?_
              rintro e b2 ⟨rfl, _, hb⟩
              have Rb2 : Hid _ := R2.out.to hb
              have Sb2 : Hid (Sl b2 .u8 fa big) := Sa2.out.to hb
              have Db2 : Hid (Below u.heap.size u b2) := below_to Da2.out hb
              clear hb R2 Sa2 Da2
              go_wp2_with fail
              refine (ab_no Rb2.out (by omega) (by omega) (by omega) kn_c).mono ?_
              rintro e d2 ⟨rfl, hb⟩
              have S3 : Hid (Sl d2 .u8 fa big) := Sb2.out.to hb
              have D3 : Hid (Below u.heap.size u d2) := below_to Db2.out hb
              clear hb Rb2 Sb2 Db2
              as_aux_lemma =>
               go_wp2_with fail
               refine (F260_1.out _).mono ?_
               rintro e a3 ⟨rfl, hr, hb⟩
               have R3 : Hid _ := hr
               have Sa3 : Hid (Sl a3 .u8 fa big) := S3.out.to hb
               have Da3 : Hid (Below u.heap.size u a3) := below_to D3.out hb
               clear hr hb S3 D3
               go_wp2_with fail
               refine (F4_2.out _).mono ?_
               rintro e b3 ⟨rfl, _, hb⟩
               have Rb3 : Hid _ := R3.out.to hb
               have Sb3 : Hid (Sl b3 .u8 fa big) := Sa3.out.to hb
               have Db3 : Hid (Below u.heap.size u b3) := below_to Da3.out hb
               clear hb R3 Sa3 Da3
               go_wp2_with fail
               refine (le_no Rb3.out.sl (by omega) (by omega) (by omega) kn_d).mono ?_
               rintro e d3 ⟨rfl, hb⟩
               have S4 : Hid (Sl d3 .u8 fa big) := Sb3.out.to hb
               have D4 : Hid (Below u.heap.size u d3) := below_to Db3.out hb
               clear hb Rb3 Sb3 Db3
               as_aux_lemma =>
                go_wp2_with fail
                refine (F8_1.out _).mono ?_
                rintro e a4 ⟨rfl, hr, hb⟩
                have R4 : Hid _ := hr
                have Sa4 : Hid (Sl a4 .u8 fa big) := S4.out.to hb
                have Da4 : Hid (Below u.heap.size u a4) := below_to D4.out hb
                clear hr hb S4 D4
                go_wp2_with fail
                refine (F3_2.out _).mono ?_
                rintro e b4 ⟨rfl, _, hb⟩
                have Rb4 : Hid _ := R4.out.to hb
                have Sb4 : Hid (Sl b4 .u8 fa big) := Sa4.out.to hb
                have Db4 : Hid (Below u.heap.size u b4) := below_to Da4.out hb
                clear hb R4 Sa4 Da4
                go_wp2_with fail
                refine (le_no Rb4.out.sl (by omega) (by omega) (by omega) kn_e).mono ?_
                rintro e d4 ⟨rfl, hb⟩
                have S5 : Hid (Sl d4 .u8 fa big) := Sb4.out.to hb
                have D5 : Hid (Below u.heap.size u d4) := below_to Db4.out hb
                clear hb Rb4 Sb4 Db4
                as_aux_lemma =>
                 go_wp2_with fail
                 refine (F4_2.out _).mono ?_
                 rintro e a5 ⟨rfl, _, hb⟩
                 have S6 : Hid (Sl a5 .u8 fa big) := S5.out.to hb
                 have D6 : Hid (Below u.heap.size u a5) := below_to D5.out hb
                 clear hb S5 D5
                 go_wp2_with fail
                 refine (le_no (n := 0) (v := 1) (v' := 2) (Or.inl rfl) (by omega) (by omega) (by omega) kn_f).mono ?_
                 rintro e b5 ⟨rfl, hb⟩
                 have S7 : Hid (Sl b5 .u8 fa big) := S6.out.to hb
                 have D7 : Hid (Below u.heap.size u b5) := below_to D6.out hb
                 clear hb S6 D6
                 as_aux_lemma =>
                  go_wp2_with fail
                  refine (works_true (HG.out.to D7.out)).mono ?_
                  rintro e b6 ⟨rfl, hb⟩
                  have S8 : Hid (Sl b6 .u8 fa big) := S7.out.to hb
                  have D8 : Hid (Below u.heap.size u b6) := below_to D7.out hb
                  clear hb S7 D7
                  go_wp2_with fail
                  refine (F4096_5.out _).mono ?_
                  rintro e b7 ⟨rfl, hr, hb⟩
                  have R9 : Hid _ := hr
                  have S9 : Hid (Sl b7 .u8 fa big) := S8.out.to hb
                  have D9 : Hid (Below u.heap.size u b7) := below_to D8.out hb
                  clear hr hb S8 D8
                  go_wp2_with fail
                  refine (eqBytes_same (C := big) S9.out R9.out.sl HLb.out (by omega)).mono ?_
                  rintro e b8 ⟨rfl, hb⟩
                  have D10 : Hid (Below u.heap.size u b8) := below_to D9.out hb
                  clear hb
                  go_wp2_with fail
                  go_ret
                  exact ⟨rfl, D10.out⟩

end Go.Proofs.YtpideemiijhkgabDoor
