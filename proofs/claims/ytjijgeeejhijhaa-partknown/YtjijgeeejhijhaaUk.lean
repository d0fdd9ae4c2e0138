/- DERIVED. The walk of PartKnown. -/
import Derived.Test.YtjijgeeejhijhaaWa
import Derived.Test.YtjijgeeejhijhaaCe
import Derived.Deep.DeepCutAuto
namespace Go.Proofs.Ytjijgeeejhijhaa
open Go.RowKit

theorem run_build_4 (w : World) : (Instr.buildSlice 27 4 #[(0, .agg #[.int .i64 8, .int .i64 0, .int .i64 8, .int .i64 32]), (1, .agg #[.int .i64 16, .int .i64 0, .int .i64 8, .int .i64 32]), (2, .agg #[.int .i64 24, .int .i64 0, .int .i64 8, .int .i64 32]), (3, .agg #[.int .i64 32, .int .i64 0, .int .i64 8, .int .i64 32])]).run Try.prog w = .ok (.slice (some ⟨w.heap.size, 0, none⟩) 4 4) (w.alloc (.cells (rs [(8, 0, 8, 32), (16, 0, 8, 32), (24, 0, 8, 32), (32, 0, 8, 32)]).toArray 23)) := by
  kernel_rfl
theorem wpList_build_4 {w : World} {ops : Array Oper} {rest : List Oper} {o : Oper} {a : Act} {Q : Exit → Act → World → Prop} (x0 x1 x2 x3 : Operand)
    (ho : o.op = .buildSlice 27 4 #[(0, x0), (1, x1), (2, x2), (3, x3)]) (hw : Region.wanted o (yielded ops a.tmps) = true)
    (h0 : a.eval x0 = .agg #[.int .i64 8, .int .i64 0, .int .i64 8, .int .i64 32]) (h1 : a.eval x1 = .agg #[.int .i64 16, .int .i64 0, .int .i64 8, .int .i64 32]) (h2 : a.eval x2 = .agg #[.int .i64 24, .int .i64 0, .int .i64 8, .int .i64 32]) (h3 : a.eval x3 = .agg #[.int .i64 32, .int .i64 0, .int .i64 8, .int .i64 32])
    (h : wpList Try.prog ops Q rest (a.put o.dst (.slice (some ⟨w.heap.size, 0, none⟩) 4 4)) (w.alloc (.cells (rs [(8, 0, 8, 32), (16, 0, 8, 32), (24, 0, 8, 32), (32, 0, 8, 32)]).toArray 23))) : wpList Try.prog ops Q (o :: rest) a w := by
  refine BigFrame.wpList_want hw fun K hK => ?_
  have hr := run_build_4 w
  unfold Oper.wp execOp
  simp only [ho, h0, h1, h2, h3, List.map_toArray, List.map_cons, List.map_nil, hr, Sem.run_bind, Sem.run_pure, Result.andThen_ok]
  exact hK _ _ h
set_option maxRecDepth 100000 in
set_option maxHeartbeats 16000000 in
theorem known_walk {W : World} : Calls Try.prog 8 #[] W fun e w' => e = .returned (.bool true) ∧ Below W.heap.size W w' := by
  have HT : Hid (∀ t : World, Calls Try.prog 9 #[.int .i64 64] t (fun e w' => e = .returned (.tuple #[.int .i64 10, .int .i64 0]) ∧ t = w') ∧ Calls Try.prog 9 #[.int .i64 32] t (fun e w' => e = .returned (.tuple #[.int .i64 10, .int .i64 0]) ∧ t = w') ∧ Calls Try.prog 9 #[.int .i64 16] t (fun e w' => e = .returned (.tuple #[.int .i64 8, .int .i64 0]) ∧ t = w') ∧ Calls Try.prog 9 #[.int .i64 8] t (fun e w' => e = .returned (.tuple #[.int .i64 1, .int .i64 0]) ∧ t = w') ∧ Calls Try.prog 9 #[.int .i64 4] t (fun e w' => e = .returned (.tuple #[.int .i64 0, .int .i64 2]) ∧ t = w') ∧ Calls Try.prog 9 #[.int .i64 0] t (fun e w' => e = .returned (.tuple #[.int .i64 0, .int .i64 2]) ∧ t = w') ∧ Calls Try.prog 9 #[.int .i64 128] t (fun e w' => e = .returned (.tuple #[.int .i64 0, .int .i64 2]) ∧ t = w') ∧ Calls Try.prog 9 #[.int .i64 (-8)] t (fun e w' => e = .returned (.tuple #[.int .i64 0, .int .i64 2]) ∧ t = w')) := fun t => ⟨types_any, types_any, types_any, types_any, types_any, types_any, types_any, types_any⟩
  have H1 : Hid (∀ t, Calls Try.prog 11 #[.agg #[.int .i64 8, .int .i64 0, .int .i64 32, .int .i64 32], .int .i64 9] t fun e w' => ∃ g, e = .returned (.tuple #[.slice (some ⟨g, 0, none⟩) 4 4, .int .i64 0]) ∧ Sr w' (some ⟨g, 0, none⟩) [(8, 0, 8, 32), (16, 0, 8, 32), (24, 0, 8, 32), (32, 0, 8, 32)] ∧ Below t.heap.size t w') := fun t => by
    have := cuts_ok (w := t) (x := 8) (y := 0) (s := 32) (kd := 9) (by decide) (by decide)
    rw [show cutR 9 8 0 32 = [(8, 0, 8, 32), (16, 0, 8, 32), (24, 0, 8, 32), (32, 0, 8, 32)] from by decide +kernel] at this
    refine this.mono ?_
    rintro e w' ⟨g, rfl, hr, _, hb⟩
    exact ⟨g, rfl, hr.sr, hb⟩
  have HN0 : Hid (∀ t, Calls Try.prog 11 #[.agg #[.int .i64 0, .int .i64 0, .int .i64 8, .int .i64 8], .int .i64 1] t fun e w' => Cn t w' e) := fun t => cuts_no (by decide)
  have HN1 : Hid (∀ t, Calls Try.prog 11 #[.agg #[.int .i64 0, .int .i64 0, .int .i64 16, .int .i64 16], .int .i64 8] t fun e w' => Cn t w' e) := fun t => cuts_no (by decide)
  have HN2 : Hid (∀ t, Calls Try.prog 11 #[.agg #[.int .i64 0, .int .i64 0, .int .i64 16, .int .i64 16], .int .i64 (-1)] t fun e w' => Cn t w' e) := fun t => cuts_no (by decide)
  have HB0 : Hid (∀ t, Calls Try.prog 16 #[.agg #[.int .i64 0, .int .i64 0, .int .i64 32, .int .i64 32], .agg #[.int .i64 0, .int .i64 0, .int .i64 64, .int .i64 64], .slice none 0 0] t fun e w' => e = .returned (.tuple #[.slice none 0 0, .int .i64 0, .int .i64 2]) ∧ Below t.heap.size t w') := fun t => blocks_no (by decide)
  have HB1 : Hid (∀ t, Calls Try.prog 16 #[.agg #[.int .i64 1032, .int .i64 0, .int .i64 64, .int .i64 64], .agg #[.int .i64 0, .int .i64 0, .int .i64 64, .int .i64 64], .slice none 0 0] t fun e w' => e = .returned (.tuple #[.slice none 0 0, .int .i64 0, .int .i64 2]) ∧ Below t.heap.size t w') := fun t => blocks_no (by decide)
  have HO0 : Hid (∀ t, Calls Try.prog 16 #[.agg #[.int .i64 64, .int .i64 0, .int .i64 64, .int .i64 64], .agg #[.int .i64 0, .int .i64 0, .int .i64 64, .int .i64 64], .slice (some ⟨t.heap.size, 0, none⟩) 1 1] (t.alloc (.cells #[.int .i64 5] 3)) fun e w' => ∃ a c, e = .returned (.tuple #[.slice a 0 c, .int .i64 0, .int .i64 0]) ∧ Below t.heap.size t w') := fun t => by
    have := blocks_ok (w := t.alloc (.cells #[.int .i64 5] 3)) (x := 64) (y := 0) (s := 64) (s' := 64) (ax := 0) (ay := 0) (aw := 64) (ah := 64) (a := some ⟨t.heap.size, 0, none⟩) (c := 1) (C := [5]) (by decide) (by decide) (Ri.built 3 t [5] rfl).si (by simp)
    refine this.mono ?_
    rintro e w' ⟨v, rfl, ho, hb⟩
    obtain ⟨a, c, rfl, hs⟩ := ho.sl
    rw [show (tree (0, 0, 64, 64) [5] 3 64 0 0).1.length = 0 from by decide +kernel, show (tree (0, 0, 64, 64) [5] 3 64 0 0).2 = 0 from by decide +kernel]
    exact ⟨a, c, rfl, below_to (from_alloc _ _) hb⟩
  have HO1 : Hid (∀ t, Calls Try.prog 16 #[.agg #[.int .i64 1024, .int .i64 1024, .int .i64 64, .int .i64 64], .agg #[.int .i64 1024, .int .i64 1024, .int .i64 1024, .int .i64 1024], .slice (some ⟨t.heap.size, 0, none⟩) 1 1] (t.alloc (.cells #[.int .i64 (-7)] 3)) fun e w' => ∃ a c, e = .returned (.tuple #[.slice a 4 c, .int .i64 1, .int .i64 0]) ∧ Below t.heap.size t w') := fun t => by
    have := blocks_ok (w := t.alloc (.cells #[.int .i64 (-7)] 3)) (x := 1024) (y := 1024) (s := 64) (s' := 64) (ax := 1024) (ay := 1024) (aw := 1024) (ah := 1024) (a := some ⟨t.heap.size, 0, none⟩) (c := 1) (C := [-7]) (by decide) (by decide) (Ri.built 3 t [-7] rfl).si (by simp)
    refine this.mono ?_
    rintro e w' ⟨v, rfl, ho, hb⟩
    obtain ⟨a, c, rfl, hs⟩ := ho.sl
    rw [show (tree (1024, 1024, 1024, 1024) [-7] 3 1024 1024 0).1.length = 4 from by decide +kernel, show (tree (1024, 1024, 1024, 1024) [-7] 3 1024 1024 0).2 = 1 from by decide +kernel]
    exact ⟨a, c, rfl, below_to (from_alloc _ _) hb⟩
  have HO2 : Hid (∀ (t : World) (g : Nat), Ri 3 t g (List.replicate 30 3) → Calls Try.prog 16 #[.agg #[.int .i64 0, .int .i64 0, .int .i64 64, .int .i64 64], .agg #[.int .i64 0, .int .i64 0, .int .i64 64, .int .i64 64], .slice (some ⟨g, 0, none⟩) 30 30] t fun e w' => ∃ a c, e = .returned (.tuple #[.slice a 64 c, .int .i64 21, .int .i64 0]) ∧ Below t.heap.size t w') := fun t g hr => by
    have := blocks_ok (w := t) (x := 0) (y := 0) (s := 64) (s' := 64) (ax := 0) (ay := 0) (aw := 64) (ah := 64) (a := some ⟨g, 0, none⟩) (c := 30) (C := List.replicate 30 3) (by decide) (by decide) hr.si (by simp)
    refine this.mono ?_
    rintro e w' ⟨v, rfl, ho, hb⟩
    obtain ⟨a, c, rfl, hs⟩ := ho.sl
    rw [show (tree (0, 0, 64, 64) (List.replicate 30 3) 3 0 0 0).1.length = 64 from by decide +kernel, show (tree (0, 0, 64, 64) (List.replicate 30 3) 3 0 0 0).2 = 21 from by decide +kernel]
    exact ⟨a, c, rfl, hb⟩
  obtain ⟨l30, hl30⟩ : ∃ l : List Int, List.replicate 30 3 = l := ⟨_, rfl⟩
  rw [hl30] at HO2
  have HL30 : Hid (List.replicate 30 3 = l30) := hl30
  clear hl30
  have HWk : Hid (∀ t, Calls Try.prog 14 #[] t fun e w' => e = .returned (.bool true) ∧ Below t.heap.size t w') := fun t => works_true t
  have HMk : Hid (∀ u : World, (Instr.makeSlice 33 (.int .i64 30) (.int .i64 30)).run Try.prog u = .ok (.slice (some ⟨u.heap.size, 0, none⟩) 30 30) (u.alloc (.cells (madeCells #[.int .i64 0] 30) 3))) := fun u => mk_ints (n := 30) (by omega) u
  have HC : Hid (Ri 48 (W.alloc (.cells (is [64, 10, 32, 10, 16, 8, 8, 1, 4, 0, 0, 0, 128, 0, -8, 0]).toArray 48)) W.heap.size [64, 10, 32, 10, 16, 8, 8, 1, 4, 0, 0, 0, 128, 0, -8, 0]) := ⟨heap_alloc_new _ _⟩
  have HB : Hid (Below W.heap.size W (W.alloc (.cells (is [64, 10, 32, 10, 16, 8, 8, 1, 4, 0, 0, 0, 128, 0, -8, 0]).toArray 48))) := from_alloc _ _
  have HZ : Hid (W.heap.size < (W.alloc (.cells (is [64, 10, 32, 10, 16, 8, 8, 1, 4, 0, 0, 0, 128, 0, -8, 0]).toArray 48)).heap.size) := by show _ < _; simp
  have eC : (is [64, 10, 32, 10, 16, 8, 8, 1, 4, 0, 0, 0, 128, 0, -8, 0]).toArray = #[.int .i64 64, .int .i64 10, .int .i64 32, .int .i64 10, .int .i64 16, .int .i64 8, .int .i64 8, .int .i64 1, .int .i64 4, .int .i64 0, .int .i64 0, .int .i64 0, .int .i64 128, .int .i64 0, .int .i64 (-8), .int .i64 0] := rfl
  rw [eC] at HC HB HZ
  clear eC
  go_enter Try.func8, Try.ntmps8
  go_wp2_with fail
  generalize (W.alloc (.cells #[.int .i64 64, .int .i64 10, .int .i64 32, .int .i64 10, .int .i64 16, .int .i64 8, .int .i64 8, .int .i64 1, .int .i64 4, .int .i64 0, .int .i64 0, .int .i64 0, .int .i64 128, .int .i64 0, .int .i64 (-8), .int .i64 0] 48)) = V at *
  go_loopw [53] (fun i t => ∃ k : Nat, i = .int .i64 k ∧ k ≤ 8 ∧ Below V.heap.size V t) (fun i _ => 8 - (intOf i).toNat)
  case atStart => exact ⟨0, rfl, by omega, Below.refl _ _⟩
  case round =>
    obtain ⟨k, rfl, hk, hb⟩ := hrel
    have HBr : Hid (Below V.heap.size V wr) := hb
    by_cases hlt : k < 8
    · have hc : ∀ j, j < 16 → wr.cell? ⟨W.heap.size, j, none⟩ = some (.int .i64 ([64, 10, 32, 10, 16, 8, 8, 1, 4, 0, 0, 0, 128, 0, -8, 0].getD j 0)) := fun j hj => by
        rw [newCell hb _ _ HZ.out]; exact HC.out.cell j hj
      have k0 := hc (k * 2) (by omega)
      have k1 := hc (k * 2 + 1) (by omega)
      clear hc hb
      have hk8 : k = 0 ∨ k = 1 ∨ k = 2 ∨ k = 3 ∨ k = 4 ∨ k = 5 ∨ k = 6 ∨ k = 7 := by omega
      clear hk
      rcases hk8 with rfl | rfl | rfl | rfl | rfl | rfl | rfl | rfl
      all_goals
        simp only [List.getD_cons_zero, List.getD_cons_succ, Nat.zero_mul, Nat.reduceMul, Nat.reduceAdd] at k0 k1
        go_wp2_with fail
        first
          | with_reducible refine (HT.out _).1.mono ?_
          | with_reducible refine (HT.out _).2.1.mono ?_
          | with_reducible refine (HT.out _).2.2.1.mono ?_
          | with_reducible refine (HT.out _).2.2.2.1.mono ?_
          | with_reducible refine (HT.out _).2.2.2.2.1.mono ?_
          | with_reducible refine (HT.out _).2.2.2.2.2.1.mono ?_
          | with_reducible refine (HT.out _).2.2.2.2.2.2.1.mono ?_
          | with_reducible refine (HT.out _).2.2.2.2.2.2.2.mono ?_
        rintro e w5 ⟨rfl, rfl⟩
        go_wp2_with fail
        go_roundw
        case rel => first | exact ⟨1, rfl, by omega, to_alloc HBr.out _⟩ | exact ⟨2, rfl, by omega, to_alloc HBr.out _⟩ | exact ⟨3, rfl, by omega, to_alloc HBr.out _⟩ | exact ⟨4, rfl, by omega, to_alloc HBr.out _⟩ | exact ⟨5, rfl, by omega, to_alloc HBr.out _⟩ | exact ⟨6, rfl, by omega, to_alloc HBr.out _⟩ | exact ⟨7, rfl, by omega, to_alloc HBr.out _⟩ | exact ⟨8, rfl, by omega, to_alloc HBr.out _⟩
        case measure => simp [intOf]
    · obtain rfl : k = 8 := by omega
      clear hb hk hlt HC HT
      have B1 : Hid (Below W.heap.size W wr) := below_to HB.out (HBr.out.mono (by have := HZ.out; omega))
      clear HB HBr HZ
      go_wp2_with fail
      refine rect_any.mono ?_
      rintro e w1 ⟨rfl, hb⟩
      have B2 : Hid (Below W.heap.size W w1) := below_to B1.out hb
      clear hb B1
      go_wp2_with fail
      refine (H1.out _).mono ?_
      rintro e w2 ⟨g1, rfl, hs, hb⟩
      have B3 : Hid (Below W.heap.size W w2) := below_to B2.out hb
      have P3 : Hid (Sr w2 (some ⟨g1, 0, none⟩) [(8, 0, 8, 32), (16, 0, 8, 32), (24, 0, 8, 32), (32, 0, 8, 32)]) := hs
      clear hb B2 hs H1
      go_upto_region 9 with fail
      go_cut [7] (fun s T => ∃ g, s = .slice (some ⟨g, 0, none⟩) 7 7 ∧ Hid (Hr T g [(4, 0, 8, 8), (0, 0, 16, 8), (0, 0, 8, 16), (-8, 0, 8, 8), (0, 2056, 8, 8), (0, 0, 128, 128), (0, 0, 0, 0)]) ∧ Hid (Below w2.heap.size w2 T))
      case first =>
        have D0 : Hid (Below w2.heap.size w2 w2) := Below.refl _ _
        clear P3 B3
        go_wp2_with fail
        refine rect_any.mono ?_
        rintro e v0 ⟨rfl, hb⟩
        have D1 : Hid (Below w2.heap.size w2 v0) := below_to D0.out hb
        clear hb D0
        go_wp2_with fail
        refine rect_any.mono ?_
        rintro e v1 ⟨rfl, hb⟩
        have D2 : Hid (Below w2.heap.size w2 v1) := below_to D1.out hb
        clear hb D1
        go_wp2_with fail
        refine rect_any.mono ?_
        rintro e v2 ⟨rfl, hb⟩
        have D3 : Hid (Below w2.heap.size w2 v2) := below_to D2.out hb
        clear hb D2
        go_wp2_with fail
        refine rect_any.mono ?_
        rintro e v3 ⟨rfl, hb⟩
        have D4 : Hid (Below w2.heap.size w2 v3) := below_to D3.out hb
        clear hb D3
        go_wp2_with fail
        refine rect_any.mono ?_
        rintro e v4 ⟨rfl, hb⟩
        have D5 : Hid (Below w2.heap.size w2 v4) := below_to D4.out hb
        clear hb D4
        go_wp2_with fail
        refine rect_any.mono ?_
        rintro e v5 ⟨rfl, hb⟩
        have D6 : Hid (Below w2.heap.size w2 v5) := below_to D5.out hb
        clear hb D5
        go_wp2_with fail
        go_meet
        exact ⟨_, rfl, Hr.lit v5 _ rfl (by simp only [rs_cons, rs_nil]), to_alloc D6.out _⟩
      obtain ⟨g2, rfl, P4, B4⟩ := hcut
      rename World => w3
      have B5 : Hid (Below W.heap.size W w3) := below_to B3.out B4.out
      have Q5 : Hid (Sr w3 (some ⟨g1, 0, none⟩) [(8, 0, 8, 32), (16, 0, 8, 32), (24, 0, 8, 32), (32, 0, 8, 32)]) := Sr.to P3.out B4.out
      clear P3 B3 B4
      go_wp2_with fail
      go_loopw [8] (fun i t => ∃ k : Nat, i = .int .i64 k ∧ k ≤ 7 ∧ Below w3.heap.size w3 t) (fun i _ => 7 - (intOf i).toNat)
      case atStart => exact ⟨0, rfl, by omega, Below.refl _ _⟩
      case round =>
        obtain ⟨k, rfl, hk, hb⟩ := hrel
        have HBr : Hid (Below w3.heap.size w3 wr) := hb
        by_cases hlt : k < 7
        · have HL : Hid (∀ t, Below w3.heap.size w3 t → Cl4 t g2 (k * 4) ([(4, 0, 8, 8), (0, 0, 16, 8), (0, 0, 8, 16), (-8, 0, 8, 8), (0, 2056, 8, 8), (0, 0, 128, 128), (0, 0, 0, 0)].getD k rz)) := fun t ht => (P4.out.to ht).cl hlt
          have hbad : ∀ j, j < 7 → rgn ([(4, 0, 8, 8), (0, 0, 16, 8), (0, 0, 8, 16), (-8, 0, 8, 8), (0, 2056, 8, 8), (0, 0, 128, 128), (0, 0, 0, 0)].getD j rz).1 ([(4, 0, 8, 8), (0, 0, 16, 8), (0, 0, 8, 16), (-8, 0, 8, 8), (0, 2056, 8, 8), (0, 0, 128, 128), (0, 0, 0, 0)].getD j rz).2.1 ([(4, 0, 8, 8), (0, 0, 16, 8), (0, 0, 8, 16), (-8, 0, 8, 8), (0, 2056, 8, 8), (0, 0, 128, 128), (0, 0, 0, 0)].getD j rz).2.2.1 ([(4, 0, 8, 8), (0, 0, 16, 8), (0, 0, 8, 16), (-8, 0, 8, 8), (0, 2056, 8, 8), (0, 0, 128, 128), (0, 0, 0, 0)].getD j rz).2.2.2 = false := by decide
          have hbad := hbad k hlt
          clear P4
          generalize [(4, 0, 8, 8), (0, 0, 16, 8), (0, 0, 8, 16), (-8, 0, 8, 8), (0, 2056, 8, 8), (0, 0, 128, 128), (0, 0, 0, 0)].getD k rz = r at *
          obtain ⟨x, y, a, b⟩ := r
          simp only at hbad
          have HCu : Hid (∀ t, Calls Try.prog 11 #[.agg #[.int .i64 x, .int .i64 y, .int .i64 a, .int .i64 b], .int .i64 0] t fun e w' => Cn t w' e) := fun t => cuts_bad hbad
          have HBl : Hid (∀ t, Calls Try.prog 16 #[.agg #[.int .i64 x, .int .i64 y, .int .i64 a, .int .i64 b], .agg #[.int .i64 0, .int .i64 0, .int .i64 64, .int .i64 64], .slice none 0 0] t fun e w' => e = .returned (.tuple #[.slice none 0 0, .int .i64 0, .int .i64 2]) ∧ Below t.heap.size t w') := fun t => blocks_no (by rintro ⟨h, _⟩; have := (sqr_in h).1; rw [hbad] at this; simp at this)
          have HK : Hid (∀ t : World, Below w3.heap.size w3 t → t.cell? ⟨g2, k * 4, none⟩ = some (.int .i64 x) ∧ t.cell? ⟨g2, k * 4 + 1, none⟩ = some (.int .i64 y) ∧ t.cell? ⟨g2, k * 4 + 2, none⟩ = some (.int .i64 a) ∧ t.cell? ⟨g2, k * 4 + 3, none⟩ = some (.int .i64 b)) := fun t ht => ⟨(HL.out t ht).c0, (HL.out t ht).c1, (HL.out t ht).c2, (HL.out t ht).c3⟩
          obtain ⟨c0, c1, c2, c3⟩ := HK.out wr hb
          have k0 : (0 : Int) ≤ (k : Int) := by omega
          have k1 : (k : Int) < 7 := by omega
          clear hb hbad HL Q5 B5
          go_wp2_with fail
          refine (HCu.out _).mono ?_
          rintro e w4 ⟨rfl, hb4⟩
          have HB4 : Hid (Below w3.heap.size w3 w4) := below_to HBr.out hb4
          clear hb4 HBr c0 c1 c2 c3
          go_upto_region 14 with fail
          have HD : Hid (Below w3.heap.size w3 w4.drew) := below_drew HB4.out
          go_region_held3 (fun t => t.cell? ⟨g2, k * 4, none⟩ = some (.int .i64 x) ∧ t.cell? ⟨g2, k * 4 + 1, none⟩ = some (.int .i64 y) ∧ t.cell? ⟨g2, k * 4 + 2, none⟩ = some (.int .i64 a) ∧ t.cell? ⟨g2, k * 4 + 3, none⟩ = some (.int .i64 b))
            ((exact HK.out _ (by first | exact HD.out | exact hbX | exact hbY | exact below_drew hbX | exact below_drew hbY)))
            ((first | (go_at_call 22; (with_reducible refine rect_any.mono ?_); rintro e wx ⟨rfl, hbx⟩; have hbX : Below w3.heap.size w3 wx := below_to HD.out hbx) | (go_at_call 16; (with_reducible refine (HBl.out _).mono ?_); rintro e wy ⟨rfl, hby⟩; have hbY : Below w3.heap.size w3 wy := (by first | exact below_to hbX hby | exact below_to (below_drew hbX) hby))))
          all_goals
            go_wp2_with fail
            go_roundw
            case rel => exact ⟨k + 1, by go_num, by omega, by first | exact hbY | exact below_drew hbY⟩
            case measure => simp [intOf]; omega
        · obtain rfl : k = 7 := by omega
          clear hb hk hlt P4
          have B6 : Hid (Below W.heap.size W wr) := below_to B5.out HBr.out
          have Q6 : Hid (Sr wr (some ⟨g1, 0, none⟩) [(8, 0, 8, 32), (16, 0, 8, 32), (24, 0, 8, 32), (32, 0, 8, 32)]) := Sr.to Q5.out HBr.out
          clear B5 Q5 HBr
          go_upto_region 17 with fail
          go_cut [14] (fun s T => ∃ g, s = .slice (some ⟨g, 0, none⟩) 6 6 ∧ Hid (Hr T g [(0, 0, 0, 8), (0, 0, 8, 4), (0, 0, 8, 1032), (-8, 0, 8, 8), (1, 0, 8, 8), (0, 1032, 8, 8)]) ∧ Hid (Below wr.heap.size wr T))
          case first =>
            have D0 : Hid (Below wr.heap.size wr wr) := Below.refl _ _
            clear B6 Q6
            go_wp2_with fail
            refine rect_any.mono ?_
            rintro e v0 ⟨rfl, hb⟩
            have D1 : Hid (Below wr.heap.size wr v0) := below_to D0.out hb
            clear hb D0
            go_wp2_with fail
            refine rect_any.mono ?_
            rintro e v1 ⟨rfl, hb⟩
            have D2 : Hid (Below wr.heap.size wr v1) := below_to D1.out hb
            clear hb D1
            go_wp2_with fail
            refine rect_any.mono ?_
            rintro e v2 ⟨rfl, hb⟩
            have D3 : Hid (Below wr.heap.size wr v2) := below_to D2.out hb
            clear hb D2
            go_wp2_with fail
            refine rect_any.mono ?_
            rintro e v3 ⟨rfl, hb⟩
            have D4 : Hid (Below wr.heap.size wr v3) := below_to D3.out hb
            clear hb D3
            go_wp2_with fail
            refine rect_any.mono ?_
            rintro e v4 ⟨rfl, hb⟩
            have D5 : Hid (Below wr.heap.size wr v4) := below_to D4.out hb
            clear hb D4
            go_wp2_with fail
            refine rect_any.mono ?_
            rintro e v5 ⟨rfl, hb⟩
            have D6 : Hid (Below wr.heap.size wr v5) := below_to D5.out hb
            clear hb D5
            go_wp2_with fail
            go_meet
            exact ⟨_, rfl, Hr.lit v5 _ rfl (by simp only [rs_cons, rs_nil]), to_alloc D6.out _⟩
          obtain ⟨g3, rfl, P7, B7⟩ := hcut
          rename World => w7
          have B8 : Hid (Below W.heap.size W w7) := below_to B6.out B7.out
          have Q8 : Hid (Sr w7 (some ⟨g1, 0, none⟩) [(8, 0, 8, 32), (16, 0, 8, 32), (24, 0, 8, 32), (32, 0, 8, 32)]) := Sr.to Q6.out B7.out
          clear Q6 B6 B7
          go_wp2_with fail
          go_loopw [15] (fun i t => ∃ k : Nat, i = .int .i64 k ∧ k ≤ 6 ∧ Below w7.heap.size w7 t) (fun i _ => 6 - (intOf i).toNat)
          case atStart => exact ⟨0, rfl, by omega, Below.refl _ _⟩
          case round =>
            rename World => wr
            obtain ⟨k, rfl, hk, hb⟩ := hrel
            have HBr : Hid (Below w7.heap.size w7 wr) := hb
            by_cases hlt : k < 6
            · have HL : Hid (∀ t, Below w7.heap.size w7 t → Cl4 t g3 (k * 4) ([(0, 0, 0, 8), (0, 0, 8, 4), (0, 0, 8, 1032), (-8, 0, 8, 8), (1, 0, 8, 8), (0, 1032, 8, 8)].getD k rz)) := fun t ht => (P7.out.to ht).cl hlt
              have hbad : ∀ j, j < 6 → are ([(0, 0, 0, 8), (0, 0, 8, 4), (0, 0, 8, 1032), (-8, 0, 8, 8), (1, 0, 8, 8), (0, 1032, 8, 8)].getD j rz).1 ([(0, 0, 0, 8), (0, 0, 8, 4), (0, 0, 8, 1032), (-8, 0, 8, 8), (1, 0, 8, 8), (0, 1032, 8, 8)].getD j rz).2.1 ([(0, 0, 0, 8), (0, 0, 8, 4), (0, 0, 8, 1032), (-8, 0, 8, 8), (1, 0, 8, 8), (0, 1032, 8, 8)].getD j rz).2.2.1 ([(0, 0, 0, 8), (0, 0, 8, 4), (0, 0, 8, 1032), (-8, 0, 8, 8), (1, 0, 8, 8), (0, 1032, 8, 8)].getD j rz).2.2.2 = false := by decide
              have hbad := hbad k hlt
              clear P7
              generalize [(0, 0, 0, 8), (0, 0, 8, 4), (0, 0, 8, 1032), (-8, 0, 8, 8), (1, 0, 8, 8), (0, 1032, 8, 8)].getD k rz = r at *
              obtain ⟨x, y, a, b⟩ := r
              simp only at hbad
              have HBl : Hid (∀ t, Calls Try.prog 16 #[.agg #[.int .i64 0, .int .i64 0, .int .i64 64, .int .i64 64], .agg #[.int .i64 x, .int .i64 y, .int .i64 a, .int .i64 b], .slice none 0 0] t fun e w' => e = .returned (.tuple #[.slice none 0 0, .int .i64 0, .int .i64 2]) ∧ Below t.heap.size t w') := fun t => blocks_no (by rintro ⟨_, h⟩; rw [hbad] at h; simp at h)
              have HK : Hid (∀ t : World, Below w7.heap.size w7 t → t.cell? ⟨g3, k * 4, none⟩ = some (.int .i64 x) ∧ t.cell? ⟨g3, k * 4 + 1, none⟩ = some (.int .i64 y) ∧ t.cell? ⟨g3, k * 4 + 2, none⟩ = some (.int .i64 a) ∧ t.cell? ⟨g3, k * 4 + 3, none⟩ = some (.int .i64 b)) := fun t ht => ⟨(HL.out t ht).c0, (HL.out t ht).c1, (HL.out t ht).c2, (HL.out t ht).c3⟩
              have k0 : (0 : Int) ≤ (k : Int) := by omega
              have k1 : (k : Int) < 6 := by omega
              clear hb hbad HL Q8 B8
              go_upto_region 21 with fail
              have HD : Hid (Below w7.heap.size w7 wr.drew) := below_drew HBr.out
              go_region_held3 (fun t => t.cell? ⟨g3, k * 4, none⟩ = some (.int .i64 x) ∧ t.cell? ⟨g3, k * 4 + 1, none⟩ = some (.int .i64 y) ∧ t.cell? ⟨g3, k * 4 + 2, none⟩ = some (.int .i64 a) ∧ t.cell? ⟨g3, k * 4 + 3, none⟩ = some (.int .i64 b))
                ((exact HK.out _ (by first | exact HD.out | exact hbX | exact hbY | exact below_drew hbX | exact below_drew hbY)))
                ((first | (go_at_call 22; (with_reducible refine rect_any.mono ?_); rintro e wx ⟨rfl, hbx⟩; have hbX : Below w7.heap.size w7 wx := below_to HD.out hbx) | (go_at_call 16; (with_reducible refine (HBl.out _).mono ?_); rintro e wy ⟨rfl, hby⟩; have hbY : Below w7.heap.size w7 wy := (by first | exact below_to hbX hby | exact below_to (below_drew hbX) hby))))
              all_goals
                go_wp2_with fail
                go_roundw
                case rel => exact ⟨_, _, _, _, _, _, _, _, _, _, _, _, _, _, _, _, _, _, _, _, _, _, _, ⟨k + 1, by go_num, by omega, by first | exact hbY | exact below_drew hbY⟩, rfl⟩
                case measure => simp [intOf]; omega
            · obtain rfl : k = 6 := by omega
              clear hb hk hlt P7
              have B9 : Hid (Below W.heap.size W wr) := below_to B8.out HBr.out
              have Q9 : Hid (Sr wr (some ⟨g1, 0, none⟩) [(8, 0, 8, 32), (16, 0, 8, 32), (24, 0, 8, 32), (32, 0, 8, 32)]) := Sr.to Q8.out HBr.out
              clear B8 Q8 HBr
              have Ewr : Hid (Below W.heap.size W wr) := B9.out
              have Swr : Hid (Sr wr (some ⟨g1, 0, none⟩) [(8, 0, 8, 32), (16, 0, 8, 32), (24, 0, 8, 32), (32, 0, 8, 32)]) := Q9.out
              clear B9 Q9
              go_wp2_with fail
              refine rect_any.mono ?_
              rintro e v1x ⟨rfl, hb⟩
              have Ev1x : Hid (Below W.heap.size W v1x) := below_to Ewr.out hb
              have Sv1x : Hid (Sr v1x (some ⟨g1, 0, none⟩) [(8, 0, 8, 32), (16, 0, 8, 32), (24, 0, 8, 32), (32, 0, 8, 32)]) := Sr.to Swr.out hb
              clear hb Ewr Swr
              go_wp2_with fail
              refine (HN0.out _).mono ?_
              rintro e v2x ⟨rfl, hb⟩
              have Ev2x : Hid (Below W.heap.size W v2x) := below_to Ev1x.out hb
              have Sv2x : Hid (Sr v2x (some ⟨g1, 0, none⟩) [(8, 0, 8, 32), (16, 0, 8, 32), (24, 0, 8, 32), (32, 0, 8, 32)]) := Sr.to Sv1x.out hb
              clear hb Ev1x Sv1x
              go_wp2_with fail
              refine rect_any.mono ?_
              rintro e v3x ⟨rfl, hb⟩
              have Ev3x : Hid (Below W.heap.size W v3x) := below_to Ev2x.out hb
              have Sv3x : Hid (Sr v3x (some ⟨g1, 0, none⟩) [(8, 0, 8, 32), (16, 0, 8, 32), (24, 0, 8, 32), (32, 0, 8, 32)]) := Sr.to Sv2x.out hb
              clear hb Ev2x Sv2x
              go_wp2_with fail
              refine (HN1.out _).mono ?_
              rintro e v4x ⟨rfl, hb⟩
              have Ev4x : Hid (Below W.heap.size W v4x) := below_to Ev3x.out hb
              have Sv4x : Hid (Sr v4x (some ⟨g1, 0, none⟩) [(8, 0, 8, 32), (16, 0, 8, 32), (24, 0, 8, 32), (32, 0, 8, 32)]) := Sr.to Sv3x.out hb
              clear hb Ev3x Sv3x
              go_wp2_with fail
              refine rect_any.mono ?_
              rintro e v5x ⟨rfl, hb⟩
              have Ev5x : Hid (Below W.heap.size W v5x) := below_to Ev4x.out hb
              have Sv5x : Hid (Sr v5x (some ⟨g1, 0, none⟩) [(8, 0, 8, 32), (16, 0, 8, 32), (24, 0, 8, 32), (32, 0, 8, 32)]) := Sr.to Sv4x.out hb
              clear hb Ev4x Sv4x
              go_wp2_with fail
              refine (HN2.out _).mono ?_
              rintro e v6x ⟨rfl, hb⟩
              have Ev6x : Hid (Below W.heap.size W v6x) := below_to Ev5x.out hb
              have Sv6x : Hid (Sr v6x (some ⟨g1, 0, none⟩) [(8, 0, 8, 32), (16, 0, 8, 32), (24, 0, 8, 32), (32, 0, 8, 32)]) := Sr.to Sv5x.out hb
              clear hb Ev5x Sv5x
              go_wp2_with fail
              refine rect_any.mono ?_
              rintro e v7x ⟨rfl, hb⟩
              have Ev7x : Hid (Below W.heap.size W v7x) := below_to Ev6x.out hb
              have Sv7x : Hid (Sr v7x (some ⟨g1, 0, none⟩) [(8, 0, 8, 32), (16, 0, 8, 32), (24, 0, 8, 32), (32, 0, 8, 32)]) := Sr.to Sv6x.out hb
              clear hb Ev6x Sv6x
              go_wp2_with fail
              refine rect_any.mono ?_
              rintro e v8x ⟨rfl, hb⟩
              have Ev8x : Hid (Below W.heap.size W v8x) := below_to Ev7x.out hb
              have Sv8x : Hid (Sr v8x (some ⟨g1, 0, none⟩) [(8, 0, 8, 32), (16, 0, 8, 32), (24, 0, 8, 32), (32, 0, 8, 32)]) := Sr.to Sv7x.out hb
              clear hb Ev7x Sv7x
              go_wp2_with fail
              refine (HB0.out _).mono ?_
              rintro e v9x ⟨rfl, hb⟩
              have Ev9x : Hid (Below W.heap.size W v9x) := below_to Ev8x.out hb
              have Sv9x : Hid (Sr v9x (some ⟨g1, 0, none⟩) [(8, 0, 8, 32), (16, 0, 8, 32), (24, 0, 8, 32), (32, 0, 8, 32)]) := Sr.to Sv8x.out hb
              clear hb Ev8x Sv8x
              go_wp2_with fail
              refine rect_any.mono ?_
              rintro e v10x ⟨rfl, hb⟩
              have Ev10x : Hid (Below W.heap.size W v10x) := below_to Ev9x.out hb
              have Sv10x : Hid (Sr v10x (some ⟨g1, 0, none⟩) [(8, 0, 8, 32), (16, 0, 8, 32), (24, 0, 8, 32), (32, 0, 8, 32)]) := Sr.to Sv9x.out hb
              clear hb Ev9x Sv9x
              go_wp2_with fail
              refine rect_any.mono ?_
              rintro e v11x ⟨rfl, hb⟩
              have Ev11x : Hid (Below W.heap.size W v11x) := below_to Ev10x.out hb
              have Sv11x : Hid (Sr v11x (some ⟨g1, 0, none⟩) [(8, 0, 8, 32), (16, 0, 8, 32), (24, 0, 8, 32), (32, 0, 8, 32)]) := Sr.to Sv10x.out hb
              clear hb Ev10x Sv10x
              go_wp2_with fail
              refine (HB1.out _).mono ?_
              rintro e v12x ⟨rfl, hb⟩
              have Ev12x : Hid (Below W.heap.size W v12x) := below_to Ev11x.out hb
              have Sv12x : Hid (Sr v12x (some ⟨g1, 0, none⟩) [(8, 0, 8, 32), (16, 0, 8, 32), (24, 0, 8, 32), (32, 0, 8, 32)]) := Sr.to Sv11x.out hb
              clear hb Ev11x Sv11x
              go_wp2_with fail
              refine rect_any.mono ?_
              rintro e v13x ⟨rfl, hb⟩
              have Ev13x : Hid (Below W.heap.size W v13x) := below_to Ev12x.out hb
              have Sv13x : Hid (Sr v13x (some ⟨g1, 0, none⟩) [(8, 0, 8, 32), (16, 0, 8, 32), (24, 0, 8, 32), (32, 0, 8, 32)]) := Sr.to Sv12x.out hb
              clear hb Ev12x Sv12x
              go_wp2_with fail
              refine rect_any.mono ?_
              rintro e v14x ⟨rfl, hb⟩
              have Ev14x : Hid (Below W.heap.size W v14x) := below_to Ev13x.out hb
              have Sv14x : Hid (Sr v14x (some ⟨g1, 0, none⟩) [(8, 0, 8, 32), (16, 0, 8, 32), (24, 0, 8, 32), (32, 0, 8, 32)]) := Sr.to Sv13x.out hb
              clear hb Ev13x Sv13x
              go_wp2_with fail
              refine (HO0.out _).mono ?_
              rintro e v15x ⟨an0, cn0, rfl, hb⟩
              have Ev15x : Hid (Below W.heap.size W v15x) := below_to Ev14x.out hb
              have Sv15x : Hid (Sr v15x (some ⟨g1, 0, none⟩) [(8, 0, 8, 32), (16, 0, 8, 32), (24, 0, 8, 32), (32, 0, 8, 32)]) := Sr.to Sv14x.out hb
              clear hb Ev14x Sv14x
              go_wp2_with fail
              refine rect_any.mono ?_
              rintro e v16x ⟨rfl, hb⟩
              have Ev16x : Hid (Below W.heap.size W v16x) := below_to Ev15x.out hb
              have Sv16x : Hid (Sr v16x (some ⟨g1, 0, none⟩) [(8, 0, 8, 32), (16, 0, 8, 32), (24, 0, 8, 32), (32, 0, 8, 32)]) := Sr.to Sv15x.out hb
              clear hb Ev15x Sv15x
              go_wp2_with fail
              refine rect_any.mono ?_
              rintro e v17x ⟨rfl, hb⟩
              have Ev17x : Hid (Below W.heap.size W v17x) := below_to Ev16x.out hb
              have Sv17x : Hid (Sr v17x (some ⟨g1, 0, none⟩) [(8, 0, 8, 32), (16, 0, 8, 32), (24, 0, 8, 32), (32, 0, 8, 32)]) := Sr.to Sv16x.out hb
              clear hb Ev16x Sv16x
              go_wp2_with fail
              refine (HO1.out _).mono ?_
              rintro e v18x ⟨an1, cn1, rfl, hb⟩
              have Ev18x : Hid (Below W.heap.size W v18x) := below_to Ev17x.out hb
              have Sv18x : Hid (Sr v18x (some ⟨g1, 0, none⟩) [(8, 0, 8, 32), (16, 0, 8, 32), (24, 0, 8, 32), (32, 0, 8, 32)]) := Sr.to Sv17x.out hb
              clear hb Ev17x Sv17x
              have hmk := HMk.out
              go_upto_region 34 with fail
              have HM0 : Hid (Ri 3 (v18x.alloc (.cells (madeCells #[.int .i64 0] 30) 3)) v18x.heap.size (List.replicate 30 0)) := Ri.made 3 v18x 30 rfl
              have hb : Below v18x.heap.size v18x (v18x.alloc (.cells (madeCells #[.int .i64 0] 30) 3)) := from_alloc _ _
              generalize hgm : v18x.heap.size = gm at *
              have HGm : Hid (W.heap.size ≤ gm) := by show _ ≤ _; rw [← hgm]; exact Ev18x.out.size
              rw [← hgm] at hb
              generalize (v18x.alloc (.cells (madeCells #[.int .i64 0] 30) 3)) = wm at *
              have Ewm : Hid (Below W.heap.size W wm) := below_to Ev18x.out hb
              have Swm : Hid (Sr wm (some ⟨g1, 0, none⟩) [(8, 0, 8, 32), (16, 0, 8, 32), (24, 0, 8, 32), (32, 0, 8, 32)]) := Sr.to Sv18x.out hb
              have HLg : Hid (g1 < gm) := by
                show _ < _
                rw [← hgm]
                obtain ⟨b, o, hb1, hb2, -⟩ := Sr.form Sv18x.out (by simp)
                cases hb1
                exact hb2
              clear hb Ev18x Sv18x hmk hgm
              go_wp2_with fail
              go_loopw [38] (fun i t => ∃ k : Nat, i = .int .i64 k ∧ k ≤ 30 ∧ Below W.heap.size W t ∧ Sr t (some ⟨g1, 0, none⟩) [(8, 0, 8, 32), (16, 0, 8, 32), (24, 0, 8, 32), (32, 0, 8, 32)] ∧ Ri 3 t gm (List.replicate k 3 ++ List.replicate (30 - k) 0)) (fun i _ => 30 - (intOf i).toNat)
              case atStart => exact ⟨0, rfl, by omega, Ewm.out, Swm.out, HM0.out⟩
              case round =>
                clear Ewm Swm HM0
                rename World => wr
                obtain ⟨k, rfl, hk, hb, hs, hr⟩ := hrel
                have HB9 : Hid (Below W.heap.size W wr) := hb
                have HS9 : Hid (Sr wr (some ⟨g1, 0, none⟩) [(8, 0, 8, 32), (16, 0, 8, 32), (24, 0, 8, 32), (32, 0, 8, 32)]) := hs
                have HR9 : Hid (Ri 3 wr gm (List.replicate k 3 ++ List.replicate (30 - k) 0)) := hr
                clear hb hs hr
                by_cases hlt : k < 30
                · as_aux_lemma =>
                   have c0 := HR9.out.cell k (by simp; omega)
                   have f0 := HR9.out.thaw k
                   have HRs : Hid (Ri 3 (wr.setCell ⟨gm, k, none⟩ (.int .i64 3)) gm (List.replicate (k + 1) 3 ++ List.replicate (30 - (k + 1)) 0)) := by
                     have h := HR9.out.set k 3
                     have e : (List.replicate k (3 : Int) ++ List.replicate (30 - k) 0).set k 3 = List.replicate (k + 1) 3 ++ List.replicate (30 - (k + 1)) 0 := by
                       rw [List.set_append_right _ _ (by simp)]
                       simp only [List.length_replicate, Nat.sub_self]
                       rw [show 30 - k = (30 - (k + 1)) + 1 from by omega, List.replicate_succ (a := (0 : Int)), List.set_cons_zero, List.replicate_succ' (n := k), List.append_assoc]
                       rfl
                     rw [e] at h
                     exact h
                   have HSs : Hid (Below W.heap.size W (wr.setCell ⟨gm, k, none⟩ (.int .i64 3)) ∧ Sr (wr.setCell ⟨gm, k, none⟩ (.int .i64 3)) (some ⟨g1, 0, none⟩) [(8, 0, 8, 32), (16, 0, 8, 32), (24, 0, 8, 32), (32, 0, 8, 32)]) := by
                     refine ⟨below_set HB9.out (by show W.heap.size ≤ gm; exact HGm.out) _, ?_⟩
                     have h1 : Below gm wr (wr.setCell ⟨gm, k, none⟩ (.int .i64 3)) := below_set (Below.refl _ _) (by show gm ≤ gm; omega) _
                     rcases HS9.out with h | ⟨b, o, h2, h3, h4⟩
                     · exact Or.inl h
                     · cases h2
                       exact Or.inr ⟨g1, 0, rfl, by simpa using h3, fun j hj => (newCell h1 _ _ HLg.out).trans (h4 j hj)⟩
                   have k0 : (0 : Int) ≤ (k : Int) := by omega
                   have k1 : (k : Int) < 30 := by omega
                   have HK : Hid (k < 30) := hlt
                   clear hlt hk
                   go_wp2_with fail
                   go_roundw
                   case rel => exact ⟨k + 1, by go_num, by have := HK.out; omega, HSs.out.1, HSs.out.2, HRs.out⟩
                   case measure => have := HK.out; simp [intOf]; omega
                · obtain rfl : k = 30 := by omega
                  have HRf : Hid (Ri 3 wr gm l30) := by
                    have h := HR9.out
                    rw [Nat.sub_self, List.replicate_zero, List.append_nil, HL30.out] at h
                    exact h
                  clear hlt hk HR9
                  have Ewr : Hid (Below W.heap.size W wr) := HB9.out
                  have Swr : Hid (Sr wr (some ⟨g1, 0, none⟩) [(8, 0, 8, 32), (16, 0, 8, 32), (24, 0, 8, 32), (32, 0, 8, 32)]) := HS9.out
                  clear HB9 HS9
                  as_aux_lemma =>
                   have Rwr : Hid (Ri 3 wr gm l30) := HRf.out
                   clear HRf
                   go_wp2_with fail
                   refine rect_any.mono ?_
                   rintro e v19x ⟨rfl, hb⟩
                   have Ev19x : Hid (Below W.heap.size W v19x) := below_to Ewr.out hb
                   have Sv19x : Hid (Sr v19x (some ⟨g1, 0, none⟩) [(8, 0, 8, 32), (16, 0, 8, 32), (24, 0, 8, 32), (32, 0, 8, 32)]) := Sr.to Swr.out hb
                   have Rv19x : Hid (Ri 3 v19x gm l30) := Rwr.out.to hb
                   clear hb Ewr Swr Rwr
                   go_wp2_with fail
                   refine rect_any.mono ?_
                   rintro e v20x ⟨rfl, hb⟩
                   have Ev20x : Hid (Below W.heap.size W v20x) := below_to Ev19x.out hb
                   have Sv20x : Hid (Sr v20x (some ⟨g1, 0, none⟩) [(8, 0, 8, 32), (16, 0, 8, 32), (24, 0, 8, 32), (32, 0, 8, 32)]) := Sr.to Sv19x.out hb
                   have Rv20x : Hid (Ri 3 v20x gm l30) := Rv19x.out.to hb
                   clear hb Ev19x Sv19x Rv19x
                   go_wp2_with fail
                   refine (HO2.out _ _ Rv20x.out).mono ?_
                   rintro e v21x ⟨an2, cn2, rfl, hb⟩
                   clear Rv20x
                   have Ev21x : Hid (Below W.heap.size W v21x) := below_to Ev20x.out hb
                   have Sv21x : Hid (Sr v21x (some ⟨g1, 0, none⟩) [(8, 0, 8, 32), (16, 0, 8, 32), (24, 0, 8, 32), (32, 0, 8, 32)]) := Sr.to Sv20x.out hb
                   clear hb Ev20x Sv20x
                   go_wp2_with fail
                   refine (HWk.out _).mono ?_
                   rintro e v22x ⟨rfl, hb⟩
                   have Ev22x : Hid (Below W.heap.size W v22x) := below_to Ev21x.out hb
                   have Sv22x : Hid (Sr v22x (some ⟨g1, 0, none⟩) [(8, 0, 8, 32), (16, 0, 8, 32), (24, 0, 8, 32), (32, 0, 8, 32)]) := Sr.to Sv21x.out hb
                   clear hb Ev21x Sv21x
                   go_wp2_with fail
                   refine rect_any.mono ?_
                   rintro e v23x ⟨rfl, hb⟩
                   have Ev23x : Hid (Below W.heap.size W v23x) := below_to Ev22x.out hb
                   have Sv23x : Hid (Sr v23x (some ⟨g1, 0, none⟩) [(8, 0, 8, 32), (16, 0, 8, 32), (24, 0, 8, 32), (32, 0, 8, 32)]) := Sr.to Sv22x.out hb
                   clear hb Ev22x Sv22x
                   go_wp2_with fail
                   refine rect_any.mono ?_
                   rintro e v24x ⟨rfl, hb⟩
                   have Ev24x : Hid (Below W.heap.size W v24x) := below_to Ev23x.out hb
                   have Sv24x : Hid (Sr v24x (some ⟨g1, 0, none⟩) [(8, 0, 8, 32), (16, 0, 8, 32), (24, 0, 8, 32), (32, 0, 8, 32)]) := Sr.to Sv23x.out hb
                   clear hb Ev23x Sv23x
                   go_wp2_with fail
                   refine rect_any.mono ?_
                   rintro e v25x ⟨rfl, hb⟩
                   have Ev25x : Hid (Below W.heap.size W v25x) := below_to Ev24x.out hb
                   have Sv25x : Hid (Sr v25x (some ⟨g1, 0, none⟩) [(8, 0, 8, 32), (16, 0, 8, 32), (24, 0, 8, 32), (32, 0, 8, 32)]) := Sr.to Sv24x.out hb
                   clear hb Ev24x Sv24x
                   go_wp2_with fail
                   refine rect_any.mono ?_
                   rintro e v26x ⟨rfl, hb⟩
                   have Ev26x : Hid (Below W.heap.size W v26x) := below_to Ev25x.out hb
                   have Sv26x : Hid (Sr v26x (some ⟨g1, 0, none⟩) [(8, 0, 8, 32), (16, 0, 8, 32), (24, 0, 8, 32), (32, 0, 8, 32)]) := Sr.to Sv25x.out hb
                   clear hb Ev25x Sv25x
                   go_wp2_with (refine wpList_build_4 _ _ _ _ (by rfl) (by kernel_rfl) (by rfl) (by rfl) (by rfl) (by rfl) ?_)
                   refine (same_lit Sv26x.out rfl rfl (by decide) rfl).mono ?_
                   rintro e v27x ⟨rfl, hb⟩
                   have Ev27x : Hid (Below W.heap.size W v27x) := below_to Ev26x.out hb
                   clear hb
                   go_wp2_with fail
                   go_ret
                   exact ⟨rfl, Ev27x.out⟩
end Go.Proofs.Ytjijgeeejhijhaa
