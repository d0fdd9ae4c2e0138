/- DERIVED. Grids that are none; lists that are built; what GridNames asks. -/
import Derived.Test.YtppofodijlofdaaEc
namespace Go.Proofs.Ytppofodijlofdaa
open Go.RowKit

set_option maxRecDepth 100000 in
theorem at_non {w : World} {v : Value} {X Y : Int} (h : Non w v) : Calls Try.prog 17 #[v, .int .i64 X, .int .i64 Y] w fun e w' => Aq w w' e bz false := by
  have HB0 : Hid (Below w.heap.size w (w.alloc (.cells #[.int .i64 0, .int .i64 0, .int .i64 0, .int .i64 0, .bool false, .bool false, .int .i64 0, .int .i64 0, .int .i64 0, .int .i64 0, .int .i64 0, .int .i64 0, .int .i64 0, .bool false, .int .i64 0, .int .i64 0, .int .i64 0, .int .i64 0, .int .i64 0, .int .i64 0, .int .i64 0, .int .i64 0, .bool false] 40))) := from_alloc _ _
  have HO0 : Hid (Ob (w.alloc (.cells #[.int .i64 0, .int .i64 0, .int .i64 0, .int .i64 0, .bool false, .bool false, .int .i64 0, .int .i64 0, .int .i64 0, .int .i64 0, .int .i64 0, .int .i64 0, .int .i64 0, .bool false, .int .i64 0, .int .i64 0, .int .i64 0, .int .i64 0, .int .i64 0, .int .i64 0, .int .i64 0, .int .i64 0, .bool false] 40)) w.heap.size bz) := Ob.new w bz rfl
  have HNo : Hid (∀ u, Below w.heap.size w u → Calls Try.prog 24 #[v] u fun e w' => e = .returned (.bool true) ∧ u = w') := fun u hb => isNone_non (h.to hb)
  clear h
  generalize hP : w.heap.size = z at *
  have HP : Hid (w.heap.size = z) := hP
  clear hP
  go_enter Try.func17, Try.ntmps17
  go_upto_region 1 with fail
  generalize hV : (w.alloc (.cells #[.int .i64 0, .int .i64 0, .int .i64 0, .int .i64 0, .bool false, .bool false, .int .i64 0, .int .i64 0, .int .i64 0, .int .i64 0, .int .i64 0, .int .i64 0, .int .i64 0, .bool false, .int .i64 0, .int .i64 0, .int .i64 0, .int .i64 0, .int .i64 0, .int .i64 0, .int .i64 0, .int .i64 0, .bool false] 40)) = V at *
  clear hV
  rw [HP.out]
  go_wp2_with (first | ((with_reducible refine (HNo.out _ HB0.out).mono ?_); rintro e w5 ⟨rfl, rfl⟩) | (refine wpList_store_block (by rfl) _ _ (by rfl) z bz bz HO0.out (by rfl) (by rfl) ?_; intro w2 hob hsw; have HO2 : Hid _ := hob; have HW2 : Hid _ := hsw; clear hob hsw))
  have hres := load_res (by simpa using HO2.out.bc.rng)
  refine bodyPost_ret (v := .tuple #[.agg bz.cs.toArray, .bool false]) (by rw [results_cell_tmp Try.results17]; show ((asAddr (.pointer (some ⟨z, 0, none⟩))).run Try.prog w2).andThen _ = _; rw [show (asAddr (.pointer (some ⟨z, 0, none⟩))).run Try.prog w2 = .ok ⟨z, 0, none⟩ w2 from rfl]; simp only [Result.andThen_ok, hres]; rfl) rfl ?_
  exact ⟨rfl, by rw [HP.out]; exact HW2.out.below HB0.out (Nat.le_refl _)⟩
theorem blocks_non {w : World} {v : Value} (h : Non w v) : Calls Try.prog 13 #[v] w fun e w' => e = .returned (.slice none 0 0) ∧ w = w' := by
  have HN : Hid (Calls Try.prog 24 #[v] w fun e w' => e = .returned (.bool true) ∧ w = w') := isNone_non h
  clear h
  go_enter Try.func13, Try.ntmps13
  go_wp2_with ((with_reducible refine HN.out.mono ?_); rintro e w5 ⟨rfl, rfl⟩)
  go_ret
  exact ⟨rfl, rfl⟩
/-- the tiles that may not be -/
def bads : List Int := [0, 0, 60, 64, 32, 0, 8, 8, 192, 0, 72, 8, 0, 0, 0, 0, -64, 0, 64, 64, 0, 256, 8, 8, 0, 0, 264, 8, 192, 192, 64, 64]
/-- the places that are asked about -/
def asks : List (List Int) := [[0, 16, 16, 0, 0], [16, 16, 16, 64, 0], [0, 32, 32, 8, 0], [0, 16, 32, 72, 0], [24, 0, 0, 8, 1], [16, 8, 0, 8, 1], [24, 0, 0, 8, 3], [4, 0, 0, 8, 0], [-8, -8, 16, 8, 0], [64, 0, 64, 8, 0], [-16, 0, 16, 8, 0]]
def asks1 : List Int := [0, 16, 16, 0, 0, 16, 16, 16, 64, 0, 0, 32, 32, 8, 0, 0, 16, 32, 72, 0, 24, 0, 0, 8, 1, 16, 8, 0, 8, 1, 24, 0, 0, 8, 3, 4, 0, 0, 8, 0, -8, -8, 16, 8, 0, 64, 0, 64, 8, 0, -16, 0, 16, 8, 0]
def pb (x y w h : Int) : Bl := { bz with x := x, y := y, w := w, h := h }
def l3 : List Bl := [bA, bB, bA]
def l10 : List Bl := [bA, bB, bA, pb 60 0 8 8, pb 56 0 16 8, pb 0 32 24 8, pb (-8) 0 8 8, pb 4 40 8 8, pb 0 56 64 8, pb 4611686018427387904 0 8 8]
theorem asks_ok : AOk asks := fun k hk => by
  have h : k < 11 := hk
  unfold I64
  match k, h with
  | 0, _ | 1, _ | 2, _ | 3, _ | 4, _ | 5, _ | 6, _ | 7, _ | 8, _ | 9, _ | 10, _ => exact ⟨by decide +kernel, by decide +kernel⟩
theorem l3_ok : BOk l3 := fun k hk => by
  have h : k < 3 := hk
  unfold I64
  match k, h with
  | 0, _ | 1, _ | 2, _ => exact by decide +kernel
theorem l10_ok : BOk l10 := fun k hk => by
  have h : k < 10 := hk
  unfold I64
  match k, h with
  | 0, _ | 1, _ | 2, _ | 3, _ | 4, _ | 5, _ | 6, _ | 7, _ | 8, _ | 9, _ => exact by decide +kernel
theorem asks_at (k j : Nat) (hk : k < 11) (hj : j < 5) : asks1.getD (k * 5 + j) 0 = (asks.getD k []).getD j 0 := by
  match k, hk, j, hj with
  | 0, _, 0, _ | 0, _, 1, _ | 0, _, 2, _ | 0, _, 3, _ | 0, _, 4, _ => rfl
  | 1, _, 0, _ | 1, _, 1, _ | 1, _, 2, _ | 1, _, 3, _ | 1, _, 4, _ => rfl
  | 2, _, 0, _ | 2, _, 1, _ | 2, _, 2, _ | 2, _, 3, _ | 2, _, 4, _ => rfl
  | 3, _, 0, _ | 3, _, 1, _ | 3, _, 2, _ | 3, _, 3, _ | 3, _, 4, _ => rfl
  | 4, _, 0, _ | 4, _, 1, _ | 4, _, 2, _ | 4, _, 3, _ | 4, _, 4, _ => rfl
  | 5, _, 0, _ | 5, _, 1, _ | 5, _, 2, _ | 5, _, 3, _ | 5, _, 4, _ => rfl
  | 6, _, 0, _ | 6, _, 1, _ | 6, _, 2, _ | 6, _, 3, _ | 6, _, 4, _ => rfl
  | 7, _, 0, _ | 7, _, 1, _ | 7, _, 2, _ | 7, _, 3, _ | 7, _, 4, _ => rfl
  | 8, _, 0, _ | 8, _, 1, _ | 8, _, 2, _ | 8, _, 3, _ | 8, _, 4, _ => rfl
  | 9, _, 0, _ | 9, _, 1, _ | 9, _, 2, _ | 9, _, 3, _ | 9, _, 4, _ => rfl
  | 10, _, 0, _ | 10, _, 1, _ | 10, _, 2, _ | 10, _, 3, _ | 10, _, 4, _ => rfl
theorem sa_of {t : Nat} {w : World} {g : Nat} (h : Ri t w g asks1) : Sa w (some ⟨g, 0, none⟩) asks := Or.inr ⟨g, 0, rfl, h.lt, fun k hk => by
  have hk' : k < 11 := hk
  have f : ∀ j, j < 5 → w.cell? ⟨g, 0 + k * 5 + j, none⟩ = some (.int .i64 ((asks.getD k []).getD j 0)) := fun j hj => by
    rw [Nat.zero_add, h.cell (k * 5 + j) (by show k * 5 + j < 55; omega), asks_at k j hk' hj]
  exact ⟨f 0 (by omega), f 1 (by omega), f 2 (by omega), f 3 (by omega), f 4 (by omega)⟩⟩
theorem rows_at {w : World} {g : Nat} {L : List Bl} (h : w.heap[g]? = some (.cells (bs L).toArray 40 (0, 0))) : Sb w (some ⟨g, 0, none⟩) L := Or.inr ⟨g, 0, rfl, (Array.getElem?_eq_some_iff.1 h).1, fun k hk => ⟨fun j v hv => by
  have hj : j < 23 := by have := (List.getElem?_eq_some_iff.1 hv).1; rwa [Bl.cs_length] at this
  simp only [World.cell?, h]
  have := bs_at L k j hj hk
  rw [hv] at this
  simpa using this⟩⟩
theorem run_build_3 (w : World) : (Instr.buildSlice 24 3 #[(0, .agg bA.cs.toArray), (1, .agg bB.cs.toArray), (2, .agg bA.cs.toArray)]).run Try.prog w = .ok (.slice (some ⟨w.heap.size, 0, none⟩) 3 3) (w.alloc (.cells (bs l3).toArray 40)) := by
  kernel_rfl
theorem step_build_3 {w : World} {ops : Array Oper} {o : Oper} {a : Act} {K : Act → World → Prop} {Q : Exit → Act → World → Prop} {E : Prop} (hgd : o.guard = none) (x y z : Operand)
    (ho : o.op = .buildSlice 24 3 #[(0, x), (1, y), (2, z)]) (hx : a.eval x = .agg bA.cs.toArray) (hy : a.eval y = .agg bB.cs.toArray) (hz : a.eval z = .agg bA.cs.toArray)
    (h : K (a.put o.dst (.slice (some ⟨w.heap.size, 0, none⟩) 3 3)) (w.alloc (.cells (bs l3).toArray 40))) :
    if Region.wanted o (yielded ops a.tmps) = true then Oper.wp Try.prog o a w K Q else E := by
  have hw : Region.wanted o (yielded ops a.tmps) = true := by simp [Region.wanted, hgd]
  rw [if_pos hw]
  have hr := run_build_3 w
  unfold Oper.wp execOp
  simp only [ho, hx, hy, hz, List.map_toArray, List.map_cons, List.map_nil, hr, Sem.run_bind, Sem.run_pure, Result.andThen_ok]
  exact h
theorem run_build_10 (w : World) : (Instr.buildSlice 24 10 #[(0, .agg bA.cs.toArray), (1, .agg bB.cs.toArray), (2, .agg bA.cs.toArray), (3, .agg (pb 60 0 8 8).cs.toArray), (4, .agg (pb 56 0 16 8).cs.toArray), (5, .agg (pb 0 32 24 8).cs.toArray), (6, .agg (pb (-8) 0 8 8).cs.toArray), (7, .agg (pb 4 40 8 8).cs.toArray), (8, .agg (pb 0 56 64 8).cs.toArray), (9, .agg (pb 4611686018427387904 0 8 8).cs.toArray)]).run Try.prog w = .ok (.slice (some ⟨w.heap.size, 0, none⟩) 10 10) (w.alloc (.cells (bs l10).toArray 40)) := by
  kernel_rfl
theorem wpList_build_10 {w : World} {ops : Array Oper} {rest : List Oper} {o : Oper} {a : Act} {Q : Exit → Act → World → Prop} (hgd : o.guard = none) (x0 x1 x2 x3 x4 x5 x6 x7 x8 x9 : Operand)
    (ho : o.op = .buildSlice 24 10 #[(0, x0), (1, x1), (2, x2), (3, x3), (4, x4), (5, x5), (6, x6), (7, x7), (8, x8), (9, x9)])
    (h0 : a.eval x0 = .agg bA.cs.toArray) (h1 : a.eval x1 = .agg bB.cs.toArray) (h2 : a.eval x2 = .agg bA.cs.toArray) (h3 : a.eval x3 = .agg (pb 60 0 8 8).cs.toArray) (h4 : a.eval x4 = .agg (pb 56 0 16 8).cs.toArray) (h5 : a.eval x5 = .agg (pb 0 32 24 8).cs.toArray) (h6 : a.eval x6 = .agg (pb (-8) 0 8 8).cs.toArray) (h7 : a.eval x7 = .agg (pb 4 40 8 8).cs.toArray) (h8 : a.eval x8 = .agg (pb 0 56 64 8).cs.toArray) (h9 : a.eval x9 = .agg (pb 4611686018427387904 0 8 8).cs.toArray)
    (h : wpList Try.prog ops Q rest (a.put o.dst (.slice (some ⟨w.heap.size, 0, none⟩) 10 10)) (w.alloc (.cells (bs l10).toArray 40))) : wpList Try.prog ops Q (o :: rest) a w := by
  refine wpList_plain hgd fun K hK => ?_
  have hr := run_build_10 w
  unfold Oper.wp execOp
  simp only [ho, h0, h1, h2, h3, h4, h5, h6, h7, h8, h9, List.map_toArray, List.map_cons, List.map_nil, hr, Sem.run_bind, Sem.run_pure, Result.andThen_ok]
  exact hK _ _ h
end Go.Proofs.Ytppofodijlofdaa
