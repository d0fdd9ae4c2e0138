/- DERIVED. The document's taps. -/
import Derived.Test.YtpideemiijhkgaaDoorCe
import Derived.Deep.DeepCutAuto
import Derived.Deep.WholeRow
namespace Go.Proofs.YtpideemiijhkgaaDoor
open Go.RowKit

/-- a table, one row behind the other -/
def flT (L : List (List Int)) : List Int := L.flatten
theorem fl_rg : ∀ k, k < 9 → ∀ j, j < 8 → (flT rgT).getD (k * 8 + j) 0 = (rgT.getD k []).getD j 0 := by decide +kernel
theorem fl_sm : ∀ k, k < 9 → ∀ j, j < 8 → (flT smT).getD (k * 8 + j) 0 = (smT.getD k []).getD j 0 := by decide +kernel
theorem fl_rl : (flT rgT).length = 72 := by decide +kernel
theorem fl_sl : (flT smT).length = 72 := by decide +kernel
/-- a table as a value -/
def tbV (L : List (List Int)) : Value := .agg (is (flT L)).toArray
set_option maxRecDepth 100000 in
theorem qbR (u : World) : (Instr.build 94 #[(0, .agg #[.int .i64 0, .int .i64 0, .int .i64 0, .int .i64 128, .int .i64 0, .int .i64 0, .int .i64 0, .int .i64 0]), (1, .agg #[.int .i64 0, .int .i64 2, .int .i64 (-6), .int .i64 126, .int .i64 8, .int .i64 (-2), .int .i64 0, .int .i64 0]), (2, .agg #[.int .i64 0, .int .i64 2, .int .i64 (-10), .int .i64 122, .int .i64 18, .int .i64 (-4), .int .i64 0, .int .i64 0]), (3, .agg #[.int .i64 0, .int .i64 2, .int .i64 (-12), .int .i64 116, .int .i64 28, .int .i64 (-8), .int .i64 2, .int .i64 0]), (4, .agg #[.int .i64 0, .int .i64 2, .int .i64 (-14), .int .i64 110, .int .i64 38, .int .i64 (-10), .int .i64 2, .int .i64 0]), (5, .agg #[.int .i64 0, .int .i64 2, .int .i64 (-14), .int .i64 102, .int .i64 48, .int .i64 (-12), .int .i64 2, .int .i64 0]), (6, .agg #[.int .i64 0, .int .i64 2, .int .i64 (-16), .int .i64 94, .int .i64 58, .int .i64 (-12), .int .i64 2, .int .i64 0]), (7, .agg #[.int .i64 0, .int .i64 2, .int .i64 (-14), .int .i64 84, .int .i64 66, .int .i64 (-12), .int .i64 2, .int .i64 0]), (8, .agg #[.int .i64 0, .int .i64 2, .int .i64 (-14), .int .i64 76, .int .i64 76, .int .i64 (-14), .int .i64 2, .int .i64 0])]).run Tryd.prog u = .ok (tbV rgT) u := by kernel_rfl
set_option maxRecDepth 100000 in
theorem qbS (u : World) : (Instr.build 94 #[(0, .agg #[.int .i64 0, .int .i64 0, .int .i64 0, .int .i64 128, .int .i64 0, .int .i64 0, .int .i64 0, .int .i64 0]), (1, .agg #[.int .i64 0, .int .i64 2, .int .i64 28, .int .i64 62, .int .i64 34, .int .i64 2, .int .i64 0, .int .i64 0]), (2, .agg #[.int .i64 0, .int .i64 0, .int .i64 26, .int .i64 62, .int .i64 36, .int .i64 4, .int .i64 0, .int .i64 0]), (3, .agg #[.int .i64 0, .int .i64 0, .int .i64 22, .int .i64 62, .int .i64 40, .int .i64 4, .int .i64 0, .int .i64 0]), (4, .agg #[.int .i64 0, .int .i64 0, .int .i64 20, .int .i64 60, .int .i64 42, .int .i64 6, .int .i64 0, .int .i64 0]), (5, .agg #[.int .i64 0, .int .i64 0, .int .i64 18, .int .i64 58, .int .i64 44, .int .i64 8, .int .i64 0, .int .i64 0]), (6, .agg #[.int .i64 0, .int .i64 0, .int .i64 16, .int .i64 56, .int .i64 46, .int .i64 10, .int .i64 0, .int .i64 0]), (7, .agg #[.int .i64 0, .int .i64 (-2), .int .i64 16, .int .i64 54, .int .i64 48, .int .i64 12, .int .i64 0, .int .i64 0]), (8, .agg #[.int .i64 0, .int .i64 (-2), .int .i64 14, .int .i64 52, .int .i64 52, .int .i64 14, .int .i64 (-2), .int .i64 0])]).run Tryd.prog u = .ok (tbV smT) u := by kernel_rfl
theorem qalloc (u : World) : (Instr.alloc 94 true (.tuple #[])).run Tryd.prog u = .ok (.pointer (some ⟨u.heap.size, 0, none⟩)) (u.alloc (.cells (is (List.replicate 72 0)).toArray 94)) := by kernel_rfl
theorem sizeTab : (Tryd.prog.info? 94).map (·.size) = some 72 := by kernel_rfl
theorem qstore (u : World) (L : List (List Int)) (hl : (flT L).length = 72) : (Instr.storeAt 94 (.pointer (some ⟨u.heap.size, 0, none⟩)) (tbV L)).run Tryd.prog (u.alloc (.cells (is (List.replicate 72 0)).toArray 94)) = .ok () (u.alloc (.cells (is (flT L)).toArray 94)) :=
  run_storeAt_new u 94 _ _ (by rw [sizeTab]; simp [is, hl]) (by simp [is, hl]) (by simpa using is_one (flT L))
theorem wpList_val {P : Program} {ops : Array Oper} {Q : Exit → Act → World → Prop} {a : Act} {w w' : World} {rest : List Oper} {o : Oper} {v : Value} (hg : o.guard = none) (hr : (execOp a.eval o).run P w = .ok (.value v) w') (h : wpList P ops Q rest (a.put o.dst v) w') : wpList P ops Q (o :: rest) a w := by
  refine wpList_plain hg fun K hK' => ?_
  unfold Oper.wp
  rw [hr]
  exact hK' _ _ h
theorem wpList_skip {P : Program} {ops : Array Oper} {Q : Exit → Act → World → Prop} {a : Act} {w w' : World} {rest : List Oper} {o : Oper} (hg : o.guard = none) (hr : (execOp a.eval o).run P w = .ok .skip w') (h : wpList P ops Q rest (a.put o.dst undef) w') : wpList P ops Q (o :: rest) a w := by
  refine wpList_plain hg fun K hK' => ?_
  unfold Oper.wp
  rw [hr]
  exact hK' _ _ h
set_option maxRecDepth 100000 in
theorem qopR (a : Act) (u : World) (o : Oper) (x0 x1 x2 x3 x4 x5 x6 x7 x8 : Operand) (ho : o.op = Op.build 94 #[(0, x0), (1, x1), (2, x2), (3, x3), (4, x4), (5, x5), (6, x6), (7, x7), (8, x8)]) (h0 : a.eval x0 = .agg #[.int .i64 0, .int .i64 0, .int .i64 0, .int .i64 128, .int .i64 0, .int .i64 0, .int .i64 0, .int .i64 0]) (h1 : a.eval x1 = .agg #[.int .i64 0, .int .i64 2, .int .i64 (-6), .int .i64 126, .int .i64 8, .int .i64 (-2), .int .i64 0, .int .i64 0]) (h2 : a.eval x2 = .agg #[.int .i64 0, .int .i64 2, .int .i64 (-10), .int .i64 122, .int .i64 18, .int .i64 (-4), .int .i64 0, .int .i64 0]) (h3 : a.eval x3 = .agg #[.int .i64 0, .int .i64 2, .int .i64 (-12), .int .i64 116, .int .i64 28, .int .i64 (-8), .int .i64 2, .int .i64 0]) (h4 : a.eval x4 = .agg #[.int .i64 0, .int .i64 2, .int .i64 (-14), .int .i64 110, .int .i64 38, .int .i64 (-10), .int .i64 2, .int .i64 0]) (h5 : a.eval x5 = .agg #[.int .i64 0, .int .i64 2, .int .i64 (-14), .int .i64 102, .int .i64 48, .int .i64 (-12), .int .i64 2, .int .i64 0]) (h6 : a.eval x6 = .agg #[.int .i64 0, .int .i64 2, .int .i64 (-16), .int .i64 94, .int .i64 58, .int .i64 (-12), .int .i64 2, .int .i64 0]) (h7 : a.eval x7 = .agg #[.int .i64 0, .int .i64 2, .int .i64 (-14), .int .i64 84, .int .i64 66, .int .i64 (-12), .int .i64 2, .int .i64 0]) (h8 : a.eval x8 = .agg #[.int .i64 0, .int .i64 2, .int .i64 (-14), .int .i64 76, .int .i64 76, .int .i64 (-14), .int .i64 2, .int .i64 0]) : (execOp a.eval o).run Tryd.prog u = .ok (.value (tbV rgT)) u := by
  have h := qbR u
  simp only [execOp, ho, List.map_toArray, List.map_cons, List.map_nil, h0, h1, h2, h3, h4, h5, h6, h7, h8]
  rw [Sem.run_bind, h]
  rfl
set_option maxRecDepth 100000 in
theorem qopS (a : Act) (u : World) (o : Oper) (x0 x1 x2 x3 x4 x5 x6 x7 x8 : Operand) (ho : o.op = Op.build 94 #[(0, x0), (1, x1), (2, x2), (3, x3), (4, x4), (5, x5), (6, x6), (7, x7), (8, x8)]) (h0 : a.eval x0 = .agg #[.int .i64 0, .int .i64 0, .int .i64 0, .int .i64 128, .int .i64 0, .int .i64 0, .int .i64 0, .int .i64 0]) (h1 : a.eval x1 = .agg #[.int .i64 0, .int .i64 2, .int .i64 28, .int .i64 62, .int .i64 34, .int .i64 2, .int .i64 0, .int .i64 0]) (h2 : a.eval x2 = .agg #[.int .i64 0, .int .i64 0, .int .i64 26, .int .i64 62, .int .i64 36, .int .i64 4, .int .i64 0, .int .i64 0]) (h3 : a.eval x3 = .agg #[.int .i64 0, .int .i64 0, .int .i64 22, .int .i64 62, .int .i64 40, .int .i64 4, .int .i64 0, .int .i64 0]) (h4 : a.eval x4 = .agg #[.int .i64 0, .int .i64 0, .int .i64 20, .int .i64 60, .int .i64 42, .int .i64 6, .int .i64 0, .int .i64 0]) (h5 : a.eval x5 = .agg #[.int .i64 0, .int .i64 0, .int .i64 18, .int .i64 58, .int .i64 44, .int .i64 8, .int .i64 0, .int .i64 0]) (h6 : a.eval x6 = .agg #[.int .i64 0, .int .i64 0, .int .i64 16, .int .i64 56, .int .i64 46, .int .i64 10, .int .i64 0, .int .i64 0]) (h7 : a.eval x7 = .agg #[.int .i64 0, .int .i64 (-2), .int .i64 16, .int .i64 54, .int .i64 48, .int .i64 12, .int .i64 0, .int .i64 0]) (h8 : a.eval x8 = .agg #[.int .i64 0, .int .i64 (-2), .int .i64 14, .int .i64 52, .int .i64 52, .int .i64 14, .int .i64 (-2), .int .i64 0]) : (execOp a.eval o).run Tryd.prog u = .ok (.value (tbV smT)) u := by
  have h := qbS u
  simp only [execOp, ho, List.map_toArray, List.map_cons, List.map_nil, h0, h1, h2, h3, h4, h5, h6, h7, h8]
  rw [Sem.run_bind, h]
  rfl
theorem qop2 (a : Act) (u : World) (o : Oper) (ho : o.op = Op.alloc 94) : (execOp a.eval o).run Tryd.prog u = .ok (.value (.pointer (some ⟨u.heap.size, 0, none⟩))) (u.alloc (.cells (is (List.replicate 72 0)).toArray 94)) := by
  have h := qalloc u
  simp only [execOp, ho]
  rw [Sem.run_bind, h]
  rfl
theorem qop3 (a : Act) (u : World) (o : Oper) (x y : Operand) (L : List (List Int)) (hl : (flT L).length = 72) (ho : o.op = Op.store 94 x y) (hx : a.eval x = .pointer (some ⟨u.heap.size, 0, none⟩)) (hy : a.eval y = tbV L) : (execOp a.eval o).run Tryd.prog (u.alloc (.cells (is (List.replicate 72 0)).toArray 94)) = .ok .skip (u.alloc (.cells (is (flT L)).toArray 94)) := by
  have h := qstore u L hl
  simp only [execOp, ho, hx, hy]
  rw [Sem.run_bind, h]
  rfl

set_option maxRecDepth 100000 in
set_option maxHeartbeats 4000000 in
theorem half_any {w : World} {k f : Nat} (hk : k < 2) (hf8 : f < 9) : Calls Tryd.prog 69 #[.int .i64 (k : Int), .int .i64 (f : Int)] w fun e w' => e = .returned (tv (hf k f)) ∧ Below w.heap.size w w' := by
  obtain ⟨t0, t1, t2, t3, t4, t5, t6, t7, hT⟩ := eight (hf_len k hk f hf8)
  rw [hT, tv8]
  have f0 : (0 : Int) ≤ (f : Int) := by omega
  have f1 : (f : Int) < 9 := by omega
  go_enter Tryd.func69, Tryd.ntmps69
  go_upto_region 3 with (first | (refine wpList_val (by rfl) (qopR _ _ _ _ _ _ _ _ _ _ _ _ (by rfl) (by rfl) (by rfl) (by rfl) (by rfl) (by rfl) (by rfl) (by rfl) (by rfl) (by rfl)) ?_) | (refine wpList_val (by rfl) (qopS _ _ _ _ _ _ _ _ _ _ _ _ (by rfl) (by rfl) (by rfl) (by rfl) (by rfl) (by rfl) (by rfl) (by rfl) (by rfl) (by rfl)) ?_) | (refine wpList_val (by rfl) (qop2 _ _ _ (by rfl)) ?_) | (refine wpList_skip (by rfl) (qop3 _ _ _ _ _ _ fl_rl (by rfl) (by rfl) (by rfl)) ?_) | (refine wpList_skip (by rfl) (qop3 _ _ _ _ _ _ fl_sl (by rfl) (by rfl) (by rfl)) ?_))
  have HR : Hid (Ri 94 (((w.alloc (.cells #[.int .i64 0, .int .i64 0, .int .i64 0, .int .i64 0, .int .i64 0, .int .i64 0, .int .i64 0, .int .i64 0] 80)).alloc (.cells (is (flT rgT)).toArray 94)).alloc (.cells (is (flT smT)).toArray 94)) (w.heap.size + 1) (flT rgT)) := (Ri.built 94 _ (flT rgT) (by simp)).to (from_alloc _ _)
  have HS : Hid (Ri 94 (((w.alloc (.cells #[.int .i64 0, .int .i64 0, .int .i64 0, .int .i64 0, .int .i64 0, .int .i64 0, .int .i64 0, .int .i64 0] 80)).alloc (.cells (is (flT rgT)).toArray 94)).alloc (.cells (is (flT smT)).toArray 94)) (w.heap.size + 1 + 1) (flT smT)) := Ri.built 94 _ (flT smT) (by simp)
  have HZ : Hid (Ri 80 (((w.alloc (.cells #[.int .i64 0, .int .i64 0, .int .i64 0, .int .i64 0, .int .i64 0, .int .i64 0, .int .i64 0, .int .i64 0] 80)).alloc (.cells (is (flT rgT)).toArray 94)).alloc (.cells (is (flT smT)).toArray 94)) w.heap.size (List.replicate 8 0)) := ((zero8 w).to (from_alloc _ _)).to (from_alloc _ _)
  have HB : Hid (Below w.heap.size w (((w.alloc (.cells #[.int .i64 0, .int .i64 0, .int .i64 0, .int .i64 0, .int .i64 0, .int .i64 0, .int .i64 0, .int .i64 0] 80)).alloc (.cells (is (flT rgT)).toArray 94)).alloc (.cells (is (flT smT)).toArray 94))) := to_alloc (to_alloc (from_alloc _ _) _) _
  generalize (((w.alloc (.cells #[.int .i64 0, .int .i64 0, .int .i64 0, .int .i64 0, .int .i64 0, .int .i64 0, .int .i64 0, .int .i64 0] 80)).alloc (.cells (is (flT rgT)).toArray 94)).alloc (.cells (is (flT smT)).toArray 94)) = v at *
  have z : ∀ j, j < 8 → v.cell? ⟨w.heap.size, j, none⟩ = some (.int .i64 0) := fun j hj => by
    have := HZ.out.cell j (by simpa using hj)
    rwa [rep_geti hj] at this
  have e0 := z 0 (by omega)
  have e1 := z 1 (by omega)
  have e2 := z 2 (by omega)
  have e3 := z 3 (by omega)
  have e4 := z 4 (by omega)
  have e5 := z 5 (by omega)
  have e6 := z 6 (by omega)
  have e7 := z 7 (by omega)
  have g0 := HZ.out.thaw 0
  have g1 := HZ.out.thaw 1
  have g2 := HZ.out.thaw 2
  have g3 := HZ.out.thaw 3
  have g4 := HZ.out.thaw 4
  have g5 := HZ.out.thaw 5
  have g6 := HZ.out.thaw 6
  have g7 := HZ.out.thaw 7
  clear z
  rcases (show k = 0 ∨ k = 1 by omega) with rfl | rfl
  · have c : ∀ j, j < 8 → v.cell? ⟨w.heap.size + 1, f * 8 + j, none⟩ = some (.int .i64 ([t0, t1, t2, t3, t4, t5, t6, t7].getD j 0)) := fun j hj => by
      rw [HR.out.cell _ (by rw [fl_rl]; omega), fl_rg f hf8 j hj, ← hT]; rfl
    have c0 := c 0 (by omega)
    have c1 := c 1 (by omega)
    have c2 := c 2 (by omega)
    have c3 := c 3 (by omega)
    have c4 := c 4 (by omega)
    have c5 := c 5 (by omega)
    have c6 := c 6 (by omega)
    have c7 := c 7 (by omega)
    simp only [List.getD_cons_zero, List.getD_cons_succ, Nat.add_zero] at c0 c1 c2 c3 c4 c5 c6 c7
    clear c hT hf8 hk HR HS HZ
    go_wp2_with fail
    exact bodyPost_ret (v := .agg #[.int .i64 t0, .int .i64 t1, .int .i64 t2, .int .i64 t3, .int .i64 t4, .int .i64 t5, .int .i64 t6, .int .i64 t7]) (by simp [results, Tryd.results69, go_sem, e0, e1, e2, e3, e4, e5, e6, e7]) rfl ⟨rfl, below_set8 HB.out (by omega)⟩
  · have c : ∀ j, j < 8 → v.cell? ⟨w.heap.size + 1 + 1, f * 8 + j, none⟩ = some (.int .i64 ([t0, t1, t2, t3, t4, t5, t6, t7].getD j 0)) := fun j hj => by
      rw [HS.out.cell _ (by rw [fl_sl]; omega), fl_sm f hf8 j hj, ← hT]; rfl
    have c0 := c 0 (by omega)
    have c1 := c 1 (by omega)
    have c2 := c 2 (by omega)
    have c3 := c 3 (by omega)
    have c4 := c 4 (by omega)
    have c5 := c 5 (by omega)
    have c6 := c 6 (by omega)
    have c7 := c 7 (by omega)
    simp only [List.getD_cons_zero, List.getD_cons_succ, Nat.add_zero] at c0 c1 c2 c3 c4 c5 c6 c7
    clear c hT hf8 hk HR HS HZ
    go_wp2_with fail
    exact bodyPost_ret (v := .agg #[.int .i64 t0, .int .i64 t1, .int .i64 t2, .int .i64 t3, .int .i64 t4, .int .i64 t5, .int .i64 t6, .int .i64 t7]) (by simp [results, Tryd.results69, go_sem, e0, e1, e2, e3, e4, e5, e6, e7]) rfl ⟨rfl, below_set8 HB.out (by omega)⟩

end Go.Proofs.YtpideemiijhkgaaDoor
