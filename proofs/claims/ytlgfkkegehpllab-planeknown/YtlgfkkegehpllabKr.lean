/- DERIVED. Region 3 of PlaneKnown: a list of seven planes, four of whose rows are made in any order. -/
import Derived.Test.YtlgfkkegehpllabRm
import Derived.Deep.RegionHeld3
namespace Go.Proofs.Ytlgfkkegehpllab
open Go.RowKit

theorem put_sort (a : Act) (i j : Nat) (x y : Value) (h : j < i) : (a.put (some i) x).put (some j) y = (a.put (some j) y).put (some i) x := by
  simp only [Act.put]
  rw [Array.setIfInBounds_comm]
  omega
theorem ps74x3 (a : Act) (x y : Value) : (a.put (some 74) x).put (some 3) y = (a.put (some 3) y).put (some 74) x := put_sort a 74 3 x y (by omega)
theorem ps75x3 (a : Act) (x y : Value) : (a.put (some 75) x).put (some 3) y = (a.put (some 3) y).put (some 75) x := put_sort a 75 3 x y (by omega)
theorem ps76x3 (a : Act) (x y : Value) : (a.put (some 76) x).put (some 3) y = (a.put (some 3) y).put (some 76) x := put_sort a 76 3 x y (by omega)
theorem ps77x3 (a : Act) (x y : Value) : (a.put (some 77) x).put (some 3) y = (a.put (some 3) y).put (some 77) x := put_sort a 77 3 x y (by omega)
theorem ps77x75 (a : Act) (x y : Value) : (a.put (some 77) x).put (some 75) y = (a.put (some 75) y).put (some 77) x := put_sort a 77 75 x y (by omega)
theorem ps77x76 (a : Act) (x y : Value) : (a.put (some 77) x).put (some 76) y = (a.put (some 76) y).put (some 77) x := put_sort a 77 76 x y (by omega)
theorem ps78x3 (a : Act) (x y : Value) : (a.put (some 78) x).put (some 3) y = (a.put (some 3) y).put (some 78) x := put_sort a 78 3 x y (by omega)
theorem ps78x75 (a : Act) (x y : Value) : (a.put (some 78) x).put (some 75) y = (a.put (some 75) y).put (some 78) x := put_sort a 78 75 x y (by omega)
theorem ps78x76 (a : Act) (x y : Value) : (a.put (some 78) x).put (some 76) y = (a.put (some 76) y).put (some 78) x := put_sort a 78 76 x y (by omega)
theorem ps79x3 (a : Act) (x y : Value) : (a.put (some 79) x).put (some 3) y = (a.put (some 3) y).put (some 79) x := put_sort a 79 3 x y (by omega)
theorem ps79x75 (a : Act) (x y : Value) : (a.put (some 79) x).put (some 75) y = (a.put (some 75) y).put (some 79) x := put_sort a 79 75 x y (by omega)
theorem ps79x76 (a : Act) (x y : Value) : (a.put (some 79) x).put (some 76) y = (a.put (some 76) y).put (some 79) x := put_sort a 79 76 x y (by omega)
theorem ps79x77 (a : Act) (x y : Value) : (a.put (some 79) x).put (some 77) y = (a.put (some 77) y).put (some 79) x := put_sort a 79 77 x y (by omega)
theorem ps79x78 (a : Act) (x y : Value) : (a.put (some 79) x).put (some 78) y = (a.put (some 78) y).put (some 79) x := put_sort a 79 78 x y (by omega)
theorem ps80x3 (a : Act) (x y : Value) : (a.put (some 80) x).put (some 3) y = (a.put (some 3) y).put (some 80) x := put_sort a 80 3 x y (by omega)
theorem ps80x75 (a : Act) (x y : Value) : (a.put (some 80) x).put (some 75) y = (a.put (some 75) y).put (some 80) x := put_sort a 80 75 x y (by omega)
theorem ps80x76 (a : Act) (x y : Value) : (a.put (some 80) x).put (some 76) y = (a.put (some 76) y).put (some 80) x := put_sort a 80 76 x y (by omega)
theorem ps80x77 (a : Act) (x y : Value) : (a.put (some 80) x).put (some 77) y = (a.put (some 77) y).put (some 80) x := put_sort a 80 77 x y (by omega)
theorem ps80x78 (a : Act) (x y : Value) : (a.put (some 80) x).put (some 78) y = (a.put (some 78) y).put (some 80) x := put_sort a 80 78 x y (by omega)
theorem ps81x3 (a : Act) (x y : Value) : (a.put (some 81) x).put (some 3) y = (a.put (some 3) y).put (some 81) x := put_sort a 81 3 x y (by omega)
theorem ps81x75 (a : Act) (x y : Value) : (a.put (some 81) x).put (some 75) y = (a.put (some 75) y).put (some 81) x := put_sort a 81 75 x y (by omega)
theorem ps81x76 (a : Act) (x y : Value) : (a.put (some 81) x).put (some 76) y = (a.put (some 76) y).put (some 81) x := put_sort a 81 76 x y (by omega)
theorem ps81x77 (a : Act) (x y : Value) : (a.put (some 81) x).put (some 77) y = (a.put (some 77) y).put (some 81) x := put_sort a 81 77 x y (by omega)
theorem ps81x78 (a : Act) (x y : Value) : (a.put (some 81) x).put (some 78) y = (a.put (some 78) y).put (some 81) x := put_sort a 81 78 x y (by omega)
theorem ps82x3 (a : Act) (x y : Value) : (a.put (some 82) x).put (some 3) y = (a.put (some 3) y).put (some 82) x := put_sort a 82 3 x y (by omega)
theorem ps82x75 (a : Act) (x y : Value) : (a.put (some 82) x).put (some 75) y = (a.put (some 75) y).put (some 82) x := put_sort a 82 75 x y (by omega)
theorem ps82x76 (a : Act) (x y : Value) : (a.put (some 82) x).put (some 76) y = (a.put (some 76) y).put (some 82) x := put_sort a 82 76 x y (by omega)
theorem ps82x77 (a : Act) (x y : Value) : (a.put (some 82) x).put (some 77) y = (a.put (some 77) y).put (some 82) x := put_sort a 82 77 x y (by omega)
theorem ps82x78 (a : Act) (x y : Value) : (a.put (some 82) x).put (some 78) y = (a.put (some 78) y).put (some 82) x := put_sort a 82 78 x y (by omega)
theorem ps82x80 (a : Act) (x y : Value) : (a.put (some 82) x).put (some 80) y = (a.put (some 80) y).put (some 82) x := put_sort a 82 80 x y (by omega)
theorem ps82x81 (a : Act) (x y : Value) : (a.put (some 82) x).put (some 81) y = (a.put (some 81) y).put (some 82) x := put_sort a 82 81 x y (by omega)
theorem ps83x3 (a : Act) (x y : Value) : (a.put (some 83) x).put (some 3) y = (a.put (some 3) y).put (some 83) x := put_sort a 83 3 x y (by omega)
theorem ps83x75 (a : Act) (x y : Value) : (a.put (some 83) x).put (some 75) y = (a.put (some 75) y).put (some 83) x := put_sort a 83 75 x y (by omega)
theorem ps83x76 (a : Act) (x y : Value) : (a.put (some 83) x).put (some 76) y = (a.put (some 76) y).put (some 83) x := put_sort a 83 76 x y (by omega)
theorem ps83x77 (a : Act) (x y : Value) : (a.put (some 83) x).put (some 77) y = (a.put (some 77) y).put (some 83) x := put_sort a 83 77 x y (by omega)
theorem ps83x78 (a : Act) (x y : Value) : (a.put (some 83) x).put (some 78) y = (a.put (some 78) y).put (some 83) x := put_sort a 83 78 x y (by omega)
theorem ps83x80 (a : Act) (x y : Value) : (a.put (some 83) x).put (some 80) y = (a.put (some 80) y).put (some 83) x := put_sort a 83 80 x y (by omega)
theorem ps83x81 (a : Act) (x y : Value) : (a.put (some 83) x).put (some 81) y = (a.put (some 81) y).put (some 83) x := put_sort a 83 81 x y (by omega)
theorem ps84x3 (a : Act) (x y : Value) : (a.put (some 84) x).put (some 3) y = (a.put (some 3) y).put (some 84) x := put_sort a 84 3 x y (by omega)
theorem ps84x75 (a : Act) (x y : Value) : (a.put (some 84) x).put (some 75) y = (a.put (some 75) y).put (some 84) x := put_sort a 84 75 x y (by omega)
theorem ps84x76 (a : Act) (x y : Value) : (a.put (some 84) x).put (some 76) y = (a.put (some 76) y).put (some 84) x := put_sort a 84 76 x y (by omega)
theorem ps84x77 (a : Act) (x y : Value) : (a.put (some 84) x).put (some 77) y = (a.put (some 77) y).put (some 84) x := put_sort a 84 77 x y (by omega)
theorem ps84x78 (a : Act) (x y : Value) : (a.put (some 84) x).put (some 78) y = (a.put (some 78) y).put (some 84) x := put_sort a 84 78 x y (by omega)
theorem ps84x80 (a : Act) (x y : Value) : (a.put (some 84) x).put (some 80) y = (a.put (some 80) y).put (some 84) x := put_sort a 84 80 x y (by omega)
theorem ps84x81 (a : Act) (x y : Value) : (a.put (some 84) x).put (some 81) y = (a.put (some 81) y).put (some 84) x := put_sort a 84 81 x y (by omega)
theorem ps85x3 (a : Act) (x y : Value) : (a.put (some 85) x).put (some 3) y = (a.put (some 3) y).put (some 85) x := put_sort a 85 3 x y (by omega)
theorem put_size (a : Act) (i : Nat) (x : Value) : (a.put (some i) x).tmps.size = a.tmps.size := by simp [Act.put]
theorem put_lt {a : Act} {i j : Nat} {x : Value} (h : j < a.tmps.size) : j < (a.put (some i) x).tmps.size := by rw [put_size]; exact h
theorem eval_same (a : Act) (i : Nat) (x : Value) (h : i < a.tmps.size) : (a.put (some i) x).eval (.tmp i) = x := by simp [Act.put, Act.eval, h]
theorem eval_other (a : Act) (i j : Nat) (x : Value) (h : i ≠ j) : (a.put (some i) x).eval (.tmp j) = a.eval (.tmp j) := by simp [Act.put, Act.eval, h]
theorem ready_val {P : Program} {ops : Array Oper} {K : Act → World → Prop} {Q : Exit → Act → World → Prop} {a : Act} {w w' : World} {o : Oper} {v : Value} {E : Prop} (hg : o.guard = none) (hr : (execOp a.eval o).run P w = .ok (.value v) w') (h : K (a.put o.dst v) w') : if Region.wanted o (yielded ops a.tmps) = true then Oper.wp P o a w K Q else E := by
  rw [if_pos (by simp [Region.wanted, hg])]
  unfold Oper.wp
  rw [hr]
  exact h
def ro0 : Oper := { dst := some 74, op := Op.build 24 #[], type := 24, pos := "outright.go:127", after := #[], guard := none }
def ro1 : Oper := { dst := some 75, op := Op.buildSlice 22 3 #[(0, Operand.const (Value.int IntKind.u8 1)), (1, Operand.const (Value.int IntKind.u8 2)), (2, Operand.const (Value.int IntKind.u8 3))], type := 22, pos := "outright.go:127", after := #[], guard := none }
def ro2 : Oper := { dst := some 76, op := Op.build 24 #[(0, Operand.const (Value.int IntKind.i64 2)), (1, Operand.const (Value.int IntKind.i64 2)), (2, Operand.tmp 75)], type := 24, pos := "outright.go:127", after := #[{ on := 1, ground := Ground.data }], guard := none }
def ro3 : Oper := { dst := some 77, op := Op.makeSlice 22 (Operand.const (Value.int IntKind.i64 513)) (Operand.const (Value.int IntKind.i64 513)), type := 22, pos := "outright.go:127", after := #[], guard := none }
def ro4 : Oper := { dst := some 78, op := Op.build 24 #[(0, Operand.const (Value.int IntKind.i64 513)), (1, Operand.const (Value.int IntKind.i64 1)), (2, Operand.tmp 77)], type := 24, pos := "outright.go:127", after := #[{ on := 3, ground := Ground.data }], guard := none }
def ro5 : Oper := { dst := some 79, op := Op.build 24 #[(0, Operand.const (Value.int IntKind.i64 0)), (1, Operand.const (Value.int IntKind.i64 5))], type := 24, pos := "outright.go:127", after := #[], guard := none }
def ro6 : Oper := { dst := some 80, op := Op.buildSlice 22 1 #[(0, Operand.const (Value.int IntKind.u8 1))], type := 22, pos := "outright.go:127", after := #[], guard := none }
def ro7 : Oper := { dst := some 81, op := Op.build 24 #[(0, Operand.const (Value.int IntKind.i64 (-1))), (1, Operand.const (Value.int IntKind.i64 (-1))), (2, Operand.tmp 80)], type := 24, pos := "outright.go:127", after := #[{ on := 6, ground := Ground.data }], guard := none }
def ro8 : Oper := { dst := some 82, op := Op.build 24 #[(0, Operand.const (Value.int IntKind.i64 4294967296)), (1, Operand.const (Value.int IntKind.i64 4294967296))], type := 24, pos := "outright.go:127", after := #[], guard := none }
def ro9 : Oper := { dst := some 83, op := Op.makeSlice 22 (Operand.const (Value.int IntKind.i64 513)) (Operand.const (Value.int IntKind.i64 513)), type := 22, pos := "outright.go:127", after := #[], guard := none }
def ro10 : Oper := { dst := some 84, op := Op.build 24 #[(0, Operand.const (Value.int IntKind.i64 1)), (1, Operand.const (Value.int IntKind.i64 513)), (2, Operand.tmp 83)], type := 24, pos := "outright.go:127", after := #[{ on := 9, ground := Ground.data }], guard := none }
def ro11 : Oper := { dst := some 85, op := Op.buildSlice 27 7 #[(0, Operand.tmp 74), (1, Operand.tmp 76), (2, Operand.tmp 78), (3, Operand.tmp 79), (4, Operand.tmp 81), (5, Operand.tmp 82), (6, Operand.tmp 84)], type := 27, pos := "outright.go:127", after := #[{ on := 0, ground := Ground.data }, { on := 2, ground := Ground.data }, { on := 4, ground := Ground.data }, { on := 5, ground := Ground.data }, { on := 7, ground := Ground.data }, { on := 8, ground := Ground.data }, { on := 10, ground := Ground.data }], guard := none }
def ro12 : Oper := { dst := some 3, op := Op.assign (Operand.tmp 85), type := 27, pos := "outright.go:127", after := #[{ on := 11, ground := Ground.data }, { on := 0, ground := Ground.phase }, { on := 1, ground := Ground.phase }, { on := 2, ground := Ground.phase }, { on := 3, ground := Ground.phase }, { on := 4, ground := Ground.phase }, { on := 5, ground := Ground.phase }, { on := 6, ground := Ground.phase }, { on := 7, ground := Ground.phase }, { on := 8, ground := Ground.phase }, { on := 9, ground := Ground.phase }, { on := 10, ground := Ground.phase }, { on := 11, ground := Ground.phase }], guard := none }
theorem rx0 (a : Act) (u : World) : (execOp a.eval ro0).run Try.prog u = .ok (.value (.agg #[.int .i64 0, .int .i64 0, .slice none 0 0])) u := by kernel_rfl
theorem rx5 (a : Act) (u : World) : (execOp a.eval ro5).run Try.prog u = .ok (.value (.agg #[.int .i64 0, .int .i64 5, .slice none 0 0])) u := by kernel_rfl
theorem rx8 (a : Act) (u : World) : (execOp a.eval ro8).run Try.prog u = .ok (.value (.agg #[.int .i64 4294967296, .int .i64 4294967296, .slice none 0 0])) u := by kernel_rfl
theorem rx2 (a : Act) (u : World) {q1 : Option Addr} (h : a.eval (.tmp 75) = .slice q1 3 3) : (execOp a.eval ro2).run Try.prog u = .ok (.value (.agg #[.int .i64 2, .int .i64 2, .slice q1 3 3])) u := by
  simp only [execOp, ro2, List.map_toArray, List.map_cons, List.map_nil, h]
  simp only [Act.eval]
  kernel_rfl
theorem rx4 (a : Act) (u : World) {q2 : Option Addr} (h : a.eval (.tmp 77) = .slice q2 513 513) : (execOp a.eval ro4).run Try.prog u = .ok (.value (.agg #[.int .i64 513, .int .i64 1, .slice q2 513 513])) u := by
  simp only [execOp, ro4, List.map_toArray, List.map_cons, List.map_nil, h]
  simp only [Act.eval]
  kernel_rfl
theorem rx7 (a : Act) (u : World) {q3 : Option Addr} (h : a.eval (.tmp 80) = .slice q3 1 1) : (execOp a.eval ro7).run Try.prog u = .ok (.value (.agg #[.int .i64 (-1), .int .i64 (-1), .slice q3 1 1])) u := by
  simp only [execOp, ro7, List.map_toArray, List.map_cons, List.map_nil, h]
  simp only [Act.eval]
  kernel_rfl
theorem rx10 (a : Act) (u : World) {q4 : Option Addr} (h : a.eval (.tmp 83) = .slice q4 513 513) : (execOp a.eval ro10).run Try.prog u = .ok (.value (.agg #[.int .i64 1, .int .i64 513, .slice q4 513 513])) u := by
  simp only [execOp, ro10, List.map_toArray, List.map_cons, List.map_nil, h]
  simp only [Act.eval]
  kernel_rfl
theorem rx1 (a : Act) (u : World) : (execOp a.eval ro1).run Try.prog u = .ok (.value (.slice (some ⟨u.heap.size, 0, none⟩) 3 3)) (u.alloc (.cells #[.int .u8 1, .int .u8 2, .int .u8 3] 5)) := by kernel_rfl
theorem rx6 (a : Act) (u : World) : (execOp a.eval ro6).run Try.prog u = .ok (.value (.slice (some ⟨u.heap.size, 0, none⟩) 1 1)) (u.alloc (.cells #[.int .u8 1] 5)) := by kernel_rfl
theorem rx3 : ∃ ob, ∀ (a : Act) (u : World), (execOp a.eval ro3).run Try.prog u = .ok (.value (.slice (some ⟨u.heap.size, 0, none⟩) 513 513)) (u.alloc ob) := by
  obtain ⟨ob, hob⟩ : ∃ ob, ∀ x : World, (Instr.makeSlice 22 (.int .i64 513) (.int .i64 513)).run Try.prog x = .ok (.slice (some ⟨x.heap.size, 0, none⟩) 513 513) (x.alloc ob) := ⟨_, fun x => mk_row (n := 513) (by omega) x⟩
  refine ⟨ob, fun a u => ?_⟩
  simp only [execOp, ro3, Act.eval]
  rw [Sem.run_bind, hob u]
  rfl
theorem rx9 : ∃ ob, ∀ (a : Act) (u : World), (execOp a.eval ro9).run Try.prog u = .ok (.value (.slice (some ⟨u.heap.size, 0, none⟩) 513 513)) (u.alloc ob) := by
  obtain ⟨ob, hob⟩ : ∃ ob, ∀ x : World, (Instr.makeSlice 22 (.int .i64 513) (.int .i64 513)).run Try.prog x = .ok (.slice (some ⟨x.heap.size, 0, none⟩) 513 513) (x.alloc ob) := ⟨_, fun x => mk_row (n := 513) (by omega) x⟩
  refine ⟨ob, fun a u => ?_⟩
  simp only [execOp, ro9, Act.eval]
  rw [Sem.run_bind, hob u]
  rfl
theorem rx11 (a : Act) (u : World) {q1 q2 q3 q4 : Option Addr} (h0 : a.eval (.tmp 74) = .agg #[.int .i64 0, .int .i64 0, .slice none 0 0]) (h2 : a.eval (.tmp 76) = .agg #[.int .i64 2, .int .i64 2, .slice q1 3 3]) (h4 : a.eval (.tmp 78) = .agg #[.int .i64 513, .int .i64 1, .slice q2 513 513]) (h5 : a.eval (.tmp 79) = .agg #[.int .i64 0, .int .i64 5, .slice none 0 0]) (h7 : a.eval (.tmp 81) = .agg #[.int .i64 (-1), .int .i64 (-1), .slice q3 1 1]) (h8 : a.eval (.tmp 82) = .agg #[.int .i64 4294967296, .int .i64 4294967296, .slice none 0 0]) (h10 : a.eval (.tmp 84) = .agg #[.int .i64 1, .int .i64 513, .slice q4 513 513]) : (execOp a.eval ro11).run Try.prog u = .ok (.value (.slice (some ⟨u.heap.size, 0, none⟩) 7 7)) (u.alloc (.cells #[.int .i64 0, .int .i64 0, .slice none 0 0, .int .i64 2, .int .i64 2, .slice q1 3 3, .int .i64 513, .int .i64 1, .slice q2 513 513, .int .i64 0, .int .i64 5, .slice none 0 0, .int .i64 (-1), .int .i64 (-1), .slice q3 1 1, .int .i64 4294967296, .int .i64 4294967296, .slice none 0 0, .int .i64 1, .int .i64 513, .slice q4 513 513] 24)) := by
  simp only [execOp, ro11, List.map_toArray, List.map_cons, List.map_nil, h0, h2, h4, h5, h7, h8, h10]
  kernel_rfl
theorem rx12 (a : Act) (u : World) {v : Value} (h : a.eval (.tmp 85) = v) : (execOp a.eval ro12).run Try.prog u = .ok (.value v) u := by
  simp only [execOp, ro12, h]
  rfl

set_option maxRecDepth 100000 in
set_option maxHeartbeats 4000000 in
theorem region3 {Q : Exit → Act → World → Prop} {a : Act} {w : World} (hsz : a.tmps.size = 374) (hQ : ∀ (i : Nat) (v : Value) c a w, Q (.panic c) (a.put (some i) v) w → Q (.panic c) a w)
    (h : ∀ (gb : Nat) (q1 q2 q3 q4 : Option Addr) (w' : World), Below w.heap.size w w' → w.heap.size ≤ gb → w'.heap[gb]? = some (.cells #[.int .i64 0, .int .i64 0, .slice none 0 0, .int .i64 2, .int .i64 2, .slice q1 3 3, .int .i64 513, .int .i64 1, .slice q2 513 513, .int .i64 0, .int .i64 5, .slice none 0 0, .int .i64 (-1), .int .i64 (-1), .slice q3 1 1, .int .i64 4294967296, .int .i64 4294967296, .slice none 0 0, .int .i64 1, .int .i64 513, .slice q4 513 513] 24 (0, 0)) → Q .normal (((((((((((((a.put (some 3) (.slice (some ⟨gb, 0, none⟩) 7 7)).put (some 74) (.agg #[.int .i64 0, .int .i64 0, .slice none 0 0])).put (some 75) (.slice q1 3 3)).put (some 76) (.agg #[.int .i64 2, .int .i64 2, .slice q1 3 3])).put (some 77) (.slice q2 513 513)).put (some 78) (.agg #[.int .i64 513, .int .i64 1, .slice q2 513 513])).put (some 79) (.agg #[.int .i64 0, .int .i64 5, .slice none 0 0])).put (some 80) (.slice q3 1 1)).put (some 81) (.agg #[.int .i64 (-1), .int .i64 (-1), .slice q3 1 1])).put (some 82) (.agg #[.int .i64 4294967296, .int .i64 4294967296, .slice none 0 0])).put (some 83) (.slice q4 513 513)).put (some 84) (.agg #[.int .i64 1, .int .i64 513, .slice q4 513 513])).put (some 85) (.slice (some ⟨gb, 0, none⟩) 7 7)) w') :
    (Code.region 3 #[ro0, ro1, ro2, ro3, ro4, ro5, ro6, ro7, ro8, ro9, ro10, ro11, ro12] true).wp Try.prog Q a w := by
  refine wp_region_held_drew (S := fun t => Below w.heap.size w t) (by kernel_rfl) (below_drew (Below.refl _ _)) (fun hHeld => ?_)
  change wpAnyH _ _ _ _ _ 13 #[false, false, false, false, false, false, false, false, false, false, false, false, false] _ _
  generalize w.drew = t0 at *
  have hsz' : ∀ {j : Nat}, j < 374 → j < a.tmps.size := fun h => by rw [hsz]; exact h
  obtain ⟨ob3, h3⟩ : ∃ ob, ∀ (b : Act) (u : World), (execOp b.eval ro3).run Try.prog u = .ok (.value (.slice (some ⟨u.heap.size, 0, none⟩) 513 513)) (u.alloc ob) := rx3
  obtain ⟨ob9, h9⟩ : ∃ ob, ∀ (b : Act) (u : World), (execOp b.eval ro9).run Try.prog u = .ok (.value (.slice (some ⟨u.heap.size, 0, none⟩) 513 513)) (u.alloc ob) := rx9
  have hmk3 : Hid _ := h3
  have hmk9 : Hid _ := h9
  refine wpAnyH_take (i := 0) (oi := ro0) (v := .agg #[.int .i64 0, .int .i64 0, .slice none 0 0]) rfl (by kernel_rfl) (by kernel_rfl) (by kernel_rfl) (fun _ _ _ h => hQ _ _ _ _ _ h) (Or.inl ⟨by rfl, fun u _ => rx0 _ _⟩) (by assumption) ?_
  change wpAnyH _ _ _ _ _ _ _ (Act.put _ (some 74) _) _
  refine wpAnyH_take (i := 5) (oi := ro5) (v := .agg #[.int .i64 0, .int .i64 5, .slice none 0 0]) rfl (by kernel_rfl) (by kernel_rfl) (by kernel_rfl) (fun _ _ _ h => hQ _ _ _ _ _ h) (Or.inl ⟨by rfl, fun u _ => rx5 _ _⟩) (by assumption) ?_
  change wpAnyH _ _ _ _ _ _ _ (Act.put _ (some 79) _) _
  refine wpAnyH_take (i := 8) (oi := ro8) (v := .agg #[.int .i64 4294967296, .int .i64 4294967296, .slice none 0 0]) rfl (by kernel_rfl) (by kernel_rfl) (by kernel_rfl) (fun _ _ _ h => hQ _ _ _ _ _ h) (Or.inl ⟨by rfl, fun u _ => rx8 _ _⟩) (by assumption) ?_
  change wpAnyH _ _ _ _ _ _ _ (Act.put _ (some 82) _) _
  refine wpAnyH_ready (rs := [1, 3, 6, 9]) (by kernel_rfl) (by simp) ?_
  refine AllReadyH.cons (o := ro1) rfl (fun K hK => ?_) ?_
  · refine ready_val rfl (rx1 _ _) ?_
    refine hK.out _ _ (to_alloc hHeld _) (fun hHeld' => ?_)
    clear hK K hHeld
    have hHeld := hHeld'
    clear hHeld'
    generalize t0.alloc (.cells #[.int .u8 1, .int .u8 2, .int .u8 3] 5) = t1 at *
    generalize (some ⟨t0.heap.size, 0, none⟩ : Option Addr) = q1
    change wpAnyH _ _ _ _ _ _ _ (Act.put _ (some 75) _) _
    refine wpAnyH_take (i := 2) (oi := ro2) (v := .agg #[.int .i64 2, .int .i64 2, .slice q1 3 3]) rfl (by kernel_rfl) (by kernel_rfl) (by kernel_rfl) (fun _ _ _ h => hQ _ _ _ _ _ h) (Or.inl ⟨by rfl, fun u _ => rx2 _ _ (eval_same _ 75 _ (put_lt (put_lt (put_lt (hsz' (by decide))))))⟩) (by assumption) ?_
    change wpAnyH _ _ _ _ _ _ _ (Act.put _ (some 76) _) _
    refine wpAnyH_ready (rs := [3, 6, 9]) (by kernel_rfl) (by simp) ?_
    refine AllReadyH.cons (o := ro3) rfl (fun K hK => ?_) ?_
    · refine ready_val rfl (hmk3.out _ t1) ?_
      refine hK.out _ _ (to_alloc hHeld _) (fun hHeld' => ?_)
      clear hK K hHeld
      have hHeld := hHeld'
      clear hHeld'
      generalize t1.alloc ob3 = t2 at *
      generalize (some ⟨t1.heap.size, 0, none⟩ : Option Addr) = q2
      change wpAnyH _ _ _ _ _ _ _ (Act.put _ (some 77) _) _
      refine wpAnyH_take (i := 4) (oi := ro4) (v := .agg #[.int .i64 513, .int .i64 1, .slice q2 513 513]) rfl (by kernel_rfl) (by kernel_rfl) (by kernel_rfl) (fun _ _ _ h => hQ _ _ _ _ _ h) (Or.inl ⟨by rfl, fun u _ => rx4 _ _ (eval_same _ 77 _ (put_lt (put_lt (put_lt (put_lt (put_lt (hsz' (by decide))))))))⟩) (by assumption) ?_
      change wpAnyH _ _ _ _ _ _ _ (Act.put _ (some 78) _) _
      refine wpAnyH_ready (rs := [6, 9]) (by kernel_rfl) (by simp) ?_
      refine AllReadyH.cons (o := ro6) rfl (fun K hK => ?_) ?_
      · refine ready_val rfl (rx6 _ _) ?_
        refine hK.out _ _ (to_alloc hHeld _) (fun hHeld' => ?_)
        clear hK K hHeld
        have hHeld := hHeld'
        clear hHeld'
        generalize t2.alloc (.cells #[.int .u8 1] 5) = t3 at *
        generalize (some ⟨t2.heap.size, 0, none⟩ : Option Addr) = q3
        change wpAnyH _ _ _ _ _ _ _ (Act.put _ (some 80) _) _
        refine wpAnyH_take (i := 7) (oi := ro7) (v := .agg #[.int .i64 (-1), .int .i64 (-1), .slice q3 1 1]) rfl (by kernel_rfl) (by kernel_rfl) (by kernel_rfl) (fun _ _ _ h => hQ _ _ _ _ _ h) (Or.inl ⟨by rfl, fun u _ => rx7 _ _ (eval_same _ 80 _ (put_lt (put_lt (put_lt (put_lt (put_lt (put_lt (put_lt (hsz' (by decide))))))))))⟩) (by assumption) ?_
        change wpAnyH _ _ _ _ _ _ _ (Act.put _ (some 81) _) _
        refine wpAnyH_ready (rs := [9]) (by kernel_rfl) (by simp) ?_
        refine AllReadyH.cons (o := ro9) rfl (fun K hK => ?_) AllReadyH.nil
        · refine ready_val rfl (hmk9.out _ t3) ?_
          refine hK.out _ _ (to_alloc hHeld _) (fun hHeld' => ?_)
          clear hK K hHeld
          have hHeld := hHeld'
          clear hHeld'
          generalize t3.alloc ob9 = t4 at *
          generalize (some ⟨t3.heap.size, 0, none⟩ : Option Addr) = q4
          change wpAnyH _ _ _ _ _ _ _ (Act.put _ (some 83) _) _
          refine wpAnyH_take (i := 10) (oi := ro10) (v := .agg #[.int .i64 1, .int .i64 513, .slice q4 513 513]) rfl (by kernel_rfl) (by kernel_rfl) (by kernel_rfl) (fun _ _ _ h => hQ _ _ _ _ _ h) (Or.inl ⟨by rfl, fun u _ => rx10 _ _ (eval_same _ 83 _ (put_lt (put_lt (put_lt (put_lt (put_lt (put_lt (put_lt (put_lt (put_lt (hsz' (by decide))))))))))))⟩) (by assumption) ?_
          change wpAnyH _ _ _ _ _ _ _ (Act.put _ (some 84) _) _
          refine wpAnyH_ready (rs := [11]) (by kernel_rfl) (by simp) ?_
          refine AllReadyH.cons (o := ro11) rfl (fun K hK => ?_) AllReadyH.nil
          refine ready_val rfl (rx11 _ _ (q1 := q1) (q2 := q2) (q3 := q3) (q4 := q4) ((eval_other _ 84 74 _ (by decide)).trans ((eval_other _ 83 74 _ (by decide)).trans ((eval_other _ 81 74 _ (by decide)).trans ((eval_other _ 80 74 _ (by decide)).trans ((eval_other _ 78 74 _ (by decide)).trans ((eval_other _ 77 74 _ (by decide)).trans ((eval_other _ 76 74 _ (by decide)).trans ((eval_other _ 75 74 _ (by decide)).trans ((eval_other _ 82 74 _ (by decide)).trans ((eval_other _ 79 74 _ (by decide)).trans (eval_same _ 74 _ (hsz' (by decide))))))))))))) ((eval_other _ 84 76 _ (by decide)).trans ((eval_other _ 83 76 _ (by decide)).trans ((eval_other _ 81 76 _ (by decide)).trans ((eval_other _ 80 76 _ (by decide)).trans ((eval_other _ 78 76 _ (by decide)).trans ((eval_other _ 77 76 _ (by decide)).trans (eval_same _ 76 _ (put_lt (put_lt (put_lt (put_lt (hsz' (by decide))))))))))))) ((eval_other _ 84 78 _ (by decide)).trans ((eval_other _ 83 78 _ (by decide)).trans ((eval_other _ 81 78 _ (by decide)).trans ((eval_other _ 80 78 _ (by decide)).trans (eval_same _ 78 _ (put_lt (put_lt (put_lt (put_lt (put_lt (put_lt (hsz' (by decide))))))))))))) ((eval_other _ 84 79 _ (by decide)).trans ((eval_other _ 83 79 _ (by decide)).trans ((eval_other _ 81 79 _ (by decide)).trans ((eval_other _ 80 79 _ (by decide)).trans ((eval_other _ 78 79 _ (by decide)).trans ((eval_other _ 77 79 _ (by decide)).trans ((eval_other _ 76 79 _ (by decide)).trans ((eval_other _ 75 79 _ (by decide)).trans ((eval_other _ 82 79 _ (by decide)).trans (eval_same _ 79 _ (put_lt (hsz' (by decide))))))))))))) ((eval_other _ 84 81 _ (by decide)).trans ((eval_other _ 83 81 _ (by decide)).trans (eval_same _ 81 _ (put_lt (put_lt (put_lt (put_lt (put_lt (put_lt (put_lt (put_lt (hsz' (by decide))))))))))))) ((eval_other _ 84 82 _ (by decide)).trans ((eval_other _ 83 82 _ (by decide)).trans ((eval_other _ 81 82 _ (by decide)).trans ((eval_other _ 80 82 _ (by decide)).trans ((eval_other _ 78 82 _ (by decide)).trans ((eval_other _ 77 82 _ (by decide)).trans ((eval_other _ 76 82 _ (by decide)).trans ((eval_other _ 75 82 _ (by decide)).trans (eval_same _ 82 _ (put_lt (put_lt (hsz' (by decide))))))))))))) (eval_same _ 84 _ (put_lt (put_lt (put_lt (put_lt (put_lt (put_lt (put_lt (put_lt (put_lt (put_lt (hsz' (by decide)))))))))))))) ?_
          have hrow : (t4.alloc (.cells #[.int .i64 0, .int .i64 0, .slice none 0 0, .int .i64 2, .int .i64 2, .slice q1 3 3, .int .i64 513, .int .i64 1, .slice q2 513 513, .int .i64 0, .int .i64 5, .slice none 0 0, .int .i64 (-1), .int .i64 (-1), .slice q3 1 1, .int .i64 4294967296, .int .i64 4294967296, .slice none 0 0, .int .i64 1, .int .i64 513, .slice q4 513 513] 24)).heap[t4.heap.size]? = some (.cells #[.int .i64 0, .int .i64 0, .slice none 0 0, .int .i64 2, .int .i64 2, .slice q1 3 3, .int .i64 513, .int .i64 1, .slice q2 513 513, .int .i64 0, .int .i64 5, .slice none 0 0, .int .i64 (-1), .int .i64 (-1), .slice q3 1 1, .int .i64 4294967296, .int .i64 4294967296, .slice none 0 0, .int .i64 1, .int .i64 513, .slice q4 513 513] 24 (0, 0)) := heap_alloc_new t4 _
          have hlo : w.heap.size ≤ t4.heap.size := hHeld.size
          refine hK.out _ _ (to_alloc hHeld _) (fun hHeld' => ?_)
          clear hK K hHeld
          generalize t4.alloc (.cells #[.int .i64 0, .int .i64 0, .slice none 0 0, .int .i64 2, .int .i64 2, .slice q1 3 3, .int .i64 513, .int .i64 1, .slice q2 513 513, .int .i64 0, .int .i64 5, .slice none 0 0, .int .i64 (-1), .int .i64 (-1), .slice q3 1 1, .int .i64 4294967296, .int .i64 4294967296, .slice none 0 0, .int .i64 1, .int .i64 513, .slice q4 513 513] 24) = tz at *
          generalize t4.heap.size = gb at *
          change wpAnyH _ _ _ _ _ _ _ (Act.put _ (some 85) _) _
          refine wpAnyH_take (i := 12) (oi := ro12) (v := .slice (some ⟨gb, 0, none⟩) 7 7) rfl (by kernel_rfl) (by kernel_rfl) (by kernel_rfl) (fun _ _ _ h => hQ _ _ _ _ _ h) (Or.inl ⟨by rfl, fun u _ => rx12 _ _ (eval_same _ 85 _ (put_lt (put_lt (put_lt (put_lt (put_lt (put_lt (put_lt (put_lt (put_lt (put_lt (put_lt (hsz' (by decide))))))))))))))⟩) (by assumption) ?_
          change wpAnyH _ _ _ _ _ _ _ (Act.put _ (some 3) _) _
          refine wpAnyH_done (by kernel_rfl) ?_ _
          have := h gb q1 q2 q3 q4 tz hHeld' hlo hrow
          simp only [ps74x3, ps79x75, ps79x76, ps79x77, ps79x78, ps79x3, ps82x75, ps82x76, ps82x77, ps82x78, ps82x80, ps82x81, ps82x3, ps75x3, ps76x3, ps77x3, ps78x3, ps80x3, ps81x3, ps83x3, ps84x3, ps85x3]
          exact this
      refine AllReadyH.cons (o := ro9) rfl (fun K hK => ?_) AllReadyH.nil
      · refine ready_val rfl (hmk9.out _ t2) ?_
        refine hK.out _ _ (to_alloc hHeld _) (fun hHeld' => ?_)
        clear hK K hHeld
        have hHeld := hHeld'
        clear hHeld'
        generalize t2.alloc ob9 = t3 at *
        generalize (some ⟨t2.heap.size, 0, none⟩ : Option Addr) = q4
        change wpAnyH _ _ _ _ _ _ _ (Act.put _ (some 83) _) _
        refine wpAnyH_take (i := 10) (oi := ro10) (v := .agg #[.int .i64 1, .int .i64 513, .slice q4 513 513]) rfl (by kernel_rfl) (by kernel_rfl) (by kernel_rfl) (fun _ _ _ h => hQ _ _ _ _ _ h) (Or.inl ⟨by rfl, fun u _ => rx10 _ _ (eval_same _ 83 _ (put_lt (put_lt (put_lt (put_lt (put_lt (put_lt (put_lt (hsz' (by decide))))))))))⟩) (by assumption) ?_
        change wpAnyH _ _ _ _ _ _ _ (Act.put _ (some 84) _) _
        refine wpAnyH_ready (rs := [6]) (by kernel_rfl) (by simp) ?_
        refine AllReadyH.cons (o := ro6) rfl (fun K hK => ?_) AllReadyH.nil
        · refine ready_val rfl (rx6 _ _) ?_
          refine hK.out _ _ (to_alloc hHeld _) (fun hHeld' => ?_)
          clear hK K hHeld
          have hHeld := hHeld'
          clear hHeld'
          generalize t3.alloc (.cells #[.int .u8 1] 5) = t4 at *
          generalize (some ⟨t3.heap.size, 0, none⟩ : Option Addr) = q3
          change wpAnyH _ _ _ _ _ _ _ (Act.put _ (some 80) _) _
          refine wpAnyH_take (i := 7) (oi := ro7) (v := .agg #[.int .i64 (-1), .int .i64 (-1), .slice q3 1 1]) rfl (by kernel_rfl) (by kernel_rfl) (by kernel_rfl) (fun _ _ _ h => hQ _ _ _ _ _ h) (Or.inl ⟨by rfl, fun u _ => rx7 _ _ (eval_same _ 80 _ (put_lt (put_lt (put_lt (put_lt (put_lt (put_lt (put_lt (put_lt (put_lt (hsz' (by decide))))))))))))⟩) (by assumption) ?_
          change wpAnyH _ _ _ _ _ _ _ (Act.put _ (some 81) _) _
          refine wpAnyH_ready (rs := [11]) (by kernel_rfl) (by simp) ?_
          refine AllReadyH.cons (o := ro11) rfl (fun K hK => ?_) AllReadyH.nil
          refine ready_val rfl (rx11 _ _ (q1 := q1) (q2 := q2) (q3 := q3) (q4 := q4) ((eval_other _ 81 74 _ (by decide)).trans ((eval_other _ 80 74 _ (by decide)).trans ((eval_other _ 84 74 _ (by decide)).trans ((eval_other _ 83 74 _ (by decide)).trans ((eval_other _ 78 74 _ (by decide)).trans ((eval_other _ 77 74 _ (by decide)).trans ((eval_other _ 76 74 _ (by decide)).trans ((eval_other _ 75 74 _ (by decide)).trans ((eval_other _ 82 74 _ (by decide)).trans ((eval_other _ 79 74 _ (by decide)).trans (eval_same _ 74 _ (hsz' (by decide))))))))))))) ((eval_other _ 81 76 _ (by decide)).trans ((eval_other _ 80 76 _ (by decide)).trans ((eval_other _ 84 76 _ (by decide)).trans ((eval_other _ 83 76 _ (by decide)).trans ((eval_other _ 78 76 _ (by decide)).trans ((eval_other _ 77 76 _ (by decide)).trans (eval_same _ 76 _ (put_lt (put_lt (put_lt (put_lt (hsz' (by decide))))))))))))) ((eval_other _ 81 78 _ (by decide)).trans ((eval_other _ 80 78 _ (by decide)).trans ((eval_other _ 84 78 _ (by decide)).trans ((eval_other _ 83 78 _ (by decide)).trans (eval_same _ 78 _ (put_lt (put_lt (put_lt (put_lt (put_lt (put_lt (hsz' (by decide))))))))))))) ((eval_other _ 81 79 _ (by decide)).trans ((eval_other _ 80 79 _ (by decide)).trans ((eval_other _ 84 79 _ (by decide)).trans ((eval_other _ 83 79 _ (by decide)).trans ((eval_other _ 78 79 _ (by decide)).trans ((eval_other _ 77 79 _ (by decide)).trans ((eval_other _ 76 79 _ (by decide)).trans ((eval_other _ 75 79 _ (by decide)).trans ((eval_other _ 82 79 _ (by decide)).trans (eval_same _ 79 _ (put_lt (hsz' (by decide))))))))))))) (eval_same _ 81 _ (put_lt (put_lt (put_lt (put_lt (put_lt (put_lt (put_lt (put_lt (put_lt (put_lt (hsz' (by decide))))))))))))) ((eval_other _ 81 82 _ (by decide)).trans ((eval_other _ 80 82 _ (by decide)).trans ((eval_other _ 84 82 _ (by decide)).trans ((eval_other _ 83 82 _ (by decide)).trans ((eval_other _ 78 82 _ (by decide)).trans ((eval_other _ 77 82 _ (by decide)).trans ((eval_other _ 76 82 _ (by decide)).trans ((eval_other _ 75 82 _ (by decide)).trans (eval_same _ 82 _ (put_lt (put_lt (hsz' (by decide))))))))))))) ((eval_other _ 81 84 _ (by decide)).trans ((eval_other _ 80 84 _ (by decide)).trans (eval_same _ 84 _ (put_lt (put_lt (put_lt (put_lt (put_lt (put_lt (put_lt (put_lt (hsz' (by decide)))))))))))))) ?_
          have hrow : (t4.alloc (.cells #[.int .i64 0, .int .i64 0, .slice none 0 0, .int .i64 2, .int .i64 2, .slice q1 3 3, .int .i64 513, .int .i64 1, .slice q2 513 513, .int .i64 0, .int .i64 5, .slice none 0 0, .int .i64 (-1), .int .i64 (-1), .slice q3 1 1, .int .i64 4294967296, .int .i64 4294967296, .slice none 0 0, .int .i64 1, .int .i64 513, .slice q4 513 513] 24)).heap[t4.heap.size]? = some (.cells #[.int .i64 0, .int .i64 0, .slice none 0 0, .int .i64 2, .int .i64 2, .slice q1 3 3, .int .i64 513, .int .i64 1, .slice q2 513 513, .int .i64 0, .int .i64 5, .slice none 0 0, .int .i64 (-1), .int .i64 (-1), .slice q3 1 1, .int .i64 4294967296, .int .i64 4294967296, .slice none 0 0, .int .i64 1, .int .i64 513, .slice q4 513 513] 24 (0, 0)) := heap_alloc_new t4 _
          have hlo : w.heap.size ≤ t4.heap.size := hHeld.size
          refine hK.out _ _ (to_alloc hHeld _) (fun hHeld' => ?_)
          clear hK K hHeld
          generalize t4.alloc (.cells #[.int .i64 0, .int .i64 0, .slice none 0 0, .int .i64 2, .int .i64 2, .slice q1 3 3, .int .i64 513, .int .i64 1, .slice q2 513 513, .int .i64 0, .int .i64 5, .slice none 0 0, .int .i64 (-1), .int .i64 (-1), .slice q3 1 1, .int .i64 4294967296, .int .i64 4294967296, .slice none 0 0, .int .i64 1, .int .i64 513, .slice q4 513 513] 24) = tz at *
          generalize t4.heap.size = gb at *
          change wpAnyH _ _ _ _ _ _ _ (Act.put _ (some 85) _) _
          refine wpAnyH_take (i := 12) (oi := ro12) (v := .slice (some ⟨gb, 0, none⟩) 7 7) rfl (by kernel_rfl) (by kernel_rfl) (by kernel_rfl) (fun _ _ _ h => hQ _ _ _ _ _ h) (Or.inl ⟨by rfl, fun u _ => rx12 _ _ (eval_same _ 85 _ (put_lt (put_lt (put_lt (put_lt (put_lt (put_lt (put_lt (put_lt (put_lt (put_lt (put_lt (hsz' (by decide))))))))))))))⟩) (by assumption) ?_
          change wpAnyH _ _ _ _ _ _ _ (Act.put _ (some 3) _) _
          refine wpAnyH_done (by kernel_rfl) ?_ _
          have := h gb q1 q2 q3 q4 tz hHeld' hlo hrow
          simp only [ps74x3, ps79x75, ps79x76, ps79x77, ps79x78, ps79x3, ps82x75, ps82x76, ps82x77, ps82x78, ps82x80, ps82x81, ps82x3, ps75x3, ps76x3, ps77x3, ps78x3, ps83x80, ps83x81, ps83x3, ps84x80, ps84x81, ps84x3, ps80x3, ps81x3, ps85x3]
          exact this
    refine AllReadyH.cons (o := ro6) rfl (fun K hK => ?_) ?_
    · refine ready_val rfl (rx6 _ _) ?_
      refine hK.out _ _ (to_alloc hHeld _) (fun hHeld' => ?_)
      clear hK K hHeld
      have hHeld := hHeld'
      clear hHeld'
      generalize t1.alloc (.cells #[.int .u8 1] 5) = t2 at *
      generalize (some ⟨t1.heap.size, 0, none⟩ : Option Addr) = q3
      change wpAnyH _ _ _ _ _ _ _ (Act.put _ (some 80) _) _
      refine wpAnyH_take (i := 7) (oi := ro7) (v := .agg #[.int .i64 (-1), .int .i64 (-1), .slice q3 1 1]) rfl (by kernel_rfl) (by kernel_rfl) (by kernel_rfl) (fun _ _ _ h => hQ _ _ _ _ _ h) (Or.inl ⟨by rfl, fun u _ => rx7 _ _ (eval_same _ 80 _ (put_lt (put_lt (put_lt (put_lt (put_lt (hsz' (by decide))))))))⟩) (by assumption) ?_
      change wpAnyH _ _ _ _ _ _ _ (Act.put _ (some 81) _) _
      refine wpAnyH_ready (rs := [3, 9]) (by kernel_rfl) (by simp) ?_
      refine AllReadyH.cons (o := ro3) rfl (fun K hK => ?_) ?_
      · refine ready_val rfl (hmk3.out _ t2) ?_
        refine hK.out _ _ (to_alloc hHeld _) (fun hHeld' => ?_)
        clear hK K hHeld
        have hHeld := hHeld'
        clear hHeld'
        generalize t2.alloc ob3 = t3 at *
        generalize (some ⟨t2.heap.size, 0, none⟩ : Option Addr) = q2
        change wpAnyH _ _ _ _ _ _ _ (Act.put _ (some 77) _) _
        refine wpAnyH_take (i := 4) (oi := ro4) (v := .agg #[.int .i64 513, .int .i64 1, .slice q2 513 513]) rfl (by kernel_rfl) (by kernel_rfl) (by kernel_rfl) (fun _ _ _ h => hQ _ _ _ _ _ h) (Or.inl ⟨by rfl, fun u _ => rx4 _ _ (eval_same _ 77 _ (put_lt (put_lt (put_lt (put_lt (put_lt (put_lt (put_lt (hsz' (by decide))))))))))⟩) (by assumption) ?_
        change wpAnyH _ _ _ _ _ _ _ (Act.put _ (some 78) _) _
        refine wpAnyH_ready (rs := [9]) (by kernel_rfl) (by simp) ?_
        refine AllReadyH.cons (o := ro9) rfl (fun K hK => ?_) AllReadyH.nil
        · refine ready_val rfl (hmk9.out _ t3) ?_
          refine hK.out _ _ (to_alloc hHeld _) (fun hHeld' => ?_)
          clear hK K hHeld
          have hHeld := hHeld'
          clear hHeld'
          generalize t3.alloc ob9 = t4 at *
          generalize (some ⟨t3.heap.size, 0, none⟩ : Option Addr) = q4
          change wpAnyH _ _ _ _ _ _ _ (Act.put _ (some 83) _) _
          refine wpAnyH_take (i := 10) (oi := ro10) (v := .agg #[.int .i64 1, .int .i64 513, .slice q4 513 513]) rfl (by kernel_rfl) (by kernel_rfl) (by kernel_rfl) (fun _ _ _ h => hQ _ _ _ _ _ h) (Or.inl ⟨by rfl, fun u _ => rx10 _ _ (eval_same _ 83 _ (put_lt (put_lt (put_lt (put_lt (put_lt (put_lt (put_lt (put_lt (put_lt (hsz' (by decide))))))))))))⟩) (by assumption) ?_
          change wpAnyH _ _ _ _ _ _ _ (Act.put _ (some 84) _) _
          refine wpAnyH_ready (rs := [11]) (by kernel_rfl) (by simp) ?_
          refine AllReadyH.cons (o := ro11) rfl (fun K hK => ?_) AllReadyH.nil
          refine ready_val rfl (rx11 _ _ (q1 := q1) (q2 := q2) (q3 := q3) (q4 := q4) ((eval_other _ 84 74 _ (by decide)).trans ((eval_other _ 83 74 _ (by decide)).trans ((eval_other _ 78 74 _ (by decide)).trans ((eval_other _ 77 74 _ (by decide)).trans ((eval_other _ 81 74 _ (by decide)).trans ((eval_other _ 80 74 _ (by decide)).trans ((eval_other _ 76 74 _ (by decide)).trans ((eval_other _ 75 74 _ (by decide)).trans ((eval_other _ 82 74 _ (by decide)).trans ((eval_other _ 79 74 _ (by decide)).trans (eval_same _ 74 _ (hsz' (by decide))))))))))))) ((eval_other _ 84 76 _ (by decide)).trans ((eval_other _ 83 76 _ (by decide)).trans ((eval_other _ 78 76 _ (by decide)).trans ((eval_other _ 77 76 _ (by decide)).trans ((eval_other _ 81 76 _ (by decide)).trans ((eval_other _ 80 76 _ (by decide)).trans (eval_same _ 76 _ (put_lt (put_lt (put_lt (put_lt (hsz' (by decide))))))))))))) ((eval_other _ 84 78 _ (by decide)).trans ((eval_other _ 83 78 _ (by decide)).trans (eval_same _ 78 _ (put_lt (put_lt (put_lt (put_lt (put_lt (put_lt (put_lt (put_lt (hsz' (by decide))))))))))))) ((eval_other _ 84 79 _ (by decide)).trans ((eval_other _ 83 79 _ (by decide)).trans ((eval_other _ 78 79 _ (by decide)).trans ((eval_other _ 77 79 _ (by decide)).trans ((eval_other _ 81 79 _ (by decide)).trans ((eval_other _ 80 79 _ (by decide)).trans ((eval_other _ 76 79 _ (by decide)).trans ((eval_other _ 75 79 _ (by decide)).trans ((eval_other _ 82 79 _ (by decide)).trans (eval_same _ 79 _ (put_lt (hsz' (by decide))))))))))))) ((eval_other _ 84 81 _ (by decide)).trans ((eval_other _ 83 81 _ (by decide)).trans ((eval_other _ 78 81 _ (by decide)).trans ((eval_other _ 77 81 _ (by decide)).trans (eval_same _ 81 _ (put_lt (put_lt (put_lt (put_lt (put_lt (put_lt (hsz' (by decide))))))))))))) ((eval_other _ 84 82 _ (by decide)).trans ((eval_other _ 83 82 _ (by decide)).trans ((eval_other _ 78 82 _ (by decide)).trans ((eval_other _ 77 82 _ (by decide)).trans ((eval_other _ 81 82 _ (by decide)).trans ((eval_other _ 80 82 _ (by decide)).trans ((eval_other _ 76 82 _ (by decide)).trans ((eval_other _ 75 82 _ (by decide)).trans (eval_same _ 82 _ (put_lt (put_lt (hsz' (by decide))))))))))))) (eval_same _ 84 _ (put_lt (put_lt (put_lt (put_lt (put_lt (put_lt (put_lt (put_lt (put_lt (put_lt (hsz' (by decide)))))))))))))) ?_
          have hrow : (t4.alloc (.cells #[.int .i64 0, .int .i64 0, .slice none 0 0, .int .i64 2, .int .i64 2, .slice q1 3 3, .int .i64 513, .int .i64 1, .slice q2 513 513, .int .i64 0, .int .i64 5, .slice none 0 0, .int .i64 (-1), .int .i64 (-1), .slice q3 1 1, .int .i64 4294967296, .int .i64 4294967296, .slice none 0 0, .int .i64 1, .int .i64 513, .slice q4 513 513] 24)).heap[t4.heap.size]? = some (.cells #[.int .i64 0, .int .i64 0, .slice none 0 0, .int .i64 2, .int .i64 2, .slice q1 3 3, .int .i64 513, .int .i64 1, .slice q2 513 513, .int .i64 0, .int .i64 5, .slice none 0 0, .int .i64 (-1), .int .i64 (-1), .slice q3 1 1, .int .i64 4294967296, .int .i64 4294967296, .slice none 0 0, .int .i64 1, .int .i64 513, .slice q4 513 513] 24 (0, 0)) := heap_alloc_new t4 _
          have hlo : w.heap.size ≤ t4.heap.size := hHeld.size
          refine hK.out _ _ (to_alloc hHeld _) (fun hHeld' => ?_)
          clear hK K hHeld
          generalize t4.alloc (.cells #[.int .i64 0, .int .i64 0, .slice none 0 0, .int .i64 2, .int .i64 2, .slice q1 3 3, .int .i64 513, .int .i64 1, .slice q2 513 513, .int .i64 0, .int .i64 5, .slice none 0 0, .int .i64 (-1), .int .i64 (-1), .slice q3 1 1, .int .i64 4294967296, .int .i64 4294967296, .slice none 0 0, .int .i64 1, .int .i64 513, .slice q4 513 513] 24) = tz at *
          generalize t4.heap.size = gb at *
          change wpAnyH _ _ _ _ _ _ _ (Act.put _ (some 85) _) _
          refine wpAnyH_take (i := 12) (oi := ro12) (v := .slice (some ⟨gb, 0, none⟩) 7 7) rfl (by kernel_rfl) (by kernel_rfl) (by kernel_rfl) (fun _ _ _ h => hQ _ _ _ _ _ h) (Or.inl ⟨by rfl, fun u _ => rx12 _ _ (eval_same _ 85 _ (put_lt (put_lt (put_lt (put_lt (put_lt (put_lt (put_lt (put_lt (put_lt (put_lt (put_lt (hsz' (by decide))))))))))))))⟩) (by assumption) ?_
          change wpAnyH _ _ _ _ _ _ _ (Act.put _ (some 3) _) _
          refine wpAnyH_done (by kernel_rfl) ?_ _
          have := h gb q1 q2 q3 q4 tz hHeld' hlo hrow
          simp only [ps74x3, ps79x75, ps79x76, ps79x77, ps79x78, ps79x3, ps82x75, ps82x76, ps82x80, ps82x81, ps82x77, ps82x78, ps82x3, ps75x3, ps76x3, ps80x77, ps80x78, ps80x3, ps81x77, ps81x78, ps81x3, ps77x3, ps78x3, ps83x3, ps84x3, ps85x3]
          exact this
      refine AllReadyH.cons (o := ro9) rfl (fun K hK => ?_) AllReadyH.nil
      · refine ready_val rfl (hmk9.out _ t2) ?_
        refine hK.out _ _ (to_alloc hHeld _) (fun hHeld' => ?_)
        clear hK K hHeld
        have hHeld := hHeld'
        clear hHeld'
        generalize t2.alloc ob9 = t3 at *
        generalize (some ⟨t2.heap.size, 0, none⟩ : Option Addr) = q4
        change wpAnyH _ _ _ _ _ _ _ (Act.put _ (some 83) _) _
        refine wpAnyH_take (i := 10) (oi := ro10) (v := .agg #[.int .i64 1, .int .i64 513, .slice q4 513 513]) rfl (by kernel_rfl) (by kernel_rfl) (by kernel_rfl) (fun _ _ _ h => hQ _ _ _ _ _ h) (Or.inl ⟨by rfl, fun u _ => rx10 _ _ (eval_same _ 83 _ (put_lt (put_lt (put_lt (put_lt (put_lt (put_lt (put_lt (hsz' (by decide))))))))))⟩) (by assumption) ?_
        change wpAnyH _ _ _ _ _ _ _ (Act.put _ (some 84) _) _
        refine wpAnyH_ready (rs := [3]) (by kernel_rfl) (by simp) ?_
        refine AllReadyH.cons (o := ro3) rfl (fun K hK => ?_) AllReadyH.nil
        · refine ready_val rfl (hmk3.out _ t3) ?_
          refine hK.out _ _ (to_alloc hHeld _) (fun hHeld' => ?_)
          clear hK K hHeld
          have hHeld := hHeld'
          clear hHeld'
          generalize t3.alloc ob3 = t4 at *
          generalize (some ⟨t3.heap.size, 0, none⟩ : Option Addr) = q2
          change wpAnyH _ _ _ _ _ _ _ (Act.put _ (some 77) _) _
          refine wpAnyH_take (i := 4) (oi := ro4) (v := .agg #[.int .i64 513, .int .i64 1, .slice q2 513 513]) rfl (by kernel_rfl) (by kernel_rfl) (by kernel_rfl) (fun _ _ _ h => hQ _ _ _ _ _ h) (Or.inl ⟨by rfl, fun u _ => rx4 _ _ (eval_same _ 77 _ (put_lt (put_lt (put_lt (put_lt (put_lt (put_lt (put_lt (put_lt (put_lt (hsz' (by decide))))))))))))⟩) (by assumption) ?_
          change wpAnyH _ _ _ _ _ _ _ (Act.put _ (some 78) _) _
          refine wpAnyH_ready (rs := [11]) (by kernel_rfl) (by simp) ?_
          refine AllReadyH.cons (o := ro11) rfl (fun K hK => ?_) AllReadyH.nil
          refine ready_val rfl (rx11 _ _ (q1 := q1) (q2 := q2) (q3 := q3) (q4 := q4) ((eval_other _ 78 74 _ (by decide)).trans ((eval_other _ 77 74 _ (by decide)).trans ((eval_other _ 84 74 _ (by decide)).trans ((eval_other _ 83 74 _ (by decide)).trans ((eval_other _ 81 74 _ (by decide)).trans ((eval_other _ 80 74 _ (by decide)).trans ((eval_other _ 76 74 _ (by decide)).trans ((eval_other _ 75 74 _ (by decide)).trans ((eval_other _ 82 74 _ (by decide)).trans ((eval_other _ 79 74 _ (by decide)).trans (eval_same _ 74 _ (hsz' (by decide))))))))))))) ((eval_other _ 78 76 _ (by decide)).trans ((eval_other _ 77 76 _ (by decide)).trans ((eval_other _ 84 76 _ (by decide)).trans ((eval_other _ 83 76 _ (by decide)).trans ((eval_other _ 81 76 _ (by decide)).trans ((eval_other _ 80 76 _ (by decide)).trans (eval_same _ 76 _ (put_lt (put_lt (put_lt (put_lt (hsz' (by decide))))))))))))) (eval_same _ 78 _ (put_lt (put_lt (put_lt (put_lt (put_lt (put_lt (put_lt (put_lt (put_lt (put_lt (hsz' (by decide))))))))))))) ((eval_other _ 78 79 _ (by decide)).trans ((eval_other _ 77 79 _ (by decide)).trans ((eval_other _ 84 79 _ (by decide)).trans ((eval_other _ 83 79 _ (by decide)).trans ((eval_other _ 81 79 _ (by decide)).trans ((eval_other _ 80 79 _ (by decide)).trans ((eval_other _ 76 79 _ (by decide)).trans ((eval_other _ 75 79 _ (by decide)).trans ((eval_other _ 82 79 _ (by decide)).trans (eval_same _ 79 _ (put_lt (hsz' (by decide))))))))))))) ((eval_other _ 78 81 _ (by decide)).trans ((eval_other _ 77 81 _ (by decide)).trans ((eval_other _ 84 81 _ (by decide)).trans ((eval_other _ 83 81 _ (by decide)).trans (eval_same _ 81 _ (put_lt (put_lt (put_lt (put_lt (put_lt (put_lt (hsz' (by decide))))))))))))) ((eval_other _ 78 82 _ (by decide)).trans ((eval_other _ 77 82 _ (by decide)).trans ((eval_other _ 84 82 _ (by decide)).trans ((eval_other _ 83 82 _ (by decide)).trans ((eval_other _ 81 82 _ (by decide)).trans ((eval_other _ 80 82 _ (by decide)).trans ((eval_other _ 76 82 _ (by decide)).trans ((eval_other _ 75 82 _ (by decide)).trans (eval_same _ 82 _ (put_lt (put_lt (hsz' (by decide))))))))))))) ((eval_other _ 78 84 _ (by decide)).trans ((eval_other _ 77 84 _ (by decide)).trans (eval_same _ 84 _ (put_lt (put_lt (put_lt (put_lt (put_lt (put_lt (put_lt (put_lt (hsz' (by decide)))))))))))))) ?_
          have hrow : (t4.alloc (.cells #[.int .i64 0, .int .i64 0, .slice none 0 0, .int .i64 2, .int .i64 2, .slice q1 3 3, .int .i64 513, .int .i64 1, .slice q2 513 513, .int .i64 0, .int .i64 5, .slice none 0 0, .int .i64 (-1), .int .i64 (-1), .slice q3 1 1, .int .i64 4294967296, .int .i64 4294967296, .slice none 0 0, .int .i64 1, .int .i64 513, .slice q4 513 513] 24)).heap[t4.heap.size]? = some (.cells #[.int .i64 0, .int .i64 0, .slice none 0 0, .int .i64 2, .int .i64 2, .slice q1 3 3, .int .i64 513, .int .i64 1, .slice q2 513 513, .int .i64 0, .int .i64 5, .slice none 0 0, .int .i64 (-1), .int .i64 (-1), .slice q3 1 1, .int .i64 4294967296, .int .i64 4294967296, .slice none 0 0, .int .i64 1, .int .i64 513, .slice q4 513 513] 24 (0, 0)) := heap_alloc_new t4 _
          have hlo : w.heap.size ≤ t4.heap.size := hHeld.size
          refine hK.out _ _ (to_alloc hHeld _) (fun hHeld' => ?_)
          clear hK K hHeld
          generalize t4.alloc (.cells #[.int .i64 0, .int .i64 0, .slice none 0 0, .int .i64 2, .int .i64 2, .slice q1 3 3, .int .i64 513, .int .i64 1, .slice q2 513 513, .int .i64 0, .int .i64 5, .slice none 0 0, .int .i64 (-1), .int .i64 (-1), .slice q3 1 1, .int .i64 4294967296, .int .i64 4294967296, .slice none 0 0, .int .i64 1, .int .i64 513, .slice q4 513 513] 24) = tz at *
          generalize t4.heap.size = gb at *
          change wpAnyH _ _ _ _ _ _ _ (Act.put _ (some 85) _) _
          refine wpAnyH_take (i := 12) (oi := ro12) (v := .slice (some ⟨gb, 0, none⟩) 7 7) rfl (by kernel_rfl) (by kernel_rfl) (by kernel_rfl) (fun _ _ _ h => hQ _ _ _ _ _ h) (Or.inl ⟨by rfl, fun u _ => rx12 _ _ (eval_same _ 85 _ (put_lt (put_lt (put_lt (put_lt (put_lt (put_lt (put_lt (put_lt (put_lt (put_lt (put_lt (hsz' (by decide))))))))))))))⟩) (by assumption) ?_
          change wpAnyH _ _ _ _ _ _ _ (Act.put _ (some 3) _) _
          refine wpAnyH_done (by kernel_rfl) ?_ _
          have := h gb q1 q2 q3 q4 tz hHeld' hlo hrow
          simp only [ps74x3, ps79x75, ps79x76, ps79x77, ps79x78, ps79x3, ps82x75, ps82x76, ps82x80, ps82x81, ps82x77, ps82x78, ps82x3, ps75x3, ps76x3, ps80x77, ps80x78, ps80x3, ps81x77, ps81x78, ps81x3, ps83x77, ps83x78, ps83x3, ps84x77, ps84x78, ps84x3, ps77x3, ps78x3, ps85x3]
          exact this
    refine AllReadyH.cons (o := ro9) rfl (fun K hK => ?_) AllReadyH.nil
    · refine ready_val rfl (hmk9.out _ t1) ?_
      refine hK.out _ _ (to_alloc hHeld _) (fun hHeld' => ?_)
      clear hK K hHeld
      have hHeld := hHeld'
      clear hHeld'
      generalize t1.alloc ob9 = t2 at *
      generalize (some ⟨t1.heap.size, 0, none⟩ : Option Addr) = q4
      change wpAnyH _ _ _ _ _ _ _ (Act.put _ (some 83) _) _
      refine wpAnyH_take (i := 10) (oi := ro10) (v := .agg #[.int .i64 1, .int .i64 513, .slice q4 513 513]) rfl (by kernel_rfl) (by kernel_rfl) (by kernel_rfl) (fun _ _ _ h => hQ _ _ _ _ _ h) (Or.inl ⟨by rfl, fun u _ => rx10 _ _ (eval_same _ 83 _ (put_lt (put_lt (put_lt (put_lt (put_lt (hsz' (by decide))))))))⟩) (by assumption) ?_
      change wpAnyH _ _ _ _ _ _ _ (Act.put _ (some 84) _) _
      refine wpAnyH_ready (rs := [3, 6]) (by kernel_rfl) (by simp) ?_
      refine AllReadyH.cons (o := ro3) rfl (fun K hK => ?_) ?_
      · refine ready_val rfl (hmk3.out _ t2) ?_
        refine hK.out _ _ (to_alloc hHeld _) (fun hHeld' => ?_)
        clear hK K hHeld
        have hHeld := hHeld'
        clear hHeld'
        generalize t2.alloc ob3 = t3 at *
        generalize (some ⟨t2.heap.size, 0, none⟩ : Option Addr) = q2
        change wpAnyH _ _ _ _ _ _ _ (Act.put _ (some 77) _) _
        refine wpAnyH_take (i := 4) (oi := ro4) (v := .agg #[.int .i64 513, .int .i64 1, .slice q2 513 513]) rfl (by kernel_rfl) (by kernel_rfl) (by kernel_rfl) (fun _ _ _ h => hQ _ _ _ _ _ h) (Or.inl ⟨by rfl, fun u _ => rx4 _ _ (eval_same _ 77 _ (put_lt (put_lt (put_lt (put_lt (put_lt (put_lt (put_lt (hsz' (by decide))))))))))⟩) (by assumption) ?_
        change wpAnyH _ _ _ _ _ _ _ (Act.put _ (some 78) _) _
        refine wpAnyH_ready (rs := [6]) (by kernel_rfl) (by simp) ?_
        refine AllReadyH.cons (o := ro6) rfl (fun K hK => ?_) AllReadyH.nil
        · refine ready_val rfl (rx6 _ _) ?_
          refine hK.out _ _ (to_alloc hHeld _) (fun hHeld' => ?_)
          clear hK K hHeld
          have hHeld := hHeld'
          clear hHeld'
          generalize t3.alloc (.cells #[.int .u8 1] 5) = t4 at *
          generalize (some ⟨t3.heap.size, 0, none⟩ : Option Addr) = q3
          change wpAnyH _ _ _ _ _ _ _ (Act.put _ (some 80) _) _
          refine wpAnyH_take (i := 7) (oi := ro7) (v := .agg #[.int .i64 (-1), .int .i64 (-1), .slice q3 1 1]) rfl (by kernel_rfl) (by kernel_rfl) (by kernel_rfl) (fun _ _ _ h => hQ _ _ _ _ _ h) (Or.inl ⟨by rfl, fun u _ => rx7 _ _ (eval_same _ 80 _ (put_lt (put_lt (put_lt (put_lt (put_lt (put_lt (put_lt (put_lt (put_lt (hsz' (by decide))))))))))))⟩) (by assumption) ?_
          change wpAnyH _ _ _ _ _ _ _ (Act.put _ (some 81) _) _
          refine wpAnyH_ready (rs := [11]) (by kernel_rfl) (by simp) ?_
          refine AllReadyH.cons (o := ro11) rfl (fun K hK => ?_) AllReadyH.nil
          refine ready_val rfl (rx11 _ _ (q1 := q1) (q2 := q2) (q3 := q3) (q4 := q4) ((eval_other _ 81 74 _ (by decide)).trans ((eval_other _ 80 74 _ (by decide)).trans ((eval_other _ 78 74 _ (by decide)).trans ((eval_other _ 77 74 _ (by decide)).trans ((eval_other _ 84 74 _ (by decide)).trans ((eval_other _ 83 74 _ (by decide)).trans ((eval_other _ 76 74 _ (by decide)).trans ((eval_other _ 75 74 _ (by decide)).trans ((eval_other _ 82 74 _ (by decide)).trans ((eval_other _ 79 74 _ (by decide)).trans (eval_same _ 74 _ (hsz' (by decide))))))))))))) ((eval_other _ 81 76 _ (by decide)).trans ((eval_other _ 80 76 _ (by decide)).trans ((eval_other _ 78 76 _ (by decide)).trans ((eval_other _ 77 76 _ (by decide)).trans ((eval_other _ 84 76 _ (by decide)).trans ((eval_other _ 83 76 _ (by decide)).trans (eval_same _ 76 _ (put_lt (put_lt (put_lt (put_lt (hsz' (by decide))))))))))))) ((eval_other _ 81 78 _ (by decide)).trans ((eval_other _ 80 78 _ (by decide)).trans (eval_same _ 78 _ (put_lt (put_lt (put_lt (put_lt (put_lt (put_lt (put_lt (put_lt (hsz' (by decide))))))))))))) ((eval_other _ 81 79 _ (by decide)).trans ((eval_other _ 80 79 _ (by decide)).trans ((eval_other _ 78 79 _ (by decide)).trans ((eval_other _ 77 79 _ (by decide)).trans ((eval_other _ 84 79 _ (by decide)).trans ((eval_other _ 83 79 _ (by decide)).trans ((eval_other _ 76 79 _ (by decide)).trans ((eval_other _ 75 79 _ (by decide)).trans ((eval_other _ 82 79 _ (by decide)).trans (eval_same _ 79 _ (put_lt (hsz' (by decide))))))))))))) (eval_same _ 81 _ (put_lt (put_lt (put_lt (put_lt (put_lt (put_lt (put_lt (put_lt (put_lt (put_lt (hsz' (by decide))))))))))))) ((eval_other _ 81 82 _ (by decide)).trans ((eval_other _ 80 82 _ (by decide)).trans ((eval_other _ 78 82 _ (by decide)).trans ((eval_other _ 77 82 _ (by decide)).trans ((eval_other _ 84 82 _ (by decide)).trans ((eval_other _ 83 82 _ (by decide)).trans ((eval_other _ 76 82 _ (by decide)).trans ((eval_other _ 75 82 _ (by decide)).trans (eval_same _ 82 _ (put_lt (put_lt (hsz' (by decide))))))))))))) ((eval_other _ 81 84 _ (by decide)).trans ((eval_other _ 80 84 _ (by decide)).trans ((eval_other _ 78 84 _ (by decide)).trans ((eval_other _ 77 84 _ (by decide)).trans (eval_same _ 84 _ (put_lt (put_lt (put_lt (put_lt (put_lt (put_lt (hsz' (by decide)))))))))))))) ?_
          have hrow : (t4.alloc (.cells #[.int .i64 0, .int .i64 0, .slice none 0 0, .int .i64 2, .int .i64 2, .slice q1 3 3, .int .i64 513, .int .i64 1, .slice q2 513 513, .int .i64 0, .int .i64 5, .slice none 0 0, .int .i64 (-1), .int .i64 (-1), .slice q3 1 1, .int .i64 4294967296, .int .i64 4294967296, .slice none 0 0, .int .i64 1, .int .i64 513, .slice q4 513 513] 24)).heap[t4.heap.size]? = some (.cells #[.int .i64 0, .int .i64 0, .slice none 0 0, .int .i64 2, .int .i64 2, .slice q1 3 3, .int .i64 513, .int .i64 1, .slice q2 513 513, .int .i64 0, .int .i64 5, .slice none 0 0, .int .i64 (-1), .int .i64 (-1), .slice q3 1 1, .int .i64 4294967296, .int .i64 4294967296, .slice none 0 0, .int .i64 1, .int .i64 513, .slice q4 513 513] 24 (0, 0)) := heap_alloc_new t4 _
          have hlo : w.heap.size ≤ t4.heap.size := hHeld.size
          refine hK.out _ _ (to_alloc hHeld _) (fun hHeld' => ?_)
          clear hK K hHeld
          generalize t4.alloc (.cells #[.int .i64 0, .int .i64 0, .slice none 0 0, .int .i64 2, .int .i64 2, .slice q1 3 3, .int .i64 513, .int .i64 1, .slice q2 513 513, .int .i64 0, .int .i64 5, .slice none 0 0, .int .i64 (-1), .int .i64 (-1), .slice q3 1 1, .int .i64 4294967296, .int .i64 4294967296, .slice none 0 0, .int .i64 1, .int .i64 513, .slice q4 513 513] 24) = tz at *
          generalize t4.heap.size = gb at *
          change wpAnyH _ _ _ _ _ _ _ (Act.put _ (some 85) _) _
          refine wpAnyH_take (i := 12) (oi := ro12) (v := .slice (some ⟨gb, 0, none⟩) 7 7) rfl (by kernel_rfl) (by kernel_rfl) (by kernel_rfl) (fun _ _ _ h => hQ _ _ _ _ _ h) (Or.inl ⟨by rfl, fun u _ => rx12 _ _ (eval_same _ 85 _ (put_lt (put_lt (put_lt (put_lt (put_lt (put_lt (put_lt (put_lt (put_lt (put_lt (put_lt (hsz' (by decide))))))))))))))⟩) (by assumption) ?_
          change wpAnyH _ _ _ _ _ _ _ (Act.put _ (some 3) _) _
          refine wpAnyH_done (by kernel_rfl) ?_ _
          have := h gb q1 q2 q3 q4 tz hHeld' hlo hrow
          simp only [ps74x3, ps79x75, ps79x76, ps79x77, ps79x78, ps79x3, ps82x75, ps82x76, ps82x77, ps82x78, ps82x80, ps82x81, ps82x3, ps75x3, ps76x3, ps83x77, ps83x78, ps83x80, ps83x81, ps83x3, ps84x77, ps84x78, ps84x80, ps84x81, ps84x3, ps77x3, ps78x3, ps80x3, ps81x3, ps85x3]
          exact this
      refine AllReadyH.cons (o := ro6) rfl (fun K hK => ?_) AllReadyH.nil
      · refine ready_val rfl (rx6 _ _) ?_
        refine hK.out _ _ (to_alloc hHeld _) (fun hHeld' => ?_)
        clear hK K hHeld
        have hHeld := hHeld'
        clear hHeld'
        generalize t2.alloc (.cells #[.int .u8 1] 5) = t3 at *
        generalize (some ⟨t2.heap.size, 0, none⟩ : Option Addr) = q3
        change wpAnyH _ _ _ _ _ _ _ (Act.put _ (some 80) _) _
        refine wpAnyH_take (i := 7) (oi := ro7) (v := .agg #[.int .i64 (-1), .int .i64 (-1), .slice q3 1 1]) rfl (by kernel_rfl) (by kernel_rfl) (by kernel_rfl) (fun _ _ _ h => hQ _ _ _ _ _ h) (Or.inl ⟨by rfl, fun u _ => rx7 _ _ (eval_same _ 80 _ (put_lt (put_lt (put_lt (put_lt (put_lt (put_lt (put_lt (hsz' (by decide))))))))))⟩) (by assumption) ?_
        change wpAnyH _ _ _ _ _ _ _ (Act.put _ (some 81) _) _
        refine wpAnyH_ready (rs := [3]) (by kernel_rfl) (by simp) ?_
        refine AllReadyH.cons (o := ro3) rfl (fun K hK => ?_) AllReadyH.nil
        · refine ready_val rfl (hmk3.out _ t3) ?_
          refine hK.out _ _ (to_alloc hHeld _) (fun hHeld' => ?_)
          clear hK K hHeld
          have hHeld := hHeld'
          clear hHeld'
          generalize t3.alloc ob3 = t4 at *
          generalize (some ⟨t3.heap.size, 0, none⟩ : Option Addr) = q2
          change wpAnyH _ _ _ _ _ _ _ (Act.put _ (some 77) _) _
          refine wpAnyH_take (i := 4) (oi := ro4) (v := .agg #[.int .i64 513, .int .i64 1, .slice q2 513 513]) rfl (by kernel_rfl) (by kernel_rfl) (by kernel_rfl) (fun _ _ _ h => hQ _ _ _ _ _ h) (Or.inl ⟨by rfl, fun u _ => rx4 _ _ (eval_same _ 77 _ (put_lt (put_lt (put_lt (put_lt (put_lt (put_lt (put_lt (put_lt (put_lt (hsz' (by decide))))))))))))⟩) (by assumption) ?_
          change wpAnyH _ _ _ _ _ _ _ (Act.put _ (some 78) _) _
          refine wpAnyH_ready (rs := [11]) (by kernel_rfl) (by simp) ?_
          refine AllReadyH.cons (o := ro11) rfl (fun K hK => ?_) AllReadyH.nil
          refine ready_val rfl (rx11 _ _ (q1 := q1) (q2 := q2) (q3 := q3) (q4 := q4) ((eval_other _ 78 74 _ (by decide)).trans ((eval_other _ 77 74 _ (by decide)).trans ((eval_other _ 81 74 _ (by decide)).trans ((eval_other _ 80 74 _ (by decide)).trans ((eval_other _ 84 74 _ (by decide)).trans ((eval_other _ 83 74 _ (by decide)).trans ((eval_other _ 76 74 _ (by decide)).trans ((eval_other _ 75 74 _ (by decide)).trans ((eval_other _ 82 74 _ (by decide)).trans ((eval_other _ 79 74 _ (by decide)).trans (eval_same _ 74 _ (hsz' (by decide))))))))))))) ((eval_other _ 78 76 _ (by decide)).trans ((eval_other _ 77 76 _ (by decide)).trans ((eval_other _ 81 76 _ (by decide)).trans ((eval_other _ 80 76 _ (by decide)).trans ((eval_other _ 84 76 _ (by decide)).trans ((eval_other _ 83 76 _ (by decide)).trans (eval_same _ 76 _ (put_lt (put_lt (put_lt (put_lt (hsz' (by decide))))))))))))) (eval_same _ 78 _ (put_lt (put_lt (put_lt (put_lt (put_lt (put_lt (put_lt (put_lt (put_lt (put_lt (hsz' (by decide))))))))))))) ((eval_other _ 78 79 _ (by decide)).trans ((eval_other _ 77 79 _ (by decide)).trans ((eval_other _ 81 79 _ (by decide)).trans ((eval_other _ 80 79 _ (by decide)).trans ((eval_other _ 84 79 _ (by decide)).trans ((eval_other _ 83 79 _ (by decide)).trans ((eval_other _ 76 79 _ (by decide)).trans ((eval_other _ 75 79 _ (by decide)).trans ((eval_other _ 82 79 _ (by decide)).trans (eval_same _ 79 _ (put_lt (hsz' (by decide))))))))))))) ((eval_other _ 78 81 _ (by decide)).trans ((eval_other _ 77 81 _ (by decide)).trans (eval_same _ 81 _ (put_lt (put_lt (put_lt (put_lt (put_lt (put_lt (put_lt (put_lt (hsz' (by decide))))))))))))) ((eval_other _ 78 82 _ (by decide)).trans ((eval_other _ 77 82 _ (by decide)).trans ((eval_other _ 81 82 _ (by decide)).trans ((eval_other _ 80 82 _ (by decide)).trans ((eval_other _ 84 82 _ (by decide)).trans ((eval_other _ 83 82 _ (by decide)).trans ((eval_other _ 76 82 _ (by decide)).trans ((eval_other _ 75 82 _ (by decide)).trans (eval_same _ 82 _ (put_lt (put_lt (hsz' (by decide))))))))))))) ((eval_other _ 78 84 _ (by decide)).trans ((eval_other _ 77 84 _ (by decide)).trans ((eval_other _ 81 84 _ (by decide)).trans ((eval_other _ 80 84 _ (by decide)).trans (eval_same _ 84 _ (put_lt (put_lt (put_lt (put_lt (put_lt (put_lt (hsz' (by decide)))))))))))))) ?_
          have hrow : (t4.alloc (.cells #[.int .i64 0, .int .i64 0, .slice none 0 0, .int .i64 2, .int .i64 2, .slice q1 3 3, .int .i64 513, .int .i64 1, .slice q2 513 513, .int .i64 0, .int .i64 5, .slice none 0 0, .int .i64 (-1), .int .i64 (-1), .slice q3 1 1, .int .i64 4294967296, .int .i64 4294967296, .slice none 0 0, .int .i64 1, .int .i64 513, .slice q4 513 513] 24)).heap[t4.heap.size]? = some (.cells #[.int .i64 0, .int .i64 0, .slice none 0 0, .int .i64 2, .int .i64 2, .slice q1 3 3, .int .i64 513, .int .i64 1, .slice q2 513 513, .int .i64 0, .int .i64 5, .slice none 0 0, .int .i64 (-1), .int .i64 (-1), .slice q3 1 1, .int .i64 4294967296, .int .i64 4294967296, .slice none 0 0, .int .i64 1, .int .i64 513, .slice q4 513 513] 24 (0, 0)) := heap_alloc_new t4 _
          have hlo : w.heap.size ≤ t4.heap.size := hHeld.size
          refine hK.out _ _ (to_alloc hHeld _) (fun hHeld' => ?_)
          clear hK K hHeld
          generalize t4.alloc (.cells #[.int .i64 0, .int .i64 0, .slice none 0 0, .int .i64 2, .int .i64 2, .slice q1 3 3, .int .i64 513, .int .i64 1, .slice q2 513 513, .int .i64 0, .int .i64 5, .slice none 0 0, .int .i64 (-1), .int .i64 (-1), .slice q3 1 1, .int .i64 4294967296, .int .i64 4294967296, .slice none 0 0, .int .i64 1, .int .i64 513, .slice q4 513 513] 24) = tz at *
          generalize t4.heap.size = gb at *
          change wpAnyH _ _ _ _ _ _ _ (Act.put _ (some 85) _) _
          refine wpAnyH_take (i := 12) (oi := ro12) (v := .slice (some ⟨gb, 0, none⟩) 7 7) rfl (by kernel_rfl) (by kernel_rfl) (by kernel_rfl) (fun _ _ _ h => hQ _ _ _ _ _ h) (Or.inl ⟨by rfl, fun u _ => rx12 _ _ (eval_same _ 85 _ (put_lt (put_lt (put_lt (put_lt (put_lt (put_lt (put_lt (put_lt (put_lt (put_lt (put_lt (hsz' (by decide))))))))))))))⟩) (by assumption) ?_
          change wpAnyH _ _ _ _ _ _ _ (Act.put _ (some 3) _) _
          refine wpAnyH_done (by kernel_rfl) ?_ _
          have := h gb q1 q2 q3 q4 tz hHeld' hlo hrow
          simp only [ps74x3, ps79x75, ps79x76, ps79x77, ps79x78, ps79x3, ps82x75, ps82x76, ps82x80, ps82x81, ps82x77, ps82x78, ps82x3, ps75x3, ps76x3, ps83x80, ps83x81, ps83x77, ps83x78, ps83x3, ps84x80, ps84x81, ps84x77, ps84x78, ps84x3, ps80x77, ps80x78, ps80x3, ps81x77, ps81x78, ps81x3, ps77x3, ps78x3, ps85x3]
          exact this
  refine AllReadyH.cons (o := ro3) rfl (fun K hK => ?_) ?_
  · refine ready_val rfl (hmk3.out _ t0) ?_
    refine hK.out _ _ (to_alloc hHeld _) (fun hHeld' => ?_)
    clear hK K hHeld
    have hHeld := hHeld'
    clear hHeld'
    generalize t0.alloc ob3 = t1 at *
    generalize (some ⟨t0.heap.size, 0, none⟩ : Option Addr) = q2
    change wpAnyH _ _ _ _ _ _ _ (Act.put _ (some 77) _) _
    refine wpAnyH_take (i := 4) (oi := ro4) (v := .agg #[.int .i64 513, .int .i64 1, .slice q2 513 513]) rfl (by kernel_rfl) (by kernel_rfl) (by kernel_rfl) (fun _ _ _ h => hQ _ _ _ _ _ h) (Or.inl ⟨by rfl, fun u _ => rx4 _ _ (eval_same _ 77 _ (put_lt (put_lt (put_lt (hsz' (by decide))))))⟩) (by assumption) ?_
    change wpAnyH _ _ _ _ _ _ _ (Act.put _ (some 78) _) _
    refine wpAnyH_ready (rs := [1, 6, 9]) (by kernel_rfl) (by simp) ?_
    refine AllReadyH.cons (o := ro1) rfl (fun K hK => ?_) ?_
    · refine ready_val rfl (rx1 _ _) ?_
      refine hK.out _ _ (to_alloc hHeld _) (fun hHeld' => ?_)
      clear hK K hHeld
      have hHeld := hHeld'
      clear hHeld'
      generalize t1.alloc (.cells #[.int .u8 1, .int .u8 2, .int .u8 3] 5) = t2 at *
      generalize (some ⟨t1.heap.size, 0, none⟩ : Option Addr) = q1
      change wpAnyH _ _ _ _ _ _ _ (Act.put _ (some 75) _) _
      refine wpAnyH_take (i := 2) (oi := ro2) (v := .agg #[.int .i64 2, .int .i64 2, .slice q1 3 3]) rfl (by kernel_rfl) (by kernel_rfl) (by kernel_rfl) (fun _ _ _ h => hQ _ _ _ _ _ h) (Or.inl ⟨by rfl, fun u _ => rx2 _ _ (eval_same _ 75 _ (put_lt (put_lt (put_lt (put_lt (put_lt (hsz' (by decide))))))))⟩) (by assumption) ?_
      change wpAnyH _ _ _ _ _ _ _ (Act.put _ (some 76) _) _
      refine wpAnyH_ready (rs := [6, 9]) (by kernel_rfl) (by simp) ?_
      refine AllReadyH.cons (o := ro6) rfl (fun K hK => ?_) ?_
      · refine ready_val rfl (rx6 _ _) ?_
        refine hK.out _ _ (to_alloc hHeld _) (fun hHeld' => ?_)
        clear hK K hHeld
        have hHeld := hHeld'
        clear hHeld'
        generalize t2.alloc (.cells #[.int .u8 1] 5) = t3 at *
        generalize (some ⟨t2.heap.size, 0, none⟩ : Option Addr) = q3
        change wpAnyH _ _ _ _ _ _ _ (Act.put _ (some 80) _) _
        refine wpAnyH_take (i := 7) (oi := ro7) (v := .agg #[.int .i64 (-1), .int .i64 (-1), .slice q3 1 1]) rfl (by kernel_rfl) (by kernel_rfl) (by kernel_rfl) (fun _ _ _ h => hQ _ _ _ _ _ h) (Or.inl ⟨by rfl, fun u _ => rx7 _ _ (eval_same _ 80 _ (put_lt (put_lt (put_lt (put_lt (put_lt (put_lt (put_lt (hsz' (by decide))))))))))⟩) (by assumption) ?_
        change wpAnyH _ _ _ _ _ _ _ (Act.put _ (some 81) _) _
        refine wpAnyH_ready (rs := [9]) (by kernel_rfl) (by simp) ?_
        refine AllReadyH.cons (o := ro9) rfl (fun K hK => ?_) AllReadyH.nil
        · refine ready_val rfl (hmk9.out _ t3) ?_
          refine hK.out _ _ (to_alloc hHeld _) (fun hHeld' => ?_)
          clear hK K hHeld
          have hHeld := hHeld'
          clear hHeld'
          generalize t3.alloc ob9 = t4 at *
          generalize (some ⟨t3.heap.size, 0, none⟩ : Option Addr) = q4
          change wpAnyH _ _ _ _ _ _ _ (Act.put _ (some 83) _) _
          refine wpAnyH_take (i := 10) (oi := ro10) (v := .agg #[.int .i64 1, .int .i64 513, .slice q4 513 513]) rfl (by kernel_rfl) (by kernel_rfl) (by kernel_rfl) (fun _ _ _ h => hQ _ _ _ _ _ h) (Or.inl ⟨by rfl, fun u _ => rx10 _ _ (eval_same _ 83 _ (put_lt (put_lt (put_lt (put_lt (put_lt (put_lt (put_lt (put_lt (put_lt (hsz' (by decide))))))))))))⟩) (by assumption) ?_
          change wpAnyH _ _ _ _ _ _ _ (Act.put _ (some 84) _) _
          refine wpAnyH_ready (rs := [11]) (by kernel_rfl) (by simp) ?_
          refine AllReadyH.cons (o := ro11) rfl (fun K hK => ?_) AllReadyH.nil
          refine ready_val rfl (rx11 _ _ (q1 := q1) (q2 := q2) (q3 := q3) (q4 := q4) ((eval_other _ 84 74 _ (by decide)).trans ((eval_other _ 83 74 _ (by decide)).trans ((eval_other _ 81 74 _ (by decide)).trans ((eval_other _ 80 74 _ (by decide)).trans ((eval_other _ 76 74 _ (by decide)).trans ((eval_other _ 75 74 _ (by decide)).trans ((eval_other _ 78 74 _ (by decide)).trans ((eval_other _ 77 74 _ (by decide)).trans ((eval_other _ 82 74 _ (by decide)).trans ((eval_other _ 79 74 _ (by decide)).trans (eval_same _ 74 _ (hsz' (by decide))))))))))))) ((eval_other _ 84 76 _ (by decide)).trans ((eval_other _ 83 76 _ (by decide)).trans ((eval_other _ 81 76 _ (by decide)).trans ((eval_other _ 80 76 _ (by decide)).trans (eval_same _ 76 _ (put_lt (put_lt (put_lt (put_lt (put_lt (put_lt (hsz' (by decide))))))))))))) ((eval_other _ 84 78 _ (by decide)).trans ((eval_other _ 83 78 _ (by decide)).trans ((eval_other _ 81 78 _ (by decide)).trans ((eval_other _ 80 78 _ (by decide)).trans ((eval_other _ 76 78 _ (by decide)).trans ((eval_other _ 75 78 _ (by decide)).trans (eval_same _ 78 _ (put_lt (put_lt (put_lt (put_lt (hsz' (by decide))))))))))))) ((eval_other _ 84 79 _ (by decide)).trans ((eval_other _ 83 79 _ (by decide)).trans ((eval_other _ 81 79 _ (by decide)).trans ((eval_other _ 80 79 _ (by decide)).trans ((eval_other _ 76 79 _ (by decide)).trans ((eval_other _ 75 79 _ (by decide)).trans ((eval_other _ 78 79 _ (by decide)).trans ((eval_other _ 77 79 _ (by decide)).trans ((eval_other _ 82 79 _ (by decide)).trans (eval_same _ 79 _ (put_lt (hsz' (by decide))))))))))))) ((eval_other _ 84 81 _ (by decide)).trans ((eval_other _ 83 81 _ (by decide)).trans (eval_same _ 81 _ (put_lt (put_lt (put_lt (put_lt (put_lt (put_lt (put_lt (put_lt (hsz' (by decide))))))))))))) ((eval_other _ 84 82 _ (by decide)).trans ((eval_other _ 83 82 _ (by decide)).trans ((eval_other _ 81 82 _ (by decide)).trans ((eval_other _ 80 82 _ (by decide)).trans ((eval_other _ 76 82 _ (by decide)).trans ((eval_other _ 75 82 _ (by decide)).trans ((eval_other _ 78 82 _ (by decide)).trans ((eval_other _ 77 82 _ (by decide)).trans (eval_same _ 82 _ (put_lt (put_lt (hsz' (by decide))))))))))))) (eval_same _ 84 _ (put_lt (put_lt (put_lt (put_lt (put_lt (put_lt (put_lt (put_lt (put_lt (put_lt (hsz' (by decide)))))))))))))) ?_
          have hrow : (t4.alloc (.cells #[.int .i64 0, .int .i64 0, .slice none 0 0, .int .i64 2, .int .i64 2, .slice q1 3 3, .int .i64 513, .int .i64 1, .slice q2 513 513, .int .i64 0, .int .i64 5, .slice none 0 0, .int .i64 (-1), .int .i64 (-1), .slice q3 1 1, .int .i64 4294967296, .int .i64 4294967296, .slice none 0 0, .int .i64 1, .int .i64 513, .slice q4 513 513] 24)).heap[t4.heap.size]? = some (.cells #[.int .i64 0, .int .i64 0, .slice none 0 0, .int .i64 2, .int .i64 2, .slice q1 3 3, .int .i64 513, .int .i64 1, .slice q2 513 513, .int .i64 0, .int .i64 5, .slice none 0 0, .int .i64 (-1), .int .i64 (-1), .slice q3 1 1, .int .i64 4294967296, .int .i64 4294967296, .slice none 0 0, .int .i64 1, .int .i64 513, .slice q4 513 513] 24 (0, 0)) := heap_alloc_new t4 _
          have hlo : w.heap.size ≤ t4.heap.size := hHeld.size
          refine hK.out _ _ (to_alloc hHeld _) (fun hHeld' => ?_)
          clear hK K hHeld
          generalize t4.alloc (.cells #[.int .i64 0, .int .i64 0, .slice none 0 0, .int .i64 2, .int .i64 2, .slice q1 3 3, .int .i64 513, .int .i64 1, .slice q2 513 513, .int .i64 0, .int .i64 5, .slice none 0 0, .int .i64 (-1), .int .i64 (-1), .slice q3 1 1, .int .i64 4294967296, .int .i64 4294967296, .slice none 0 0, .int .i64 1, .int .i64 513, .slice q4 513 513] 24) = tz at *
          generalize t4.heap.size = gb at *
          change wpAnyH _ _ _ _ _ _ _ (Act.put _ (some 85) _) _
          refine wpAnyH_take (i := 12) (oi := ro12) (v := .slice (some ⟨gb, 0, none⟩) 7 7) rfl (by kernel_rfl) (by kernel_rfl) (by kernel_rfl) (fun _ _ _ h => hQ _ _ _ _ _ h) (Or.inl ⟨by rfl, fun u _ => rx12 _ _ (eval_same _ 85 _ (put_lt (put_lt (put_lt (put_lt (put_lt (put_lt (put_lt (put_lt (put_lt (put_lt (put_lt (hsz' (by decide))))))))))))))⟩) (by assumption) ?_
          change wpAnyH _ _ _ _ _ _ _ (Act.put _ (some 3) _) _
          refine wpAnyH_done (by kernel_rfl) ?_ _
          have := h gb q1 q2 q3 q4 tz hHeld' hlo hrow
          simp only [ps74x3, ps79x77, ps79x78, ps79x75, ps79x76, ps79x3, ps82x77, ps82x78, ps82x75, ps82x76, ps82x80, ps82x81, ps82x3, ps77x75, ps77x76, ps77x3, ps78x75, ps78x76, ps78x3, ps75x3, ps76x3, ps80x3, ps81x3, ps83x3, ps84x3, ps85x3]
          exact this
      refine AllReadyH.cons (o := ro9) rfl (fun K hK => ?_) AllReadyH.nil
      · refine ready_val rfl (hmk9.out _ t2) ?_
        refine hK.out _ _ (to_alloc hHeld _) (fun hHeld' => ?_)
        clear hK K hHeld
        have hHeld := hHeld'
        clear hHeld'
        generalize t2.alloc ob9 = t3 at *
        generalize (some ⟨t2.heap.size, 0, none⟩ : Option Addr) = q4
        change wpAnyH _ _ _ _ _ _ _ (Act.put _ (some 83) _) _
        refine wpAnyH_take (i := 10) (oi := ro10) (v := .agg #[.int .i64 1, .int .i64 513, .slice q4 513 513]) rfl (by kernel_rfl) (by kernel_rfl) (by kernel_rfl) (fun _ _ _ h => hQ _ _ _ _ _ h) (Or.inl ⟨by rfl, fun u _ => rx10 _ _ (eval_same _ 83 _ (put_lt (put_lt (put_lt (put_lt (put_lt (put_lt (put_lt (hsz' (by decide))))))))))⟩) (by assumption) ?_
        change wpAnyH _ _ _ _ _ _ _ (Act.put _ (some 84) _) _
        refine wpAnyH_ready (rs := [6]) (by kernel_rfl) (by simp) ?_
        refine AllReadyH.cons (o := ro6) rfl (fun K hK => ?_) AllReadyH.nil
        · refine ready_val rfl (rx6 _ _) ?_
          refine hK.out _ _ (to_alloc hHeld _) (fun hHeld' => ?_)
          clear hK K hHeld
          have hHeld := hHeld'
          clear hHeld'
          generalize t3.alloc (.cells #[.int .u8 1] 5) = t4 at *
          generalize (some ⟨t3.heap.size, 0, none⟩ : Option Addr) = q3
          change wpAnyH _ _ _ _ _ _ _ (Act.put _ (some 80) _) _
          refine wpAnyH_take (i := 7) (oi := ro7) (v := .agg #[.int .i64 (-1), .int .i64 (-1), .slice q3 1 1]) rfl (by kernel_rfl) (by kernel_rfl) (by kernel_rfl) (fun _ _ _ h => hQ _ _ _ _ _ h) (Or.inl ⟨by rfl, fun u _ => rx7 _ _ (eval_same _ 80 _ (put_lt (put_lt (put_lt (put_lt (put_lt (put_lt (put_lt (put_lt (put_lt (hsz' (by decide))))))))))))⟩) (by assumption) ?_
          change wpAnyH _ _ _ _ _ _ _ (Act.put _ (some 81) _) _
          refine wpAnyH_ready (rs := [11]) (by kernel_rfl) (by simp) ?_
          refine AllReadyH.cons (o := ro11) rfl (fun K hK => ?_) AllReadyH.nil
          refine ready_val rfl (rx11 _ _ (q1 := q1) (q2 := q2) (q3 := q3) (q4 := q4) ((eval_other _ 81 74 _ (by decide)).trans ((eval_other _ 80 74 _ (by decide)).trans ((eval_other _ 84 74 _ (by decide)).trans ((eval_other _ 83 74 _ (by decide)).trans ((eval_other _ 76 74 _ (by decide)).trans ((eval_other _ 75 74 _ (by decide)).trans ((eval_other _ 78 74 _ (by decide)).trans ((eval_other _ 77 74 _ (by decide)).trans ((eval_other _ 82 74 _ (by decide)).trans ((eval_other _ 79 74 _ (by decide)).trans (eval_same _ 74 _ (hsz' (by decide))))))))))))) ((eval_other _ 81 76 _ (by decide)).trans ((eval_other _ 80 76 _ (by decide)).trans ((eval_other _ 84 76 _ (by decide)).trans ((eval_other _ 83 76 _ (by decide)).trans (eval_same _ 76 _ (put_lt (put_lt (put_lt (put_lt (put_lt (put_lt (hsz' (by decide))))))))))))) ((eval_other _ 81 78 _ (by decide)).trans ((eval_other _ 80 78 _ (by decide)).trans ((eval_other _ 84 78 _ (by decide)).trans ((eval_other _ 83 78 _ (by decide)).trans ((eval_other _ 76 78 _ (by decide)).trans ((eval_other _ 75 78 _ (by decide)).trans (eval_same _ 78 _ (put_lt (put_lt (put_lt (put_lt (hsz' (by decide))))))))))))) ((eval_other _ 81 79 _ (by decide)).trans ((eval_other _ 80 79 _ (by decide)).trans ((eval_other _ 84 79 _ (by decide)).trans ((eval_other _ 83 79 _ (by decide)).trans ((eval_other _ 76 79 _ (by decide)).trans ((eval_other _ 75 79 _ (by decide)).trans ((eval_other _ 78 79 _ (by decide)).trans ((eval_other _ 77 79 _ (by decide)).trans ((eval_other _ 82 79 _ (by decide)).trans (eval_same _ 79 _ (put_lt (hsz' (by decide))))))))))))) (eval_same _ 81 _ (put_lt (put_lt (put_lt (put_lt (put_lt (put_lt (put_lt (put_lt (put_lt (put_lt (hsz' (by decide))))))))))))) ((eval_other _ 81 82 _ (by decide)).trans ((eval_other _ 80 82 _ (by decide)).trans ((eval_other _ 84 82 _ (by decide)).trans ((eval_other _ 83 82 _ (by decide)).trans ((eval_other _ 76 82 _ (by decide)).trans ((eval_other _ 75 82 _ (by decide)).trans ((eval_other _ 78 82 _ (by decide)).trans ((eval_other _ 77 82 _ (by decide)).trans (eval_same _ 82 _ (put_lt (put_lt (hsz' (by decide))))))))))))) ((eval_other _ 81 84 _ (by decide)).trans ((eval_other _ 80 84 _ (by decide)).trans (eval_same _ 84 _ (put_lt (put_lt (put_lt (put_lt (put_lt (put_lt (put_lt (put_lt (hsz' (by decide)))))))))))))) ?_
          have hrow : (t4.alloc (.cells #[.int .i64 0, .int .i64 0, .slice none 0 0, .int .i64 2, .int .i64 2, .slice q1 3 3, .int .i64 513, .int .i64 1, .slice q2 513 513, .int .i64 0, .int .i64 5, .slice none 0 0, .int .i64 (-1), .int .i64 (-1), .slice q3 1 1, .int .i64 4294967296, .int .i64 4294967296, .slice none 0 0, .int .i64 1, .int .i64 513, .slice q4 513 513] 24)).heap[t4.heap.size]? = some (.cells #[.int .i64 0, .int .i64 0, .slice none 0 0, .int .i64 2, .int .i64 2, .slice q1 3 3, .int .i64 513, .int .i64 1, .slice q2 513 513, .int .i64 0, .int .i64 5, .slice none 0 0, .int .i64 (-1), .int .i64 (-1), .slice q3 1 1, .int .i64 4294967296, .int .i64 4294967296, .slice none 0 0, .int .i64 1, .int .i64 513, .slice q4 513 513] 24 (0, 0)) := heap_alloc_new t4 _
          have hlo : w.heap.size ≤ t4.heap.size := hHeld.size
          refine hK.out _ _ (to_alloc hHeld _) (fun hHeld' => ?_)
          clear hK K hHeld
          generalize t4.alloc (.cells #[.int .i64 0, .int .i64 0, .slice none 0 0, .int .i64 2, .int .i64 2, .slice q1 3 3, .int .i64 513, .int .i64 1, .slice q2 513 513, .int .i64 0, .int .i64 5, .slice none 0 0, .int .i64 (-1), .int .i64 (-1), .slice q3 1 1, .int .i64 4294967296, .int .i64 4294967296, .slice none 0 0, .int .i64 1, .int .i64 513, .slice q4 513 513] 24) = tz at *
          generalize t4.heap.size = gb at *
          change wpAnyH _ _ _ _ _ _ _ (Act.put _ (some 85) _) _
          refine wpAnyH_take (i := 12) (oi := ro12) (v := .slice (some ⟨gb, 0, none⟩) 7 7) rfl (by kernel_rfl) (by kernel_rfl) (by kernel_rfl) (fun _ _ _ h => hQ _ _ _ _ _ h) (Or.inl ⟨by rfl, fun u _ => rx12 _ _ (eval_same _ 85 _ (put_lt (put_lt (put_lt (put_lt (put_lt (put_lt (put_lt (put_lt (put_lt (put_lt (put_lt (hsz' (by decide))))))))))))))⟩) (by assumption) ?_
          change wpAnyH _ _ _ _ _ _ _ (Act.put _ (some 3) _) _
          refine wpAnyH_done (by kernel_rfl) ?_ _
          have := h gb q1 q2 q3 q4 tz hHeld' hlo hrow
          simp only [ps74x3, ps79x77, ps79x78, ps79x75, ps79x76, ps79x3, ps82x77, ps82x78, ps82x75, ps82x76, ps82x80, ps82x81, ps82x3, ps77x75, ps77x76, ps77x3, ps78x75, ps78x76, ps78x3, ps75x3, ps76x3, ps83x80, ps83x81, ps83x3, ps84x80, ps84x81, ps84x3, ps80x3, ps81x3, ps85x3]
          exact this
    refine AllReadyH.cons (o := ro6) rfl (fun K hK => ?_) ?_
    · refine ready_val rfl (rx6 _ _) ?_
      refine hK.out _ _ (to_alloc hHeld _) (fun hHeld' => ?_)
      clear hK K hHeld
      have hHeld := hHeld'
      clear hHeld'
      generalize t1.alloc (.cells #[.int .u8 1] 5) = t2 at *
      generalize (some ⟨t1.heap.size, 0, none⟩ : Option Addr) = q3
      change wpAnyH _ _ _ _ _ _ _ (Act.put _ (some 80) _) _
      refine wpAnyH_take (i := 7) (oi := ro7) (v := .agg #[.int .i64 (-1), .int .i64 (-1), .slice q3 1 1]) rfl (by kernel_rfl) (by kernel_rfl) (by kernel_rfl) (fun _ _ _ h => hQ _ _ _ _ _ h) (Or.inl ⟨by rfl, fun u _ => rx7 _ _ (eval_same _ 80 _ (put_lt (put_lt (put_lt (put_lt (put_lt (hsz' (by decide))))))))⟩) (by assumption) ?_
      change wpAnyH _ _ _ _ _ _ _ (Act.put _ (some 81) _) _
      refine wpAnyH_ready (rs := [1, 9]) (by kernel_rfl) (by simp) ?_
      refine AllReadyH.cons (o := ro1) rfl (fun K hK => ?_) ?_
      · refine ready_val rfl (rx1 _ _) ?_
        refine hK.out _ _ (to_alloc hHeld _) (fun hHeld' => ?_)
        clear hK K hHeld
        have hHeld := hHeld'
        clear hHeld'
        generalize t2.alloc (.cells #[.int .u8 1, .int .u8 2, .int .u8 3] 5) = t3 at *
        generalize (some ⟨t2.heap.size, 0, none⟩ : Option Addr) = q1
        change wpAnyH _ _ _ _ _ _ _ (Act.put _ (some 75) _) _
        refine wpAnyH_take (i := 2) (oi := ro2) (v := .agg #[.int .i64 2, .int .i64 2, .slice q1 3 3]) rfl (by kernel_rfl) (by kernel_rfl) (by kernel_rfl) (fun _ _ _ h => hQ _ _ _ _ _ h) (Or.inl ⟨by rfl, fun u _ => rx2 _ _ (eval_same _ 75 _ (put_lt (put_lt (put_lt (put_lt (put_lt (put_lt (put_lt (hsz' (by decide))))))))))⟩) (by assumption) ?_
        change wpAnyH _ _ _ _ _ _ _ (Act.put _ (some 76) _) _
        refine wpAnyH_ready (rs := [9]) (by kernel_rfl) (by simp) ?_
        refine AllReadyH.cons (o := ro9) rfl (fun K hK => ?_) AllReadyH.nil
        · refine ready_val rfl (hmk9.out _ t3) ?_
          refine hK.out _ _ (to_alloc hHeld _) (fun hHeld' => ?_)
          clear hK K hHeld
          have hHeld := hHeld'
          clear hHeld'
          generalize t3.alloc ob9 = t4 at *
          generalize (some ⟨t3.heap.size, 0, none⟩ : Option Addr) = q4
          change wpAnyH _ _ _ _ _ _ _ (Act.put _ (some 83) _) _
          refine wpAnyH_take (i := 10) (oi := ro10) (v := .agg #[.int .i64 1, .int .i64 513, .slice q4 513 513]) rfl (by kernel_rfl) (by kernel_rfl) (by kernel_rfl) (fun _ _ _ h => hQ _ _ _ _ _ h) (Or.inl ⟨by rfl, fun u _ => rx10 _ _ (eval_same _ 83 _ (put_lt (put_lt (put_lt (put_lt (put_lt (put_lt (put_lt (put_lt (put_lt (hsz' (by decide))))))))))))⟩) (by assumption) ?_
          change wpAnyH _ _ _ _ _ _ _ (Act.put _ (some 84) _) _
          refine wpAnyH_ready (rs := [11]) (by kernel_rfl) (by simp) ?_
          refine AllReadyH.cons (o := ro11) rfl (fun K hK => ?_) AllReadyH.nil
          refine ready_val rfl (rx11 _ _ (q1 := q1) (q2 := q2) (q3 := q3) (q4 := q4) ((eval_other _ 84 74 _ (by decide)).trans ((eval_other _ 83 74 _ (by decide)).trans ((eval_other _ 76 74 _ (by decide)).trans ((eval_other _ 75 74 _ (by decide)).trans ((eval_other _ 81 74 _ (by decide)).trans ((eval_other _ 80 74 _ (by decide)).trans ((eval_other _ 78 74 _ (by decide)).trans ((eval_other _ 77 74 _ (by decide)).trans ((eval_other _ 82 74 _ (by decide)).trans ((eval_other _ 79 74 _ (by decide)).trans (eval_same _ 74 _ (hsz' (by decide))))))))))))) ((eval_other _ 84 76 _ (by decide)).trans ((eval_other _ 83 76 _ (by decide)).trans (eval_same _ 76 _ (put_lt (put_lt (put_lt (put_lt (put_lt (put_lt (put_lt (put_lt (hsz' (by decide))))))))))))) ((eval_other _ 84 78 _ (by decide)).trans ((eval_other _ 83 78 _ (by decide)).trans ((eval_other _ 76 78 _ (by decide)).trans ((eval_other _ 75 78 _ (by decide)).trans ((eval_other _ 81 78 _ (by decide)).trans ((eval_other _ 80 78 _ (by decide)).trans (eval_same _ 78 _ (put_lt (put_lt (put_lt (put_lt (hsz' (by decide))))))))))))) ((eval_other _ 84 79 _ (by decide)).trans ((eval_other _ 83 79 _ (by decide)).trans ((eval_other _ 76 79 _ (by decide)).trans ((eval_other _ 75 79 _ (by decide)).trans ((eval_other _ 81 79 _ (by decide)).trans ((eval_other _ 80 79 _ (by decide)).trans ((eval_other _ 78 79 _ (by decide)).trans ((eval_other _ 77 79 _ (by decide)).trans ((eval_other _ 82 79 _ (by decide)).trans (eval_same _ 79 _ (put_lt (hsz' (by decide))))))))))))) ((eval_other _ 84 81 _ (by decide)).trans ((eval_other _ 83 81 _ (by decide)).trans ((eval_other _ 76 81 _ (by decide)).trans ((eval_other _ 75 81 _ (by decide)).trans (eval_same _ 81 _ (put_lt (put_lt (put_lt (put_lt (put_lt (put_lt (hsz' (by decide))))))))))))) ((eval_other _ 84 82 _ (by decide)).trans ((eval_other _ 83 82 _ (by decide)).trans ((eval_other _ 76 82 _ (by decide)).trans ((eval_other _ 75 82 _ (by decide)).trans ((eval_other _ 81 82 _ (by decide)).trans ((eval_other _ 80 82 _ (by decide)).trans ((eval_other _ 78 82 _ (by decide)).trans ((eval_other _ 77 82 _ (by decide)).trans (eval_same _ 82 _ (put_lt (put_lt (hsz' (by decide))))))))))))) (eval_same _ 84 _ (put_lt (put_lt (put_lt (put_lt (put_lt (put_lt (put_lt (put_lt (put_lt (put_lt (hsz' (by decide)))))))))))))) ?_
          have hrow : (t4.alloc (.cells #[.int .i64 0, .int .i64 0, .slice none 0 0, .int .i64 2, .int .i64 2, .slice q1 3 3, .int .i64 513, .int .i64 1, .slice q2 513 513, .int .i64 0, .int .i64 5, .slice none 0 0, .int .i64 (-1), .int .i64 (-1), .slice q3 1 1, .int .i64 4294967296, .int .i64 4294967296, .slice none 0 0, .int .i64 1, .int .i64 513, .slice q4 513 513] 24)).heap[t4.heap.size]? = some (.cells #[.int .i64 0, .int .i64 0, .slice none 0 0, .int .i64 2, .int .i64 2, .slice q1 3 3, .int .i64 513, .int .i64 1, .slice q2 513 513, .int .i64 0, .int .i64 5, .slice none 0 0, .int .i64 (-1), .int .i64 (-1), .slice q3 1 1, .int .i64 4294967296, .int .i64 4294967296, .slice none 0 0, .int .i64 1, .int .i64 513, .slice q4 513 513] 24 (0, 0)) := heap_alloc_new t4 _
          have hlo : w.heap.size ≤ t4.heap.size := hHeld.size
          refine hK.out _ _ (to_alloc hHeld _) (fun hHeld' => ?_)
          clear hK K hHeld
          generalize t4.alloc (.cells #[.int .i64 0, .int .i64 0, .slice none 0 0, .int .i64 2, .int .i64 2, .slice q1 3 3, .int .i64 513, .int .i64 1, .slice q2 513 513, .int .i64 0, .int .i64 5, .slice none 0 0, .int .i64 (-1), .int .i64 (-1), .slice q3 1 1, .int .i64 4294967296, .int .i64 4294967296, .slice none 0 0, .int .i64 1, .int .i64 513, .slice q4 513 513] 24) = tz at *
          generalize t4.heap.size = gb at *
          change wpAnyH _ _ _ _ _ _ _ (Act.put _ (some 85) _) _
          refine wpAnyH_take (i := 12) (oi := ro12) (v := .slice (some ⟨gb, 0, none⟩) 7 7) rfl (by kernel_rfl) (by kernel_rfl) (by kernel_rfl) (fun _ _ _ h => hQ _ _ _ _ _ h) (Or.inl ⟨by rfl, fun u _ => rx12 _ _ (eval_same _ 85 _ (put_lt (put_lt (put_lt (put_lt (put_lt (put_lt (put_lt (put_lt (put_lt (put_lt (put_lt (hsz' (by decide))))))))))))))⟩) (by assumption) ?_
          change wpAnyH _ _ _ _ _ _ _ (Act.put _ (some 3) _) _
          refine wpAnyH_done (by kernel_rfl) ?_ _
          have := h gb q1 q2 q3 q4 tz hHeld' hlo hrow
          simp only [ps74x3, ps79x77, ps79x78, ps79x75, ps79x76, ps79x3, ps82x77, ps82x78, ps82x80, ps82x81, ps82x75, ps82x76, ps82x3, ps77x75, ps77x76, ps77x3, ps78x75, ps78x76, ps78x3, ps80x75, ps80x76, ps80x3, ps81x75, ps81x76, ps81x3, ps75x3, ps76x3, ps83x3, ps84x3, ps85x3]
          exact this
      refine AllReadyH.cons (o := ro9) rfl (fun K hK => ?_) AllReadyH.nil
      · refine ready_val rfl (hmk9.out _ t2) ?_
        refine hK.out _ _ (to_alloc hHeld _) (fun hHeld' => ?_)
        clear hK K hHeld
        have hHeld := hHeld'
        clear hHeld'
        generalize t2.alloc ob9 = t3 at *
        generalize (some ⟨t2.heap.size, 0, none⟩ : Option Addr) = q4
        change wpAnyH _ _ _ _ _ _ _ (Act.put _ (some 83) _) _
        refine wpAnyH_take (i := 10) (oi := ro10) (v := .agg #[.int .i64 1, .int .i64 513, .slice q4 513 513]) rfl (by kernel_rfl) (by kernel_rfl) (by kernel_rfl) (fun _ _ _ h => hQ _ _ _ _ _ h) (Or.inl ⟨by rfl, fun u _ => rx10 _ _ (eval_same _ 83 _ (put_lt (put_lt (put_lt (put_lt (put_lt (put_lt (put_lt (hsz' (by decide))))))))))⟩) (by assumption) ?_
        change wpAnyH _ _ _ _ _ _ _ (Act.put _ (some 84) _) _
        refine wpAnyH_ready (rs := [1]) (by kernel_rfl) (by simp) ?_
        refine AllReadyH.cons (o := ro1) rfl (fun K hK => ?_) AllReadyH.nil
        · refine ready_val rfl (rx1 _ _) ?_
          refine hK.out _ _ (to_alloc hHeld _) (fun hHeld' => ?_)
          clear hK K hHeld
          have hHeld := hHeld'
          clear hHeld'
          generalize t3.alloc (.cells #[.int .u8 1, .int .u8 2, .int .u8 3] 5) = t4 at *
          generalize (some ⟨t3.heap.size, 0, none⟩ : Option Addr) = q1
          change wpAnyH _ _ _ _ _ _ _ (Act.put _ (some 75) _) _
          refine wpAnyH_take (i := 2) (oi := ro2) (v := .agg #[.int .i64 2, .int .i64 2, .slice q1 3 3]) rfl (by kernel_rfl) (by kernel_rfl) (by kernel_rfl) (fun _ _ _ h => hQ _ _ _ _ _ h) (Or.inl ⟨by rfl, fun u _ => rx2 _ _ (eval_same _ 75 _ (put_lt (put_lt (put_lt (put_lt (put_lt (put_lt (put_lt (put_lt (put_lt (hsz' (by decide))))))))))))⟩) (by assumption) ?_
          change wpAnyH _ _ _ _ _ _ _ (Act.put _ (some 76) _) _
          refine wpAnyH_ready (rs := [11]) (by kernel_rfl) (by simp) ?_
          refine AllReadyH.cons (o := ro11) rfl (fun K hK => ?_) AllReadyH.nil
          refine ready_val rfl (rx11 _ _ (q1 := q1) (q2 := q2) (q3 := q3) (q4 := q4) ((eval_other _ 76 74 _ (by decide)).trans ((eval_other _ 75 74 _ (by decide)).trans ((eval_other _ 84 74 _ (by decide)).trans ((eval_other _ 83 74 _ (by decide)).trans ((eval_other _ 81 74 _ (by decide)).trans ((eval_other _ 80 74 _ (by decide)).trans ((eval_other _ 78 74 _ (by decide)).trans ((eval_other _ 77 74 _ (by decide)).trans ((eval_other _ 82 74 _ (by decide)).trans ((eval_other _ 79 74 _ (by decide)).trans (eval_same _ 74 _ (hsz' (by decide))))))))))))) (eval_same _ 76 _ (put_lt (put_lt (put_lt (put_lt (put_lt (put_lt (put_lt (put_lt (put_lt (put_lt (hsz' (by decide))))))))))))) ((eval_other _ 76 78 _ (by decide)).trans ((eval_other _ 75 78 _ (by decide)).trans ((eval_other _ 84 78 _ (by decide)).trans ((eval_other _ 83 78 _ (by decide)).trans ((eval_other _ 81 78 _ (by decide)).trans ((eval_other _ 80 78 _ (by decide)).trans (eval_same _ 78 _ (put_lt (put_lt (put_lt (put_lt (hsz' (by decide))))))))))))) ((eval_other _ 76 79 _ (by decide)).trans ((eval_other _ 75 79 _ (by decide)).trans ((eval_other _ 84 79 _ (by decide)).trans ((eval_other _ 83 79 _ (by decide)).trans ((eval_other _ 81 79 _ (by decide)).trans ((eval_other _ 80 79 _ (by decide)).trans ((eval_other _ 78 79 _ (by decide)).trans ((eval_other _ 77 79 _ (by decide)).trans ((eval_other _ 82 79 _ (by decide)).trans (eval_same _ 79 _ (put_lt (hsz' (by decide))))))))))))) ((eval_other _ 76 81 _ (by decide)).trans ((eval_other _ 75 81 _ (by decide)).trans ((eval_other _ 84 81 _ (by decide)).trans ((eval_other _ 83 81 _ (by decide)).trans (eval_same _ 81 _ (put_lt (put_lt (put_lt (put_lt (put_lt (put_lt (hsz' (by decide))))))))))))) ((eval_other _ 76 82 _ (by decide)).trans ((eval_other _ 75 82 _ (by decide)).trans ((eval_other _ 84 82 _ (by decide)).trans ((eval_other _ 83 82 _ (by decide)).trans ((eval_other _ 81 82 _ (by decide)).trans ((eval_other _ 80 82 _ (by decide)).trans ((eval_other _ 78 82 _ (by decide)).trans ((eval_other _ 77 82 _ (by decide)).trans (eval_same _ 82 _ (put_lt (put_lt (hsz' (by decide))))))))))))) ((eval_other _ 76 84 _ (by decide)).trans ((eval_other _ 75 84 _ (by decide)).trans (eval_same _ 84 _ (put_lt (put_lt (put_lt (put_lt (put_lt (put_lt (put_lt (put_lt (hsz' (by decide)))))))))))))) ?_
          have hrow : (t4.alloc (.cells #[.int .i64 0, .int .i64 0, .slice none 0 0, .int .i64 2, .int .i64 2, .slice q1 3 3, .int .i64 513, .int .i64 1, .slice q2 513 513, .int .i64 0, .int .i64 5, .slice none 0 0, .int .i64 (-1), .int .i64 (-1), .slice q3 1 1, .int .i64 4294967296, .int .i64 4294967296, .slice none 0 0, .int .i64 1, .int .i64 513, .slice q4 513 513] 24)).heap[t4.heap.size]? = some (.cells #[.int .i64 0, .int .i64 0, .slice none 0 0, .int .i64 2, .int .i64 2, .slice q1 3 3, .int .i64 513, .int .i64 1, .slice q2 513 513, .int .i64 0, .int .i64 5, .slice none 0 0, .int .i64 (-1), .int .i64 (-1), .slice q3 1 1, .int .i64 4294967296, .int .i64 4294967296, .slice none 0 0, .int .i64 1, .int .i64 513, .slice q4 513 513] 24 (0, 0)) := heap_alloc_new t4 _
          have hlo : w.heap.size ≤ t4.heap.size := hHeld.size
          refine hK.out _ _ (to_alloc hHeld _) (fun hHeld' => ?_)
          clear hK K hHeld
          generalize t4.alloc (.cells #[.int .i64 0, .int .i64 0, .slice none 0 0, .int .i64 2, .int .i64 2, .slice q1 3 3, .int .i64 513, .int .i64 1, .slice q2 513 513, .int .i64 0, .int .i64 5, .slice none 0 0, .int .i64 (-1), .int .i64 (-1), .slice q3 1 1, .int .i64 4294967296, .int .i64 4294967296, .slice none 0 0, .int .i64 1, .int .i64 513, .slice q4 513 513] 24) = tz at *
          generalize t4.heap.size = gb at *
          change wpAnyH _ _ _ _ _ _ _ (Act.put _ (some 85) _) _
          refine wpAnyH_take (i := 12) (oi := ro12) (v := .slice (some ⟨gb, 0, none⟩) 7 7) rfl (by kernel_rfl) (by kernel_rfl) (by kernel_rfl) (fun _ _ _ h => hQ _ _ _ _ _ h) (Or.inl ⟨by rfl, fun u _ => rx12 _ _ (eval_same _ 85 _ (put_lt (put_lt (put_lt (put_lt (put_lt (put_lt (put_lt (put_lt (put_lt (put_lt (put_lt (hsz' (by decide))))))))))))))⟩) (by assumption) ?_
          change wpAnyH _ _ _ _ _ _ _ (Act.put _ (some 3) _) _
          refine wpAnyH_done (by kernel_rfl) ?_ _
          have := h gb q1 q2 q3 q4 tz hHeld' hlo hrow
          simp only [ps74x3, ps79x77, ps79x78, ps79x75, ps79x76, ps79x3, ps82x77, ps82x78, ps82x80, ps82x81, ps82x75, ps82x76, ps82x3, ps77x75, ps77x76, ps77x3, ps78x75, ps78x76, ps78x3, ps80x75, ps80x76, ps80x3, ps81x75, ps81x76, ps81x3, ps83x75, ps83x76, ps83x3, ps84x75, ps84x76, ps84x3, ps75x3, ps76x3, ps85x3]
          exact this
    refine AllReadyH.cons (o := ro9) rfl (fun K hK => ?_) AllReadyH.nil
    · refine ready_val rfl (hmk9.out _ t1) ?_
      refine hK.out _ _ (to_alloc hHeld _) (fun hHeld' => ?_)
      clear hK K hHeld
      have hHeld := hHeld'
      clear hHeld'
      generalize t1.alloc ob9 = t2 at *
      generalize (some ⟨t1.heap.size, 0, none⟩ : Option Addr) = q4
      change wpAnyH _ _ _ _ _ _ _ (Act.put _ (some 83) _) _
      refine wpAnyH_take (i := 10) (oi := ro10) (v := .agg #[.int .i64 1, .int .i64 513, .slice q4 513 513]) rfl (by kernel_rfl) (by kernel_rfl) (by kernel_rfl) (fun _ _ _ h => hQ _ _ _ _ _ h) (Or.inl ⟨by rfl, fun u _ => rx10 _ _ (eval_same _ 83 _ (put_lt (put_lt (put_lt (put_lt (put_lt (hsz' (by decide))))))))⟩) (by assumption) ?_
      change wpAnyH _ _ _ _ _ _ _ (Act.put _ (some 84) _) _
      refine wpAnyH_ready (rs := [1, 6]) (by kernel_rfl) (by simp) ?_
      refine AllReadyH.cons (o := ro1) rfl (fun K hK => ?_) ?_
      · refine ready_val rfl (rx1 _ _) ?_
        refine hK.out _ _ (to_alloc hHeld _) (fun hHeld' => ?_)
        clear hK K hHeld
        have hHeld := hHeld'
        clear hHeld'
        generalize t2.alloc (.cells #[.int .u8 1, .int .u8 2, .int .u8 3] 5) = t3 at *
        generalize (some ⟨t2.heap.size, 0, none⟩ : Option Addr) = q1
        change wpAnyH _ _ _ _ _ _ _ (Act.put _ (some 75) _) _
        refine wpAnyH_take (i := 2) (oi := ro2) (v := .agg #[.int .i64 2, .int .i64 2, .slice q1 3 3]) rfl (by kernel_rfl) (by kernel_rfl) (by kernel_rfl) (fun _ _ _ h => hQ _ _ _ _ _ h) (Or.inl ⟨by rfl, fun u _ => rx2 _ _ (eval_same _ 75 _ (put_lt (put_lt (put_lt (put_lt (put_lt (put_lt (put_lt (hsz' (by decide))))))))))⟩) (by assumption) ?_
        change wpAnyH _ _ _ _ _ _ _ (Act.put _ (some 76) _) _
        refine wpAnyH_ready (rs := [6]) (by kernel_rfl) (by simp) ?_
        refine AllReadyH.cons (o := ro6) rfl (fun K hK => ?_) AllReadyH.nil
        · refine ready_val rfl (rx6 _ _) ?_
          refine hK.out _ _ (to_alloc hHeld _) (fun hHeld' => ?_)
          clear hK K hHeld
          have hHeld := hHeld'
          clear hHeld'
          generalize t3.alloc (.cells #[.int .u8 1] 5) = t4 at *
          generalize (some ⟨t3.heap.size, 0, none⟩ : Option Addr) = q3
          change wpAnyH _ _ _ _ _ _ _ (Act.put _ (some 80) _) _
          refine wpAnyH_take (i := 7) (oi := ro7) (v := .agg #[.int .i64 (-1), .int .i64 (-1), .slice q3 1 1]) rfl (by kernel_rfl) (by kernel_rfl) (by kernel_rfl) (fun _ _ _ h => hQ _ _ _ _ _ h) (Or.inl ⟨by rfl, fun u _ => rx7 _ _ (eval_same _ 80 _ (put_lt (put_lt (put_lt (put_lt (put_lt (put_lt (put_lt (put_lt (put_lt (hsz' (by decide))))))))))))⟩) (by assumption) ?_
          change wpAnyH _ _ _ _ _ _ _ (Act.put _ (some 81) _) _
          refine wpAnyH_ready (rs := [11]) (by kernel_rfl) (by simp) ?_
          refine AllReadyH.cons (o := ro11) rfl (fun K hK => ?_) AllReadyH.nil
          refine ready_val rfl (rx11 _ _ (q1 := q1) (q2 := q2) (q3 := q3) (q4 := q4) ((eval_other _ 81 74 _ (by decide)).trans ((eval_other _ 80 74 _ (by decide)).trans ((eval_other _ 76 74 _ (by decide)).trans ((eval_other _ 75 74 _ (by decide)).trans ((eval_other _ 84 74 _ (by decide)).trans ((eval_other _ 83 74 _ (by decide)).trans ((eval_other _ 78 74 _ (by decide)).trans ((eval_other _ 77 74 _ (by decide)).trans ((eval_other _ 82 74 _ (by decide)).trans ((eval_other _ 79 74 _ (by decide)).trans (eval_same _ 74 _ (hsz' (by decide))))))))))))) ((eval_other _ 81 76 _ (by decide)).trans ((eval_other _ 80 76 _ (by decide)).trans (eval_same _ 76 _ (put_lt (put_lt (put_lt (put_lt (put_lt (put_lt (put_lt (put_lt (hsz' (by decide))))))))))))) ((eval_other _ 81 78 _ (by decide)).trans ((eval_other _ 80 78 _ (by decide)).trans ((eval_other _ 76 78 _ (by decide)).trans ((eval_other _ 75 78 _ (by decide)).trans ((eval_other _ 84 78 _ (by decide)).trans ((eval_other _ 83 78 _ (by decide)).trans (eval_same _ 78 _ (put_lt (put_lt (put_lt (put_lt (hsz' (by decide))))))))))))) ((eval_other _ 81 79 _ (by decide)).trans ((eval_other _ 80 79 _ (by decide)).trans ((eval_other _ 76 79 _ (by decide)).trans ((eval_other _ 75 79 _ (by decide)).trans ((eval_other _ 84 79 _ (by decide)).trans ((eval_other _ 83 79 _ (by decide)).trans ((eval_other _ 78 79 _ (by decide)).trans ((eval_other _ 77 79 _ (by decide)).trans ((eval_other _ 82 79 _ (by decide)).trans (eval_same _ 79 _ (put_lt (hsz' (by decide))))))))))))) (eval_same _ 81 _ (put_lt (put_lt (put_lt (put_lt (put_lt (put_lt (put_lt (put_lt (put_lt (put_lt (hsz' (by decide))))))))))))) ((eval_other _ 81 82 _ (by decide)).trans ((eval_other _ 80 82 _ (by decide)).trans ((eval_other _ 76 82 _ (by decide)).trans ((eval_other _ 75 82 _ (by decide)).trans ((eval_other _ 84 82 _ (by decide)).trans ((eval_other _ 83 82 _ (by decide)).trans ((eval_other _ 78 82 _ (by decide)).trans ((eval_other _ 77 82 _ (by decide)).trans (eval_same _ 82 _ (put_lt (put_lt (hsz' (by decide))))))))))))) ((eval_other _ 81 84 _ (by decide)).trans ((eval_other _ 80 84 _ (by decide)).trans ((eval_other _ 76 84 _ (by decide)).trans ((eval_other _ 75 84 _ (by decide)).trans (eval_same _ 84 _ (put_lt (put_lt (put_lt (put_lt (put_lt (put_lt (hsz' (by decide)))))))))))))) ?_
          have hrow : (t4.alloc (.cells #[.int .i64 0, .int .i64 0, .slice none 0 0, .int .i64 2, .int .i64 2, .slice q1 3 3, .int .i64 513, .int .i64 1, .slice q2 513 513, .int .i64 0, .int .i64 5, .slice none 0 0, .int .i64 (-1), .int .i64 (-1), .slice q3 1 1, .int .i64 4294967296, .int .i64 4294967296, .slice none 0 0, .int .i64 1, .int .i64 513, .slice q4 513 513] 24)).heap[t4.heap.size]? = some (.cells #[.int .i64 0, .int .i64 0, .slice none 0 0, .int .i64 2, .int .i64 2, .slice q1 3 3, .int .i64 513, .int .i64 1, .slice q2 513 513, .int .i64 0, .int .i64 5, .slice none 0 0, .int .i64 (-1), .int .i64 (-1), .slice q3 1 1, .int .i64 4294967296, .int .i64 4294967296, .slice none 0 0, .int .i64 1, .int .i64 513, .slice q4 513 513] 24 (0, 0)) := heap_alloc_new t4 _
          have hlo : w.heap.size ≤ t4.heap.size := hHeld.size
          refine hK.out _ _ (to_alloc hHeld _) (fun hHeld' => ?_)
          clear hK K hHeld
          generalize t4.alloc (.cells #[.int .i64 0, .int .i64 0, .slice none 0 0, .int .i64 2, .int .i64 2, .slice q1 3 3, .int .i64 513, .int .i64 1, .slice q2 513 513, .int .i64 0, .int .i64 5, .slice none 0 0, .int .i64 (-1), .int .i64 (-1), .slice q3 1 1, .int .i64 4294967296, .int .i64 4294967296, .slice none 0 0, .int .i64 1, .int .i64 513, .slice q4 513 513] 24) = tz at *
          generalize t4.heap.size = gb at *
          change wpAnyH _ _ _ _ _ _ _ (Act.put _ (some 85) _) _
          refine wpAnyH_take (i := 12) (oi := ro12) (v := .slice (some ⟨gb, 0, none⟩) 7 7) rfl (by kernel_rfl) (by kernel_rfl) (by kernel_rfl) (fun _ _ _ h => hQ _ _ _ _ _ h) (Or.inl ⟨by rfl, fun u _ => rx12 _ _ (eval_same _ 85 _ (put_lt (put_lt (put_lt (put_lt (put_lt (put_lt (put_lt (put_lt (put_lt (put_lt (put_lt (hsz' (by decide))))))))))))))⟩) (by assumption) ?_
          change wpAnyH _ _ _ _ _ _ _ (Act.put _ (some 3) _) _
          refine wpAnyH_done (by kernel_rfl) ?_ _
          have := h gb q1 q2 q3 q4 tz hHeld' hlo hrow
          simp only [ps74x3, ps79x77, ps79x78, ps79x75, ps79x76, ps79x3, ps82x77, ps82x78, ps82x75, ps82x76, ps82x80, ps82x81, ps82x3, ps77x75, ps77x76, ps77x3, ps78x75, ps78x76, ps78x3, ps83x75, ps83x76, ps83x80, ps83x81, ps83x3, ps84x75, ps84x76, ps84x80, ps84x81, ps84x3, ps75x3, ps76x3, ps80x3, ps81x3, ps85x3]
          exact this
      refine AllReadyH.cons (o := ro6) rfl (fun K hK => ?_) AllReadyH.nil
      · refine ready_val rfl (rx6 _ _) ?_
        refine hK.out _ _ (to_alloc hHeld _) (fun hHeld' => ?_)
        clear hK K hHeld
        have hHeld := hHeld'
        clear hHeld'
        generalize t2.alloc (.cells #[.int .u8 1] 5) = t3 at *
        generalize (some ⟨t2.heap.size, 0, none⟩ : Option Addr) = q3
        change wpAnyH _ _ _ _ _ _ _ (Act.put _ (some 80) _) _
        refine wpAnyH_take (i := 7) (oi := ro7) (v := .agg #[.int .i64 (-1), .int .i64 (-1), .slice q3 1 1]) rfl (by kernel_rfl) (by kernel_rfl) (by kernel_rfl) (fun _ _ _ h => hQ _ _ _ _ _ h) (Or.inl ⟨by rfl, fun u _ => rx7 _ _ (eval_same _ 80 _ (put_lt (put_lt (put_lt (put_lt (put_lt (put_lt (put_lt (hsz' (by decide))))))))))⟩) (by assumption) ?_
        change wpAnyH _ _ _ _ _ _ _ (Act.put _ (some 81) _) _
        refine wpAnyH_ready (rs := [1]) (by kernel_rfl) (by simp) ?_
        refine AllReadyH.cons (o := ro1) rfl (fun K hK => ?_) AllReadyH.nil
        · refine ready_val rfl (rx1 _ _) ?_
          refine hK.out _ _ (to_alloc hHeld _) (fun hHeld' => ?_)
          clear hK K hHeld
          have hHeld := hHeld'
          clear hHeld'
          generalize t3.alloc (.cells #[.int .u8 1, .int .u8 2, .int .u8 3] 5) = t4 at *
          generalize (some ⟨t3.heap.size, 0, none⟩ : Option Addr) = q1
          change wpAnyH _ _ _ _ _ _ _ (Act.put _ (some 75) _) _
          refine wpAnyH_take (i := 2) (oi := ro2) (v := .agg #[.int .i64 2, .int .i64 2, .slice q1 3 3]) rfl (by kernel_rfl) (by kernel_rfl) (by kernel_rfl) (fun _ _ _ h => hQ _ _ _ _ _ h) (Or.inl ⟨by rfl, fun u _ => rx2 _ _ (eval_same _ 75 _ (put_lt (put_lt (put_lt (put_lt (put_lt (put_lt (put_lt (put_lt (put_lt (hsz' (by decide))))))))))))⟩) (by assumption) ?_
          change wpAnyH _ _ _ _ _ _ _ (Act.put _ (some 76) _) _
          refine wpAnyH_ready (rs := [11]) (by kernel_rfl) (by simp) ?_
          refine AllReadyH.cons (o := ro11) rfl (fun K hK => ?_) AllReadyH.nil
          refine ready_val rfl (rx11 _ _ (q1 := q1) (q2 := q2) (q3 := q3) (q4 := q4) ((eval_other _ 76 74 _ (by decide)).trans ((eval_other _ 75 74 _ (by decide)).trans ((eval_other _ 81 74 _ (by decide)).trans ((eval_other _ 80 74 _ (by decide)).trans ((eval_other _ 84 74 _ (by decide)).trans ((eval_other _ 83 74 _ (by decide)).trans ((eval_other _ 78 74 _ (by decide)).trans ((eval_other _ 77 74 _ (by decide)).trans ((eval_other _ 82 74 _ (by decide)).trans ((eval_other _ 79 74 _ (by decide)).trans (eval_same _ 74 _ (hsz' (by decide))))))))))))) (eval_same _ 76 _ (put_lt (put_lt (put_lt (put_lt (put_lt (put_lt (put_lt (put_lt (put_lt (put_lt (hsz' (by decide))))))))))))) ((eval_other _ 76 78 _ (by decide)).trans ((eval_other _ 75 78 _ (by decide)).trans ((eval_other _ 81 78 _ (by decide)).trans ((eval_other _ 80 78 _ (by decide)).trans ((eval_other _ 84 78 _ (by decide)).trans ((eval_other _ 83 78 _ (by decide)).trans (eval_same _ 78 _ (put_lt (put_lt (put_lt (put_lt (hsz' (by decide))))))))))))) ((eval_other _ 76 79 _ (by decide)).trans ((eval_other _ 75 79 _ (by decide)).trans ((eval_other _ 81 79 _ (by decide)).trans ((eval_other _ 80 79 _ (by decide)).trans ((eval_other _ 84 79 _ (by decide)).trans ((eval_other _ 83 79 _ (by decide)).trans ((eval_other _ 78 79 _ (by decide)).trans ((eval_other _ 77 79 _ (by decide)).trans ((eval_other _ 82 79 _ (by decide)).trans (eval_same _ 79 _ (put_lt (hsz' (by decide))))))))))))) ((eval_other _ 76 81 _ (by decide)).trans ((eval_other _ 75 81 _ (by decide)).trans (eval_same _ 81 _ (put_lt (put_lt (put_lt (put_lt (put_lt (put_lt (put_lt (put_lt (hsz' (by decide))))))))))))) ((eval_other _ 76 82 _ (by decide)).trans ((eval_other _ 75 82 _ (by decide)).trans ((eval_other _ 81 82 _ (by decide)).trans ((eval_other _ 80 82 _ (by decide)).trans ((eval_other _ 84 82 _ (by decide)).trans ((eval_other _ 83 82 _ (by decide)).trans ((eval_other _ 78 82 _ (by decide)).trans ((eval_other _ 77 82 _ (by decide)).trans (eval_same _ 82 _ (put_lt (put_lt (hsz' (by decide))))))))))))) ((eval_other _ 76 84 _ (by decide)).trans ((eval_other _ 75 84 _ (by decide)).trans ((eval_other _ 81 84 _ (by decide)).trans ((eval_other _ 80 84 _ (by decide)).trans (eval_same _ 84 _ (put_lt (put_lt (put_lt (put_lt (put_lt (put_lt (hsz' (by decide)))))))))))))) ?_
          have hrow : (t4.alloc (.cells #[.int .i64 0, .int .i64 0, .slice none 0 0, .int .i64 2, .int .i64 2, .slice q1 3 3, .int .i64 513, .int .i64 1, .slice q2 513 513, .int .i64 0, .int .i64 5, .slice none 0 0, .int .i64 (-1), .int .i64 (-1), .slice q3 1 1, .int .i64 4294967296, .int .i64 4294967296, .slice none 0 0, .int .i64 1, .int .i64 513, .slice q4 513 513] 24)).heap[t4.heap.size]? = some (.cells #[.int .i64 0, .int .i64 0, .slice none 0 0, .int .i64 2, .int .i64 2, .slice q1 3 3, .int .i64 513, .int .i64 1, .slice q2 513 513, .int .i64 0, .int .i64 5, .slice none 0 0, .int .i64 (-1), .int .i64 (-1), .slice q3 1 1, .int .i64 4294967296, .int .i64 4294967296, .slice none 0 0, .int .i64 1, .int .i64 513, .slice q4 513 513] 24 (0, 0)) := heap_alloc_new t4 _
          have hlo : w.heap.size ≤ t4.heap.size := hHeld.size
          refine hK.out _ _ (to_alloc hHeld _) (fun hHeld' => ?_)
          clear hK K hHeld
          generalize t4.alloc (.cells #[.int .i64 0, .int .i64 0, .slice none 0 0, .int .i64 2, .int .i64 2, .slice q1 3 3, .int .i64 513, .int .i64 1, .slice q2 513 513, .int .i64 0, .int .i64 5, .slice none 0 0, .int .i64 (-1), .int .i64 (-1), .slice q3 1 1, .int .i64 4294967296, .int .i64 4294967296, .slice none 0 0, .int .i64 1, .int .i64 513, .slice q4 513 513] 24) = tz at *
          generalize t4.heap.size = gb at *
          change wpAnyH _ _ _ _ _ _ _ (Act.put _ (some 85) _) _
          refine wpAnyH_take (i := 12) (oi := ro12) (v := .slice (some ⟨gb, 0, none⟩) 7 7) rfl (by kernel_rfl) (by kernel_rfl) (by kernel_rfl) (fun _ _ _ h => hQ _ _ _ _ _ h) (Or.inl ⟨by rfl, fun u _ => rx12 _ _ (eval_same _ 85 _ (put_lt (put_lt (put_lt (put_lt (put_lt (put_lt (put_lt (put_lt (put_lt (put_lt (put_lt (hsz' (by decide))))))))))))))⟩) (by assumption) ?_
          change wpAnyH _ _ _ _ _ _ _ (Act.put _ (some 3) _) _
          refine wpAnyH_done (by kernel_rfl) ?_ _
          have := h gb q1 q2 q3 q4 tz hHeld' hlo hrow
          simp only [ps74x3, ps79x77, ps79x78, ps79x75, ps79x76, ps79x3, ps82x77, ps82x78, ps82x80, ps82x81, ps82x75, ps82x76, ps82x3, ps77x75, ps77x76, ps77x3, ps78x75, ps78x76, ps78x3, ps83x80, ps83x81, ps83x75, ps83x76, ps83x3, ps84x80, ps84x81, ps84x75, ps84x76, ps84x3, ps80x75, ps80x76, ps80x3, ps81x75, ps81x76, ps81x3, ps75x3, ps76x3, ps85x3]
          exact this
  refine AllReadyH.cons (o := ro6) rfl (fun K hK => ?_) ?_
  · refine ready_val rfl (rx6 _ _) ?_
    refine hK.out _ _ (to_alloc hHeld _) (fun hHeld' => ?_)
    clear hK K hHeld
    have hHeld := hHeld'
    clear hHeld'
    generalize t0.alloc (.cells #[.int .u8 1] 5) = t1 at *
    generalize (some ⟨t0.heap.size, 0, none⟩ : Option Addr) = q3
    change wpAnyH _ _ _ _ _ _ _ (Act.put _ (some 80) _) _
    refine wpAnyH_take (i := 7) (oi := ro7) (v := .agg #[.int .i64 (-1), .int .i64 (-1), .slice q3 1 1]) rfl (by kernel_rfl) (by kernel_rfl) (by kernel_rfl) (fun _ _ _ h => hQ _ _ _ _ _ h) (Or.inl ⟨by rfl, fun u _ => rx7 _ _ (eval_same _ 80 _ (put_lt (put_lt (put_lt (hsz' (by decide))))))⟩) (by assumption) ?_
    change wpAnyH _ _ _ _ _ _ _ (Act.put _ (some 81) _) _
    refine wpAnyH_ready (rs := [1, 3, 9]) (by kernel_rfl) (by simp) ?_
    refine AllReadyH.cons (o := ro1) rfl (fun K hK => ?_) ?_
    · refine ready_val rfl (rx1 _ _) ?_
      refine hK.out _ _ (to_alloc hHeld _) (fun hHeld' => ?_)
      clear hK K hHeld
      have hHeld := hHeld'
      clear hHeld'
      generalize t1.alloc (.cells #[.int .u8 1, .int .u8 2, .int .u8 3] 5) = t2 at *
      generalize (some ⟨t1.heap.size, 0, none⟩ : Option Addr) = q1
      change wpAnyH _ _ _ _ _ _ _ (Act.put _ (some 75) _) _
      refine wpAnyH_take (i := 2) (oi := ro2) (v := .agg #[.int .i64 2, .int .i64 2, .slice q1 3 3]) rfl (by kernel_rfl) (by kernel_rfl) (by kernel_rfl) (fun _ _ _ h => hQ _ _ _ _ _ h) (Or.inl ⟨by rfl, fun u _ => rx2 _ _ (eval_same _ 75 _ (put_lt (put_lt (put_lt (put_lt (put_lt (hsz' (by decide))))))))⟩) (by assumption) ?_
      change wpAnyH _ _ _ _ _ _ _ (Act.put _ (some 76) _) _
      refine wpAnyH_ready (rs := [3, 9]) (by kernel_rfl) (by simp) ?_
      refine AllReadyH.cons (o := ro3) rfl (fun K hK => ?_) ?_
      · refine ready_val rfl (hmk3.out _ t2) ?_
        refine hK.out _ _ (to_alloc hHeld _) (fun hHeld' => ?_)
        clear hK K hHeld
        have hHeld := hHeld'
        clear hHeld'
        generalize t2.alloc ob3 = t3 at *
        generalize (some ⟨t2.heap.size, 0, none⟩ : Option Addr) = q2
        change wpAnyH _ _ _ _ _ _ _ (Act.put _ (some 77) _) _
        refine wpAnyH_take (i := 4) (oi := ro4) (v := .agg #[.int .i64 513, .int .i64 1, .slice q2 513 513]) rfl (by kernel_rfl) (by kernel_rfl) (by kernel_rfl) (fun _ _ _ h => hQ _ _ _ _ _ h) (Or.inl ⟨by rfl, fun u _ => rx4 _ _ (eval_same _ 77 _ (put_lt (put_lt (put_lt (put_lt (put_lt (put_lt (put_lt (hsz' (by decide))))))))))⟩) (by assumption) ?_
        change wpAnyH _ _ _ _ _ _ _ (Act.put _ (some 78) _) _
        refine wpAnyH_ready (rs := [9]) (by kernel_rfl) (by simp) ?_
        refine AllReadyH.cons (o := ro9) rfl (fun K hK => ?_) AllReadyH.nil
        · refine ready_val rfl (hmk9.out _ t3) ?_
          refine hK.out _ _ (to_alloc hHeld _) (fun hHeld' => ?_)
          clear hK K hHeld
          have hHeld := hHeld'
          clear hHeld'
          generalize t3.alloc ob9 = t4 at *
          generalize (some ⟨t3.heap.size, 0, none⟩ : Option Addr) = q4
          change wpAnyH _ _ _ _ _ _ _ (Act.put _ (some 83) _) _
          refine wpAnyH_take (i := 10) (oi := ro10) (v := .agg #[.int .i64 1, .int .i64 513, .slice q4 513 513]) rfl (by kernel_rfl) (by kernel_rfl) (by kernel_rfl) (fun _ _ _ h => hQ _ _ _ _ _ h) (Or.inl ⟨by rfl, fun u _ => rx10 _ _ (eval_same _ 83 _ (put_lt (put_lt (put_lt (put_lt (put_lt (put_lt (put_lt (put_lt (put_lt (hsz' (by decide))))))))))))⟩) (by assumption) ?_
          change wpAnyH _ _ _ _ _ _ _ (Act.put _ (some 84) _) _
          refine wpAnyH_ready (rs := [11]) (by kernel_rfl) (by simp) ?_
          refine AllReadyH.cons (o := ro11) rfl (fun K hK => ?_) AllReadyH.nil
          refine ready_val rfl (rx11 _ _ (q1 := q1) (q2 := q2) (q3 := q3) (q4 := q4) ((eval_other _ 84 74 _ (by decide)).trans ((eval_other _ 83 74 _ (by decide)).trans ((eval_other _ 78 74 _ (by decide)).trans ((eval_other _ 77 74 _ (by decide)).trans ((eval_other _ 76 74 _ (by decide)).trans ((eval_other _ 75 74 _ (by decide)).trans ((eval_other _ 81 74 _ (by decide)).trans ((eval_other _ 80 74 _ (by decide)).trans ((eval_other _ 82 74 _ (by decide)).trans ((eval_other _ 79 74 _ (by decide)).trans (eval_same _ 74 _ (hsz' (by decide))))))))))))) ((eval_other _ 84 76 _ (by decide)).trans ((eval_other _ 83 76 _ (by decide)).trans ((eval_other _ 78 76 _ (by decide)).trans ((eval_other _ 77 76 _ (by decide)).trans (eval_same _ 76 _ (put_lt (put_lt (put_lt (put_lt (put_lt (put_lt (hsz' (by decide))))))))))))) ((eval_other _ 84 78 _ (by decide)).trans ((eval_other _ 83 78 _ (by decide)).trans (eval_same _ 78 _ (put_lt (put_lt (put_lt (put_lt (put_lt (put_lt (put_lt (put_lt (hsz' (by decide))))))))))))) ((eval_other _ 84 79 _ (by decide)).trans ((eval_other _ 83 79 _ (by decide)).trans ((eval_other _ 78 79 _ (by decide)).trans ((eval_other _ 77 79 _ (by decide)).trans ((eval_other _ 76 79 _ (by decide)).trans ((eval_other _ 75 79 _ (by decide)).trans ((eval_other _ 81 79 _ (by decide)).trans ((eval_other _ 80 79 _ (by decide)).trans ((eval_other _ 82 79 _ (by decide)).trans (eval_same _ 79 _ (put_lt (hsz' (by decide))))))))))))) ((eval_other _ 84 81 _ (by decide)).trans ((eval_other _ 83 81 _ (by decide)).trans ((eval_other _ 78 81 _ (by decide)).trans ((eval_other _ 77 81 _ (by decide)).trans ((eval_other _ 76 81 _ (by decide)).trans ((eval_other _ 75 81 _ (by decide)).trans (eval_same _ 81 _ (put_lt (put_lt (put_lt (put_lt (hsz' (by decide))))))))))))) ((eval_other _ 84 82 _ (by decide)).trans ((eval_other _ 83 82 _ (by decide)).trans ((eval_other _ 78 82 _ (by decide)).trans ((eval_other _ 77 82 _ (by decide)).trans ((eval_other _ 76 82 _ (by decide)).trans ((eval_other _ 75 82 _ (by decide)).trans ((eval_other _ 81 82 _ (by decide)).trans ((eval_other _ 80 82 _ (by decide)).trans (eval_same _ 82 _ (put_lt (put_lt (hsz' (by decide))))))))))))) (eval_same _ 84 _ (put_lt (put_lt (put_lt (put_lt (put_lt (put_lt (put_lt (put_lt (put_lt (put_lt (hsz' (by decide)))))))))))))) ?_
          have hrow : (t4.alloc (.cells #[.int .i64 0, .int .i64 0, .slice none 0 0, .int .i64 2, .int .i64 2, .slice q1 3 3, .int .i64 513, .int .i64 1, .slice q2 513 513, .int .i64 0, .int .i64 5, .slice none 0 0, .int .i64 (-1), .int .i64 (-1), .slice q3 1 1, .int .i64 4294967296, .int .i64 4294967296, .slice none 0 0, .int .i64 1, .int .i64 513, .slice q4 513 513] 24)).heap[t4.heap.size]? = some (.cells #[.int .i64 0, .int .i64 0, .slice none 0 0, .int .i64 2, .int .i64 2, .slice q1 3 3, .int .i64 513, .int .i64 1, .slice q2 513 513, .int .i64 0, .int .i64 5, .slice none 0 0, .int .i64 (-1), .int .i64 (-1), .slice q3 1 1, .int .i64 4294967296, .int .i64 4294967296, .slice none 0 0, .int .i64 1, .int .i64 513, .slice q4 513 513] 24 (0, 0)) := heap_alloc_new t4 _
          have hlo : w.heap.size ≤ t4.heap.size := hHeld.size
          refine hK.out _ _ (to_alloc hHeld _) (fun hHeld' => ?_)
          clear hK K hHeld
          generalize t4.alloc (.cells #[.int .i64 0, .int .i64 0, .slice none 0 0, .int .i64 2, .int .i64 2, .slice q1 3 3, .int .i64 513, .int .i64 1, .slice q2 513 513, .int .i64 0, .int .i64 5, .slice none 0 0, .int .i64 (-1), .int .i64 (-1), .slice q3 1 1, .int .i64 4294967296, .int .i64 4294967296, .slice none 0 0, .int .i64 1, .int .i64 513, .slice q4 513 513] 24) = tz at *
          generalize t4.heap.size = gb at *
          change wpAnyH _ _ _ _ _ _ _ (Act.put _ (some 85) _) _
          refine wpAnyH_take (i := 12) (oi := ro12) (v := .slice (some ⟨gb, 0, none⟩) 7 7) rfl (by kernel_rfl) (by kernel_rfl) (by kernel_rfl) (fun _ _ _ h => hQ _ _ _ _ _ h) (Or.inl ⟨by rfl, fun u _ => rx12 _ _ (eval_same _ 85 _ (put_lt (put_lt (put_lt (put_lt (put_lt (put_lt (put_lt (put_lt (put_lt (put_lt (put_lt (hsz' (by decide))))))))))))))⟩) (by assumption) ?_
          change wpAnyH _ _ _ _ _ _ _ (Act.put _ (some 3) _) _
          refine wpAnyH_done (by kernel_rfl) ?_ _
          have := h gb q1 q2 q3 q4 tz hHeld' hlo hrow
          simp only [ps74x3, ps79x75, ps79x76, ps79x77, ps79x78, ps79x3, ps82x80, ps82x81, ps82x75, ps82x76, ps82x77, ps82x78, ps82x3, ps80x75, ps80x76, ps80x77, ps80x78, ps80x3, ps81x75, ps81x76, ps81x77, ps81x78, ps81x3, ps75x3, ps76x3, ps77x3, ps78x3, ps83x3, ps84x3, ps85x3]
          exact this
      refine AllReadyH.cons (o := ro9) rfl (fun K hK => ?_) AllReadyH.nil
      · refine ready_val rfl (hmk9.out _ t2) ?_
        refine hK.out _ _ (to_alloc hHeld _) (fun hHeld' => ?_)
        clear hK K hHeld
        have hHeld := hHeld'
        clear hHeld'
        generalize t2.alloc ob9 = t3 at *
        generalize (some ⟨t2.heap.size, 0, none⟩ : Option Addr) = q4
        change wpAnyH _ _ _ _ _ _ _ (Act.put _ (some 83) _) _
        refine wpAnyH_take (i := 10) (oi := ro10) (v := .agg #[.int .i64 1, .int .i64 513, .slice q4 513 513]) rfl (by kernel_rfl) (by kernel_rfl) (by kernel_rfl) (fun _ _ _ h => hQ _ _ _ _ _ h) (Or.inl ⟨by rfl, fun u _ => rx10 _ _ (eval_same _ 83 _ (put_lt (put_lt (put_lt (put_lt (put_lt (put_lt (put_lt (hsz' (by decide))))))))))⟩) (by assumption) ?_
        change wpAnyH _ _ _ _ _ _ _ (Act.put _ (some 84) _) _
        refine wpAnyH_ready (rs := [3]) (by kernel_rfl) (by simp) ?_
        refine AllReadyH.cons (o := ro3) rfl (fun K hK => ?_) AllReadyH.nil
        · refine ready_val rfl (hmk3.out _ t3) ?_
          refine hK.out _ _ (to_alloc hHeld _) (fun hHeld' => ?_)
          clear hK K hHeld
          have hHeld := hHeld'
          clear hHeld'
          generalize t3.alloc ob3 = t4 at *
          generalize (some ⟨t3.heap.size, 0, none⟩ : Option Addr) = q2
          change wpAnyH _ _ _ _ _ _ _ (Act.put _ (some 77) _) _
          refine wpAnyH_take (i := 4) (oi := ro4) (v := .agg #[.int .i64 513, .int .i64 1, .slice q2 513 513]) rfl (by kernel_rfl) (by kernel_rfl) (by kernel_rfl) (fun _ _ _ h => hQ _ _ _ _ _ h) (Or.inl ⟨by rfl, fun u _ => rx4 _ _ (eval_same _ 77 _ (put_lt (put_lt (put_lt (put_lt (put_lt (put_lt (put_lt (put_lt (put_lt (hsz' (by decide))))))))))))⟩) (by assumption) ?_
          change wpAnyH _ _ _ _ _ _ _ (Act.put _ (some 78) _) _
          refine wpAnyH_ready (rs := [11]) (by kernel_rfl) (by simp) ?_
          refine AllReadyH.cons (o := ro11) rfl (fun K hK => ?_) AllReadyH.nil
          refine ready_val rfl (rx11 _ _ (q1 := q1) (q2 := q2) (q3 := q3) (q4 := q4) ((eval_other _ 78 74 _ (by decide)).trans ((eval_other _ 77 74 _ (by decide)).trans ((eval_other _ 84 74 _ (by decide)).trans ((eval_other _ 83 74 _ (by decide)).trans ((eval_other _ 76 74 _ (by decide)).trans ((eval_other _ 75 74 _ (by decide)).trans ((eval_other _ 81 74 _ (by decide)).trans ((eval_other _ 80 74 _ (by decide)).trans ((eval_other _ 82 74 _ (by decide)).trans ((eval_other _ 79 74 _ (by decide)).trans (eval_same _ 74 _ (hsz' (by decide))))))))))))) ((eval_other _ 78 76 _ (by decide)).trans ((eval_other _ 77 76 _ (by decide)).trans ((eval_other _ 84 76 _ (by decide)).trans ((eval_other _ 83 76 _ (by decide)).trans (eval_same _ 76 _ (put_lt (put_lt (put_lt (put_lt (put_lt (put_lt (hsz' (by decide))))))))))))) (eval_same _ 78 _ (put_lt (put_lt (put_lt (put_lt (put_lt (put_lt (put_lt (put_lt (put_lt (put_lt (hsz' (by decide))))))))))))) ((eval_other _ 78 79 _ (by decide)).trans ((eval_other _ 77 79 _ (by decide)).trans ((eval_other _ 84 79 _ (by decide)).trans ((eval_other _ 83 79 _ (by decide)).trans ((eval_other _ 76 79 _ (by decide)).trans ((eval_other _ 75 79 _ (by decide)).trans ((eval_other _ 81 79 _ (by decide)).trans ((eval_other _ 80 79 _ (by decide)).trans ((eval_other _ 82 79 _ (by decide)).trans (eval_same _ 79 _ (put_lt (hsz' (by decide))))))))))))) ((eval_other _ 78 81 _ (by decide)).trans ((eval_other _ 77 81 _ (by decide)).trans ((eval_other _ 84 81 _ (by decide)).trans ((eval_other _ 83 81 _ (by decide)).trans ((eval_other _ 76 81 _ (by decide)).trans ((eval_other _ 75 81 _ (by decide)).trans (eval_same _ 81 _ (put_lt (put_lt (put_lt (put_lt (hsz' (by decide))))))))))))) ((eval_other _ 78 82 _ (by decide)).trans ((eval_other _ 77 82 _ (by decide)).trans ((eval_other _ 84 82 _ (by decide)).trans ((eval_other _ 83 82 _ (by decide)).trans ((eval_other _ 76 82 _ (by decide)).trans ((eval_other _ 75 82 _ (by decide)).trans ((eval_other _ 81 82 _ (by decide)).trans ((eval_other _ 80 82 _ (by decide)).trans (eval_same _ 82 _ (put_lt (put_lt (hsz' (by decide))))))))))))) ((eval_other _ 78 84 _ (by decide)).trans ((eval_other _ 77 84 _ (by decide)).trans (eval_same _ 84 _ (put_lt (put_lt (put_lt (put_lt (put_lt (put_lt (put_lt (put_lt (hsz' (by decide)))))))))))))) ?_
          have hrow : (t4.alloc (.cells #[.int .i64 0, .int .i64 0, .slice none 0 0, .int .i64 2, .int .i64 2, .slice q1 3 3, .int .i64 513, .int .i64 1, .slice q2 513 513, .int .i64 0, .int .i64 5, .slice none 0 0, .int .i64 (-1), .int .i64 (-1), .slice q3 1 1, .int .i64 4294967296, .int .i64 4294967296, .slice none 0 0, .int .i64 1, .int .i64 513, .slice q4 513 513] 24)).heap[t4.heap.size]? = some (.cells #[.int .i64 0, .int .i64 0, .slice none 0 0, .int .i64 2, .int .i64 2, .slice q1 3 3, .int .i64 513, .int .i64 1, .slice q2 513 513, .int .i64 0, .int .i64 5, .slice none 0 0, .int .i64 (-1), .int .i64 (-1), .slice q3 1 1, .int .i64 4294967296, .int .i64 4294967296, .slice none 0 0, .int .i64 1, .int .i64 513, .slice q4 513 513] 24 (0, 0)) := heap_alloc_new t4 _
          have hlo : w.heap.size ≤ t4.heap.size := hHeld.size
          refine hK.out _ _ (to_alloc hHeld _) (fun hHeld' => ?_)
          clear hK K hHeld
          generalize t4.alloc (.cells #[.int .i64 0, .int .i64 0, .slice none 0 0, .int .i64 2, .int .i64 2, .slice q1 3 3, .int .i64 513, .int .i64 1, .slice q2 513 513, .int .i64 0, .int .i64 5, .slice none 0 0, .int .i64 (-1), .int .i64 (-1), .slice q3 1 1, .int .i64 4294967296, .int .i64 4294967296, .slice none 0 0, .int .i64 1, .int .i64 513, .slice q4 513 513] 24) = tz at *
          generalize t4.heap.size = gb at *
          change wpAnyH _ _ _ _ _ _ _ (Act.put _ (some 85) _) _
          refine wpAnyH_take (i := 12) (oi := ro12) (v := .slice (some ⟨gb, 0, none⟩) 7 7) rfl (by kernel_rfl) (by kernel_rfl) (by kernel_rfl) (fun _ _ _ h => hQ _ _ _ _ _ h) (Or.inl ⟨by rfl, fun u _ => rx12 _ _ (eval_same _ 85 _ (put_lt (put_lt (put_lt (put_lt (put_lt (put_lt (put_lt (put_lt (put_lt (put_lt (put_lt (hsz' (by decide))))))))))))))⟩) (by assumption) ?_
          change wpAnyH _ _ _ _ _ _ _ (Act.put _ (some 3) _) _
          refine wpAnyH_done (by kernel_rfl) ?_ _
          have := h gb q1 q2 q3 q4 tz hHeld' hlo hrow
          simp only [ps74x3, ps79x75, ps79x76, ps79x77, ps79x78, ps79x3, ps82x80, ps82x81, ps82x75, ps82x76, ps82x77, ps82x78, ps82x3, ps80x75, ps80x76, ps80x77, ps80x78, ps80x3, ps81x75, ps81x76, ps81x77, ps81x78, ps81x3, ps75x3, ps76x3, ps83x77, ps83x78, ps83x3, ps84x77, ps84x78, ps84x3, ps77x3, ps78x3, ps85x3]
          exact this
    refine AllReadyH.cons (o := ro3) rfl (fun K hK => ?_) ?_
    · refine ready_val rfl (hmk3.out _ t1) ?_
      refine hK.out _ _ (to_alloc hHeld _) (fun hHeld' => ?_)
      clear hK K hHeld
      have hHeld := hHeld'
      clear hHeld'
      generalize t1.alloc ob3 = t2 at *
      generalize (some ⟨t1.heap.size, 0, none⟩ : Option Addr) = q2
      change wpAnyH _ _ _ _ _ _ _ (Act.put _ (some 77) _) _
      refine wpAnyH_take (i := 4) (oi := ro4) (v := .agg #[.int .i64 513, .int .i64 1, .slice q2 513 513]) rfl (by kernel_rfl) (by kernel_rfl) (by kernel_rfl) (fun _ _ _ h => hQ _ _ _ _ _ h) (Or.inl ⟨by rfl, fun u _ => rx4 _ _ (eval_same _ 77 _ (put_lt (put_lt (put_lt (put_lt (put_lt (hsz' (by decide))))))))⟩) (by assumption) ?_
      change wpAnyH _ _ _ _ _ _ _ (Act.put _ (some 78) _) _
      refine wpAnyH_ready (rs := [1, 9]) (by kernel_rfl) (by simp) ?_
      refine AllReadyH.cons (o := ro1) rfl (fun K hK => ?_) ?_
      · refine ready_val rfl (rx1 _ _) ?_
        refine hK.out _ _ (to_alloc hHeld _) (fun hHeld' => ?_)
        clear hK K hHeld
        have hHeld := hHeld'
        clear hHeld'
        generalize t2.alloc (.cells #[.int .u8 1, .int .u8 2, .int .u8 3] 5) = t3 at *
        generalize (some ⟨t2.heap.size, 0, none⟩ : Option Addr) = q1
        change wpAnyH _ _ _ _ _ _ _ (Act.put _ (some 75) _) _
        refine wpAnyH_take (i := 2) (oi := ro2) (v := .agg #[.int .i64 2, .int .i64 2, .slice q1 3 3]) rfl (by kernel_rfl) (by kernel_rfl) (by kernel_rfl) (fun _ _ _ h => hQ _ _ _ _ _ h) (Or.inl ⟨by rfl, fun u _ => rx2 _ _ (eval_same _ 75 _ (put_lt (put_lt (put_lt (put_lt (put_lt (put_lt (put_lt (hsz' (by decide))))))))))⟩) (by assumption) ?_
        change wpAnyH _ _ _ _ _ _ _ (Act.put _ (some 76) _) _
        refine wpAnyH_ready (rs := [9]) (by kernel_rfl) (by simp) ?_
        refine AllReadyH.cons (o := ro9) rfl (fun K hK => ?_) AllReadyH.nil
        · refine ready_val rfl (hmk9.out _ t3) ?_
          refine hK.out _ _ (to_alloc hHeld _) (fun hHeld' => ?_)
          clear hK K hHeld
          have hHeld := hHeld'
          clear hHeld'
          generalize t3.alloc ob9 = t4 at *
          generalize (some ⟨t3.heap.size, 0, none⟩ : Option Addr) = q4
          change wpAnyH _ _ _ _ _ _ _ (Act.put _ (some 83) _) _
          refine wpAnyH_take (i := 10) (oi := ro10) (v := .agg #[.int .i64 1, .int .i64 513, .slice q4 513 513]) rfl (by kernel_rfl) (by kernel_rfl) (by kernel_rfl) (fun _ _ _ h => hQ _ _ _ _ _ h) (Or.inl ⟨by rfl, fun u _ => rx10 _ _ (eval_same _ 83 _ (put_lt (put_lt (put_lt (put_lt (put_lt (put_lt (put_lt (put_lt (put_lt (hsz' (by decide))))))))))))⟩) (by assumption) ?_
          change wpAnyH _ _ _ _ _ _ _ (Act.put _ (some 84) _) _
          refine wpAnyH_ready (rs := [11]) (by kernel_rfl) (by simp) ?_
          refine AllReadyH.cons (o := ro11) rfl (fun K hK => ?_) AllReadyH.nil
          refine ready_val rfl (rx11 _ _ (q1 := q1) (q2 := q2) (q3 := q3) (q4 := q4) ((eval_other _ 84 74 _ (by decide)).trans ((eval_other _ 83 74 _ (by decide)).trans ((eval_other _ 76 74 _ (by decide)).trans ((eval_other _ 75 74 _ (by decide)).trans ((eval_other _ 78 74 _ (by decide)).trans ((eval_other _ 77 74 _ (by decide)).trans ((eval_other _ 81 74 _ (by decide)).trans ((eval_other _ 80 74 _ (by decide)).trans ((eval_other _ 82 74 _ (by decide)).trans ((eval_other _ 79 74 _ (by decide)).trans (eval_same _ 74 _ (hsz' (by decide))))))))))))) ((eval_other _ 84 76 _ (by decide)).trans ((eval_other _ 83 76 _ (by decide)).trans (eval_same _ 76 _ (put_lt (put_lt (put_lt (put_lt (put_lt (put_lt (put_lt (put_lt (hsz' (by decide))))))))))))) ((eval_other _ 84 78 _ (by decide)).trans ((eval_other _ 83 78 _ (by decide)).trans ((eval_other _ 76 78 _ (by decide)).trans ((eval_other _ 75 78 _ (by decide)).trans (eval_same _ 78 _ (put_lt (put_lt (put_lt (put_lt (put_lt (put_lt (hsz' (by decide))))))))))))) ((eval_other _ 84 79 _ (by decide)).trans ((eval_other _ 83 79 _ (by decide)).trans ((eval_other _ 76 79 _ (by decide)).trans ((eval_other _ 75 79 _ (by decide)).trans ((eval_other _ 78 79 _ (by decide)).trans ((eval_other _ 77 79 _ (by decide)).trans ((eval_other _ 81 79 _ (by decide)).trans ((eval_other _ 80 79 _ (by decide)).trans ((eval_other _ 82 79 _ (by decide)).trans (eval_same _ 79 _ (put_lt (hsz' (by decide))))))))))))) ((eval_other _ 84 81 _ (by decide)).trans ((eval_other _ 83 81 _ (by decide)).trans ((eval_other _ 76 81 _ (by decide)).trans ((eval_other _ 75 81 _ (by decide)).trans ((eval_other _ 78 81 _ (by decide)).trans ((eval_other _ 77 81 _ (by decide)).trans (eval_same _ 81 _ (put_lt (put_lt (put_lt (put_lt (hsz' (by decide))))))))))))) ((eval_other _ 84 82 _ (by decide)).trans ((eval_other _ 83 82 _ (by decide)).trans ((eval_other _ 76 82 _ (by decide)).trans ((eval_other _ 75 82 _ (by decide)).trans ((eval_other _ 78 82 _ (by decide)).trans ((eval_other _ 77 82 _ (by decide)).trans ((eval_other _ 81 82 _ (by decide)).trans ((eval_other _ 80 82 _ (by decide)).trans (eval_same _ 82 _ (put_lt (put_lt (hsz' (by decide))))))))))))) (eval_same _ 84 _ (put_lt (put_lt (put_lt (put_lt (put_lt (put_lt (put_lt (put_lt (put_lt (put_lt (hsz' (by decide)))))))))))))) ?_
          have hrow : (t4.alloc (.cells #[.int .i64 0, .int .i64 0, .slice none 0 0, .int .i64 2, .int .i64 2, .slice q1 3 3, .int .i64 513, .int .i64 1, .slice q2 513 513, .int .i64 0, .int .i64 5, .slice none 0 0, .int .i64 (-1), .int .i64 (-1), .slice q3 1 1, .int .i64 4294967296, .int .i64 4294967296, .slice none 0 0, .int .i64 1, .int .i64 513, .slice q4 513 513] 24)).heap[t4.heap.size]? = some (.cells #[.int .i64 0, .int .i64 0, .slice none 0 0, .int .i64 2, .int .i64 2, .slice q1 3 3, .int .i64 513, .int .i64 1, .slice q2 513 513, .int .i64 0, .int .i64 5, .slice none 0 0, .int .i64 (-1), .int .i64 (-1), .slice q3 1 1, .int .i64 4294967296, .int .i64 4294967296, .slice none 0 0, .int .i64 1, .int .i64 513, .slice q4 513 513] 24 (0, 0)) := heap_alloc_new t4 _
          have hlo : w.heap.size ≤ t4.heap.size := hHeld.size
          refine hK.out _ _ (to_alloc hHeld _) (fun hHeld' => ?_)
          clear hK K hHeld
          generalize t4.alloc (.cells #[.int .i64 0, .int .i64 0, .slice none 0 0, .int .i64 2, .int .i64 2, .slice q1 3 3, .int .i64 513, .int .i64 1, .slice q2 513 513, .int .i64 0, .int .i64 5, .slice none 0 0, .int .i64 (-1), .int .i64 (-1), .slice q3 1 1, .int .i64 4294967296, .int .i64 4294967296, .slice none 0 0, .int .i64 1, .int .i64 513, .slice q4 513 513] 24) = tz at *
          generalize t4.heap.size = gb at *
          change wpAnyH _ _ _ _ _ _ _ (Act.put _ (some 85) _) _
          refine wpAnyH_take (i := 12) (oi := ro12) (v := .slice (some ⟨gb, 0, none⟩) 7 7) rfl (by kernel_rfl) (by kernel_rfl) (by kernel_rfl) (fun _ _ _ h => hQ _ _ _ _ _ h) (Or.inl ⟨by rfl, fun u _ => rx12 _ _ (eval_same _ 85 _ (put_lt (put_lt (put_lt (put_lt (put_lt (put_lt (put_lt (put_lt (put_lt (put_lt (put_lt (hsz' (by decide))))))))))))))⟩) (by assumption) ?_
          change wpAnyH _ _ _ _ _ _ _ (Act.put _ (some 3) _) _
          refine wpAnyH_done (by kernel_rfl) ?_ _
          have := h gb q1 q2 q3 q4 tz hHeld' hlo hrow
          simp only [ps74x3, ps79x77, ps79x78, ps79x75, ps79x76, ps79x3, ps82x80, ps82x81, ps82x77, ps82x78, ps82x75, ps82x76, ps82x3, ps80x77, ps80x78, ps80x75, ps80x76, ps80x3, ps81x77, ps81x78, ps81x75, ps81x76, ps81x3, ps77x75, ps77x76, ps77x3, ps78x75, ps78x76, ps78x3, ps75x3, ps76x3, ps83x3, ps84x3, ps85x3]
          exact this
      refine AllReadyH.cons (o := ro9) rfl (fun K hK => ?_) AllReadyH.nil
      · refine ready_val rfl (hmk9.out _ t2) ?_
        refine hK.out _ _ (to_alloc hHeld _) (fun hHeld' => ?_)
        clear hK K hHeld
        have hHeld := hHeld'
        clear hHeld'
        generalize t2.alloc ob9 = t3 at *
        generalize (some ⟨t2.heap.size, 0, none⟩ : Option Addr) = q4
        change wpAnyH _ _ _ _ _ _ _ (Act.put _ (some 83) _) _
        refine wpAnyH_take (i := 10) (oi := ro10) (v := .agg #[.int .i64 1, .int .i64 513, .slice q4 513 513]) rfl (by kernel_rfl) (by kernel_rfl) (by kernel_rfl) (fun _ _ _ h => hQ _ _ _ _ _ h) (Or.inl ⟨by rfl, fun u _ => rx10 _ _ (eval_same _ 83 _ (put_lt (put_lt (put_lt (put_lt (put_lt (put_lt (put_lt (hsz' (by decide))))))))))⟩) (by assumption) ?_
        change wpAnyH _ _ _ _ _ _ _ (Act.put _ (some 84) _) _
        refine wpAnyH_ready (rs := [1]) (by kernel_rfl) (by simp) ?_
        refine AllReadyH.cons (o := ro1) rfl (fun K hK => ?_) AllReadyH.nil
        · refine ready_val rfl (rx1 _ _) ?_
          refine hK.out _ _ (to_alloc hHeld _) (fun hHeld' => ?_)
          clear hK K hHeld
          have hHeld := hHeld'
          clear hHeld'
          generalize t3.alloc (.cells #[.int .u8 1, .int .u8 2, .int .u8 3] 5) = t4 at *
          generalize (some ⟨t3.heap.size, 0, none⟩ : Option Addr) = q1
          change wpAnyH _ _ _ _ _ _ _ (Act.put _ (some 75) _) _
          refine wpAnyH_take (i := 2) (oi := ro2) (v := .agg #[.int .i64 2, .int .i64 2, .slice q1 3 3]) rfl (by kernel_rfl) (by kernel_rfl) (by kernel_rfl) (fun _ _ _ h => hQ _ _ _ _ _ h) (Or.inl ⟨by rfl, fun u _ => rx2 _ _ (eval_same _ 75 _ (put_lt (put_lt (put_lt (put_lt (put_lt (put_lt (put_lt (put_lt (put_lt (hsz' (by decide))))))))))))⟩) (by assumption) ?_
          change wpAnyH _ _ _ _ _ _ _ (Act.put _ (some 76) _) _
          refine wpAnyH_ready (rs := [11]) (by kernel_rfl) (by simp) ?_
          refine AllReadyH.cons (o := ro11) rfl (fun K hK => ?_) AllReadyH.nil
          refine ready_val rfl (rx11 _ _ (q1 := q1) (q2 := q2) (q3 := q3) (q4 := q4) ((eval_other _ 76 74 _ (by decide)).trans ((eval_other _ 75 74 _ (by decide)).trans ((eval_other _ 84 74 _ (by decide)).trans ((eval_other _ 83 74 _ (by decide)).trans ((eval_other _ 78 74 _ (by decide)).trans ((eval_other _ 77 74 _ (by decide)).trans ((eval_other _ 81 74 _ (by decide)).trans ((eval_other _ 80 74 _ (by decide)).trans ((eval_other _ 82 74 _ (by decide)).trans ((eval_other _ 79 74 _ (by decide)).trans (eval_same _ 74 _ (hsz' (by decide))))))))))))) (eval_same _ 76 _ (put_lt (put_lt (put_lt (put_lt (put_lt (put_lt (put_lt (put_lt (put_lt (put_lt (hsz' (by decide))))))))))))) ((eval_other _ 76 78 _ (by decide)).trans ((eval_other _ 75 78 _ (by decide)).trans ((eval_other _ 84 78 _ (by decide)).trans ((eval_other _ 83 78 _ (by decide)).trans (eval_same _ 78 _ (put_lt (put_lt (put_lt (put_lt (put_lt (put_lt (hsz' (by decide))))))))))))) ((eval_other _ 76 79 _ (by decide)).trans ((eval_other _ 75 79 _ (by decide)).trans ((eval_other _ 84 79 _ (by decide)).trans ((eval_other _ 83 79 _ (by decide)).trans ((eval_other _ 78 79 _ (by decide)).trans ((eval_other _ 77 79 _ (by decide)).trans ((eval_other _ 81 79 _ (by decide)).trans ((eval_other _ 80 79 _ (by decide)).trans ((eval_other _ 82 79 _ (by decide)).trans (eval_same _ 79 _ (put_lt (hsz' (by decide))))))))))))) ((eval_other _ 76 81 _ (by decide)).trans ((eval_other _ 75 81 _ (by decide)).trans ((eval_other _ 84 81 _ (by decide)).trans ((eval_other _ 83 81 _ (by decide)).trans ((eval_other _ 78 81 _ (by decide)).trans ((eval_other _ 77 81 _ (by decide)).trans (eval_same _ 81 _ (put_lt (put_lt (put_lt (put_lt (hsz' (by decide))))))))))))) ((eval_other _ 76 82 _ (by decide)).trans ((eval_other _ 75 82 _ (by decide)).trans ((eval_other _ 84 82 _ (by decide)).trans ((eval_other _ 83 82 _ (by decide)).trans ((eval_other _ 78 82 _ (by decide)).trans ((eval_other _ 77 82 _ (by decide)).trans ((eval_other _ 81 82 _ (by decide)).trans ((eval_other _ 80 82 _ (by decide)).trans (eval_same _ 82 _ (put_lt (put_lt (hsz' (by decide))))))))))))) ((eval_other _ 76 84 _ (by decide)).trans ((eval_other _ 75 84 _ (by decide)).trans (eval_same _ 84 _ (put_lt (put_lt (put_lt (put_lt (put_lt (put_lt (put_lt (put_lt (hsz' (by decide)))))))))))))) ?_
          have hrow : (t4.alloc (.cells #[.int .i64 0, .int .i64 0, .slice none 0 0, .int .i64 2, .int .i64 2, .slice q1 3 3, .int .i64 513, .int .i64 1, .slice q2 513 513, .int .i64 0, .int .i64 5, .slice none 0 0, .int .i64 (-1), .int .i64 (-1), .slice q3 1 1, .int .i64 4294967296, .int .i64 4294967296, .slice none 0 0, .int .i64 1, .int .i64 513, .slice q4 513 513] 24)).heap[t4.heap.size]? = some (.cells #[.int .i64 0, .int .i64 0, .slice none 0 0, .int .i64 2, .int .i64 2, .slice q1 3 3, .int .i64 513, .int .i64 1, .slice q2 513 513, .int .i64 0, .int .i64 5, .slice none 0 0, .int .i64 (-1), .int .i64 (-1), .slice q3 1 1, .int .i64 4294967296, .int .i64 4294967296, .slice none 0 0, .int .i64 1, .int .i64 513, .slice q4 513 513] 24 (0, 0)) := heap_alloc_new t4 _
          have hlo : w.heap.size ≤ t4.heap.size := hHeld.size
          refine hK.out _ _ (to_alloc hHeld _) (fun hHeld' => ?_)
          clear hK K hHeld
          generalize t4.alloc (.cells #[.int .i64 0, .int .i64 0, .slice none 0 0, .int .i64 2, .int .i64 2, .slice q1 3 3, .int .i64 513, .int .i64 1, .slice q2 513 513, .int .i64 0, .int .i64 5, .slice none 0 0, .int .i64 (-1), .int .i64 (-1), .slice q3 1 1, .int .i64 4294967296, .int .i64 4294967296, .slice none 0 0, .int .i64 1, .int .i64 513, .slice q4 513 513] 24) = tz at *
          generalize t4.heap.size = gb at *
          change wpAnyH _ _ _ _ _ _ _ (Act.put _ (some 85) _) _
          refine wpAnyH_take (i := 12) (oi := ro12) (v := .slice (some ⟨gb, 0, none⟩) 7 7) rfl (by kernel_rfl) (by kernel_rfl) (by kernel_rfl) (fun _ _ _ h => hQ _ _ _ _ _ h) (Or.inl ⟨by rfl, fun u _ => rx12 _ _ (eval_same _ 85 _ (put_lt (put_lt (put_lt (put_lt (put_lt (put_lt (put_lt (put_lt (put_lt (put_lt (put_lt (hsz' (by decide))))))))))))))⟩) (by assumption) ?_
          change wpAnyH _ _ _ _ _ _ _ (Act.put _ (some 3) _) _
          refine wpAnyH_done (by kernel_rfl) ?_ _
          have := h gb q1 q2 q3 q4 tz hHeld' hlo hrow
          simp only [ps74x3, ps79x77, ps79x78, ps79x75, ps79x76, ps79x3, ps82x80, ps82x81, ps82x77, ps82x78, ps82x75, ps82x76, ps82x3, ps80x77, ps80x78, ps80x75, ps80x76, ps80x3, ps81x77, ps81x78, ps81x75, ps81x76, ps81x3, ps77x75, ps77x76, ps77x3, ps78x75, ps78x76, ps78x3, ps83x75, ps83x76, ps83x3, ps84x75, ps84x76, ps84x3, ps75x3, ps76x3, ps85x3]
          exact this
    refine AllReadyH.cons (o := ro9) rfl (fun K hK => ?_) AllReadyH.nil
    · refine ready_val rfl (hmk9.out _ t1) ?_
      refine hK.out _ _ (to_alloc hHeld _) (fun hHeld' => ?_)
      clear hK K hHeld
      have hHeld := hHeld'
      clear hHeld'
      generalize t1.alloc ob9 = t2 at *
      generalize (some ⟨t1.heap.size, 0, none⟩ : Option Addr) = q4
      change wpAnyH _ _ _ _ _ _ _ (Act.put _ (some 83) _) _
      refine wpAnyH_take (i := 10) (oi := ro10) (v := .agg #[.int .i64 1, .int .i64 513, .slice q4 513 513]) rfl (by kernel_rfl) (by kernel_rfl) (by kernel_rfl) (fun _ _ _ h => hQ _ _ _ _ _ h) (Or.inl ⟨by rfl, fun u _ => rx10 _ _ (eval_same _ 83 _ (put_lt (put_lt (put_lt (put_lt (put_lt (hsz' (by decide))))))))⟩) (by assumption) ?_
      change wpAnyH _ _ _ _ _ _ _ (Act.put _ (some 84) _) _
      refine wpAnyH_ready (rs := [1, 3]) (by kernel_rfl) (by simp) ?_
      refine AllReadyH.cons (o := ro1) rfl (fun K hK => ?_) ?_
      · refine ready_val rfl (rx1 _ _) ?_
        refine hK.out _ _ (to_alloc hHeld _) (fun hHeld' => ?_)
        clear hK K hHeld
        have hHeld := hHeld'
        clear hHeld'
        generalize t2.alloc (.cells #[.int .u8 1, .int .u8 2, .int .u8 3] 5) = t3 at *
        generalize (some ⟨t2.heap.size, 0, none⟩ : Option Addr) = q1
        change wpAnyH _ _ _ _ _ _ _ (Act.put _ (some 75) _) _
        refine wpAnyH_take (i := 2) (oi := ro2) (v := .agg #[.int .i64 2, .int .i64 2, .slice q1 3 3]) rfl (by kernel_rfl) (by kernel_rfl) (by kernel_rfl) (fun _ _ _ h => hQ _ _ _ _ _ h) (Or.inl ⟨by rfl, fun u _ => rx2 _ _ (eval_same _ 75 _ (put_lt (put_lt (put_lt (put_lt (put_lt (put_lt (put_lt (hsz' (by decide))))))))))⟩) (by assumption) ?_
        change wpAnyH _ _ _ _ _ _ _ (Act.put _ (some 76) _) _
        refine wpAnyH_ready (rs := [3]) (by kernel_rfl) (by simp) ?_
        refine AllReadyH.cons (o := ro3) rfl (fun K hK => ?_) AllReadyH.nil
        · refine ready_val rfl (hmk3.out _ t3) ?_
          refine hK.out _ _ (to_alloc hHeld _) (fun hHeld' => ?_)
          clear hK K hHeld
          have hHeld := hHeld'
          clear hHeld'
          generalize t3.alloc ob3 = t4 at *
          generalize (some ⟨t3.heap.size, 0, none⟩ : Option Addr) = q2
          change wpAnyH _ _ _ _ _ _ _ (Act.put _ (some 77) _) _
          refine wpAnyH_take (i := 4) (oi := ro4) (v := .agg #[.int .i64 513, .int .i64 1, .slice q2 513 513]) rfl (by kernel_rfl) (by kernel_rfl) (by kernel_rfl) (fun _ _ _ h => hQ _ _ _ _ _ h) (Or.inl ⟨by rfl, fun u _ => rx4 _ _ (eval_same _ 77 _ (put_lt (put_lt (put_lt (put_lt (put_lt (put_lt (put_lt (put_lt (put_lt (hsz' (by decide))))))))))))⟩) (by assumption) ?_
          change wpAnyH _ _ _ _ _ _ _ (Act.put _ (some 78) _) _
          refine wpAnyH_ready (rs := [11]) (by kernel_rfl) (by simp) ?_
          refine AllReadyH.cons (o := ro11) rfl (fun K hK => ?_) AllReadyH.nil
          refine ready_val rfl (rx11 _ _ (q1 := q1) (q2 := q2) (q3 := q3) (q4 := q4) ((eval_other _ 78 74 _ (by decide)).trans ((eval_other _ 77 74 _ (by decide)).trans ((eval_other _ 76 74 _ (by decide)).trans ((eval_other _ 75 74 _ (by decide)).trans ((eval_other _ 84 74 _ (by decide)).trans ((eval_other _ 83 74 _ (by decide)).trans ((eval_other _ 81 74 _ (by decide)).trans ((eval_other _ 80 74 _ (by decide)).trans ((eval_other _ 82 74 _ (by decide)).trans ((eval_other _ 79 74 _ (by decide)).trans (eval_same _ 74 _ (hsz' (by decide))))))))))))) ((eval_other _ 78 76 _ (by decide)).trans ((eval_other _ 77 76 _ (by decide)).trans (eval_same _ 76 _ (put_lt (put_lt (put_lt (put_lt (put_lt (put_lt (put_lt (put_lt (hsz' (by decide))))))))))))) (eval_same _ 78 _ (put_lt (put_lt (put_lt (put_lt (put_lt (put_lt (put_lt (put_lt (put_lt (put_lt (hsz' (by decide))))))))))))) ((eval_other _ 78 79 _ (by decide)).trans ((eval_other _ 77 79 _ (by decide)).trans ((eval_other _ 76 79 _ (by decide)).trans ((eval_other _ 75 79 _ (by decide)).trans ((eval_other _ 84 79 _ (by decide)).trans ((eval_other _ 83 79 _ (by decide)).trans ((eval_other _ 81 79 _ (by decide)).trans ((eval_other _ 80 79 _ (by decide)).trans ((eval_other _ 82 79 _ (by decide)).trans (eval_same _ 79 _ (put_lt (hsz' (by decide))))))))))))) ((eval_other _ 78 81 _ (by decide)).trans ((eval_other _ 77 81 _ (by decide)).trans ((eval_other _ 76 81 _ (by decide)).trans ((eval_other _ 75 81 _ (by decide)).trans ((eval_other _ 84 81 _ (by decide)).trans ((eval_other _ 83 81 _ (by decide)).trans (eval_same _ 81 _ (put_lt (put_lt (put_lt (put_lt (hsz' (by decide))))))))))))) ((eval_other _ 78 82 _ (by decide)).trans ((eval_other _ 77 82 _ (by decide)).trans ((eval_other _ 76 82 _ (by decide)).trans ((eval_other _ 75 82 _ (by decide)).trans ((eval_other _ 84 82 _ (by decide)).trans ((eval_other _ 83 82 _ (by decide)).trans ((eval_other _ 81 82 _ (by decide)).trans ((eval_other _ 80 82 _ (by decide)).trans (eval_same _ 82 _ (put_lt (put_lt (hsz' (by decide))))))))))))) ((eval_other _ 78 84 _ (by decide)).trans ((eval_other _ 77 84 _ (by decide)).trans ((eval_other _ 76 84 _ (by decide)).trans ((eval_other _ 75 84 _ (by decide)).trans (eval_same _ 84 _ (put_lt (put_lt (put_lt (put_lt (put_lt (put_lt (hsz' (by decide)))))))))))))) ?_
          have hrow : (t4.alloc (.cells #[.int .i64 0, .int .i64 0, .slice none 0 0, .int .i64 2, .int .i64 2, .slice q1 3 3, .int .i64 513, .int .i64 1, .slice q2 513 513, .int .i64 0, .int .i64 5, .slice none 0 0, .int .i64 (-1), .int .i64 (-1), .slice q3 1 1, .int .i64 4294967296, .int .i64 4294967296, .slice none 0 0, .int .i64 1, .int .i64 513, .slice q4 513 513] 24)).heap[t4.heap.size]? = some (.cells #[.int .i64 0, .int .i64 0, .slice none 0 0, .int .i64 2, .int .i64 2, .slice q1 3 3, .int .i64 513, .int .i64 1, .slice q2 513 513, .int .i64 0, .int .i64 5, .slice none 0 0, .int .i64 (-1), .int .i64 (-1), .slice q3 1 1, .int .i64 4294967296, .int .i64 4294967296, .slice none 0 0, .int .i64 1, .int .i64 513, .slice q4 513 513] 24 (0, 0)) := heap_alloc_new t4 _
          have hlo : w.heap.size ≤ t4.heap.size := hHeld.size
          refine hK.out _ _ (to_alloc hHeld _) (fun hHeld' => ?_)
          clear hK K hHeld
          generalize t4.alloc (.cells #[.int .i64 0, .int .i64 0, .slice none 0 0, .int .i64 2, .int .i64 2, .slice q1 3 3, .int .i64 513, .int .i64 1, .slice q2 513 513, .int .i64 0, .int .i64 5, .slice none 0 0, .int .i64 (-1), .int .i64 (-1), .slice q3 1 1, .int .i64 4294967296, .int .i64 4294967296, .slice none 0 0, .int .i64 1, .int .i64 513, .slice q4 513 513] 24) = tz at *
          generalize t4.heap.size = gb at *
          change wpAnyH _ _ _ _ _ _ _ (Act.put _ (some 85) _) _
          refine wpAnyH_take (i := 12) (oi := ro12) (v := .slice (some ⟨gb, 0, none⟩) 7 7) rfl (by kernel_rfl) (by kernel_rfl) (by kernel_rfl) (fun _ _ _ h => hQ _ _ _ _ _ h) (Or.inl ⟨by rfl, fun u _ => rx12 _ _ (eval_same _ 85 _ (put_lt (put_lt (put_lt (put_lt (put_lt (put_lt (put_lt (put_lt (put_lt (put_lt (put_lt (hsz' (by decide))))))))))))))⟩) (by assumption) ?_
          change wpAnyH _ _ _ _ _ _ _ (Act.put _ (some 3) _) _
          refine wpAnyH_done (by kernel_rfl) ?_ _
          have := h gb q1 q2 q3 q4 tz hHeld' hlo hrow
          simp only [ps74x3, ps79x75, ps79x76, ps79x77, ps79x78, ps79x3, ps82x80, ps82x81, ps82x75, ps82x76, ps82x77, ps82x78, ps82x3, ps80x75, ps80x76, ps80x77, ps80x78, ps80x3, ps81x75, ps81x76, ps81x77, ps81x78, ps81x3, ps83x75, ps83x76, ps83x77, ps83x78, ps83x3, ps84x75, ps84x76, ps84x77, ps84x78, ps84x3, ps75x3, ps76x3, ps77x3, ps78x3, ps85x3]
          exact this
      refine AllReadyH.cons (o := ro3) rfl (fun K hK => ?_) AllReadyH.nil
      · refine ready_val rfl (hmk3.out _ t2) ?_
        refine hK.out _ _ (to_alloc hHeld _) (fun hHeld' => ?_)
        clear hK K hHeld
        have hHeld := hHeld'
        clear hHeld'
        generalize t2.alloc ob3 = t3 at *
        generalize (some ⟨t2.heap.size, 0, none⟩ : Option Addr) = q2
        change wpAnyH _ _ _ _ _ _ _ (Act.put _ (some 77) _) _
        refine wpAnyH_take (i := 4) (oi := ro4) (v := .agg #[.int .i64 513, .int .i64 1, .slice q2 513 513]) rfl (by kernel_rfl) (by kernel_rfl) (by kernel_rfl) (fun _ _ _ h => hQ _ _ _ _ _ h) (Or.inl ⟨by rfl, fun u _ => rx4 _ _ (eval_same _ 77 _ (put_lt (put_lt (put_lt (put_lt (put_lt (put_lt (put_lt (hsz' (by decide))))))))))⟩) (by assumption) ?_
        change wpAnyH _ _ _ _ _ _ _ (Act.put _ (some 78) _) _
        refine wpAnyH_ready (rs := [1]) (by kernel_rfl) (by simp) ?_
        refine AllReadyH.cons (o := ro1) rfl (fun K hK => ?_) AllReadyH.nil
        · refine ready_val rfl (rx1 _ _) ?_
          refine hK.out _ _ (to_alloc hHeld _) (fun hHeld' => ?_)
          clear hK K hHeld
          have hHeld := hHeld'
          clear hHeld'
          generalize t3.alloc (.cells #[.int .u8 1, .int .u8 2, .int .u8 3] 5) = t4 at *
          generalize (some ⟨t3.heap.size, 0, none⟩ : Option Addr) = q1
          change wpAnyH _ _ _ _ _ _ _ (Act.put _ (some 75) _) _
          refine wpAnyH_take (i := 2) (oi := ro2) (v := .agg #[.int .i64 2, .int .i64 2, .slice q1 3 3]) rfl (by kernel_rfl) (by kernel_rfl) (by kernel_rfl) (fun _ _ _ h => hQ _ _ _ _ _ h) (Or.inl ⟨by rfl, fun u _ => rx2 _ _ (eval_same _ 75 _ (put_lt (put_lt (put_lt (put_lt (put_lt (put_lt (put_lt (put_lt (put_lt (hsz' (by decide))))))))))))⟩) (by assumption) ?_
          change wpAnyH _ _ _ _ _ _ _ (Act.put _ (some 76) _) _
          refine wpAnyH_ready (rs := [11]) (by kernel_rfl) (by simp) ?_
          refine AllReadyH.cons (o := ro11) rfl (fun K hK => ?_) AllReadyH.nil
          refine ready_val rfl (rx11 _ _ (q1 := q1) (q2 := q2) (q3 := q3) (q4 := q4) ((eval_other _ 76 74 _ (by decide)).trans ((eval_other _ 75 74 _ (by decide)).trans ((eval_other _ 78 74 _ (by decide)).trans ((eval_other _ 77 74 _ (by decide)).trans ((eval_other _ 84 74 _ (by decide)).trans ((eval_other _ 83 74 _ (by decide)).trans ((eval_other _ 81 74 _ (by decide)).trans ((eval_other _ 80 74 _ (by decide)).trans ((eval_other _ 82 74 _ (by decide)).trans ((eval_other _ 79 74 _ (by decide)).trans (eval_same _ 74 _ (hsz' (by decide))))))))))))) (eval_same _ 76 _ (put_lt (put_lt (put_lt (put_lt (put_lt (put_lt (put_lt (put_lt (put_lt (put_lt (hsz' (by decide))))))))))))) ((eval_other _ 76 78 _ (by decide)).trans ((eval_other _ 75 78 _ (by decide)).trans (eval_same _ 78 _ (put_lt (put_lt (put_lt (put_lt (put_lt (put_lt (put_lt (put_lt (hsz' (by decide))))))))))))) ((eval_other _ 76 79 _ (by decide)).trans ((eval_other _ 75 79 _ (by decide)).trans ((eval_other _ 78 79 _ (by decide)).trans ((eval_other _ 77 79 _ (by decide)).trans ((eval_other _ 84 79 _ (by decide)).trans ((eval_other _ 83 79 _ (by decide)).trans ((eval_other _ 81 79 _ (by decide)).trans ((eval_other _ 80 79 _ (by decide)).trans ((eval_other _ 82 79 _ (by decide)).trans (eval_same _ 79 _ (put_lt (hsz' (by decide))))))))))))) ((eval_other _ 76 81 _ (by decide)).trans ((eval_other _ 75 81 _ (by decide)).trans ((eval_other _ 78 81 _ (by decide)).trans ((eval_other _ 77 81 _ (by decide)).trans ((eval_other _ 84 81 _ (by decide)).trans ((eval_other _ 83 81 _ (by decide)).trans (eval_same _ 81 _ (put_lt (put_lt (put_lt (put_lt (hsz' (by decide))))))))))))) ((eval_other _ 76 82 _ (by decide)).trans ((eval_other _ 75 82 _ (by decide)).trans ((eval_other _ 78 82 _ (by decide)).trans ((eval_other _ 77 82 _ (by decide)).trans ((eval_other _ 84 82 _ (by decide)).trans ((eval_other _ 83 82 _ (by decide)).trans ((eval_other _ 81 82 _ (by decide)).trans ((eval_other _ 80 82 _ (by decide)).trans (eval_same _ 82 _ (put_lt (put_lt (hsz' (by decide))))))))))))) ((eval_other _ 76 84 _ (by decide)).trans ((eval_other _ 75 84 _ (by decide)).trans ((eval_other _ 78 84 _ (by decide)).trans ((eval_other _ 77 84 _ (by decide)).trans (eval_same _ 84 _ (put_lt (put_lt (put_lt (put_lt (put_lt (put_lt (hsz' (by decide)))))))))))))) ?_
          have hrow : (t4.alloc (.cells #[.int .i64 0, .int .i64 0, .slice none 0 0, .int .i64 2, .int .i64 2, .slice q1 3 3, .int .i64 513, .int .i64 1, .slice q2 513 513, .int .i64 0, .int .i64 5, .slice none 0 0, .int .i64 (-1), .int .i64 (-1), .slice q3 1 1, .int .i64 4294967296, .int .i64 4294967296, .slice none 0 0, .int .i64 1, .int .i64 513, .slice q4 513 513] 24)).heap[t4.heap.size]? = some (.cells #[.int .i64 0, .int .i64 0, .slice none 0 0, .int .i64 2, .int .i64 2, .slice q1 3 3, .int .i64 513, .int .i64 1, .slice q2 513 513, .int .i64 0, .int .i64 5, .slice none 0 0, .int .i64 (-1), .int .i64 (-1), .slice q3 1 1, .int .i64 4294967296, .int .i64 4294967296, .slice none 0 0, .int .i64 1, .int .i64 513, .slice q4 513 513] 24 (0, 0)) := heap_alloc_new t4 _
          have hlo : w.heap.size ≤ t4.heap.size := hHeld.size
          refine hK.out _ _ (to_alloc hHeld _) (fun hHeld' => ?_)
          clear hK K hHeld
          generalize t4.alloc (.cells #[.int .i64 0, .int .i64 0, .slice none 0 0, .int .i64 2, .int .i64 2, .slice q1 3 3, .int .i64 513, .int .i64 1, .slice q2 513 513, .int .i64 0, .int .i64 5, .slice none 0 0, .int .i64 (-1), .int .i64 (-1), .slice q3 1 1, .int .i64 4294967296, .int .i64 4294967296, .slice none 0 0, .int .i64 1, .int .i64 513, .slice q4 513 513] 24) = tz at *
          generalize t4.heap.size = gb at *
          change wpAnyH _ _ _ _ _ _ _ (Act.put _ (some 85) _) _
          refine wpAnyH_take (i := 12) (oi := ro12) (v := .slice (some ⟨gb, 0, none⟩) 7 7) rfl (by kernel_rfl) (by kernel_rfl) (by kernel_rfl) (fun _ _ _ h => hQ _ _ _ _ _ h) (Or.inl ⟨by rfl, fun u _ => rx12 _ _ (eval_same _ 85 _ (put_lt (put_lt (put_lt (put_lt (put_lt (put_lt (put_lt (put_lt (put_lt (put_lt (put_lt (hsz' (by decide))))))))))))))⟩) (by assumption) ?_
          change wpAnyH _ _ _ _ _ _ _ (Act.put _ (some 3) _) _
          refine wpAnyH_done (by kernel_rfl) ?_ _
          have := h gb q1 q2 q3 q4 tz hHeld' hlo hrow
          simp only [ps74x3, ps79x77, ps79x78, ps79x75, ps79x76, ps79x3, ps82x80, ps82x81, ps82x77, ps82x78, ps82x75, ps82x76, ps82x3, ps80x77, ps80x78, ps80x75, ps80x76, ps80x3, ps81x77, ps81x78, ps81x75, ps81x76, ps81x3, ps83x77, ps83x78, ps83x75, ps83x76, ps83x3, ps84x77, ps84x78, ps84x75, ps84x76, ps84x3, ps77x75, ps77x76, ps77x3, ps78x75, ps78x76, ps78x3, ps75x3, ps76x3, ps85x3]
          exact this
  refine AllReadyH.cons (o := ro9) rfl (fun K hK => ?_) AllReadyH.nil
  · refine ready_val rfl (hmk9.out _ t0) ?_
    refine hK.out _ _ (to_alloc hHeld _) (fun hHeld' => ?_)
    clear hK K hHeld
    have hHeld := hHeld'
    clear hHeld'
    generalize t0.alloc ob9 = t1 at *
    generalize (some ⟨t0.heap.size, 0, none⟩ : Option Addr) = q4
    change wpAnyH _ _ _ _ _ _ _ (Act.put _ (some 83) _) _
    refine wpAnyH_take (i := 10) (oi := ro10) (v := .agg #[.int .i64 1, .int .i64 513, .slice q4 513 513]) rfl (by kernel_rfl) (by kernel_rfl) (by kernel_rfl) (fun _ _ _ h => hQ _ _ _ _ _ h) (Or.inl ⟨by rfl, fun u _ => rx10 _ _ (eval_same _ 83 _ (put_lt (put_lt (put_lt (hsz' (by decide))))))⟩) (by assumption) ?_
    change wpAnyH _ _ _ _ _ _ _ (Act.put _ (some 84) _) _
    refine wpAnyH_ready (rs := [1, 3, 6]) (by kernel_rfl) (by simp) ?_
    refine AllReadyH.cons (o := ro1) rfl (fun K hK => ?_) ?_
    · refine ready_val rfl (rx1 _ _) ?_
      refine hK.out _ _ (to_alloc hHeld _) (fun hHeld' => ?_)
      clear hK K hHeld
      have hHeld := hHeld'
      clear hHeld'
      generalize t1.alloc (.cells #[.int .u8 1, .int .u8 2, .int .u8 3] 5) = t2 at *
      generalize (some ⟨t1.heap.size, 0, none⟩ : Option Addr) = q1
      change wpAnyH _ _ _ _ _ _ _ (Act.put _ (some 75) _) _
      refine wpAnyH_take (i := 2) (oi := ro2) (v := .agg #[.int .i64 2, .int .i64 2, .slice q1 3 3]) rfl (by kernel_rfl) (by kernel_rfl) (by kernel_rfl) (fun _ _ _ h => hQ _ _ _ _ _ h) (Or.inl ⟨by rfl, fun u _ => rx2 _ _ (eval_same _ 75 _ (put_lt (put_lt (put_lt (put_lt (put_lt (hsz' (by decide))))))))⟩) (by assumption) ?_
      change wpAnyH _ _ _ _ _ _ _ (Act.put _ (some 76) _) _
      refine wpAnyH_ready (rs := [3, 6]) (by kernel_rfl) (by simp) ?_
      refine AllReadyH.cons (o := ro3) rfl (fun K hK => ?_) ?_
      · refine ready_val rfl (hmk3.out _ t2) ?_
        refine hK.out _ _ (to_alloc hHeld _) (fun hHeld' => ?_)
        clear hK K hHeld
        have hHeld := hHeld'
        clear hHeld'
        generalize t2.alloc ob3 = t3 at *
        generalize (some ⟨t2.heap.size, 0, none⟩ : Option Addr) = q2
        change wpAnyH _ _ _ _ _ _ _ (Act.put _ (some 77) _) _
        refine wpAnyH_take (i := 4) (oi := ro4) (v := .agg #[.int .i64 513, .int .i64 1, .slice q2 513 513]) rfl (by kernel_rfl) (by kernel_rfl) (by kernel_rfl) (fun _ _ _ h => hQ _ _ _ _ _ h) (Or.inl ⟨by rfl, fun u _ => rx4 _ _ (eval_same _ 77 _ (put_lt (put_lt (put_lt (put_lt (put_lt (put_lt (put_lt (hsz' (by decide))))))))))⟩) (by assumption) ?_
        change wpAnyH _ _ _ _ _ _ _ (Act.put _ (some 78) _) _
        refine wpAnyH_ready (rs := [6]) (by kernel_rfl) (by simp) ?_
        refine AllReadyH.cons (o := ro6) rfl (fun K hK => ?_) AllReadyH.nil
        · refine ready_val rfl (rx6 _ _) ?_
          refine hK.out _ _ (to_alloc hHeld _) (fun hHeld' => ?_)
          clear hK K hHeld
          have hHeld := hHeld'
          clear hHeld'
          generalize t3.alloc (.cells #[.int .u8 1] 5) = t4 at *
          generalize (some ⟨t3.heap.size, 0, none⟩ : Option Addr) = q3
          change wpAnyH _ _ _ _ _ _ _ (Act.put _ (some 80) _) _
          refine wpAnyH_take (i := 7) (oi := ro7) (v := .agg #[.int .i64 (-1), .int .i64 (-1), .slice q3 1 1]) rfl (by kernel_rfl) (by kernel_rfl) (by kernel_rfl) (fun _ _ _ h => hQ _ _ _ _ _ h) (Or.inl ⟨by rfl, fun u _ => rx7 _ _ (eval_same _ 80 _ (put_lt (put_lt (put_lt (put_lt (put_lt (put_lt (put_lt (put_lt (put_lt (hsz' (by decide))))))))))))⟩) (by assumption) ?_
          change wpAnyH _ _ _ _ _ _ _ (Act.put _ (some 81) _) _
          refine wpAnyH_ready (rs := [11]) (by kernel_rfl) (by simp) ?_
          refine AllReadyH.cons (o := ro11) rfl (fun K hK => ?_) AllReadyH.nil
          refine ready_val rfl (rx11 _ _ (q1 := q1) (q2 := q2) (q3 := q3) (q4 := q4) ((eval_other _ 81 74 _ (by decide)).trans ((eval_other _ 80 74 _ (by decide)).trans ((eval_other _ 78 74 _ (by decide)).trans ((eval_other _ 77 74 _ (by decide)).trans ((eval_other _ 76 74 _ (by decide)).trans ((eval_other _ 75 74 _ (by decide)).trans ((eval_other _ 84 74 _ (by decide)).trans ((eval_other _ 83 74 _ (by decide)).trans ((eval_other _ 82 74 _ (by decide)).trans ((eval_other _ 79 74 _ (by decide)).trans (eval_same _ 74 _ (hsz' (by decide))))))))))))) ((eval_other _ 81 76 _ (by decide)).trans ((eval_other _ 80 76 _ (by decide)).trans ((eval_other _ 78 76 _ (by decide)).trans ((eval_other _ 77 76 _ (by decide)).trans (eval_same _ 76 _ (put_lt (put_lt (put_lt (put_lt (put_lt (put_lt (hsz' (by decide))))))))))))) ((eval_other _ 81 78 _ (by decide)).trans ((eval_other _ 80 78 _ (by decide)).trans (eval_same _ 78 _ (put_lt (put_lt (put_lt (put_lt (put_lt (put_lt (put_lt (put_lt (hsz' (by decide))))))))))))) ((eval_other _ 81 79 _ (by decide)).trans ((eval_other _ 80 79 _ (by decide)).trans ((eval_other _ 78 79 _ (by decide)).trans ((eval_other _ 77 79 _ (by decide)).trans ((eval_other _ 76 79 _ (by decide)).trans ((eval_other _ 75 79 _ (by decide)).trans ((eval_other _ 84 79 _ (by decide)).trans ((eval_other _ 83 79 _ (by decide)).trans ((eval_other _ 82 79 _ (by decide)).trans (eval_same _ 79 _ (put_lt (hsz' (by decide))))))))))))) (eval_same _ 81 _ (put_lt (put_lt (put_lt (put_lt (put_lt (put_lt (put_lt (put_lt (put_lt (put_lt (hsz' (by decide))))))))))))) ((eval_other _ 81 82 _ (by decide)).trans ((eval_other _ 80 82 _ (by decide)).trans ((eval_other _ 78 82 _ (by decide)).trans ((eval_other _ 77 82 _ (by decide)).trans ((eval_other _ 76 82 _ (by decide)).trans ((eval_other _ 75 82 _ (by decide)).trans ((eval_other _ 84 82 _ (by decide)).trans ((eval_other _ 83 82 _ (by decide)).trans (eval_same _ 82 _ (put_lt (put_lt (hsz' (by decide))))))))))))) ((eval_other _ 81 84 _ (by decide)).trans ((eval_other _ 80 84 _ (by decide)).trans ((eval_other _ 78 84 _ (by decide)).trans ((eval_other _ 77 84 _ (by decide)).trans ((eval_other _ 76 84 _ (by decide)).trans ((eval_other _ 75 84 _ (by decide)).trans (eval_same _ 84 _ (put_lt (put_lt (put_lt (put_lt (hsz' (by decide)))))))))))))) ?_
          have hrow : (t4.alloc (.cells #[.int .i64 0, .int .i64 0, .slice none 0 0, .int .i64 2, .int .i64 2, .slice q1 3 3, .int .i64 513, .int .i64 1, .slice q2 513 513, .int .i64 0, .int .i64 5, .slice none 0 0, .int .i64 (-1), .int .i64 (-1), .slice q3 1 1, .int .i64 4294967296, .int .i64 4294967296, .slice none 0 0, .int .i64 1, .int .i64 513, .slice q4 513 513] 24)).heap[t4.heap.size]? = some (.cells #[.int .i64 0, .int .i64 0, .slice none 0 0, .int .i64 2, .int .i64 2, .slice q1 3 3, .int .i64 513, .int .i64 1, .slice q2 513 513, .int .i64 0, .int .i64 5, .slice none 0 0, .int .i64 (-1), .int .i64 (-1), .slice q3 1 1, .int .i64 4294967296, .int .i64 4294967296, .slice none 0 0, .int .i64 1, .int .i64 513, .slice q4 513 513] 24 (0, 0)) := heap_alloc_new t4 _
          have hlo : w.heap.size ≤ t4.heap.size := hHeld.size
          refine hK.out _ _ (to_alloc hHeld _) (fun hHeld' => ?_)
          clear hK K hHeld
          generalize t4.alloc (.cells #[.int .i64 0, .int .i64 0, .slice none 0 0, .int .i64 2, .int .i64 2, .slice q1 3 3, .int .i64 513, .int .i64 1, .slice q2 513 513, .int .i64 0, .int .i64 5, .slice none 0 0, .int .i64 (-1), .int .i64 (-1), .slice q3 1 1, .int .i64 4294967296, .int .i64 4294967296, .slice none 0 0, .int .i64 1, .int .i64 513, .slice q4 513 513] 24) = tz at *
          generalize t4.heap.size = gb at *
          change wpAnyH _ _ _ _ _ _ _ (Act.put _ (some 85) _) _
          refine wpAnyH_take (i := 12) (oi := ro12) (v := .slice (some ⟨gb, 0, none⟩) 7 7) rfl (by kernel_rfl) (by kernel_rfl) (by kernel_rfl) (fun _ _ _ h => hQ _ _ _ _ _ h) (Or.inl ⟨by rfl, fun u _ => rx12 _ _ (eval_same _ 85 _ (put_lt (put_lt (put_lt (put_lt (put_lt (put_lt (put_lt (put_lt (put_lt (put_lt (put_lt (hsz' (by decide))))))))))))))⟩) (by assumption) ?_
          change wpAnyH _ _ _ _ _ _ _ (Act.put _ (some 3) _) _
          refine wpAnyH_done (by kernel_rfl) ?_ _
          have := h gb q1 q2 q3 q4 tz hHeld' hlo hrow
          simp only [ps74x3, ps79x75, ps79x76, ps79x77, ps79x78, ps79x3, ps82x75, ps82x76, ps82x77, ps82x78, ps82x80, ps82x81, ps82x3, ps83x75, ps83x76, ps83x77, ps83x78, ps83x80, ps83x81, ps83x3, ps84x75, ps84x76, ps84x77, ps84x78, ps84x80, ps84x81, ps84x3, ps75x3, ps76x3, ps77x3, ps78x3, ps80x3, ps81x3, ps85x3]
          exact this
      refine AllReadyH.cons (o := ro6) rfl (fun K hK => ?_) AllReadyH.nil
      · refine ready_val rfl (rx6 _ _) ?_
        refine hK.out _ _ (to_alloc hHeld _) (fun hHeld' => ?_)
        clear hK K hHeld
        have hHeld := hHeld'
        clear hHeld'
        generalize t2.alloc (.cells #[.int .u8 1] 5) = t3 at *
        generalize (some ⟨t2.heap.size, 0, none⟩ : Option Addr) = q3
        change wpAnyH _ _ _ _ _ _ _ (Act.put _ (some 80) _) _
        refine wpAnyH_take (i := 7) (oi := ro7) (v := .agg #[.int .i64 (-1), .int .i64 (-1), .slice q3 1 1]) rfl (by kernel_rfl) (by kernel_rfl) (by kernel_rfl) (fun _ _ _ h => hQ _ _ _ _ _ h) (Or.inl ⟨by rfl, fun u _ => rx7 _ _ (eval_same _ 80 _ (put_lt (put_lt (put_lt (put_lt (put_lt (put_lt (put_lt (hsz' (by decide))))))))))⟩) (by assumption) ?_
        change wpAnyH _ _ _ _ _ _ _ (Act.put _ (some 81) _) _
        refine wpAnyH_ready (rs := [3]) (by kernel_rfl) (by simp) ?_
        refine AllReadyH.cons (o := ro3) rfl (fun K hK => ?_) AllReadyH.nil
        · refine ready_val rfl (hmk3.out _ t3) ?_
          refine hK.out _ _ (to_alloc hHeld _) (fun hHeld' => ?_)
          clear hK K hHeld
          have hHeld := hHeld'
          clear hHeld'
          generalize t3.alloc ob3 = t4 at *
          generalize (some ⟨t3.heap.size, 0, none⟩ : Option Addr) = q2
          change wpAnyH _ _ _ _ _ _ _ (Act.put _ (some 77) _) _
          refine wpAnyH_take (i := 4) (oi := ro4) (v := .agg #[.int .i64 513, .int .i64 1, .slice q2 513 513]) rfl (by kernel_rfl) (by kernel_rfl) (by kernel_rfl) (fun _ _ _ h => hQ _ _ _ _ _ h) (Or.inl ⟨by rfl, fun u _ => rx4 _ _ (eval_same _ 77 _ (put_lt (put_lt (put_lt (put_lt (put_lt (put_lt (put_lt (put_lt (put_lt (hsz' (by decide))))))))))))⟩) (by assumption) ?_
          change wpAnyH _ _ _ _ _ _ _ (Act.put _ (some 78) _) _
          refine wpAnyH_ready (rs := [11]) (by kernel_rfl) (by simp) ?_
          refine AllReadyH.cons (o := ro11) rfl (fun K hK => ?_) AllReadyH.nil
          refine ready_val rfl (rx11 _ _ (q1 := q1) (q2 := q2) (q3 := q3) (q4 := q4) ((eval_other _ 78 74 _ (by decide)).trans ((eval_other _ 77 74 _ (by decide)).trans ((eval_other _ 81 74 _ (by decide)).trans ((eval_other _ 80 74 _ (by decide)).trans ((eval_other _ 76 74 _ (by decide)).trans ((eval_other _ 75 74 _ (by decide)).trans ((eval_other _ 84 74 _ (by decide)).trans ((eval_other _ 83 74 _ (by decide)).trans ((eval_other _ 82 74 _ (by decide)).trans ((eval_other _ 79 74 _ (by decide)).trans (eval_same _ 74 _ (hsz' (by decide))))))))))))) ((eval_other _ 78 76 _ (by decide)).trans ((eval_other _ 77 76 _ (by decide)).trans ((eval_other _ 81 76 _ (by decide)).trans ((eval_other _ 80 76 _ (by decide)).trans (eval_same _ 76 _ (put_lt (put_lt (put_lt (put_lt (put_lt (put_lt (hsz' (by decide))))))))))))) (eval_same _ 78 _ (put_lt (put_lt (put_lt (put_lt (put_lt (put_lt (put_lt (put_lt (put_lt (put_lt (hsz' (by decide))))))))))))) ((eval_other _ 78 79 _ (by decide)).trans ((eval_other _ 77 79 _ (by decide)).trans ((eval_other _ 81 79 _ (by decide)).trans ((eval_other _ 80 79 _ (by decide)).trans ((eval_other _ 76 79 _ (by decide)).trans ((eval_other _ 75 79 _ (by decide)).trans ((eval_other _ 84 79 _ (by decide)).trans ((eval_other _ 83 79 _ (by decide)).trans ((eval_other _ 82 79 _ (by decide)).trans (eval_same _ 79 _ (put_lt (hsz' (by decide))))))))))))) ((eval_other _ 78 81 _ (by decide)).trans ((eval_other _ 77 81 _ (by decide)).trans (eval_same _ 81 _ (put_lt (put_lt (put_lt (put_lt (put_lt (put_lt (put_lt (put_lt (hsz' (by decide))))))))))))) ((eval_other _ 78 82 _ (by decide)).trans ((eval_other _ 77 82 _ (by decide)).trans ((eval_other _ 81 82 _ (by decide)).trans ((eval_other _ 80 82 _ (by decide)).trans ((eval_other _ 76 82 _ (by decide)).trans ((eval_other _ 75 82 _ (by decide)).trans ((eval_other _ 84 82 _ (by decide)).trans ((eval_other _ 83 82 _ (by decide)).trans (eval_same _ 82 _ (put_lt (put_lt (hsz' (by decide))))))))))))) ((eval_other _ 78 84 _ (by decide)).trans ((eval_other _ 77 84 _ (by decide)).trans ((eval_other _ 81 84 _ (by decide)).trans ((eval_other _ 80 84 _ (by decide)).trans ((eval_other _ 76 84 _ (by decide)).trans ((eval_other _ 75 84 _ (by decide)).trans (eval_same _ 84 _ (put_lt (put_lt (put_lt (put_lt (hsz' (by decide)))))))))))))) ?_
          have hrow : (t4.alloc (.cells #[.int .i64 0, .int .i64 0, .slice none 0 0, .int .i64 2, .int .i64 2, .slice q1 3 3, .int .i64 513, .int .i64 1, .slice q2 513 513, .int .i64 0, .int .i64 5, .slice none 0 0, .int .i64 (-1), .int .i64 (-1), .slice q3 1 1, .int .i64 4294967296, .int .i64 4294967296, .slice none 0 0, .int .i64 1, .int .i64 513, .slice q4 513 513] 24)).heap[t4.heap.size]? = some (.cells #[.int .i64 0, .int .i64 0, .slice none 0 0, .int .i64 2, .int .i64 2, .slice q1 3 3, .int .i64 513, .int .i64 1, .slice q2 513 513, .int .i64 0, .int .i64 5, .slice none 0 0, .int .i64 (-1), .int .i64 (-1), .slice q3 1 1, .int .i64 4294967296, .int .i64 4294967296, .slice none 0 0, .int .i64 1, .int .i64 513, .slice q4 513 513] 24 (0, 0)) := heap_alloc_new t4 _
          have hlo : w.heap.size ≤ t4.heap.size := hHeld.size
          refine hK.out _ _ (to_alloc hHeld _) (fun hHeld' => ?_)
          clear hK K hHeld
          generalize t4.alloc (.cells #[.int .i64 0, .int .i64 0, .slice none 0 0, .int .i64 2, .int .i64 2, .slice q1 3 3, .int .i64 513, .int .i64 1, .slice q2 513 513, .int .i64 0, .int .i64 5, .slice none 0 0, .int .i64 (-1), .int .i64 (-1), .slice q3 1 1, .int .i64 4294967296, .int .i64 4294967296, .slice none 0 0, .int .i64 1, .int .i64 513, .slice q4 513 513] 24) = tz at *
          generalize t4.heap.size = gb at *
          change wpAnyH _ _ _ _ _ _ _ (Act.put _ (some 85) _) _
          refine wpAnyH_take (i := 12) (oi := ro12) (v := .slice (some ⟨gb, 0, none⟩) 7 7) rfl (by kernel_rfl) (by kernel_rfl) (by kernel_rfl) (fun _ _ _ h => hQ _ _ _ _ _ h) (Or.inl ⟨by rfl, fun u _ => rx12 _ _ (eval_same _ 85 _ (put_lt (put_lt (put_lt (put_lt (put_lt (put_lt (put_lt (put_lt (put_lt (put_lt (put_lt (hsz' (by decide))))))))))))))⟩) (by assumption) ?_
          change wpAnyH _ _ _ _ _ _ _ (Act.put _ (some 3) _) _
          refine wpAnyH_done (by kernel_rfl) ?_ _
          have := h gb q1 q2 q3 q4 tz hHeld' hlo hrow
          simp only [ps74x3, ps79x75, ps79x76, ps79x77, ps79x78, ps79x3, ps82x75, ps82x76, ps82x80, ps82x81, ps82x77, ps82x78, ps82x3, ps83x75, ps83x76, ps83x80, ps83x81, ps83x77, ps83x78, ps83x3, ps84x75, ps84x76, ps84x80, ps84x81, ps84x77, ps84x78, ps84x3, ps75x3, ps76x3, ps80x77, ps80x78, ps80x3, ps81x77, ps81x78, ps81x3, ps77x3, ps78x3, ps85x3]
          exact this
    refine AllReadyH.cons (o := ro3) rfl (fun K hK => ?_) ?_
    · refine ready_val rfl (hmk3.out _ t1) ?_
      refine hK.out _ _ (to_alloc hHeld _) (fun hHeld' => ?_)
      clear hK K hHeld
      have hHeld := hHeld'
      clear hHeld'
      generalize t1.alloc ob3 = t2 at *
      generalize (some ⟨t1.heap.size, 0, none⟩ : Option Addr) = q2
      change wpAnyH _ _ _ _ _ _ _ (Act.put _ (some 77) _) _
      refine wpAnyH_take (i := 4) (oi := ro4) (v := .agg #[.int .i64 513, .int .i64 1, .slice q2 513 513]) rfl (by kernel_rfl) (by kernel_rfl) (by kernel_rfl) (fun _ _ _ h => hQ _ _ _ _ _ h) (Or.inl ⟨by rfl, fun u _ => rx4 _ _ (eval_same _ 77 _ (put_lt (put_lt (put_lt (put_lt (put_lt (hsz' (by decide))))))))⟩) (by assumption) ?_
      change wpAnyH _ _ _ _ _ _ _ (Act.put _ (some 78) _) _
      refine wpAnyH_ready (rs := [1, 6]) (by kernel_rfl) (by simp) ?_
      refine AllReadyH.cons (o := ro1) rfl (fun K hK => ?_) ?_
      · refine ready_val rfl (rx1 _ _) ?_
        refine hK.out _ _ (to_alloc hHeld _) (fun hHeld' => ?_)
        clear hK K hHeld
        have hHeld := hHeld'
        clear hHeld'
        generalize t2.alloc (.cells #[.int .u8 1, .int .u8 2, .int .u8 3] 5) = t3 at *
        generalize (some ⟨t2.heap.size, 0, none⟩ : Option Addr) = q1
        change wpAnyH _ _ _ _ _ _ _ (Act.put _ (some 75) _) _
        refine wpAnyH_take (i := 2) (oi := ro2) (v := .agg #[.int .i64 2, .int .i64 2, .slice q1 3 3]) rfl (by kernel_rfl) (by kernel_rfl) (by kernel_rfl) (fun _ _ _ h => hQ _ _ _ _ _ h) (Or.inl ⟨by rfl, fun u _ => rx2 _ _ (eval_same _ 75 _ (put_lt (put_lt (put_lt (put_lt (put_lt (put_lt (put_lt (hsz' (by decide))))))))))⟩) (by assumption) ?_
        change wpAnyH _ _ _ _ _ _ _ (Act.put _ (some 76) _) _
        refine wpAnyH_ready (rs := [6]) (by kernel_rfl) (by simp) ?_
        refine AllReadyH.cons (o := ro6) rfl (fun K hK => ?_) AllReadyH.nil
        · refine ready_val rfl (rx6 _ _) ?_
          refine hK.out _ _ (to_alloc hHeld _) (fun hHeld' => ?_)
          clear hK K hHeld
          have hHeld := hHeld'
          clear hHeld'
          generalize t3.alloc (.cells #[.int .u8 1] 5) = t4 at *
          generalize (some ⟨t3.heap.size, 0, none⟩ : Option Addr) = q3
          change wpAnyH _ _ _ _ _ _ _ (Act.put _ (some 80) _) _
          refine wpAnyH_take (i := 7) (oi := ro7) (v := .agg #[.int .i64 (-1), .int .i64 (-1), .slice q3 1 1]) rfl (by kernel_rfl) (by kernel_rfl) (by kernel_rfl) (fun _ _ _ h => hQ _ _ _ _ _ h) (Or.inl ⟨by rfl, fun u _ => rx7 _ _ (eval_same _ 80 _ (put_lt (put_lt (put_lt (put_lt (put_lt (put_lt (put_lt (put_lt (put_lt (hsz' (by decide))))))))))))⟩) (by assumption) ?_
          change wpAnyH _ _ _ _ _ _ _ (Act.put _ (some 81) _) _
          refine wpAnyH_ready (rs := [11]) (by kernel_rfl) (by simp) ?_
          refine AllReadyH.cons (o := ro11) rfl (fun K hK => ?_) AllReadyH.nil
          refine ready_val rfl (rx11 _ _ (q1 := q1) (q2 := q2) (q3 := q3) (q4 := q4) ((eval_other _ 81 74 _ (by decide)).trans ((eval_other _ 80 74 _ (by decide)).trans ((eval_other _ 76 74 _ (by decide)).trans ((eval_other _ 75 74 _ (by decide)).trans ((eval_other _ 78 74 _ (by decide)).trans ((eval_other _ 77 74 _ (by decide)).trans ((eval_other _ 84 74 _ (by decide)).trans ((eval_other _ 83 74 _ (by decide)).trans ((eval_other _ 82 74 _ (by decide)).trans ((eval_other _ 79 74 _ (by decide)).trans (eval_same _ 74 _ (hsz' (by decide))))))))))))) ((eval_other _ 81 76 _ (by decide)).trans ((eval_other _ 80 76 _ (by decide)).trans (eval_same _ 76 _ (put_lt (put_lt (put_lt (put_lt (put_lt (put_lt (put_lt (put_lt (hsz' (by decide))))))))))))) ((eval_other _ 81 78 _ (by decide)).trans ((eval_other _ 80 78 _ (by decide)).trans ((eval_other _ 76 78 _ (by decide)).trans ((eval_other _ 75 78 _ (by decide)).trans (eval_same _ 78 _ (put_lt (put_lt (put_lt (put_lt (put_lt (put_lt (hsz' (by decide))))))))))))) ((eval_other _ 81 79 _ (by decide)).trans ((eval_other _ 80 79 _ (by decide)).trans ((eval_other _ 76 79 _ (by decide)).trans ((eval_other _ 75 79 _ (by decide)).trans ((eval_other _ 78 79 _ (by decide)).trans ((eval_other _ 77 79 _ (by decide)).trans ((eval_other _ 84 79 _ (by decide)).trans ((eval_other _ 83 79 _ (by decide)).trans ((eval_other _ 82 79 _ (by decide)).trans (eval_same _ 79 _ (put_lt (hsz' (by decide))))))))))))) (eval_same _ 81 _ (put_lt (put_lt (put_lt (put_lt (put_lt (put_lt (put_lt (put_lt (put_lt (put_lt (hsz' (by decide))))))))))))) ((eval_other _ 81 82 _ (by decide)).trans ((eval_other _ 80 82 _ (by decide)).trans ((eval_other _ 76 82 _ (by decide)).trans ((eval_other _ 75 82 _ (by decide)).trans ((eval_other _ 78 82 _ (by decide)).trans ((eval_other _ 77 82 _ (by decide)).trans ((eval_other _ 84 82 _ (by decide)).trans ((eval_other _ 83 82 _ (by decide)).trans (eval_same _ 82 _ (put_lt (put_lt (hsz' (by decide))))))))))))) ((eval_other _ 81 84 _ (by decide)).trans ((eval_other _ 80 84 _ (by decide)).trans ((eval_other _ 76 84 _ (by decide)).trans ((eval_other _ 75 84 _ (by decide)).trans ((eval_other _ 78 84 _ (by decide)).trans ((eval_other _ 77 84 _ (by decide)).trans (eval_same _ 84 _ (put_lt (put_lt (put_lt (put_lt (hsz' (by decide)))))))))))))) ?_
          have hrow : (t4.alloc (.cells #[.int .i64 0, .int .i64 0, .slice none 0 0, .int .i64 2, .int .i64 2, .slice q1 3 3, .int .i64 513, .int .i64 1, .slice q2 513 513, .int .i64 0, .int .i64 5, .slice none 0 0, .int .i64 (-1), .int .i64 (-1), .slice q3 1 1, .int .i64 4294967296, .int .i64 4294967296, .slice none 0 0, .int .i64 1, .int .i64 513, .slice q4 513 513] 24)).heap[t4.heap.size]? = some (.cells #[.int .i64 0, .int .i64 0, .slice none 0 0, .int .i64 2, .int .i64 2, .slice q1 3 3, .int .i64 513, .int .i64 1, .slice q2 513 513, .int .i64 0, .int .i64 5, .slice none 0 0, .int .i64 (-1), .int .i64 (-1), .slice q3 1 1, .int .i64 4294967296, .int .i64 4294967296, .slice none 0 0, .int .i64 1, .int .i64 513, .slice q4 513 513] 24 (0, 0)) := heap_alloc_new t4 _
          have hlo : w.heap.size ≤ t4.heap.size := hHeld.size
          refine hK.out _ _ (to_alloc hHeld _) (fun hHeld' => ?_)
          clear hK K hHeld
          generalize t4.alloc (.cells #[.int .i64 0, .int .i64 0, .slice none 0 0, .int .i64 2, .int .i64 2, .slice q1 3 3, .int .i64 513, .int .i64 1, .slice q2 513 513, .int .i64 0, .int .i64 5, .slice none 0 0, .int .i64 (-1), .int .i64 (-1), .slice q3 1 1, .int .i64 4294967296, .int .i64 4294967296, .slice none 0 0, .int .i64 1, .int .i64 513, .slice q4 513 513] 24) = tz at *
          generalize t4.heap.size = gb at *
          change wpAnyH _ _ _ _ _ _ _ (Act.put _ (some 85) _) _
          refine wpAnyH_take (i := 12) (oi := ro12) (v := .slice (some ⟨gb, 0, none⟩) 7 7) rfl (by kernel_rfl) (by kernel_rfl) (by kernel_rfl) (fun _ _ _ h => hQ _ _ _ _ _ h) (Or.inl ⟨by rfl, fun u _ => rx12 _ _ (eval_same _ 85 _ (put_lt (put_lt (put_lt (put_lt (put_lt (put_lt (put_lt (put_lt (put_lt (put_lt (put_lt (hsz' (by decide))))))))))))))⟩) (by assumption) ?_
          change wpAnyH _ _ _ _ _ _ _ (Act.put _ (some 3) _) _
          refine wpAnyH_done (by kernel_rfl) ?_ _
          have := h gb q1 q2 q3 q4 tz hHeld' hlo hrow
          simp only [ps74x3, ps79x77, ps79x78, ps79x75, ps79x76, ps79x3, ps82x77, ps82x78, ps82x75, ps82x76, ps82x80, ps82x81, ps82x3, ps83x77, ps83x78, ps83x75, ps83x76, ps83x80, ps83x81, ps83x3, ps84x77, ps84x78, ps84x75, ps84x76, ps84x80, ps84x81, ps84x3, ps77x75, ps77x76, ps77x3, ps78x75, ps78x76, ps78x3, ps75x3, ps76x3, ps80x3, ps81x3, ps85x3]
          exact this
      refine AllReadyH.cons (o := ro6) rfl (fun K hK => ?_) AllReadyH.nil
      · refine ready_val rfl (rx6 _ _) ?_
        refine hK.out _ _ (to_alloc hHeld _) (fun hHeld' => ?_)
        clear hK K hHeld
        have hHeld := hHeld'
        clear hHeld'
        generalize t2.alloc (.cells #[.int .u8 1] 5) = t3 at *
        generalize (some ⟨t2.heap.size, 0, none⟩ : Option Addr) = q3
        change wpAnyH _ _ _ _ _ _ _ (Act.put _ (some 80) _) _
        refine wpAnyH_take (i := 7) (oi := ro7) (v := .agg #[.int .i64 (-1), .int .i64 (-1), .slice q3 1 1]) rfl (by kernel_rfl) (by kernel_rfl) (by kernel_rfl) (fun _ _ _ h => hQ _ _ _ _ _ h) (Or.inl ⟨by rfl, fun u _ => rx7 _ _ (eval_same _ 80 _ (put_lt (put_lt (put_lt (put_lt (put_lt (put_lt (put_lt (hsz' (by decide))))))))))⟩) (by assumption) ?_
        change wpAnyH _ _ _ _ _ _ _ (Act.put _ (some 81) _) _
        refine wpAnyH_ready (rs := [1]) (by kernel_rfl) (by simp) ?_
        refine AllReadyH.cons (o := ro1) rfl (fun K hK => ?_) AllReadyH.nil
        · refine ready_val rfl (rx1 _ _) ?_
          refine hK.out _ _ (to_alloc hHeld _) (fun hHeld' => ?_)
          clear hK K hHeld
          have hHeld := hHeld'
          clear hHeld'
          generalize t3.alloc (.cells #[.int .u8 1, .int .u8 2, .int .u8 3] 5) = t4 at *
          generalize (some ⟨t3.heap.size, 0, none⟩ : Option Addr) = q1
          change wpAnyH _ _ _ _ _ _ _ (Act.put _ (some 75) _) _
          refine wpAnyH_take (i := 2) (oi := ro2) (v := .agg #[.int .i64 2, .int .i64 2, .slice q1 3 3]) rfl (by kernel_rfl) (by kernel_rfl) (by kernel_rfl) (fun _ _ _ h => hQ _ _ _ _ _ h) (Or.inl ⟨by rfl, fun u _ => rx2 _ _ (eval_same _ 75 _ (put_lt (put_lt (put_lt (put_lt (put_lt (put_lt (put_lt (put_lt (put_lt (hsz' (by decide))))))))))))⟩) (by assumption) ?_
          change wpAnyH _ _ _ _ _ _ _ (Act.put _ (some 76) _) _
          refine wpAnyH_ready (rs := [11]) (by kernel_rfl) (by simp) ?_
          refine AllReadyH.cons (o := ro11) rfl (fun K hK => ?_) AllReadyH.nil
          refine ready_val rfl (rx11 _ _ (q1 := q1) (q2 := q2) (q3 := q3) (q4 := q4) ((eval_other _ 76 74 _ (by decide)).trans ((eval_other _ 75 74 _ (by decide)).trans ((eval_other _ 81 74 _ (by decide)).trans ((eval_other _ 80 74 _ (by decide)).trans ((eval_other _ 78 74 _ (by decide)).trans ((eval_other _ 77 74 _ (by decide)).trans ((eval_other _ 84 74 _ (by decide)).trans ((eval_other _ 83 74 _ (by decide)).trans ((eval_other _ 82 74 _ (by decide)).trans ((eval_other _ 79 74 _ (by decide)).trans (eval_same _ 74 _ (hsz' (by decide))))))))))))) (eval_same _ 76 _ (put_lt (put_lt (put_lt (put_lt (put_lt (put_lt (put_lt (put_lt (put_lt (put_lt (hsz' (by decide))))))))))))) ((eval_other _ 76 78 _ (by decide)).trans ((eval_other _ 75 78 _ (by decide)).trans ((eval_other _ 81 78 _ (by decide)).trans ((eval_other _ 80 78 _ (by decide)).trans (eval_same _ 78 _ (put_lt (put_lt (put_lt (put_lt (put_lt (put_lt (hsz' (by decide))))))))))))) ((eval_other _ 76 79 _ (by decide)).trans ((eval_other _ 75 79 _ (by decide)).trans ((eval_other _ 81 79 _ (by decide)).trans ((eval_other _ 80 79 _ (by decide)).trans ((eval_other _ 78 79 _ (by decide)).trans ((eval_other _ 77 79 _ (by decide)).trans ((eval_other _ 84 79 _ (by decide)).trans ((eval_other _ 83 79 _ (by decide)).trans ((eval_other _ 82 79 _ (by decide)).trans (eval_same _ 79 _ (put_lt (hsz' (by decide))))))))))))) ((eval_other _ 76 81 _ (by decide)).trans ((eval_other _ 75 81 _ (by decide)).trans (eval_same _ 81 _ (put_lt (put_lt (put_lt (put_lt (put_lt (put_lt (put_lt (put_lt (hsz' (by decide))))))))))))) ((eval_other _ 76 82 _ (by decide)).trans ((eval_other _ 75 82 _ (by decide)).trans ((eval_other _ 81 82 _ (by decide)).trans ((eval_other _ 80 82 _ (by decide)).trans ((eval_other _ 78 82 _ (by decide)).trans ((eval_other _ 77 82 _ (by decide)).trans ((eval_other _ 84 82 _ (by decide)).trans ((eval_other _ 83 82 _ (by decide)).trans (eval_same _ 82 _ (put_lt (put_lt (hsz' (by decide))))))))))))) ((eval_other _ 76 84 _ (by decide)).trans ((eval_other _ 75 84 _ (by decide)).trans ((eval_other _ 81 84 _ (by decide)).trans ((eval_other _ 80 84 _ (by decide)).trans ((eval_other _ 78 84 _ (by decide)).trans ((eval_other _ 77 84 _ (by decide)).trans (eval_same _ 84 _ (put_lt (put_lt (put_lt (put_lt (hsz' (by decide)))))))))))))) ?_
          have hrow : (t4.alloc (.cells #[.int .i64 0, .int .i64 0, .slice none 0 0, .int .i64 2, .int .i64 2, .slice q1 3 3, .int .i64 513, .int .i64 1, .slice q2 513 513, .int .i64 0, .int .i64 5, .slice none 0 0, .int .i64 (-1), .int .i64 (-1), .slice q3 1 1, .int .i64 4294967296, .int .i64 4294967296, .slice none 0 0, .int .i64 1, .int .i64 513, .slice q4 513 513] 24)).heap[t4.heap.size]? = some (.cells #[.int .i64 0, .int .i64 0, .slice none 0 0, .int .i64 2, .int .i64 2, .slice q1 3 3, .int .i64 513, .int .i64 1, .slice q2 513 513, .int .i64 0, .int .i64 5, .slice none 0 0, .int .i64 (-1), .int .i64 (-1), .slice q3 1 1, .int .i64 4294967296, .int .i64 4294967296, .slice none 0 0, .int .i64 1, .int .i64 513, .slice q4 513 513] 24 (0, 0)) := heap_alloc_new t4 _
          have hlo : w.heap.size ≤ t4.heap.size := hHeld.size
          refine hK.out _ _ (to_alloc hHeld _) (fun hHeld' => ?_)
          clear hK K hHeld
          generalize t4.alloc (.cells #[.int .i64 0, .int .i64 0, .slice none 0 0, .int .i64 2, .int .i64 2, .slice q1 3 3, .int .i64 513, .int .i64 1, .slice q2 513 513, .int .i64 0, .int .i64 5, .slice none 0 0, .int .i64 (-1), .int .i64 (-1), .slice q3 1 1, .int .i64 4294967296, .int .i64 4294967296, .slice none 0 0, .int .i64 1, .int .i64 513, .slice q4 513 513] 24) = tz at *
          generalize t4.heap.size = gb at *
          change wpAnyH _ _ _ _ _ _ _ (Act.put _ (some 85) _) _
          refine wpAnyH_take (i := 12) (oi := ro12) (v := .slice (some ⟨gb, 0, none⟩) 7 7) rfl (by kernel_rfl) (by kernel_rfl) (by kernel_rfl) (fun _ _ _ h => hQ _ _ _ _ _ h) (Or.inl ⟨by rfl, fun u _ => rx12 _ _ (eval_same _ 85 _ (put_lt (put_lt (put_lt (put_lt (put_lt (put_lt (put_lt (put_lt (put_lt (put_lt (put_lt (hsz' (by decide))))))))))))))⟩) (by assumption) ?_
          change wpAnyH _ _ _ _ _ _ _ (Act.put _ (some 3) _) _
          refine wpAnyH_done (by kernel_rfl) ?_ _
          have := h gb q1 q2 q3 q4 tz hHeld' hlo hrow
          simp only [ps74x3, ps79x77, ps79x78, ps79x75, ps79x76, ps79x3, ps82x77, ps82x78, ps82x80, ps82x81, ps82x75, ps82x76, ps82x3, ps83x77, ps83x78, ps83x80, ps83x81, ps83x75, ps83x76, ps83x3, ps84x77, ps84x78, ps84x80, ps84x81, ps84x75, ps84x76, ps84x3, ps77x75, ps77x76, ps77x3, ps78x75, ps78x76, ps78x3, ps80x75, ps80x76, ps80x3, ps81x75, ps81x76, ps81x3, ps75x3, ps76x3, ps85x3]
          exact this
    refine AllReadyH.cons (o := ro6) rfl (fun K hK => ?_) AllReadyH.nil
    · refine ready_val rfl (rx6 _ _) ?_
      refine hK.out _ _ (to_alloc hHeld _) (fun hHeld' => ?_)
      clear hK K hHeld
      have hHeld := hHeld'
      clear hHeld'
      generalize t1.alloc (.cells #[.int .u8 1] 5) = t2 at *
      generalize (some ⟨t1.heap.size, 0, none⟩ : Option Addr) = q3
      change wpAnyH _ _ _ _ _ _ _ (Act.put _ (some 80) _) _
      refine wpAnyH_take (i := 7) (oi := ro7) (v := .agg #[.int .i64 (-1), .int .i64 (-1), .slice q3 1 1]) rfl (by kernel_rfl) (by kernel_rfl) (by kernel_rfl) (fun _ _ _ h => hQ _ _ _ _ _ h) (Or.inl ⟨by rfl, fun u _ => rx7 _ _ (eval_same _ 80 _ (put_lt (put_lt (put_lt (put_lt (put_lt (hsz' (by decide))))))))⟩) (by assumption) ?_
      change wpAnyH _ _ _ _ _ _ _ (Act.put _ (some 81) _) _
      refine wpAnyH_ready (rs := [1, 3]) (by kernel_rfl) (by simp) ?_
      refine AllReadyH.cons (o := ro1) rfl (fun K hK => ?_) ?_
      · refine ready_val rfl (rx1 _ _) ?_
        refine hK.out _ _ (to_alloc hHeld _) (fun hHeld' => ?_)
        clear hK K hHeld
        have hHeld := hHeld'
        clear hHeld'
        generalize t2.alloc (.cells #[.int .u8 1, .int .u8 2, .int .u8 3] 5) = t3 at *
        generalize (some ⟨t2.heap.size, 0, none⟩ : Option Addr) = q1
        change wpAnyH _ _ _ _ _ _ _ (Act.put _ (some 75) _) _
        refine wpAnyH_take (i := 2) (oi := ro2) (v := .agg #[.int .i64 2, .int .i64 2, .slice q1 3 3]) rfl (by kernel_rfl) (by kernel_rfl) (by kernel_rfl) (fun _ _ _ h => hQ _ _ _ _ _ h) (Or.inl ⟨by rfl, fun u _ => rx2 _ _ (eval_same _ 75 _ (put_lt (put_lt (put_lt (put_lt (put_lt (put_lt (put_lt (hsz' (by decide))))))))))⟩) (by assumption) ?_
        change wpAnyH _ _ _ _ _ _ _ (Act.put _ (some 76) _) _
        refine wpAnyH_ready (rs := [3]) (by kernel_rfl) (by simp) ?_
        refine AllReadyH.cons (o := ro3) rfl (fun K hK => ?_) AllReadyH.nil
        · refine ready_val rfl (hmk3.out _ t3) ?_
          refine hK.out _ _ (to_alloc hHeld _) (fun hHeld' => ?_)
          clear hK K hHeld
          have hHeld := hHeld'
          clear hHeld'
          generalize t3.alloc ob3 = t4 at *
          generalize (some ⟨t3.heap.size, 0, none⟩ : Option Addr) = q2
          change wpAnyH _ _ _ _ _ _ _ (Act.put _ (some 77) _) _
          refine wpAnyH_take (i := 4) (oi := ro4) (v := .agg #[.int .i64 513, .int .i64 1, .slice q2 513 513]) rfl (by kernel_rfl) (by kernel_rfl) (by kernel_rfl) (fun _ _ _ h => hQ _ _ _ _ _ h) (Or.inl ⟨by rfl, fun u _ => rx4 _ _ (eval_same _ 77 _ (put_lt (put_lt (put_lt (put_lt (put_lt (put_lt (put_lt (put_lt (put_lt (hsz' (by decide))))))))))))⟩) (by assumption) ?_
          change wpAnyH _ _ _ _ _ _ _ (Act.put _ (some 78) _) _
          refine wpAnyH_ready (rs := [11]) (by kernel_rfl) (by simp) ?_
          refine AllReadyH.cons (o := ro11) rfl (fun K hK => ?_) AllReadyH.nil
          refine ready_val rfl (rx11 _ _ (q1 := q1) (q2 := q2) (q3 := q3) (q4 := q4) ((eval_other _ 78 74 _ (by decide)).trans ((eval_other _ 77 74 _ (by decide)).trans ((eval_other _ 76 74 _ (by decide)).trans ((eval_other _ 75 74 _ (by decide)).trans ((eval_other _ 81 74 _ (by decide)).trans ((eval_other _ 80 74 _ (by decide)).trans ((eval_other _ 84 74 _ (by decide)).trans ((eval_other _ 83 74 _ (by decide)).trans ((eval_other _ 82 74 _ (by decide)).trans ((eval_other _ 79 74 _ (by decide)).trans (eval_same _ 74 _ (hsz' (by decide))))))))))))) ((eval_other _ 78 76 _ (by decide)).trans ((eval_other _ 77 76 _ (by decide)).trans (eval_same _ 76 _ (put_lt (put_lt (put_lt (put_lt (put_lt (put_lt (put_lt (put_lt (hsz' (by decide))))))))))))) (eval_same _ 78 _ (put_lt (put_lt (put_lt (put_lt (put_lt (put_lt (put_lt (put_lt (put_lt (put_lt (hsz' (by decide))))))))))))) ((eval_other _ 78 79 _ (by decide)).trans ((eval_other _ 77 79 _ (by decide)).trans ((eval_other _ 76 79 _ (by decide)).trans ((eval_other _ 75 79 _ (by decide)).trans ((eval_other _ 81 79 _ (by decide)).trans ((eval_other _ 80 79 _ (by decide)).trans ((eval_other _ 84 79 _ (by decide)).trans ((eval_other _ 83 79 _ (by decide)).trans ((eval_other _ 82 79 _ (by decide)).trans (eval_same _ 79 _ (put_lt (hsz' (by decide))))))))))))) ((eval_other _ 78 81 _ (by decide)).trans ((eval_other _ 77 81 _ (by decide)).trans ((eval_other _ 76 81 _ (by decide)).trans ((eval_other _ 75 81 _ (by decide)).trans (eval_same _ 81 _ (put_lt (put_lt (put_lt (put_lt (put_lt (put_lt (hsz' (by decide))))))))))))) ((eval_other _ 78 82 _ (by decide)).trans ((eval_other _ 77 82 _ (by decide)).trans ((eval_other _ 76 82 _ (by decide)).trans ((eval_other _ 75 82 _ (by decide)).trans ((eval_other _ 81 82 _ (by decide)).trans ((eval_other _ 80 82 _ (by decide)).trans ((eval_other _ 84 82 _ (by decide)).trans ((eval_other _ 83 82 _ (by decide)).trans (eval_same _ 82 _ (put_lt (put_lt (hsz' (by decide))))))))))))) ((eval_other _ 78 84 _ (by decide)).trans ((eval_other _ 77 84 _ (by decide)).trans ((eval_other _ 76 84 _ (by decide)).trans ((eval_other _ 75 84 _ (by decide)).trans ((eval_other _ 81 84 _ (by decide)).trans ((eval_other _ 80 84 _ (by decide)).trans (eval_same _ 84 _ (put_lt (put_lt (put_lt (put_lt (hsz' (by decide)))))))))))))) ?_
          have hrow : (t4.alloc (.cells #[.int .i64 0, .int .i64 0, .slice none 0 0, .int .i64 2, .int .i64 2, .slice q1 3 3, .int .i64 513, .int .i64 1, .slice q2 513 513, .int .i64 0, .int .i64 5, .slice none 0 0, .int .i64 (-1), .int .i64 (-1), .slice q3 1 1, .int .i64 4294967296, .int .i64 4294967296, .slice none 0 0, .int .i64 1, .int .i64 513, .slice q4 513 513] 24)).heap[t4.heap.size]? = some (.cells #[.int .i64 0, .int .i64 0, .slice none 0 0, .int .i64 2, .int .i64 2, .slice q1 3 3, .int .i64 513, .int .i64 1, .slice q2 513 513, .int .i64 0, .int .i64 5, .slice none 0 0, .int .i64 (-1), .int .i64 (-1), .slice q3 1 1, .int .i64 4294967296, .int .i64 4294967296, .slice none 0 0, .int .i64 1, .int .i64 513, .slice q4 513 513] 24 (0, 0)) := heap_alloc_new t4 _
          have hlo : w.heap.size ≤ t4.heap.size := hHeld.size
          refine hK.out _ _ (to_alloc hHeld _) (fun hHeld' => ?_)
          clear hK K hHeld
          generalize t4.alloc (.cells #[.int .i64 0, .int .i64 0, .slice none 0 0, .int .i64 2, .int .i64 2, .slice q1 3 3, .int .i64 513, .int .i64 1, .slice q2 513 513, .int .i64 0, .int .i64 5, .slice none 0 0, .int .i64 (-1), .int .i64 (-1), .slice q3 1 1, .int .i64 4294967296, .int .i64 4294967296, .slice none 0 0, .int .i64 1, .int .i64 513, .slice q4 513 513] 24) = tz at *
          generalize t4.heap.size = gb at *
          change wpAnyH _ _ _ _ _ _ _ (Act.put _ (some 85) _) _
          refine wpAnyH_take (i := 12) (oi := ro12) (v := .slice (some ⟨gb, 0, none⟩) 7 7) rfl (by kernel_rfl) (by kernel_rfl) (by kernel_rfl) (fun _ _ _ h => hQ _ _ _ _ _ h) (Or.inl ⟨by rfl, fun u _ => rx12 _ _ (eval_same _ 85 _ (put_lt (put_lt (put_lt (put_lt (put_lt (put_lt (put_lt (put_lt (put_lt (put_lt (put_lt (hsz' (by decide))))))))))))))⟩) (by assumption) ?_
          change wpAnyH _ _ _ _ _ _ _ (Act.put _ (some 3) _) _
          refine wpAnyH_done (by kernel_rfl) ?_ _
          have := h gb q1 q2 q3 q4 tz hHeld' hlo hrow
          simp only [ps74x3, ps79x75, ps79x76, ps79x77, ps79x78, ps79x3, ps82x80, ps82x81, ps82x75, ps82x76, ps82x77, ps82x78, ps82x3, ps83x80, ps83x81, ps83x75, ps83x76, ps83x77, ps83x78, ps83x3, ps84x80, ps84x81, ps84x75, ps84x76, ps84x77, ps84x78, ps84x3, ps80x75, ps80x76, ps80x77, ps80x78, ps80x3, ps81x75, ps81x76, ps81x77, ps81x78, ps81x3, ps75x3, ps76x3, ps77x3, ps78x3, ps85x3]
          exact this
      refine AllReadyH.cons (o := ro3) rfl (fun K hK => ?_) AllReadyH.nil
      · refine ready_val rfl (hmk3.out _ t2) ?_
        refine hK.out _ _ (to_alloc hHeld _) (fun hHeld' => ?_)
        clear hK K hHeld
        have hHeld := hHeld'
        clear hHeld'
        generalize t2.alloc ob3 = t3 at *
        generalize (some ⟨t2.heap.size, 0, none⟩ : Option Addr) = q2
        change wpAnyH _ _ _ _ _ _ _ (Act.put _ (some 77) _) _
        refine wpAnyH_take (i := 4) (oi := ro4) (v := .agg #[.int .i64 513, .int .i64 1, .slice q2 513 513]) rfl (by kernel_rfl) (by kernel_rfl) (by kernel_rfl) (fun _ _ _ h => hQ _ _ _ _ _ h) (Or.inl ⟨by rfl, fun u _ => rx4 _ _ (eval_same _ 77 _ (put_lt (put_lt (put_lt (put_lt (put_lt (put_lt (put_lt (hsz' (by decide))))))))))⟩) (by assumption) ?_
        change wpAnyH _ _ _ _ _ _ _ (Act.put _ (some 78) _) _
        refine wpAnyH_ready (rs := [1]) (by kernel_rfl) (by simp) ?_
        refine AllReadyH.cons (o := ro1) rfl (fun K hK => ?_) AllReadyH.nil
        · refine ready_val rfl (rx1 _ _) ?_
          refine hK.out _ _ (to_alloc hHeld _) (fun hHeld' => ?_)
          clear hK K hHeld
          have hHeld := hHeld'
          clear hHeld'
          generalize t3.alloc (.cells #[.int .u8 1, .int .u8 2, .int .u8 3] 5) = t4 at *
          generalize (some ⟨t3.heap.size, 0, none⟩ : Option Addr) = q1
          change wpAnyH _ _ _ _ _ _ _ (Act.put _ (some 75) _) _
          refine wpAnyH_take (i := 2) (oi := ro2) (v := .agg #[.int .i64 2, .int .i64 2, .slice q1 3 3]) rfl (by kernel_rfl) (by kernel_rfl) (by kernel_rfl) (fun _ _ _ h => hQ _ _ _ _ _ h) (Or.inl ⟨by rfl, fun u _ => rx2 _ _ (eval_same _ 75 _ (put_lt (put_lt (put_lt (put_lt (put_lt (put_lt (put_lt (put_lt (put_lt (hsz' (by decide))))))))))))⟩) (by assumption) ?_
          change wpAnyH _ _ _ _ _ _ _ (Act.put _ (some 76) _) _
          refine wpAnyH_ready (rs := [11]) (by kernel_rfl) (by simp) ?_
          refine AllReadyH.cons (o := ro11) rfl (fun K hK => ?_) AllReadyH.nil
          refine ready_val rfl (rx11 _ _ (q1 := q1) (q2 := q2) (q3 := q3) (q4 := q4) ((eval_other _ 76 74 _ (by decide)).trans ((eval_other _ 75 74 _ (by decide)).trans ((eval_other _ 78 74 _ (by decide)).trans ((eval_other _ 77 74 _ (by decide)).trans ((eval_other _ 81 74 _ (by decide)).trans ((eval_other _ 80 74 _ (by decide)).trans ((eval_other _ 84 74 _ (by decide)).trans ((eval_other _ 83 74 _ (by decide)).trans ((eval_other _ 82 74 _ (by decide)).trans ((eval_other _ 79 74 _ (by decide)).trans (eval_same _ 74 _ (hsz' (by decide))))))))))))) (eval_same _ 76 _ (put_lt (put_lt (put_lt (put_lt (put_lt (put_lt (put_lt (put_lt (put_lt (put_lt (hsz' (by decide))))))))))))) ((eval_other _ 76 78 _ (by decide)).trans ((eval_other _ 75 78 _ (by decide)).trans (eval_same _ 78 _ (put_lt (put_lt (put_lt (put_lt (put_lt (put_lt (put_lt (put_lt (hsz' (by decide))))))))))))) ((eval_other _ 76 79 _ (by decide)).trans ((eval_other _ 75 79 _ (by decide)).trans ((eval_other _ 78 79 _ (by decide)).trans ((eval_other _ 77 79 _ (by decide)).trans ((eval_other _ 81 79 _ (by decide)).trans ((eval_other _ 80 79 _ (by decide)).trans ((eval_other _ 84 79 _ (by decide)).trans ((eval_other _ 83 79 _ (by decide)).trans ((eval_other _ 82 79 _ (by decide)).trans (eval_same _ 79 _ (put_lt (hsz' (by decide))))))))))))) ((eval_other _ 76 81 _ (by decide)).trans ((eval_other _ 75 81 _ (by decide)).trans ((eval_other _ 78 81 _ (by decide)).trans ((eval_other _ 77 81 _ (by decide)).trans (eval_same _ 81 _ (put_lt (put_lt (put_lt (put_lt (put_lt (put_lt (hsz' (by decide))))))))))))) ((eval_other _ 76 82 _ (by decide)).trans ((eval_other _ 75 82 _ (by decide)).trans ((eval_other _ 78 82 _ (by decide)).trans ((eval_other _ 77 82 _ (by decide)).trans ((eval_other _ 81 82 _ (by decide)).trans ((eval_other _ 80 82 _ (by decide)).trans ((eval_other _ 84 82 _ (by decide)).trans ((eval_other _ 83 82 _ (by decide)).trans (eval_same _ 82 _ (put_lt (put_lt (hsz' (by decide))))))))))))) ((eval_other _ 76 84 _ (by decide)).trans ((eval_other _ 75 84 _ (by decide)).trans ((eval_other _ 78 84 _ (by decide)).trans ((eval_other _ 77 84 _ (by decide)).trans ((eval_other _ 81 84 _ (by decide)).trans ((eval_other _ 80 84 _ (by decide)).trans (eval_same _ 84 _ (put_lt (put_lt (put_lt (put_lt (hsz' (by decide)))))))))))))) ?_
          have hrow : (t4.alloc (.cells #[.int .i64 0, .int .i64 0, .slice none 0 0, .int .i64 2, .int .i64 2, .slice q1 3 3, .int .i64 513, .int .i64 1, .slice q2 513 513, .int .i64 0, .int .i64 5, .slice none 0 0, .int .i64 (-1), .int .i64 (-1), .slice q3 1 1, .int .i64 4294967296, .int .i64 4294967296, .slice none 0 0, .int .i64 1, .int .i64 513, .slice q4 513 513] 24)).heap[t4.heap.size]? = some (.cells #[.int .i64 0, .int .i64 0, .slice none 0 0, .int .i64 2, .int .i64 2, .slice q1 3 3, .int .i64 513, .int .i64 1, .slice q2 513 513, .int .i64 0, .int .i64 5, .slice none 0 0, .int .i64 (-1), .int .i64 (-1), .slice q3 1 1, .int .i64 4294967296, .int .i64 4294967296, .slice none 0 0, .int .i64 1, .int .i64 513, .slice q4 513 513] 24 (0, 0)) := heap_alloc_new t4 _
          have hlo : w.heap.size ≤ t4.heap.size := hHeld.size
          refine hK.out _ _ (to_alloc hHeld _) (fun hHeld' => ?_)
          clear hK K hHeld
          generalize t4.alloc (.cells #[.int .i64 0, .int .i64 0, .slice none 0 0, .int .i64 2, .int .i64 2, .slice q1 3 3, .int .i64 513, .int .i64 1, .slice q2 513 513, .int .i64 0, .int .i64 5, .slice none 0 0, .int .i64 (-1), .int .i64 (-1), .slice q3 1 1, .int .i64 4294967296, .int .i64 4294967296, .slice none 0 0, .int .i64 1, .int .i64 513, .slice q4 513 513] 24) = tz at *
          generalize t4.heap.size = gb at *
          change wpAnyH _ _ _ _ _ _ _ (Act.put _ (some 85) _) _
          refine wpAnyH_take (i := 12) (oi := ro12) (v := .slice (some ⟨gb, 0, none⟩) 7 7) rfl (by kernel_rfl) (by kernel_rfl) (by kernel_rfl) (fun _ _ _ h => hQ _ _ _ _ _ h) (Or.inl ⟨by rfl, fun u _ => rx12 _ _ (eval_same _ 85 _ (put_lt (put_lt (put_lt (put_lt (put_lt (put_lt (put_lt (put_lt (put_lt (put_lt (put_lt (hsz' (by decide))))))))))))))⟩) (by assumption) ?_
          change wpAnyH _ _ _ _ _ _ _ (Act.put _ (some 3) _) _
          refine wpAnyH_done (by kernel_rfl) ?_ _
          have := h gb q1 q2 q3 q4 tz hHeld' hlo hrow
          simp only [ps74x3, ps79x77, ps79x78, ps79x75, ps79x76, ps79x3, ps82x80, ps82x81, ps82x77, ps82x78, ps82x75, ps82x76, ps82x3, ps83x80, ps83x81, ps83x77, ps83x78, ps83x75, ps83x76, ps83x3, ps84x80, ps84x81, ps84x77, ps84x78, ps84x75, ps84x76, ps84x3, ps80x77, ps80x78, ps80x75, ps80x76, ps80x3, ps81x77, ps81x78, ps81x75, ps81x76, ps81x3, ps77x75, ps77x76, ps77x3, ps78x75, ps78x76, ps78x3, ps75x3, ps76x3, ps85x3]
          exact this

end Go.Proofs.Ytlgfkkegehpllab
