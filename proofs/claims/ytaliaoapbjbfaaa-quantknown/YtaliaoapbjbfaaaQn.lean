/- DERIVED. The examples of QuantKnown. -/
import Derived.Test.YtaliaoapbjbfaaaDb
import Derived.Test.YtaliaoapbjbfaaaQm
import Derived.Deep.WholeRow
namespace Go.Proofs.Ytaliaoapbjbfaaa
open Go.RowKit

def kr1 : List Int := [0, 0, 255, 31, 100, -31, 0, -31, 256, 0, 0, 32, -1, 0, 0, -32]
def kr2 : List Int := [100, 7, 4, -100, 7, 8, 3, 7, 16, 100, 7, 32, 100, 7, 64, 1048576, 1, 64, -1048576, 1, 32, 1048577, 1, 4, 0, 0, 4, 0, 32769, 4, 0, 1, 5, 0, 1, 128, -1048577, 1, 4, 1048576, 32768, 4]
def kr3 : List Int := [14, 7, 4, -14, 7, 8, 29, 7, 32, 57, 7, 64, 1048576, 16, 4, 40000, 1, 4, -40000, 1, 16, 1048576, 32768, 64, 1048577, 1, 4, 0, 1, 5, 16777215, 1, 4, -65535, 1, 32, 1048576, 15, 64, 1048576, 16, 64, -1048576, 16, 32]
def ka1 : List Int := [4, 4, 0, 936, 1613, 0, 122, 172, 0, 4, 4, 0, 0, 0, 2, 0, 0, 2, 0, 0, 2, 0, 0, 2]
def ka2 : List Int := [14, 0, -14, 0, 0, 0, 29, 0, 57, 0, 1048576, 0, -1048576, 0, 0, 2, 0, 2, 0, 2, 0, 2, 0, 2, 0, 2, 32, 0]
def ka3 : List Int := [98, 0, -98, 0, 101, 0, 99, 0, 0, 0, 32767, 0, -32768, 0, 0, 0, 0, 2, 0, 2, 0, 2, -32767, 0, 32767, 0, 0, 0, 0, 0]
def kg1 (k : Nat) : List Int := (List.range k).flatMap fun i => [stA (kr1.getD (i * 2) 0) (kr1.getD (i * 2 + 1) 0) 96, stA (kr1.getD (i * 2) 0) (kr1.getD (i * 2 + 1) 0) 48, stE (kr1.getD (i * 2) 0) (kr1.getD (i * 2 + 1) 0)]
def kg2 (k : Nat) : List Int := (List.range k).flatMap fun i => [lvA (kr2.getD (i * 3) 0) (kr2.getD (i * 3 + 1) 0) (kr2.getD (i * 3 + 2) 0), lvE (kr2.getD (i * 3) 0) (kr2.getD (i * 3 + 1) 0) (kr2.getD (i * 3 + 2) 0)]
def kg3 (k : Nat) : List Int := (List.range k).flatMap fun i => [vlA (kr3.getD (i * 3) 0) (kr3.getD (i * 3 + 1) 0) (kr3.getD (i * 3 + 2) 0), lvE (kr3.getD (i * 3) 0) (kr3.getD (i * 3 + 1) 0) (kr3.getD (i * 3 + 2) 0)]
theorem kg1_all : kg1 8 = ka1 := by decide +kernel
theorem kg2_all : kg2 14 = ka2 := by decide +kernel
theorem kg3_all : kg3 15 = ka3 := by decide +kernel

theorem kg1_succ (k : Nat) : kg1 (k + 1) = kg1 k ++ [stA (kr1.getD (k * 2) 0) (kr1.getD (k * 2 + 1) 0) 96, stA (kr1.getD (k * 2) 0) (kr1.getD (k * 2 + 1) 0) 48, stE (kr1.getD (k * 2) 0) (kr1.getD (k * 2 + 1) 0)] := by simp [kg1, List.range_succ]
theorem kg2_succ (k : Nat) : kg2 (k + 1) = kg2 k ++ [lvA (kr2.getD (k * 3) 0) (kr2.getD (k * 3 + 1) 0) (kr2.getD (k * 3 + 2) 0), lvE (kr2.getD (k * 3) 0) (kr2.getD (k * 3 + 1) 0) (kr2.getD (k * 3 + 2) 0)] := by simp [kg2, List.range_succ]
theorem kg3_succ (k : Nat) : kg3 (k + 1) = kg3 k ++ [vlA (kr3.getD (k * 3) 0) (kr3.getD (k * 3 + 1) 0) (kr3.getD (k * 3 + 2) 0), lvE (kr3.getD (k * 3) 0) (kr3.getD (k * 3 + 1) 0) (kr3.getD (k * 3 + 2) 0)] := by simp [kg3, List.range_succ]
theorem eq_yes {w : World} {a b : Option Addr} {n m c d : Nat} {C D : List Int} (h1 : Si w a C) (h2 : Si w b D) (hn : C.length = n) (hm : D.length = m) (e : C = D) (hl : n ≤ 140737488355328) :
    Calls Try.prog 25 #[.slice a n c, .slice b m d] w fun e w' => e = .returned (.bool true) ∧ Below w.heap.size w w' := by
  subst e; subst hn; subst hm
  have := eqInts_any (c := c) (d := d) h1 h2 hl hl
  rwa [eqI_self] at this
/-- a loop over a table: what is gathered, and the memory ahead of it -/
structure Kl (v wr : World) (a : Option Addr) (n c : Nat) (C : List Int) : Prop where
  o : Oi wr v.heap.size a n c C
  b : Below v.heap.size v wr

theorem below_go {w u v : World} (h : Below w.heap.size w u) (k : Below u.heap.size u v) : Below w.heap.size w v := below_to h k
def hv1 : Array Value := #[.bool false, .int .i64 0, .bool false, .bool false, .int .i64 0, .int .i64 0, .int .i64 0, .int .i64 0, .int .i64 0, .int .i64 10, .int .i64 1, .int .i64 2, .int .i64 3, .int .i64 4, .int .i64 5, .int .i64 0, .int .i64 0, .bool false, .int .i64 0, .int .i64 0, .int .i64 0, .int .i64 0, .int .i64 0, .bool false, .int .i64 0, .int .i64 0, .slice none 0 0, .bool false, .bool false, .bool false]
def hv2 : Array Value := #[.bool false, .int .i64 0, .bool false, .bool false, .int .i64 0, .int .i64 0, .int .i64 0, .int .i64 0, .int .i64 0, .int .i64 10, .int .i64 0, .int .i64 0, .int .i64 0, .int .i64 0, .int .i64 32, .int .i64 0, .int .i64 0, .bool false, .int .i64 0, .int .i64 0, .int .i64 0, .int .i64 0, .int .i64 0, .bool false, .int .i64 0, .int .i64 0, .slice none 0 0, .bool false, .bool false, .bool false]
def hv3 : Array Value := #[.bool false, .int .i64 0, .bool false, .bool false, .int .i64 0, .int .i64 0, .int .i64 0, .int .i64 0, .int .i64 0, .int .i64 256, .int .i64 0, .int .i64 0, .int .i64 0, .int .i64 0, .int .i64 0, .int .i64 0, .int .i64 0, .bool false, .int .i64 0, .int .i64 0, .int .i64 0, .int .i64 0, .int .i64 0, .bool false, .int .i64 0, .int .i64 0, .slice none 0 0, .bool false, .bool false, .bool false]
def hv4 : Array Value := #[.bool false, .int .i64 0, .bool true, .bool false, .int .i64 0, .int .i64 0, .int .i64 0, .int .i64 0, .int .i64 0, .int .i64 0, .int .i64 0, .int .i64 0, .int .i64 0, .int .i64 0, .int .i64 0, .int .i64 0, .int .i64 0, .bool false, .int .i64 0, .int .i64 0, .int .i64 0, .int .i64 0, .int .i64 0, .bool false, .int .i64 0, .int .i64 0, .slice none 0 0, .bool false, .bool false, .bool false]
def hv5 : Array Value := #[.bool false, .int .i64 0, .bool false, .bool false, .int .i64 0, .int .i64 0, .int .i64 0, .int .i64 0, .int .i64 0, .int .i64 1, .int .i64 0, .int .i64 0, .int .i64 0, .int .i64 0, .int .i64 0, .int .i64 0, .int .i64 0, .bool false, .int .i64 0, .int .i64 0, .int .i64 0, .int .i64 0, .int .i64 0, .bool false, .int .i64 0, .int .i64 0, .slice none 0 0, .bool false, .bool false, .bool false]
def hv6 : Array Value := #[.bool false, .int .i64 0, .bool false, .bool false, .int .i64 0, .int .i64 0, .int .i64 0, .int .i64 0, .int .i64 0, .int .i64 0, .int .i64 0, .int .i64 0, .int .i64 0, .int .i64 0, .int .i64 1, .int .i64 0, .int .i64 0, .bool false, .int .i64 0, .int .i64 0, .int .i64 0, .int .i64 0, .int .i64 0, .bool false, .int .i64 0, .int .i64 0, .slice none 0 0, .bool false, .bool false, .bool false]
def hvz : Array Value := #[.bool false, .int .i64 0, .bool false, .bool false, .int .i64 0, .int .i64 0, .int .i64 0, .int .i64 0, .int .i64 0, .int .i64 0, .int .i64 0, .int .i64 0, .int .i64 0, .int .i64 0, .int .i64 0, .int .i64 0, .int .i64 0, .bool false, .int .i64 0, .int .i64 0, .int .i64 0, .int .i64 0, .int .i64 0, .bool false, .int .i64 0, .int .i64 0, .slice none 0 0, .bool false, .bool false, .bool false]
theorem wpList_val_if {P : Program} {ops : Array Oper} {Q : Exit → Act → World → Prop} {a : Act} {w w' : World} {rest : List Oper} {o : Oper} {v : Value} (hw : Region.wanted o (yielded ops a.tmps) = true) (hr : (execOp a.eval o).run P w = .ok (.value v) w') (h : wpList P ops Q rest (a.put o.dst v) w') : wpList P ops Q (o :: rest) a w := by
  refine wpList_step fun K hK' => ?_
  rw [if_pos hw]
  unfold Oper.wp
  rw [hr]
  exact hK' _ _ h
theorem wpList_skip_if {P : Program} {ops : Array Oper} {Q : Exit → Act → World → Prop} {a : Act} {w w' : World} {rest : List Oper} {o : Oper} (hw : Region.wanted o (yielded ops a.tmps) = true) (hr : (execOp a.eval o).run P w = .ok .skip w') (h : wpList P ops Q rest (a.put o.dst undef) w') : wpList P ops Q (o :: rest) a w := by
  refine wpList_step fun K hK' => ?_
  rw [if_pos hw]
  unfold Oper.wp
  rw [hr]
  exact hK' _ _ h
theorem hal (a : Act) (u : World) (o : Oper) (ho : o.op = Op.alloc 28) : (execOp a.eval o).run Try.prog u = .ok (.value (.pointer (some ⟨u.heap.size, 0, none⟩))) (u.alloc (.cells hvz 28)) := by
  have h : (Instr.alloc 28 true (.tuple #[])).run Try.prog u = .ok (.pointer (some ⟨u.heap.size, 0, none⟩)) (u.alloc (.cells hvz 28)) := by kernel_rfl
  simp only [execOp, ho]
  rw [Sem.run_bind, h]
  rfl
theorem hst (a : Act) (u : World) (o : Oper) (V : Array Value) (x y : Operand) (ho : o.op = Op.store 28 x y) (hx : a.eval x = .pointer (some ⟨u.heap.size, 0, none⟩)) (hy : a.eval y = .agg V) (hs : V.size = 30) (h1 : V.all (·.oneCell') = true) : (execOp a.eval o).run Try.prog (u.alloc (.cells hvz 28)) = .ok .skip (u.alloc (.cells V 28)) := by
  have h : (Instr.storeAt 28 (.pointer (some ⟨u.heap.size, 0, none⟩)) (.agg V)).run Try.prog (u.alloc (.cells hvz 28)) = .ok () (u.alloc (.cells V 28)) := run_storeAt_new u 28 hvz V (by rw [Try.size28, hs]) (by rw [hs]; rfl) h1
  simp only [execOp, ho, hx, hy]
  rw [Sem.run_bind, h]
  rfl
theorem hb1 (a : Act) (u : World) (o : Oper) {x : Operand} (ho : o.op = Op.build 28 #[(7, .const (.int .i64 10)), (8, x)]) (hx : a.eval x = .agg #[.int .i64 1, .int .i64 2, .int .i64 3, .int .i64 4, .int .i64 5]) : (execOp a.eval o).run Try.prog u = .ok (.value (.agg hv1)) u := by
  have h : (Instr.build 28 #[(7, .int .i64 10), (8, .agg #[.int .i64 1, .int .i64 2, .int .i64 3, .int .i64 4, .int .i64 5])]).run Try.prog u = .ok (.agg hv1) u := by kernel_rfl
  simp only [execOp, ho, List.map_toArray, List.map_cons, List.map_nil, hx]
  rw [Sem.run_bind]
  first | rw [h] | (simp only [Act.eval]; rw [h])
  rfl
theorem hb2 (a : Act) (u : World) (o : Oper) {x : Operand} (ho : o.op = Op.build 28 #[(7, .const (.int .i64 10)), (8, x)]) (hx : a.eval x = .agg #[.int .i64 0, .int .i64 0, .int .i64 0, .int .i64 0, .int .i64 32]) : (execOp a.eval o).run Try.prog u = .ok (.value (.agg hv2)) u := by
  have h : (Instr.build 28 #[(7, .int .i64 10), (8, .agg #[.int .i64 0, .int .i64 0, .int .i64 0, .int .i64 0, .int .i64 32])]).run Try.prog u = .ok (.agg hv2) u := by kernel_rfl
  simp only [execOp, ho, List.map_toArray, List.map_cons, List.map_nil, hx]
  rw [Sem.run_bind]
  first | rw [h] | (simp only [Act.eval]; rw [h])
  rfl
theorem hb3 (a : Act) (u : World) (o : Oper) (ho : o.op = Op.build 28 #[(7, .const (.int .i64 256))]) : (execOp a.eval o).run Try.prog u = .ok (.value (.agg hv3)) u := by
  have h : (Instr.build 28 #[(7, .int .i64 256)]).run Try.prog u = .ok (.agg hv3) u := by kernel_rfl
  simp only [execOp, ho, List.map_toArray, List.map_cons, List.map_nil]
  rw [Sem.run_bind]
  first | rw [h] | (simp only [Act.eval]; rw [h])
  rfl
theorem hb4 (a : Act) (u : World) (o : Oper) (ho : o.op = Op.build 28 #[(2, .const (.bool true))]) : (execOp a.eval o).run Try.prog u = .ok (.value (.agg hv4)) u := by
  have h : (Instr.build 28 #[(2, .bool true)]).run Try.prog u = .ok (.agg hv4) u := by kernel_rfl
  simp only [execOp, ho, List.map_toArray, List.map_cons, List.map_nil]
  rw [Sem.run_bind]
  first | rw [h] | (simp only [Act.eval]; rw [h])
  rfl
theorem hb5 (a : Act) (u : World) (o : Oper) (ho : o.op = Op.build 28 #[(7, .const (.int .i64 1))]) : (execOp a.eval o).run Try.prog u = .ok (.value (.agg hv5)) u := by
  have h : (Instr.build 28 #[(7, .int .i64 1)]).run Try.prog u = .ok (.agg hv5) u := by kernel_rfl
  simp only [execOp, ho, List.map_toArray, List.map_cons, List.map_nil]
  rw [Sem.run_bind]
  first | rw [h] | (simp only [Act.eval]; rw [h])
  rfl
theorem hb6 (a : Act) (u : World) (o : Oper) {x : Operand} (ho : o.op = Op.build 28 #[(8, x)]) (hx : a.eval x = .agg #[.int .i64 0, .int .i64 0, .int .i64 0, .int .i64 0, .int .i64 1]) : (execOp a.eval o).run Try.prog u = .ok (.value (.agg hv6)) u := by
  have h : (Instr.build 28 #[(8, .agg #[.int .i64 0, .int .i64 0, .int .i64 0, .int .i64 0, .int .i64 1])]).run Try.prog u = .ok (.agg hv6) u := by kernel_rfl
  simp only [execOp, ho, List.map_toArray, List.map_cons, List.map_nil, hx]
  rw [Sem.run_bind]
  first | rw [h] | (simp only [Act.eval]; rw [h])
  rfl
theorem k13a (u : World) : Calls Try.prog 13 #[.agg hv1] u fun e w' => e = .returned (.tuple #[.agg #[.int .i64 16, .int .i64 16, .int .i64 17, .int .i64 20, .int .i64 20, .int .i64 23], .int .i64 0]) ∧ Below u.heap.size u w' := by
  have e1 : spA 10 1 2 3 4 5 = #[.int .i64 16, .int .i64 16, .int .i64 17, .int .i64 20, .int .i64 20, .int .i64 23] := by kernel_rfl
  have e2 : spE 10 1 2 3 4 5 = 0 := by decide +kernel
  rw [← e1, ← e2]
  exact steps_any
theorem k13b (u : World) : Calls Try.prog 13 #[.agg hv2] u fun e w' => e = .returned (.tuple #[.agg #[.int .i64 0, .int .i64 0, .int .i64 0, .int .i64 0, .int .i64 0, .int .i64 0], .int .i64 2]) ∧ Below u.heap.size u w' := by
  have e1 : spA 10 0 0 0 0 32 = #[.int .i64 0, .int .i64 0, .int .i64 0, .int .i64 0, .int .i64 0, .int .i64 0] := by kernel_rfl
  have e2 : spE 10 0 0 0 0 32 = 2 := by decide +kernel
  rw [← e1, ← e2]
  exact steps_any
theorem k13c (u : World) : Calls Try.prog 13 #[.agg hv3] u fun e w' => e = .returned (.tuple #[.agg #[.int .i64 0, .int .i64 0, .int .i64 0, .int .i64 0, .int .i64 0, .int .i64 0], .int .i64 2]) ∧ Below u.heap.size u w' := by
  have e1 : spA 256 0 0 0 0 0 = #[.int .i64 0, .int .i64 0, .int .i64 0, .int .i64 0, .int .i64 0, .int .i64 0] := by kernel_rfl
  have e2 : spE 256 0 0 0 0 0 = 2 := by decide +kernel
  rw [← e1, ← e2]
  exact steps_any
theorem k15d (u : World) : Calls Try.prog 15 #[.agg hv4] u fun e w' => e = .returned (.bool true) ∧ Below u.heap.size u w' := by
  have e1 : lsB 0 0 0 0 0 0 = true := by decide +kernel
  rw [← e1]
  exact lossless_any
theorem k15a (u : World) : Calls Try.prog 15 #[.agg hv1] u fun e w' => e = .returned (.bool false) ∧ Below u.heap.size u w' := by
  have e1 : lsB 10 1 2 3 4 5 = false := by decide +kernel
  rw [← e1]
  exact lossless_any
theorem k15e (u : World) : Calls Try.prog 15 #[.agg hv5] u fun e w' => e = .returned (.bool false) ∧ Below u.heap.size u w' := by
  have e1 : lsB 1 0 0 0 0 0 = false := by decide +kernel
  rw [← e1]
  exact lossless_any
theorem k15f (u : World) : Calls Try.prog 15 #[.agg hv6] u fun e w' => e = .returned (.bool false) ∧ Below u.heap.size u w' := by
  have e1 : lsB 0 0 0 0 0 1 = false := by decide +kernel
  rw [← e1]
  exact lossless_any

end Go.Proofs.Ytaliaoapbjbfaaa
