/- DERIVED. What Put refuses; stores of a whole block. -/
import Derived.Test.YtppofodijlofdaaCi
namespace Go.Proofs.Ytppofodijlofdaa
open Go.RowKit

set_option maxRecDepth 100000 in
set_option maxHeartbeats 2000000 in
theorem put_no {w : World} {p m : Nat} {T : Rc} {v : Value} {L : List Bl} {b : Bl} (hg : Gd w p m T v L) (hm : mp T L b = false) :
    Calls Try.prog 10 #[.pointer (some ⟨p, 0, none⟩), .agg b.cs.toArray] w fun e w' => e = .returned (.int .i64 2) ∧ Below w.heap.size w w' := by
  have HB0 : Hid (Below w.heap.size w (w.alloc (.cells b.cs.toArray 40))) := from_alloc _ _
  have HC0 : Hid (Bc (w.alloc (.cells b.cs.toArray 40)) w.heap.size 0 b) := Bc.box w b
  have HZ0 : Hid (w.heap.size < (w.alloc (.cells b.cs.toArray 40)).heap.size) := by show _ < _; simp
  have HNo : Hid (∀ u, Below w.heap.size w u → Calls Try.prog 24 #[.pointer (some ⟨p, 0, none⟩)] u fun e w' => e = .returned (.bool false) ∧ u = w') := fun u hb => isNone_map (hg.to hb).c5
  have HMp : Hid (∀ u, Below w.heap.size w u → Calls Try.prog 25 #[.pointer (some ⟨p, 0, none⟩), .agg b.cs.toArray] u fun e w' => e = .returned (.bool false) ∧ Below u.heap.size u w') := fun u hb => by rw [← hm]; exact mayPut_any (hg.to hb)
  clear hg hm
  generalize hP : w.heap.size = z at *
  have HP : Hid (w.heap.size = z) := hP
  clear hP
  go_enter Try.func10, Try.ntmps10
  go_upto_region 1 with fail
  generalize hV : (w.alloc (.cells b.cs.toArray 40)) = V at *
  clear hV
  rw [HP.out]
  go_wp2_with (first | ((with_reducible refine (HNo.out _ HB0.out).mono ?_); rintro e w5 ⟨rfl, rfl⟩) | (refine wpList_load_mid (by rfl) 40 _ (by rfl) z 0 (by rfl) b.cs _ HC0.out.rng Try.underlying40 rfl (by rw [Try.info40, Bl.cs_length]) ?_))
  refine (HMp.out _ HB0.out).mono ?_
  rintro e w1 ⟨rfl, hb⟩
  have HB1 : Hid (Below z w w1) := HB0.out.trans (hb.mono (Nat.le_of_lt HZ0.out))
  clear hb
  go_wp2_with fail
  go_ret
  exact ⟨rfl, HB1.out⟩
/-- a grid that is none: no pointer, or one to a grid without a map -/
def Non (w : World) (v : Value) : Prop := v = .pointer none ∨ ∃ p, v = .pointer (some ⟨p, 0, none⟩) ∧ w.cell? ⟨p, 5, none⟩ = some (.map none)
theorem Non.to {w w' : World} {v : Value} (h : Non w v) (hb : Below w.heap.size w w') : Non w' v := by
  rcases h with rfl | ⟨p, rfl, h⟩
  · exact Or.inl rfl
  · exact Or.inr ⟨p, rfl, by rw [newCell hb _ _ (World.block_lt_of_cell? w _ h)]; exact h⟩
theorem isNone_non {w : World} {v : Value} (h : Non w v) : Calls Try.prog 24 #[v] w fun e w' => e = .returned (.bool true) ∧ w = w' := by
  rcases h with rfl | ⟨p, rfl, h⟩
  · exact isNone_nil
  · exact isNone_map h
set_option maxRecDepth 100000 in
set_option maxHeartbeats 2000000 in
theorem put_non {w : World} {v : Value} {b : Bl} (h : Non w v) : Calls Try.prog 10 #[v, .agg b.cs.toArray] w fun e w' => e = .returned (.int .i64 1) ∧ Below w.heap.size w w' := by
  have HB0 : Hid (Below w.heap.size w (w.alloc (.cells b.cs.toArray 40))) := from_alloc _ _
  have HNo : Hid (∀ u, Below w.heap.size w u → Calls Try.prog 24 #[v] u fun e w' => e = .returned (.bool true) ∧ u = w') := fun u hb => isNone_non (h.to hb)
  clear h
  go_enter Try.func10, Try.ntmps10
  go_upto_region 1 with fail
  generalize hV : (w.alloc (.cells b.cs.toArray 40)) = V at *
  clear hV
  go_wp2_with ((with_reducible refine (HNo.out _ HB0.out).mono ?_); rintro e w5 ⟨rfl, rfl⟩)
  go_ret
  exact ⟨rfl, HB0.out⟩

theorem Try.info40b : bz.cs.toArray = #[.int .i64 0, .int .i64 0, .int .i64 0, .int .i64 0, .bool false, .bool false, .int .i64 0, .int .i64 0, .int .i64 0, .int .i64 0, .int .i64 0, .int .i64 0, .int .i64 0, .bool false, .int .i64 0, .int .i64 0, .int .i64 0, .int .i64 0, .int .i64 0, .int .i64 0, .int .i64 0, .int .i64 0, .bool false] := rfl
theorem there_of {w : World} {z : Nat} {b : Bl} (h : Ob w z b) : w.there z 0 23 := fun j hj => by
  rw [Nat.zero_add]
  refine ⟨?_, h.thaw j⟩
  have : (b.cs[j]?).isSome = true := by rw [List.getElem?_eq_getElem (by rw [Bl.cs_length]; exact hj)]; rfl
  obtain ⟨v, hv⟩ := Option.isSome_iff_exists.1 this
  have := h.bc.at j v hv
  rw [Nat.zero_add] at this
  rw [this]; rfl
theorem below_cells {B : Nat} {w : World} {z : Nat} : ∀ (vs : List Value) (o : Nat) (u : World), Below B w u → B ≤ z → Below B w (u.setCells z o vs)
  | [], _, _, h, _ => h
  | v :: vs, o, _, h, hz => below_cells vs (o + 1) _ (below_set (a := ⟨z, o, none⟩) h hz v) hz
/-- a block whose variable was written whole -/
theorem stored_rng {w : World} {z : Nat} {b c : Bl} (h : Ob w z b) : (w.setCells z 0 c.cs).rangeAt z 0 c.cs := World.rangeAt_setCells_same w z 0 c.cs (by rw [Bl.cs_length]; exact there_of h)
/-- only block z turns -/
structure Sw (z : Nat) (w w' : World) : Prop where
  os : w'.os = w.os
  tape : w'.tape = w.tape
  output : w'.output = w.output
  size : w'.heap.size = w.heap.size
  block : ∀ i, i ≠ z → w'.heap[i]? = w.heap[i]?
theorem Sw.trans {z : Nat} {a b c : World} (h : Sw z a b) (k : Sw z b c) : Sw z a c := ⟨k.os.trans h.os, k.tape.trans h.tape, k.output.trans h.output, k.size.trans h.size, fun i hi => (k.block i hi).trans (h.block i hi)⟩
theorem Sw.set (w : World) (z o : Nat) (v : Value) : Sw z w (w.setCell ⟨z, o, none⟩ v) := ⟨by simp [World.setCell], by simp [World.setCell], by simp [World.setCell], by simp, fun i hi => Below.heap_setCell _ _ _ _ (fun e => hi e)⟩
theorem Sw.below {z B : Nat} {w a b : World} (h : Sw z a b) (hb : Below B w a) (hz : B ≤ z) : Below B w b := ⟨h.os.trans hb.os, h.tape.trans hb.tape, h.output.trans hb.output, by rw [h.size]; exact hb.size, fun i hi => (h.block i (by omega)).trans (hb.block i hi)⟩
theorem setCells_row {g t : Nat} : ∀ (ys xs : List Value) (o : Nat) (w : World), w.heap[g]? = some (.cells xs.toArray t (0, 0)) → o + ys.length ≤ xs.length → (w.setCells g o ys).heap[g]? = some (.cells (xs.take o ++ ys ++ xs.drop (o + ys.length)).toArray t (0, 0)) ∧ Sw g w (w.setCells g o ys)
  | [], xs, o, w, h, _ => by
    refine ⟨?_, ⟨rfl, rfl, rfl, rfl, fun i _ => rfl⟩⟩
    simpa [World.setCells] using h
  | y :: ys, xs, o, w, h, hl => by
    obtain ⟨a, b⟩ := setCells_row (g := g) (t := t) ys (xs.set o y) (o + 1) _ (heap_set h o y) (by simp only [List.length_set, List.length_cons] at *; omega)
    have e0 : w.setCells g o (y :: ys) = (w.setCell ⟨g, o, none⟩ y).setCells g (o + 1) ys := rfl
    rw [e0]
    refine ⟨?_, (Sw.set w g o y).trans b⟩
    rw [a]
    have ho : o < xs.length := by simp only [List.length_cons] at hl; omega
    have : (xs.set o y).take (o + 1) ++ ys ++ (xs.set o y).drop (o + 1 + ys.length) = xs.take o ++ (y :: ys) ++ xs.drop (o + (y :: ys).length) := by
      rw [List.take_succ_eq_append_getElem (by simpa using ho), List.getElem_set_self]
      rw [List.take_set_of_le (Nat.le_refl _), List.drop_set_of_lt (by omega)]
      simp [List.append_assoc, Nat.add_assoc, Nat.add_comm 1]
    rw [this]
theorem ob_stored {w : World} {z : Nat} {b : Bl} (h : Ob w z b) (c : Bl) : Ob (w.setCells z 0 c.cs) z c ∧ Sw z w (w.setCells z 0 c.cs) := by
  obtain ⟨a, k⟩ := setCells_row c.cs b.cs 0 w h.heap (by rw [Bl.cs_length, Bl.cs_length]; omega)
  refine ⟨⟨?_⟩, k⟩
  rw [a, List.drop_eq_nil_of_le (by rw [Bl.cs_length, Bl.cs_length]; omega)]
  simp
/-- a whole block is stored into a variable of its own -/
theorem wpList_store_block {ops : Array Oper} {rest : List Oper} {op : Oper} {a : Act} {w : World} {Q : Exit → Act → World → Prop} (hgd : op.guard = none) (x y : Operand) (ho : op.op = .store 40 x y)
    (z : Nat) (b c : Bl) (hob : Ob w z b) (hx : a.eval x = .pointer (some ⟨z, 0, none⟩)) (hy : a.eval y = .agg c.cs.toArray)
    (h : ∀ w', Ob w' z c → Sw z w w' → wpList Try.prog ops Q rest (a.put op.dst undef) w') : wpList Try.prog ops Q (op :: rest) a w := by
  obtain ⟨h1, h2⟩ := ob_stored hob c
  exact wpList_store_mid hgd 40 x y ho z 0 c.cs.toArray hx hy (there_of hob) (by rw [Try.info40]; rfl) (all_oneCell_toArray c.cs_one) (h _ (by simpa using h1) (by simpa using h2))
theorem load_res {w : World} {z : Nat} {b : Bl} (h : w.rangeAt z 0 b.cs) : (loadVar 40 ⟨z, 0, none⟩).run Try.prog w = .ok (.agg b.cs.toArray) w :=
  run_loadVar_mid w z 0 40 b.cs _ h Try.underlying40 rfl (by rw [Try.info40, Bl.cs_length])
/-- a whole block is read, behind a guard or not -/
theorem wpList_load_block {ops : Array Oper} {rest : List Oper} {op : Oper} {a : Act} {w : World} {Q : Exit → Act → World → Prop} (hw : Region.wanted op (yielded ops a.tmps) = true) (x : Operand) (ho : op.op = .load 40 x)
    (b o : Nat) (hx : a.eval x = .pointer (some ⟨b, o, none⟩)) (l : Bl) (hc : Bc w b o l) (h : wpList Try.prog ops Q rest (a.put op.dst (.agg l.cs.toArray)) w) : wpList Try.prog ops Q (op :: rest) a w :=
  BigFrame.wpList_want hw fun _ hK => wp_load_mid 40 x ho b o hx l.cs _ hc.rng Try.underlying40 rfl (by rw [Try.info40, Bl.cs_length]) (hK _ _ h)
end Go.Proofs.Ytppofodijlofdaa
