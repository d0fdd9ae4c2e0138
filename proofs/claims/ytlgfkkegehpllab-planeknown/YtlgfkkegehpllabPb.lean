/- DERIVED. What may turn (Kb), copy as a law over rows; the walks of At, blank, fill, New, within, line. -/
import Derived.Test.YtlgfkkegehpllabPa
namespace Go.Proofs.Ytlgfkkegehpllab
open Go.RowKit

/-- of the old blocks only g has turned, and none is new -/
structure Kb (g : Nat) (w w' : World) : Prop where
  os : w'.os = w.os
  tape : w'.tape = w.tape
  output : w'.output = w.output
  size : w'.heap.size = w.heap.size
  block : ∀ i, i ≠ g → w'.heap[i]? = w.heap[i]?
theorem Kb.refl (g : Nat) (w : World) : Kb g w w := ⟨rfl, rfl, rfl, rfl, fun _ _ => rfl⟩
theorem Kb.trans {g : Nat} {a b c : World} (h : Kb g a b) (k : Kb g b c) : Kb g a c := ⟨k.os.trans h.os, k.tape.trans h.tape, k.output.trans h.output, k.size.trans h.size, fun i hi => (k.block i hi).trans (h.block i hi)⟩
theorem Kb.below {g B : Nat} {w w' : World} (h : Kb g w w') (hg : B ≤ g) : Below B w w' := ⟨h.os, h.tape, h.output, by rw [h.size]; exact Nat.le_refl _, fun i hi => h.block i (by omega)⟩
theorem Kb.cell {g : Nat} {w w' : World} (h : Kb g w w') (i o : Nat) (hi : i ≠ g) : w'.cell? ⟨i, o, none⟩ = w.cell? ⟨i, o, none⟩ := World.cell?_of_block (w := w) (a := ⟨i, o, none⟩) (h.block i hi)
theorem Kb.frozen {g : Nat} {w w' : World} (h : Kb g w w') (i o : Nat) (hi : i ≠ g) : w'.frozen? ⟨i, o, none⟩ = w.frozen? ⟨i, o, none⟩ := World.frozen?_of_block (w := w) (a := ⟨i, o, none⟩) (h.block i hi)
theorem Kb.setCell (g k : Nat) (w : World) (v : Value) : Kb g w (w.setCell ⟨g, k, none⟩ v) := ⟨rfl, rfl, rfl, by simp, fun i hi => Below.heap_setCell _ _ _ _ (fun e => hi e)⟩
theorem Kb.setRow (w : World) (g : Nat) (cs : Array Value) : Kb g w (w.setRow g cs) := ⟨rfl, rfl, rfl, by simp [World.setRow], fun i hi => setRow_other w g i cs hi⟩

theorem ns_splice (k : IntKind) (C : List Nat) (o : Nat) (D : List Nat) : ns k (splice C o D) = splice (ns k C) o (ns k D) := by simp [ns, splice]

/-- copy into a row -/
theorem wpList_copy_rw {w : World} {ops : Array Oper} {rest : List Oper} {o : Oper} {a : Act} {Q : Exit → Act → World → Prop} (hgd : o.guard = none) (d s : Operand)
    (ho : o.op = .call { callee := .builtin .copy, args := #[d, s], argTypes := #[22, 22] })
    (dp sp : Option Addr) (dLen dCap sLen sCap : Nat) (hd : a.eval d = .slice dp dLen dCap) (hs : a.eval s = .slice sp sLen sCap)
    (g off : Nat) (C D : List Nat) (hg : Rw w g C) (hn : D.length = Nat.min sLen dLen) (hdp : dp = some ⟨g, off, none⟩) (hsp : Sl w .u8 sp D) (hfit : off + D.length ≤ C.length)
    (h : ∀ w', Rw w' g (splice C off D) → Kb g w w' → wpList Try.prog ops Q rest (a.put o.dst (goInt D.length)) w') :
    wpList Try.prog ops Q (o :: rest) a w := by
  by_cases h0 : D.length = 0
  · obtain rfl : D = [] := List.eq_nil_of_length_eq_zero h0
    refine wpList_copy_nothing hgd d s 22 22 ho 5 Try.underlying22 Try.size5 dp sp dLen dCap sLen sCap hd hs (by simpa using hn.symm) ?_
    exact h w ⟨by simpa [splice] using hg.heap⟩ (Kb.refl _ _)
  · subst hdp
    obtain ⟨b, p, rfl, _, hc⟩ := hsp.form (by omega)
    have hl := ns_length .u8 D
    have hl2 := ns_length .u8 C
    refine wpList_copy_own hgd d s 22 22 ho 5 Try.underlying22 Try.size5 g off dLen dCap ⟨b, p, none⟩ sLen sCap hd hs _ 5 hg.heap (ns .u8 D) (by rw [hl]; exact hn) ?_ (by rw [hl]; simp only [List.size_toArray]; omega) (ns_one _ _) ?_
    · intro j v hj
      have hjl : j < D.length := by have := List.getElem?_eq_some_iff.1 hj; obtain ⟨h1, _⟩ := this; omega
      rw [ns_get _ D j hjl] at hj
      rw [← hj, addr_add]
      exact hc j hjl
    · rw [hl]
      refine h _ ⟨?_⟩ (Kb.setRow _ _ _)
      rw [ns_splice]
      simpa [splice, hl] using setRow_heap w g _ _ 5 _ hg.heap
/-- the same in a region that draws its order -/
theorem step_copy_rw {ops : Array Oper} {o : Oper} {a : Act} {w : World} {K : Act → World → Prop} {Q : Exit → Act → World → Prop} {E : Prop} (hgd : o.guard = none) (d s : Operand)
    (ho : o.op = .call { callee := .builtin .copy, args := #[d, s], argTypes := #[22, 22] })
    (dp sp : Option Addr) (dLen dCap sLen sCap : Nat) (hd : a.eval d = .slice dp dLen dCap) (hs : a.eval s = .slice sp sLen sCap)
    (g off : Nat) (C D : List Nat) (hg : Rw w g C) (hn : D.length = Nat.min sLen dLen) (h0 : 0 < D.length) (hdp : dp = some ⟨g, off, none⟩) (hsp : Sl w .u8 sp D) (hfit : off + D.length ≤ C.length)
    (h : ∀ w', Rw w' g (splice C off D) → Kb g w w' → K (a.put o.dst (goInt D.length)) w') :
    if Region.wanted o (yielded ops a.tmps) = true then Oper.wp Try.prog o a w K Q else E := by
  have hw : Region.wanted o (yielded ops a.tmps) = true := by simp [Region.wanted, hgd]
  rw [if_pos hw]
  subst hdp
  obtain ⟨b, p, rfl, _, hc⟩ := hsp.form h0
  have hl := ns_length .u8 D
  have hl2 := ns_length .u8 C
  have hrun := run_copy_row (P := Try.prog) w 22 22 o.type 5 g off dLen dCap ⟨b, p, none⟩ sLen sCap _ 5 (ns .u8 D) Try.underlying22 Try.size5 hg.heap (by rw [hl]; exact hn) (by
    intro j v hj
    have hjl : j < D.length := by have := List.getElem?_eq_some_iff.1 hj; obtain ⟨h1, _⟩ := this; omega
    rw [ns_get _ D j hjl] at hj
    rw [← hj, addr_add]
    exact hc j hjl) (by rw [hl]; simp only [List.size_toArray]; omega) (ns_one _ _)
  unfold Oper.wp
  simp [execOp, ho, resolve, invoke, builtin, hd, hs, hrun, Result.andThen]
  rw [hl]
  refine h _ ⟨?_⟩ (Kb.setRow _ _ _)
  rw [ns_splice]
  simpa [splice, hl] using setRow_heap w g _ _ 5 _ hg.heap

theorem at_no {w : World} {a : Option Addr} {c : Nat} {C : List Nat} {W H i j : Int} (hn : ¬ POk W H C) :
    Calls Try.prog 5 #[.agg #[.int .i64 W, .int .i64 H, .slice a C.length c], .int .i64 i, .int .i64 j] w fun e w' => e = .returned (.int .u8 0) ∧ Below w.heap.size w w' := by
  have hck : ck W H C = 2 := ck_no hn
  go_enter Try.func5, Try.ntmps5
  go_wp2_with fail
  refine check_any.mono ?_
  rintro e w1 ⟨rfl, hb⟩
  rw [hck]
  have HB : Hid _ := below_to (from_alloc w _) hb
  clear hb hck
  go_wp2_with fail
  go_ret
  exact ⟨rfl, HB.out⟩

theorem Rw.madeAt (u : World) (n : Nat) {g : Nat} (h : u.heap.size = g) : Rw (u.alloc (.cells (madeCells #[.int .u8 0] n) 5)) g (List.replicate n 0) := by subst h; exact Rw.made u n
theorem mk_row {n : Nat} (hn : n ≤ 70368744177664) (u : World) : (Instr.makeSlice 22 (.int .i64 (n : Int)) (.int .i64 (n : Int))).run Try.prog u = .ok (.slice (some ⟨u.heap.size, 0, none⟩) n n) (u.alloc (.cells (madeCells #[.int .u8 0] n) 5)) :=
  run_make_row' 22 5 (.int .u8 0) 1 Try.underlying22 Try.info5 rfl .i64 .i64 n (by omega) (by omega) u

set_option maxHeartbeats 1000000 in
theorem blank_any {w : World} {x y n : Nat} (hx1 : x ≤ 512) (hy1 : y ≤ 512) (hn : n = x * y) :
    Calls Try.prog 22 #[.int .i64 (x : Int), .int .i64 (y : Int)] w fun e w' => e = .returned (.agg #[.int .i64 (x : Int), .int .i64 (y : Int), .slice (some ⟨w.heap.size + 1, 0, none⟩) n n]) ∧ w'.heap.size = w.heap.size + 2 ∧ Rw w' (w.heap.size + 1) (List.replicate n 0) ∧ Below w.heap.size w w' := by
  have hp := prod_le hx1 hy1
  have en : (x : Int) * (y : Int) = (n : Int) := by rw [← Int.natCast_mul, hn]
  have p1 : (n : Int) ≤ 262144 := by omega
  have hmk := mk_row (n := n) (by omega)
  clear hn hp
  go_enter Try.func22, Try.ntmps22
  go_wp2
  refine bodyPost_ret (v := .agg #[.int .i64 (x : Int), .int .i64 (y : Int), .slice (some ⟨w.heap.size + 1, 0, none⟩) n n]) (by simp [results, Try.results22, go_sem]) rfl ⟨rfl, by simp, ?_, by go_grown⟩
  exact Rw.madeAt _ _ (by simp)

end Go.Proofs.Ytlgfkkegehpllab
