/- DERIVED. What may turn (Kb, Kf); copy into a row of numbers; the walks of the small functions of txfm. -/
import Derived.Test.YtddnnlofdicgkabDoorHa
import Derived.Test.YtddnnlofdicgkabDoorDb
import Derived.Laws.CopyOwn
import Derived.Deep.Light
namespace Go.Proofs.YtddnnlofdicgkabDoor
open Go.RowKit

/-- of the old blocks only g has turned, and none is new -/
structure Kb (g : Nat) (w w' : World) : Prop where
  os : w'.os = w.os
  tape : w'.tape = w.tape
  output : w'.output = w.output
  size : w'.heap.size = w.heap.size
  block : ∀ i, i ≠ g → w'.heap[i]? = w.heap[i]?
theorem Kb.refl (g : Nat) (w : World) : Kb g w w := ⟨rfl, rfl, rfl, rfl, fun _ _ => rfl⟩
theorem Kb.setCell (g k : Nat) (w : World) (v : Value) : Kb g w (w.setCell ⟨g, k, none⟩ v) := ⟨rfl, rfl, rfl, by simp, fun i hi => Below.heap_setCell _ _ _ _ (fun e => hi e)⟩
theorem Kb.setRow (w : World) (g : Nat) (cs : Array Value) : Kb g w (w.setRow g cs) := ⟨rfl, rfl, rfl, by simp [World.setRow], fun i hi => setRow_other w g i cs hi⟩
/-- of the blocks of v only g has turned -/
structure Kf (g : Nat) (v w : World) : Prop where
  os : w.os = v.os
  tape : w.tape = v.tape
  output : w.output = v.output
  size : v.heap.size ≤ w.heap.size
  block : ∀ i, i < v.heap.size → i ≠ g → w.heap[i]? = v.heap[i]?
theorem Kf.refl (g : Nat) (v : World) : Kf g v v := ⟨rfl, rfl, rfl, Nat.le_refl _, fun _ _ _ => rfl⟩
theorem Kf.step {g : Nat} {v w w' : World} (h : Kf g v w) (hb : Below w.heap.size w w') : Kf g v w' := ⟨hb.os.trans h.os, hb.tape.trans h.tape, hb.output.trans h.output, Nat.le_trans h.size hb.size, fun i hi hg => (hb.block i (Nat.lt_of_lt_of_le hi h.size)).trans (h.block i hi hg)⟩
theorem Kf.kb {g : Nat} {v w w' : World} (h : Kf g v w) (k : Kb g w w') : Kf g v w' := ⟨k.os.trans h.os, k.tape.trans h.tape, k.output.trans h.output, by rw [k.size]; exact h.size, fun i hi hg => (k.block i hg).trans (h.block i hi hg)⟩
theorem Kf.drew {g : Nat} {v w : World} (h : Kf g v w) : Kf g v w.drew := ⟨h.os, h.tape, h.output, h.size, h.block⟩
theorem Kf.drewN {g : Nat} {v w : World} (h : Kf g v w) (n : Nat) : Kf g v (w.drewN n) := ⟨h.os, h.tape, h.output, h.size, h.block⟩
theorem Kf.cell {g : Nat} {v w : World} (h : Kf g v w) (i o : Nat) (hi : i < v.heap.size) (hg : i ≠ g) : w.cell? ⟨i, o, none⟩ = v.cell? ⟨i, o, none⟩ := World.cell?_of_block (w := v) (a := ⟨i, o, none⟩) (h.block i hi hg)
theorem Kf.frozen {g : Nat} {v w : World} (h : Kf g v w) (i o : Nat) (hi : i < v.heap.size) (hg : i ≠ g) : w.frozen? ⟨i, o, none⟩ = v.frozen? ⟨i, o, none⟩ := World.frozen?_of_block (w := v) (a := ⟨i, o, none⟩) (h.block i hi hg)
theorem Kf.below {g B : Nat} {v w : World} (h : Kf g v w) (h1 : B ≤ g) (h2 : B ≤ v.heap.size) : Below B v w := ⟨h.os, h.tape, h.output, h.size, fun i hi => h.block i (by omega) (by omega)⟩
theorem Kf.trans {g : Nat} {u v w : World} (h : Kf g u v) (k : Kf g v w) : Kf g u w := ⟨k.os.trans h.os, k.tape.trans h.tape, k.output.trans h.output, Nat.le_trans h.size k.size, fun i hi hg => (k.block i (Nat.lt_of_lt_of_le hi h.size) hg).trans (h.block i hi hg)⟩
theorem Kf.old {g : Nat} {u v w : World} (h : Below u.heap.size u v) (k : Kf g v w) : Kf g u w := ⟨k.os.trans h.os, k.tape.trans h.tape, k.output.trans h.output, Nat.le_trans h.size k.size, fun i hi hg => (k.block i (Nat.lt_of_lt_of_le hi h.size) hg).trans (h.block i hi)⟩
theorem Kf.setCell {g : Nat} {v w : World} (h : Kf g v w) (k : Nat) (x : Value) : Kf g v (w.setCell ⟨g, k, none⟩ x) := h.kb (Kb.setCell g k w x)
/-- a new block may turn, too -/
theorem Kf.setNew {g b : Nat} {v w : World} (h : Kf g v w) (hb : v.heap.size ≤ b) (k : Nat) (x : Value) : Kf g v (w.setCell ⟨b, k, none⟩ x) :=
  ⟨h.os, h.tape, h.output, by simpa using h.size, fun i hi hg => (Below.heap_setCell _ _ _ _ (fun e => by have e' : i = b := e; omega)).trans (h.block i hi hg)⟩
theorem Ri.kf {t g i : Nat} {C : List Int} {v w : World} (h : Ri t v i C) (k : Kf g v w) (hi : i ≠ g) : Ri t w i C := h.carry (k.block i h.lt hi)
theorem Qt.kf {g : Nat} {v w : World} (h : Qt v) (k : Kf g v w) (hg : 0 < g) : Qt w := ⟨Nat.lt_of_lt_of_le h.low k.size, fun j hj => by rw [k.cell 0 j h.low (by omega)]; exact h.c j hj⟩
theorem Si.kf {g : Nat} {v w : World} {a : Option Addr} {C : List Int} (h : Si v a C) (f : Kf g v w) (hg : ∀ b o, a = some ⟨b, o, none⟩ → b ≠ g) : Si w a C := by
  rcases h with h | ⟨b, o, h1, h2, h3⟩
  · exact Or.inl h
  · exact Or.inr ⟨b, o, h1, Nat.lt_of_lt_of_le h2 f.size, fun j hj => by rw [f.cell b _ h2 (hg b o h1)]; exact h3 j hj⟩
/-- a part of a row -/
theorem Si.seg {w : World} {b o : Nat} {C : List Int} (h : Si w (some ⟨b, o, none⟩) C) (q n : Nat) (hn : q + n ≤ C.length) : Si w (some ⟨b, o + q, none⟩) (sg C q n) := by
  by_cases h0 : n = 0
  · subst h0; exact Or.inl (by simp [sg])
  · obtain ⟨b', o', he, hb, hc⟩ := h.form (by omega)
    simp only [Option.some.injEq, Addr.mk.injEq, and_true] at he
    obtain ⟨rfl, rfl⟩ := he
    refine Or.inr ⟨b, o + q, rfl, hb, fun j hj => ?_⟩
    rw [sg_len _ _ _ hn] at hj
    rw [sg_get _ _ _ _ hj, Nat.add_assoc]
    exact hc (q + j) (by omega)
theorem Tryd.sz3 : (Tryd.prog.info? 3).map (·.size) = some 1 := by kernel_rfl
theorem is_splice (C : List Int) (o : Nat) (D : List Int) : is (splice C o D) = splice (is C) o (is D) := by simp [is, splice]

/-- copy into a row -/
theorem wpList_copy_ri {w : World} {ops : Array Oper} {rest : List Oper} {o : Oper} {a : Act} {Q : Exit → Act → World → Prop} (hgd : o.guard = none) (d s : Operand)
    (ho : o.op = .call { callee := .builtin .copy, args := #[d, s], argTypes := #[22, 22] })
    (dp sp : Option Addr) (dLen dCap sLen sCap : Nat) (hd : a.eval d = .slice dp dLen dCap) (hs : a.eval s = .slice sp sLen sCap)
    (g off : Nat) (C D : List Int) (hg : Ri 3 w g C) (hn : D.length = Nat.min sLen dLen) (hdp : dp = some ⟨g, off, none⟩) (hsp : Si w sp D) (hfit : off + D.length ≤ C.length)
    (h : ∀ w', Ri 3 w' g (splice C off D) → Kb g w w' → wpList Tryd.prog ops Q rest (a.put o.dst (goInt D.length)) w') :
    wpList Tryd.prog ops Q (o :: rest) a w := by
  by_cases h0 : D.length = 0
  · obtain rfl : D = [] := List.eq_nil_of_length_eq_zero h0
    refine wpList_copy_nothing hgd d s 22 22 ho 3 Tryd.underlying22 Tryd.sz3 dp sp dLen dCap sLen sCap hd hs (by simpa using hn.symm) ?_
    exact h w ⟨by simpa [splice] using hg.heap⟩ (Kb.refl _ _)
  · subst hdp
    obtain ⟨b, p, rfl, _, hc⟩ := hsp.form (by omega)
    have hl := is_length D
    have hl2 := is_length C
    refine wpList_copy_own hgd d s 22 22 ho 3 Tryd.underlying22 Tryd.sz3 g off dLen dCap ⟨b, p, none⟩ sLen sCap hd hs _ 3 hg.heap (is D) (by rw [hl]; exact hn) ?_ (by rw [hl]; simp only [List.size_toArray]; omega) (is_one _) ?_
    · intro j v hj
      have hjl : j < D.length := by have := List.getElem?_eq_some_iff.1 hj; obtain ⟨h1, _⟩ := this; omega
      rw [is_get D j hjl] at hj
      rw [← hj, addr_add]
      exact hc j hjl
    · rw [hl]
      refine h _ ⟨?_⟩ (Kb.setRow _ _ _)
      rw [is_splice]
      simpa [splice, hl] using setRow_heap w g _ _ 3 _ hg.heap
/-- the same in a region that draws its order -/
theorem step_copy_ri {ops : Array Oper} {o : Oper} {a : Act} {w : World} {K : Act → World → Prop} {Q : Exit → Act → World → Prop} {E : Prop} (hgd : o.guard = none) (d s : Operand)
    (ho : o.op = .call { callee := .builtin .copy, args := #[d, s], argTypes := #[22, 22] })
    (dp sp : Option Addr) (dLen dCap sLen sCap : Nat) (hd : a.eval d = .slice dp dLen dCap) (hs : a.eval s = .slice sp sLen sCap)
    (g off : Nat) (C D : List Int) (hg : Ri 3 w g C) (hn : D.length = Nat.min sLen dLen) (h0 : 0 < D.length) (hdp : dp = some ⟨g, off, none⟩) (hsp : Si w sp D) (hfit : off + D.length ≤ C.length)
    (h : ∀ w', Ri 3 w' g (splice C off D) → Kb g w w' → K (a.put o.dst (goInt D.length)) w') :
    if Region.wanted o (yielded ops a.tmps) = true then Oper.wp Tryd.prog o a w K Q else E := by
  have hw : Region.wanted o (yielded ops a.tmps) = true := by simp [Region.wanted, hgd]
  rw [if_pos hw]
  subst hdp
  obtain ⟨b, p, rfl, _, hc⟩ := hsp.form h0
  have hl := is_length D
  have hl2 := is_length C
  have hrun := run_copy_row (P := Tryd.prog) w 22 22 o.type 3 g off dLen dCap ⟨b, p, none⟩ sLen sCap _ 3 (is D) Tryd.underlying22 Tryd.sz3 hg.heap (by rw [hl]; exact hn) (by
    intro j v hj
    have hjl : j < D.length := by have := List.getElem?_eq_some_iff.1 hj; obtain ⟨h1, _⟩ := this; omega
    rw [is_get D j hjl] at hj
    rw [← hj, addr_add]
    exact hc j hjl) (by rw [hl]; simp only [List.size_toArray]; omega) (is_one _)
  unfold Oper.wp
  simp [execOp, ho, resolve, invoke, builtin, hd, hs, hrun, Result.andThen]
  rw [hl]
  refine h _ ⟨?_⟩ (Kb.setRow _ _ _)
  rw [is_splice]
  simpa [splice, hl] using setRow_heap w g _ _ 3 _ hg.heap

/-- a number that is far from the ends -/
def Lo (v : Int) : Prop := -1125899906842624 ≤ v ∧ v ≤ 1125899906842624

theorem clipped_any {w : World} {v : Int} : Calls Tryd.prog 26 #[.int .i64 v] w fun e w' => e = .returned (.int .i64 (clp v)) ∧ w' = w := by
  go_enter Tryd.func26, Tryd.ntmps26
  go_wp2
  all_goals
    go_ret
    exact ⟨ret_int (by unfold clp; omega), rfl⟩
theorem round1 {w : World} {v : Int} (h : Lo v) : Calls Tryd.prog 36 #[.int .i64 v, .int .i64 1] w fun e w' => e = .returned (.int .i64 ((v + 1) / 2)) ∧ w' = w := by
  obtain ⟨h0, h1⟩ := h
  go_enter Tryd.func36, Tryd.ntmps36
  go_wp2
  go_ret
  exact ⟨rfl, rfl⟩
theorem round2 {w : World} {v : Int} (h : Lo v) : Calls Tryd.prog 36 #[.int .i64 v, .int .i64 2] w fun e w' => e = .returned (.int .i64 ((v + 2) / 4)) ∧ w' = w := by
  obtain ⟨h0, h1⟩ := h
  go_enter Tryd.func36, Tryd.ntmps36
  go_wp2
  go_ret
  exact ⟨rfl, rfl⟩
theorem round4 {w : World} {v : Int} (h : Lo v) : Calls Tryd.prog 36 #[.int .i64 v, .int .i64 4] w fun e w' => e = .returned (.int .i64 ((v + 8) / 16)) ∧ w' = w := by
  obtain ⟨h0, h1⟩ := h
  go_enter Tryd.func36, Tryd.ntmps36
  go_wp2
  go_ret
  exact ⟨rfl, rfl⟩
theorem lessened_any {w : World} {v : Int} (h : Lo v) : Calls Tryd.prog 31 #[.int .i64 v] w fun e w' => e = .returned (.int .i64 (les v)) ∧ w' = w := by
  go_enter Tryd.func31, Tryd.ntmps31
  go_wp2_with (go_at_call 36; refine (round4 h).mono ?_; rintro e w' ⟨rfl, rfl⟩)
  go_ret
  exact ⟨rfl, rfl⟩

end Go.Proofs.YtddnnlofdicgkabDoor
