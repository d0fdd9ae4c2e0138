/- DERIVED. An append of several numbers. -/
import Derived.Test.YtaliaoapbjbfaaaDa
namespace Go.Proofs.Ytaliaoapbjbfaaa
open Go.RowKit

theorem Try.info3 : (Try.prog.info? 3).map (fun i => (i.zero, i.size, i.bytes)) = some (some (.int .i64 0), 1, 8) := by kernel_rfl
/-- a row grows, and again -/
theorem grown_trans {a b c : World} {r r' : Option Nat} (h : a.grownBy b r) (k : b.grownBy c r') (hr : ∀ g, r' = some g → r = some g ∨ a.heap.size ≤ g) : a.grownBy c r :=
  ⟨k.os.trans h.os, k.tape.trans h.tape, k.output.trans h.output, Nat.le_trans h.size k.size, fun i hi hne => by
    rw [k.block i (Nat.lt_of_lt_of_le hi h.size) (fun e => by rcases hr i e.symm with e | e; exact hne e.symm; omega)]
    exact h.block i hi hne⟩
theorem grown_below {B : Nat} {a b : World} {r : Option Nat} (h : a.grownBy b r) (hB : B ≤ a.heap.size) (hr : ∀ g, r = some g → B ≤ g) : Below B a b :=
  ⟨h.os, h.tape, h.output, h.size, fun i hi => h.block i (by omega) (fun e => by have := hr i e.symm; omega)⟩
theorem below_grown {a b : World} (h : Below a.heap.size a b) (r : Option Nat) : a.grownBy b r := ⟨h.os, h.tape, h.output, h.size, fun i hi _ => h.block i hi⟩

/-- a row of numbers that the call itself made -/
structure Oi (w : World) (B : Nat) (a : Option Addr) (n c : Nat) (C : List Int) : Prop where
  own : w.ownsRow B 3 1 (.slice a n c) n (is C)
theorem Oi.len {w : World} {B n c : Nat} {a : Option Addr} {C : List Int} (h : Oi w B a n c C) : C.length = n := by have := h.own.1; rw [is_length] at this; omega
theorem Oi.nil (w : World) (B : Nat) : Oi w B none 0 0 [] := ⟨World.ownsRow_nil _ _ _ _⟩
theorem Oi.drewN {w : World} {B n c : Nat} {a : Option Addr} {C : List Int} (h : Oi w B a n c C) (m : Nat) : Oi (w.drewN m) B a n c C := ⟨own_carry h.own fun _ _ => rfl⟩
theorem Oi.to {w w' : World} {B n c : Nat} {a : Option Addr} {C : List Int} (h : Oi w B a n c C) (hb : Below w.heap.size w w') : Oi w' B a n c C := ⟨own_below h.own hb⟩
theorem Oi.si {w : World} {B n c : Nat} {a : Option Addr} {C : List Int} (h : Oi w B a n c C) : Si w a C := by
  have hl := h.len
  by_cases h0 : C.length = 0
  · exact Or.inl (List.eq_nil_of_length_eq_zero h0)
  · obtain ⟨b, cap, hv, _, hlt⟩ := h.own.form (by omega)
    simp only [Value.slice.injEq] at hv
    obtain ⟨rfl, _, rfl⟩ := hv
    exact Or.inr ⟨b, 0, rfl, hlt, fun j hj => by rw [Nat.zero_add, h.own.cellAt j (by omega)]; exact is_get C j hj⟩

/-- 'append(c, x, y, ..)' on a row of numbers -/
theorem wpList_append_ints (wr : World) {ops : Array Oper} {rest : List Oper} {o : Oper} {a : Act} {Q : Exit → Act → World → Prop} (hgd : o.guard = none) (s x : Operand)
    (ho : o.op = .call { callee := .builtin .append, args := #[s, x], argTypes := #[39, 39] })
    (B n c m : Nat) (C Y : List Int) (V : Array Value) (hV : V = (is Y).toArray) (hm : Y.length = m) (h0 : 0 < m) (h8 : m ≤ 8) (ad : Option Addr) (hown : Oi wr B ad n c C) (hB : B ≤ wr.heap.size) (hL : n < 1099511627776)
    (hs : a.eval s = .slice ad n c) (hx : a.eval x = .slice (some ⟨wr.heap.size, 0, none⟩) m m)
    (h : ∀ g cap w', Oi w' B (some ⟨g, 0, none⟩) (n + m) cap (C ++ Y) → wr.grownBy w' (Value.slice ad n c).ownBlock → Below B wr w' → B ≤ w'.heap.size → wpList Try.prog ops Q rest (a.put o.dst (.slice (some ⟨g, 0, none⟩) (n + m) cap)) w') :
    wpList Try.prog ops Q (o :: rest) a (wr.alloc (.cells V 3)) := by
  subst hV
  subst hm
  obtain ⟨i, hi, hz0, hz1, hz2⟩ := info_parts Try.info3
  have hnews : ∀ j u, (is Y)[j]? = some u → (wr.alloc (.cells (is Y).toArray 3)).cell? ((⟨wr.heap.size, 0, none⟩ : Addr).add j) = some u := World.news_of_block (cs := (is Y).toArray) (heap_alloc_new wr _)
  refine wpList_append_lies _ hgd s x 39 ho B 3 i (.int .i64 0) 1 8 Try.underlying39 hi hz0 hz1 hz2 rfl (by omega) (.slice ad n c) n (is C) hs (hown.own.alloc _) ⟨wr.heap.size, 0, none⟩ Y.length Y.length (is Y) hx (by simp [is]) hnews (is_one _) (by omega) (by unfold maxLen; omega) (by omega) (by simp; omega) (wr.heap.size + 1) (by simp) ?_
  intro g cap w' hown' hgrow hat _
  have hgr := grown_trans (below_grown (from_alloc wr _) (Value.slice ad n c).ownBlock) hgrow (fun g hg => Or.inl hg)
  have hbb := grown_below hgr hB (fun g hg => (hown.own.lt g hg).1)
  exact h g cap w' ⟨by rw [is_append]; exact hown'⟩ hgr hbb (Nat.le_trans hB hbb.size)

end Go.Proofs.Ytaliaoapbjbfaaa
