/- DERIVED. The walks of Bring, of an append of a number, of row. -/
import Derived.Test.YtddnnlofdicgkabDoorDa
namespace Go.Proofs.YtddnnlofdicgkabDoor
open Go.RowKit

set_option maxRecDepth 100000 in
set_option maxHeartbeats 400000 in
theorem bring_any {w : World} {i n : Int} (h0 : 0 < n) (h1 : n ≤ 1099511627776) : Calls Tryd.prog 6 #[.int .i64 i, .int .i64 n] w fun e w' => e = .returned (.int .i64 (i % n)) ∧ w' = w := by
  have HT : Hid ((if i.tmod n < 0 then i.tmod n + n else i.tmod n) = i % n) := tmod_fix i n h0
  have b1 := Int.tmod_lt_of_pos i h0
  have b2 : -n < i.tmod n := by
    have := Int.lt_tmod_of_pos i h0
    omega
  have z : n ≠ 0 := by omega
  have z' : ¬ n ≤ 0 := by omega
  generalize i % n = r at *
  by_cases hz : i.tmod n < 0
  · have HR : Hid (r = i.tmod n + n) := by show _ = _; rw [← HT.out, if_pos hz]
    clear HT
    go_enter Tryd.func6, Tryd.ntmps6
    go_wp2_with fail
    go_ret
    exact ⟨by rw [HR.out]; rfl, rfl⟩
  · have HR : Hid (r = i.tmod n) := by show _ = _; rw [← HT.out, if_neg hz]
    clear HT
    go_enter Tryd.func6, Tryd.ntmps6
    go_wp2_with fail
    go_ret
    exact ⟨by rw [HR.out]; rfl, rfl⟩

/-- a row grows, and again -/
theorem grown_trans {a b c : World} {r r' : Option Nat} (h : a.grownBy b r) (k : b.grownBy c r') (hr : ∀ g, r' = some g → r = some g ∨ a.heap.size ≤ g) : a.grownBy c r :=
  ⟨k.os.trans h.os, k.tape.trans h.tape, k.output.trans h.output, Nat.le_trans h.size k.size, fun i hi hne => by
    rw [k.block i (Nat.lt_of_lt_of_le hi h.size) (fun e => by rcases hr i e.symm with e | e; exact hne e.symm; omega)]
    exact h.block i hi hne⟩
theorem grown_below {B : Nat} {a b : World} {r : Option Nat} (h : a.grownBy b r) (hB : B ≤ a.heap.size) (hr : ∀ g, r = some g → B ≤ g) : Below B a b :=
  ⟨h.os, h.tape, h.output, h.size, fun i hi => h.block i (by omega) (fun e => by have := hr i e.symm; omega)⟩
theorem below_grown {a b : World} (h : Below a.heap.size a b) (r : Option Nat) : a.grownBy b r := ⟨h.os, h.tape, h.output, h.size, fun i hi _ => h.block i hi⟩

/-- a row of numbers that the call itself made -/
structure Oi (w : World) (B : Nat) (a : Option Addr) (n c : Nat) (C : List Int) : Prop where
  own : w.ownsRow B 3 1 (.slice a n c) n (is C)
theorem Oi.len {w : World} {B n c : Nat} {a : Option Addr} {C : List Int} (h : Oi w B a n c C) : C.length = n := by have := h.own.1; rw [is_length] at this; omega
theorem Oi.nil (w : World) (B : Nat) : Oi w B none 0 0 [] := ⟨World.ownsRow_nil _ _ _ _⟩
theorem Oi.drewN {w : World} {B n c : Nat} {a : Option Addr} {C : List Int} (h : Oi w B a n c C) (m : Nat) : Oi (w.drewN m) B a n c C := ⟨own_carry h.own fun _ _ => rfl⟩
theorem Oi.to {w w' : World} {B n c : Nat} {a : Option Addr} {C : List Int} (h : Oi w B a n c C) (hb : Below w.heap.size w w') : Oi w' B a n c C := ⟨own_below h.own hb⟩
theorem Oi.si {w : World} {B n c : Nat} {a : Option Addr} {C : List Int} (h : Oi w B a n c C) : Si w a C := by
  have hl := h.len
  by_cases h0 : C.length = 0
  · exact Or.inl (List.eq_nil_of_length_eq_zero h0)
  · obtain ⟨b, cap, hv, _, hlt⟩ := h.own.form (by omega)
    simp only [Value.slice.injEq] at hv
    obtain ⟨rfl, _, rfl⟩ := hv
    exact Or.inr ⟨b, 0, rfl, hlt, fun j hj => by rw [Nat.zero_add, h.own.cellAt j (by omega)]; exact is_get C j hj⟩

/-- 'append(c, x)' on a row of numbers -/
theorem wpList_append_int (wr : World) {ops : Array Oper} {rest : List Oper} {o : Oper} {a : Act} {Q : Exit → Act → World → Prop} (hgd : o.guard = none) (s x : Operand)
    (ho : o.op = .call { callee := .builtin .append, args := #[s, x], argTypes := #[22, 22] })
    (B n c : Nat) (C : List Int) (ad : Option Addr) (y : Int) (hown : Oi wr B ad n c C) (hB : B ≤ wr.heap.size) (hL : n < 1099511627776)
    (hs : a.eval s = .slice ad n c) (hx : a.eval x = .slice (some ⟨wr.heap.size, 0, none⟩) 1 1)
    (h : ∀ g cap w', Oi w' B (some ⟨g, 0, none⟩) (n + 1) cap (C ++ [y]) → Below B wr w' → B ≤ w'.heap.size → wpList Tryd.prog ops Q rest (a.put o.dst (.slice (some ⟨g, 0, none⟩) (n + 1) cap)) w') :
    wpList Tryd.prog ops Q (o :: rest) a (wr.alloc (.cells #[.int .i64 y] 3)) := by
  obtain ⟨i, hi, hz0, hz1, hz2⟩ := info_parts Tryd.info3
  have hnews : ∀ j u, (is [y])[j]? = some u → (wr.alloc (.cells #[.int .i64 y] 3)).cell? ((⟨wr.heap.size, 0, none⟩ : Addr).add j) = some u := World.news_of_block (cs := #[.int .i64 y]) (heap_alloc_new wr _)
  refine wpList_append_lies _ hgd s x 22 ho B 3 i (.int .i64 0) 1 8 Tryd.underlying22 hi hz0 hz1 hz2 rfl (by omega) (.slice ad n c) n (is C) hs (hown.own.alloc _) ⟨wr.heap.size, 0, none⟩ 1 1 (is [y]) hx (by rfl) hnews (is_one _) (by omega) (by unfold maxLen; omega) (by omega) (by simp; omega) (wr.heap.size + 1) (by simp) ?_
  intro g cap w' hown' hgrow hat _
  have hgr := grown_trans (below_grown (from_alloc wr _) (Value.slice ad n c).ownBlock) hgrow (fun g hg => Or.inl hg)
  have hbb := grown_below hgr hB (fun g hg => (hown.own.lt g hg).1)
  exact h g cap w' ⟨by rw [is_append]; exact hown'⟩ hbb (Nat.le_trans hB hbb.size)

/-- n numbers, none further than M from 0, in new memory -/
def Rn (w w' : World) (e : Ending) (n : Nat) (M : Int) : Prop := ∃ a c D, e = .returned (.slice a n c) ∧ D.length = n ∧ Mst D M ∧ Si w' a D ∧ Below w.heap.size w w'
theorem mst_snoc {D : List Int} {M x : Int} (h : Mst D M) (h0 : -M ≤ x) (h1 : x ≤ M) : Mst (D ++ [x]) M := by
  intro k hk
  rw [List.length_append] at hk
  by_cases e : k < D.length
  · rw [List.getD_eq_getElem?_getD, List.getElem?_append_left e, ← List.getD_eq_getElem?_getD]; exact h k e
  · obtain rfl : k = D.length := by simp at hk; omega
    simp; omega

structure RwI (w : World) (n : Nat) (M : Int) (s i : Value) (wr : World) : Prop where
  ex : ∃ (k c : Nat) (a : Option Addr) (D : List Int), k ≤ n ∧ i = .int .i64 k ∧ s = .slice a k c ∧ Oi wr w.heap.size a k c D ∧ Mst D M ∧ Below w.heap.size w wr

end Go.Proofs.YtddnnlofdicgkabDoor
