/- DERIVED. CopyInts; the walk of PartTrees. -/
import Derived.Test.YtjijgeeejhijhaaWa
import Derived.Test.YtjijgeeejhijhaaDi
import Derived.Deep.DeepCutAuto
namespace Go.Proofs.Ytjijgeeejhijhaa
open Go.RowKit

/-- a copy, alone in new memory -/
def Cp (w w' : World) (e : Ending) (C : List Int) : Prop := ∃ a c, e = .returned (.slice a C.length c) ∧ Oi w' w.heap.size a C.length c C ∧ Below w.heap.size w w'

set_option maxHeartbeats 400000 in
theorem copy_some {w : World} {b o c : Nat} {C : List Int} (hc : ∀ j, j < C.length → w.cell? ⟨b, o + j, none⟩ = some (.int .i64 (C.getD j 0))) (hl : C.length ≤ 17592186043904) (h0 : 0 < C.length) :
    Calls Try.prog 15 #[.slice (some ⟨b, o, none⟩) C.length c] w fun e w' => Cp w w' e C := by
  obtain ⟨i, hi, hz0, hz1, hz2⟩ := info_parts Try.info3
  have hown : w.ownsRow w.heap.size 3 1 (.slice none 0 0) 0 [] := World.ownsRow_nil _ _ _ _
  have hnews : ∀ j u, (is C)[j]? = some u → w.cell? ((⟨b, o, none⟩ : Addr).add j) = some u := by
    intro j u hu
    have hj : j < C.length := by have := List.getElem?_eq_some_iff.1 hu; obtain ⟨h1, _⟩ := this; rw [is_length] at h1; exact h1
    rw [is_get C j hj] at hu
    rw [← hu, addr_add]
    exact hc j hj
  clear hc
  go_enter Try.func15, Try.ntmps15
  go_wp2_with (at_builtin; refine wpList_append_lies _ (by rfl) _ _ _ (by rfl) w.heap.size 3 i (.int .i64 0) 1 8 Try.underlying33 hi hz0 hz1 hz2 rfl (by omega) _ 0 [] (by rfl) hown ⟨b, o, none⟩ C.length c (is C) (by rfl) (by rw [is_length, Nat.mul_one]) hnews (is_one C) h0 (by unfold maxLen; omega) (by omega) (by simp) w.heap.size (by simp) ?_; intro g cap w1 hown1 hgrow hat hlt)
  go_ret
  rw [List.nil_append, Nat.zero_add] at hown1
  exact ⟨_, _, rfl, ⟨hown1⟩, (Below.refl _ _).grown hgrow (by simp) (fun k hk => by simp [Value.ownBlock] at hk)⟩

set_option maxHeartbeats 400000 in
theorem copy_none {a : Option Addr} {c : Nat} {w : World} : Calls Try.prog 15 #[.slice a 0 c] w fun e w' => e = .returned (.slice none 0 0) ∧ w' = w := by
  cases a with
  | none =>
    go_enter Try.func15, Try.ntmps15
    go_wp2
    go_ret
    exact ⟨rfl, rfl⟩
  | some ad =>
    go_enter Try.func15, Try.ntmps15
    go_wp2
    go_ret
    exact ⟨rfl, rfl⟩
theorem copy_any {w : World} {a : Option Addr} {c : Nat} {C : List Int} (h : Si w a C) (hl : C.length ≤ 17592186043904) :
    Calls Try.prog 15 #[.slice a C.length c] w fun e w' => Cp w w' e C := by
  by_cases h0 : C.length = 0
  · obtain rfl : C = [] := List.eq_nil_of_length_eq_zero h0
    refine copy_none.mono ?_
    rintro e w' ⟨rfl, rfl⟩
    exact ⟨none, 0, rfl, Oi.nil _ _, Below.refl _ _⟩
  · obtain ⟨b, o, rfl, _, hc⟩ := h.form (by omega)
    exact copy_some hc hl (by omega)

/-- 'append(c, x, y)' on a row of numbers -/
theorem wpList_append_two (wr : World) {ops : Array Oper} {rest : List Oper} {o : Oper} {a : Act} {Q : Exit → Act → World → Prop} (hgd : o.guard = none) (s x : Operand)
    (ho : o.op = .call { callee := .builtin .append, args := #[s, x], argTypes := #[33, 33] })
    (B n c : Nat) (C : List Int) (ad : Option Addr) (y z : Int) (hown : Oi wr B ad n c C) (hB : B ≤ wr.heap.size) (hL : n ≤ 17592186043904)
    (hs : a.eval s = .slice ad n c) (hx : a.eval x = .slice (some ⟨wr.heap.size, 0, none⟩) 2 2)
    (h : ∀ g cap w', Oi w' B (some ⟨g, 0, none⟩) (n + 2) cap (C ++ [y, z]) → Below B wr w' → wpList Try.prog ops Q rest (a.put o.dst (.slice (some ⟨g, 0, none⟩) (n + 2) cap)) w') :
    wpList Try.prog ops Q (o :: rest) a (wr.alloc (.cells #[.int .i64 y, .int .i64 z] 3)) := by
  obtain ⟨i, hi, hz0, hz1, hz2⟩ := info_parts Try.info3
  have hnews : ∀ j u, (is [y, z])[j]? = some u → (wr.alloc (.cells #[.int .i64 y, .int .i64 z] 3)).cell? ((⟨wr.heap.size, 0, none⟩ : Addr).add j) = some u := World.news_of_block (cs := #[.int .i64 y, .int .i64 z]) (heap_alloc_new wr _)
  refine wpList_append_lies _ hgd s x 33 ho B 3 i (.int .i64 0) 1 8 Try.underlying33 hi hz0 hz1 hz2 rfl (by omega) (.slice ad n c) n (is C) hs (hown.own.alloc _) ⟨wr.heap.size, 0, none⟩ 2 2 (is [y, z]) hx (by rfl) hnews (is_one _) (by omega) (by unfold maxLen; omega) (by omega) (by simp; omega) (wr.heap.size + 1) (by simp) ?_
  intro g cap w' hown' hgrow hat _
  have hgr := grown_trans (below_grown (from_alloc wr _) (Value.slice ad n c).ownBlock) hgrow (fun g hg => Or.inl hg)
  have hbb := grown_below hgr hB (fun g hg => (hown.own.lt g hg).1)
  exact h g cap w' ⟨by rw [is_append]; exact hown'⟩ hbb
theorem Si.prefix {w : World} {a : Option Addr} {C Y : List Int} (h : Si w a (C ++ Y)) : Si w a C := by
  by_cases h0 : C = []
  · exact Or.inl h0
  · rcases h with h | ⟨b, o, h1, h2, h3⟩
    · exact Or.inl (List.append_eq_nil_iff.1 h).1
    · refine Or.inr ⟨b, o, h1, h2, fun j hj => ?_⟩
      rw [h3 j (by simp; omega), List.getD_eq_getElem?_getD, List.getD_eq_getElem?_getD, List.getElem?_append_left hj]
/-- leaves, how many, an error -/
def Bv (w w' : World) (e : Ending) (l : List Rc) (u : Nat) (er : Int) : Prop := ∃ a c, e = .returned (.tuple #[.slice a l.length c, .int .i64 (u : Int), .int .i64 er]) ∧ Or4 w' w.heap.size (.slice a l.length c) l ∧ Below w.heap.size w w'
theorem Bq.bv {w w' : World} {e : Ending} {p : List Rc × Nat} (h : Bq w w' e p) : Bv w w' e p.1 p.2 0 := by
  obtain ⟨v, rfl, ho, hb⟩ := h
  obtain ⟨a, c, rfl, _⟩ := ho.form
  exact ⟨a, c, rfl, ho, hb⟩
theorem both_blocks (x y s s' ax ay aw ah : Int) (C : List Int) (hC : C.length ≤ 140737488355328) : ∃ l u er, l.length ≤ 64 ∧
    (∀ (t : World) (a : Option Addr) (c : Nat), Si t a C → Calls Try.prog 16 #[.agg #[.int .i64 x, .int .i64 y, .int .i64 s, .int .i64 s'], .agg #[.int .i64 ax, .int .i64 ay, .int .i64 aw, .int .i64 ah], .slice a C.length c] t fun e w' => Bv t w' e l u er) ∧
    (∀ (t : World) (a : Option Addr) (c : Nat), Si t a C → Calls Try.prog 17 #[.agg #[.int .i64 x, .int .i64 y, .int .i64 s, .int .i64 s'], .agg #[.int .i64 ax, .int .i64 ay, .int .i64 aw, .int .i64 ah], .slice a C.length c] t fun e w' => Bv t w' e l u er) := by
  by_cases h : sqr x y s s' = true ∧ are ax ay aw ah = true
  · exact ⟨_, _, 0, (tree_len 3 x y 0), fun t a c hs => (blocks_ok h.1 h.2 hs hC).mono fun _ _ k => k.bv, fun t a c hs => (rblocks_ok h.1 h.2 hs hC).mono fun _ _ k => k.bv⟩
  · exact ⟨[], 0, 2, by simp, fun t a c _ => (blocks_no h).mono fun _ _ k => ⟨none, 0, k.1, Or4.nil _ _, k.2⟩, fun t a c _ => (rblocks_no h).mono fun _ _ k => ⟨none, 0, k.1, Or4.nil _ _, k.2⟩⟩
theorem rsame_nn {w : World} {a b : Option Addr} {c d : Nat} {C : List Rc} (h1 : Sr w a C) (h2 : Sr w b C) (hl : C.length ≤ 1000) :
    Calls Try.prog 13 #[.slice a C.length c, .slice b C.length d] w fun e w' => e = .returned (.bool true) ∧ Below w.heap.size w w' := by
  have := rsame_any (c := c) (d := d) h1 h2 (by omega) (by omega)
  rwa [eqR_self] at this
theorem Or4.sr {w : World} {B n c : Nat} {a : Option Addr} {C : List Rc} (h : Or4 w B (.slice a n c) C) : Sr w a C := by
  obtain ⟨a', c', e, _, hs, _⟩ := h.form
  simp only [Value.slice.injEq] at e
  rw [e.1]; exact hs
/-- cells that may be written over -/
structure Xq (w : World) (B g n : Nat) : Prop where
  cell : ∀ j, j < n → ∃ z : Int, w.cell? ⟨g, j, none⟩ = some (.int .i64 z)
  th : ∀ j, w.frozen? ⟨g, j, none⟩ = false
  ge : B ≤ g
theorem Xq.set {w : World} {B g n : Nat} (h : Xq w B g n) (k : Nat) (hk : k < n) (z : Int) : Xq (w.setCell ⟨g, k, none⟩ (.int .i64 z)) B g n := by
  refine ⟨fun j hj => ?_, fun j => by rw [World.frozen?_setCell]; exact h.th j, h.ge⟩
  by_cases e : k = j
  · subst e
    obtain ⟨y, hy⟩ := h.cell k hk
    exact ⟨z, World.cell?_setCell_same _ _ _ hy⟩
  · rw [cell_off e]; exact h.cell j hj
theorem Or4.xq {w : World} {B n c : Nat} {a : Option Addr} {C : List Rc} (h : Or4 w B (.slice a n c) C) (h0 : 0 < C.length) : ∃ g, a = some ⟨g, 0, none⟩ ∧ Xq w B g (C.length * 4) := by
  obtain ⟨a', c', e, _, hs, h4, h5⟩ := h.form
  simp only [Value.slice.injEq] at e
  obtain ⟨b, o, e1, hbl, hc⟩ := hs.form h0
  obtain ⟨h6, h7, rfl, _, _⟩ := h5 b o none e1
  rw [e.1, e1]
  refine ⟨b, rfl, fun j hj => ?_, fun j => h4 j b 0 e1, h6⟩
  have hq := hc (j / 4) (by omega)
  simp only [Nat.zero_add] at hq
  have h4' : j % 4 = 0 ∨ j % 4 = 1 ∨ j % 4 = 2 ∨ j % 4 = 3 := by omega
  rcases h4' with e4 | e4 | e4 | e4
  · rw [show j = j / 4 * 4 from by omega]; exact ⟨_, hq.c0⟩
  · rw [show j = j / 4 * 4 + 1 from by omega]; exact ⟨_, hq.c1⟩
  · rw [show j = j / 4 * 4 + 2 from by omega]; exact ⟨_, hq.c2⟩
  · rw [show j = j / 4 * 4 + 3 from by omega]; exact ⟨_, hq.c3⟩
end Go.Proofs.Ytjijgeeejhijhaa
