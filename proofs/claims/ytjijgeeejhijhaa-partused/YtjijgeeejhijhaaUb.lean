/- DERIVED. What PartUsed calls: a list cut, lists that grow by one and by three. -/
import Derived.Test.YtjijgeeejhijhaaLb
import Derived.Test.YtjijgeeejhijhaaUa
namespace Go.Proofs.Ytjijgeeejhijhaa
open Go.RowKit

theorem wpList_append_one (wr : World) {ops : Array Oper} {rest : List Oper} {o : Oper} {a : Act} {Q : Exit → Act → World → Prop} (hgd : o.guard = none) (s x : Operand)
    (ho : o.op = .call { callee := .builtin .append, args := #[s, x], argTypes := #[33, 33] })
    (B n c : Nat) (C : List Int) (ad : Option Addr) (y : Int) (hown : Oi wr B ad n c C) (hB : B ≤ wr.heap.size) (hL : n ≤ 17592186043904)
    (hs : a.eval s = .slice ad n c) (hx : a.eval x = .slice (some ⟨wr.heap.size, 0, none⟩) 1 1)
    (h : ∀ g cap w', Oi w' B (some ⟨g, 0, none⟩) (n + 1) cap (C ++ [y]) → Below B wr w' → wpList Try.prog ops Q rest (a.put o.dst (.slice (some ⟨g, 0, none⟩) (n + 1) cap)) w') :
    wpList Try.prog ops Q (o :: rest) a (wr.alloc (.cells #[.int .i64 y] 3)) := by
  obtain ⟨i, hi, hz0, hz1, hz2⟩ := info_parts Try.info3
  have hnews : ∀ j u, (is [y])[j]? = some u → (wr.alloc (.cells #[.int .i64 y] 3)).cell? ((⟨wr.heap.size, 0, none⟩ : Addr).add j) = some u := World.news_of_block (cs := #[.int .i64 y]) (heap_alloc_new wr _)
  refine wpList_append_lies _ hgd s x 33 ho B 3 i (.int .i64 0) 1 8 Try.underlying33 hi hz0 hz1 hz2 rfl (by omega) (.slice ad n c) n (is C) hs (hown.own.alloc _) ⟨wr.heap.size, 0, none⟩ 1 1 (is [y]) hx (by rfl) hnews (is_one _) (by omega) (by unfold maxLen; omega) (by omega) (by simp; omega) (wr.heap.size + 1) (by simp) ?_
  intro g cap w' hown' hgrow hat _
  have hgr := grown_trans (below_grown (from_alloc wr _) (Value.slice ad n c).ownBlock) hgrow (fun g hg => Or.inl hg)
  have hbb := grown_below hgr hB (fun g hg => (hown.own.lt g hg).1)
  exact h g cap w' ⟨by rw [is_append]; exact hown'⟩ hbb
theorem wpList_append_333 (wr : World) {ops : Array Oper} {rest : List Oper} {o : Oper} {a : Act} {Q : Exit → Act → World → Prop} (hgd : o.guard = none) (s x : Operand)
    (ho : o.op = .call { callee := .builtin .append, args := #[s, x], argTypes := #[33, 33] })
    (B n c : Nat) (C : List Int) (ad : Option Addr) (hown : Oi wr B ad n c C) (hB : B ≤ wr.heap.size) (hL : n ≤ 17592186043904)
    (hs : a.eval s = .slice ad n c) (hx : a.eval x = .slice (some ⟨wr.heap.size, 0, none⟩) 3 3)
    (h : ∀ g cap w', Oi w' B (some ⟨g, 0, none⟩) (n + 3) cap (C ++ [3, 3, 3]) → Below B wr w' → wpList Try.prog ops Q rest (a.put o.dst (.slice (some ⟨g, 0, none⟩) (n + 3) cap)) w') :
    wpList Try.prog ops Q (o :: rest) a (wr.alloc (.cells #[.int .i64 3, .int .i64 3, .int .i64 3] 3)) := by
  obtain ⟨i, hi, hz0, hz1, hz2⟩ := info_parts Try.info3
  have hnews : ∀ j u, (is [3, 3, 3])[j]? = some u → (wr.alloc (.cells #[.int .i64 3, .int .i64 3, .int .i64 3] 3)).cell? ((⟨wr.heap.size, 0, none⟩ : Addr).add j) = some u := World.news_of_block (cs := #[.int .i64 3, .int .i64 3, .int .i64 3]) (heap_alloc_new wr _)
  refine wpList_append_lies _ hgd s x 33 ho B 3 i (.int .i64 0) 1 8 Try.underlying33 hi hz0 hz1 hz2 rfl (by omega) (.slice ad n c) n (is C) hs (hown.own.alloc _) ⟨wr.heap.size, 0, none⟩ 3 3 (is [3, 3, 3]) hx (by rfl) hnews (is_one _) (by omega) (by unfold maxLen; omega) (by omega) (by simp; omega) (wr.heap.size + 1) (by simp) ?_
  intro g cap w' hown' hgrow hat _
  have hgr := grown_trans (below_grown (from_alloc wr _) (Value.slice ad n c).ownBlock) hgrow (fun g hg => Or.inl hg)
  have hbb := grown_below hgr hB (fun g hg => (hown.own.lt g hg).1)
  exact h g cap w' ⟨by rw [is_append]; exact hown'⟩ hbb
/-- s[:n] -/
theorem cut_to {a : Option Addr} {len c n : Nat} (hn : n ≤ c) : ∃ a' : Option Addr, (∀ t : World, (Instr.sliceAt 33 (.slice a len c) none (some (.int .i64 (n : Int))) none).run Try.prog t = .ok (.slice a' n c) t) ∧ ∀ (w : World) (C : List Int), Si w a C → Si w a' (C.take n) := by
  refine ⟨if c = 0 then a else a.map (·.add 0), fun t => ?_, fun w C h => ?_⟩
  · have hs : (sizeOf 3).run Try.prog t = .ok 1 t := by rfl
    simp only [Instr.sliceAt, Sem.run_bind, run_underlying Try.underlying33, Result.andThen]
    have h2 : (n : Int) ≤ (c : Int) := by omega
    simp [Instr.slice, run_underlying Try.underlying33, Instr.sliceBounds, run_sliceBound, h2]
  · by_cases h0 : C.length = 0
    · exact Or.inl (by rw [List.eq_nil_of_length_eq_zero h0]; simp)
    · obtain ⟨b, o, rfl, hl, hc⟩ := h.form (by omega)
      have e : (if c = 0 then some (⟨b, o, none⟩ : Addr) else (some (⟨b, o, none⟩ : Addr)).map (·.add 0)) = some ⟨b, o, none⟩ := by
        split
        · rfl
        · simp [addr_add]
      rw [e]
      refine Or.inr ⟨b, o, rfl, hl, fun j hj => ?_⟩
      rw [List.length_take] at hj
      rw [hc j (by omega), List.getD_eq_getElem?_getD, List.getD_eq_getElem?_getD, List.getElem?_take_of_lt (by omega)]
end Go.Proofs.Ytjijgeeejhijhaa
