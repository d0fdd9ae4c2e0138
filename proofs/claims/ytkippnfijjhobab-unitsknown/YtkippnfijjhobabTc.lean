/- DERIVED. Parts of slices; a piece appended. -/
import Derived.Test.YtkippnfijjhobabTb
namespace Go.Proofs.Ytkippnfijjhobab
open Go.RowKit

/-- where a part of a slice begins -/
def pa (a : Option Addr) (c lo sz : Nat) : Option Addr := if c = lo then a else a.map (·.add (lo * sz))
theorem cut_from {a : Option Addr} {n c lo : Nat} {k : IntKind} {x : Int} (hx : x = (lo : Int)) (h : lo ≤ n) (t : World) : (Instr.sliceAt 24 (.slice a n c) (some (.int k x)) none none).run Try.prog t = .ok (.slice (pa a c lo 1) (n - lo) (c - lo)) t := by
  subst hx
  have hs : (sizeOf 5).run Try.prog t = .ok 1 t := by rfl
  simp only [Instr.sliceAt, Sem.run_bind, run_underlying Try.underlying24, Result.andThen]
  have h2 : (lo : Int) ≤ (n : Int) := by omega
  simp [Instr.slice, run_underlying Try.underlying24, Instr.sliceBounds, run_sliceBound, h2, pa]
theorem cut_to {a : Option Addr} {n c hi : Nat} {k : IntKind} {x : Int} (hx : x = (hi : Int)) (h : hi ≤ c) (t : World) : (Instr.sliceAt 24 (.slice a n c) none (some (.int k x)) none).run Try.prog t = .ok (.slice (pa a c 0 1) hi c) t := by
  subst hx
  have hs : (sizeOf 5).run Try.prog t = .ok 1 t := by rfl
  simp only [Instr.sliceAt, Sem.run_bind, run_underlying Try.underlying24, Result.andThen]
  have h2 : (hi : Int) ≤ (c : Int) := by omega
  simp [Instr.slice, run_underlying Try.underlying24, Instr.sliceBounds, run_sliceBound, h2, pa]
theorem cut_in {a : Option Addr} {n c lo hi : Nat} {k k' : IntKind} {x y : Int} (hx : x = (lo : Int)) (hy : y = (hi : Int)) (h : lo ≤ hi) (h' : hi ≤ c) (t : World) : (Instr.sliceAt 24 (.slice a n c) (some (.int k x)) (some (.int k' y)) none).run Try.prog t = .ok (.slice (pa a c lo 1) (hi - lo) (c - lo)) t := by
  subst hx hy
  have hs : (sizeOf 5).run Try.prog t = .ok 1 t := by rfl
  simp only [Instr.sliceAt, Sem.run_bind, run_underlying Try.underlying24, Result.andThen]
  have h2 : (hi : Int) ≤ (c : Int) := by omega
  have h3 : (lo : Int) ≤ (hi : Int) := by omega
  simp [Instr.slice, run_underlying Try.underlying24, Instr.sliceBounds, run_sliceBound, h2, h3, pa]
theorem Sb.part {w : World} {N c : Nat} {a : Option Addr} {C : List Nat} (h : Sb w N a C) (hc : C.length ≤ c) (lo m : Nat) (hm : lo + m ≤ C.length) : Sb w N (pa a c lo 1) ((C.drop lo).take m) := by
  by_cases h0 : m = 0
  · exact Or.inl (by rw [h0]; simp)
  · rcases h with rfl | ⟨b, o, rfl, h2, h3⟩
    · simp at hm; omega
    · have e : pa (some ⟨b, o, none⟩) c lo 1 = some ⟨b, o + lo, none⟩ := by
        unfold pa
        rw [if_neg (by omega), Option.map_some, addr_add, Nat.mul_one]
      rw [e]
      refine Or.inr ⟨b, o + lo, rfl, h2, fun j hj => ?_⟩
      rw [List.length_take, List.length_drop] at hj
      rw [getD_take _ _ _ (by omega), getD_drop, Nat.add_assoc]
      exact h3 (lo + j) (by omega)
theorem byt_part {C : List Nat} (h : ∀ i, C.getD i 0 < 256) (lo m : Nat) : ∀ i, ((C.drop lo).take m).getD i 0 < 256 := by
  intro i
  by_cases hi : i < m
  · rw [getD_take _ _ _ hi, getD_drop]; exact h _
  · rw [List.getD_eq_getElem?_getD, List.getElem?_eq_none (by rw [List.length_take]; omega)]; simp
theorem pa_none {a : Option Addr} {c lo sz : Nat} (h : a = none → c = 0) : pa a c lo sz = none → c - lo = 0 := by
  intro e
  unfold pa at e
  split at e
  · omega
  · cases a with
    | none => have := h rfl; omega
    | some x => simp at e
theorem By.part {w : World} {N n c : Nat} {a : Option Addr} {C : List Nat} (h : By w N (.slice a n c) C) (lo m : Nat) (hm : lo + m ≤ C.length) : By w N (.slice (pa a c lo 1) m (c - lo)) ((C.drop lo).take m) := by
  obtain ⟨a', c', h1, h2, h3, h4⟩ := h.ex
  simp only [Value.slice.injEq] at h1
  obtain ⟨rfl, rfl, rfl⟩ := h1
  have hl : ((C.drop lo).take m).length = m := by rw [List.length_take, List.length_drop]; omega
  exact ⟨⟨_, _, by rw [hl], by rw [hl]; omega, pa_none h3, h4.part h2 lo m hm⟩, byt_part h.byt lo m, by have := h.len; rw [hl]; omega⟩
theorem By.ln {w : World} {N n c : Nat} {a : Option Addr} {C : List Nat} (h : By w N (.slice a n c) C) : n = C.length ∧ n ≤ c := by
  obtain ⟨a', c', h1, h2, h3, h4⟩ := h.ex
  simp only [Value.slice.injEq] at h1
  obtain ⟨rfl, rfl, rfl⟩ := h1
  exact ⟨rfl, h2⟩
theorem By.cell {w : World} {N n c : Nat} {a : Option Addr} {C : List Nat} (h : By w N (.slice a n c) C) (h0 : 0 < C.length) : ∃ b o, a = some ⟨b, o, none⟩ ∧ b < N ∧ ∀ j, j < C.length → w.cell? ⟨b, o + j, none⟩ = some (.int .u8 (C.getD j 0 : Nat)) := by
  obtain ⟨a', c', h1, h2, h3, h4⟩ := h.ex
  simp only [Value.slice.injEq] at h1
  obtain ⟨rfl, rfl, rfl⟩ := h1
  exact h4.resolve_left (fun e => by rw [e] at h0; simp at h0)
/-- the same of lists of pieces -/
theorem ocut_from {a : Option Addr} {n c lo : Nat} {k : IntKind} {x : Int} (hx : x = (lo : Int)) (h : lo ≤ n) (t : World) : (Instr.sliceAt 37 (.slice a n c) (some (.int k x)) none none).run Try.prog t = .ok (.slice (pa a c lo 2) (n - lo) (c - lo)) t := by
  subst hx
  have hs : (sizeOf 29).run Try.prog t = .ok 2 t := by rfl
  simp only [Instr.sliceAt, Sem.run_bind, run_underlying Try.underlying37, Result.andThen]
  have h2 : (lo : Int) ≤ (n : Int) := by omega
  simp [Instr.slice, run_underlying Try.underlying37, Instr.sliceBounds, run_sliceBound, h2, pa]
theorem ocut_to {a : Option Addr} {n c hi : Nat} {k : IntKind} {x : Int} (hx : x = (hi : Int)) (h : hi ≤ c) (t : World) : (Instr.sliceAt 37 (.slice a n c) none (some (.int k x)) none).run Try.prog t = .ok (.slice (pa a c 0 2) hi c) t := by
  subst hx
  have hs : (sizeOf 29).run Try.prog t = .ok 2 t := by rfl
  simp only [Instr.sliceAt, Sem.run_bind, run_underlying Try.underlying37, Result.andThen]
  have h2 : (hi : Int) ≤ (c : Int) := by omega
  simp [Instr.slice, run_underlying Try.underlying37, Instr.sliceBounds, run_sliceBound, h2, pa]
theorem Ob.part {w : World} {N n c : Nat} {a : Option Addr} {P : List Pc} (h : Ob w N (.slice a n c) P) (lo m : Nat) (hm : lo + m ≤ P.length) : Ob w N (.slice (pa a c lo 2) m (c - lo)) ((P.drop lo).take m) := by
  obtain ⟨a', c', L, h1, h2, h3, h4⟩ := h.ex
  simp only [Value.slice.injEq] at h1
  obtain ⟨rfl, rfl, rfl⟩ := h1
  have hl : ((P.drop lo).take m).length = m := by rw [List.length_take, List.length_drop]; omega
  refine ⟨_, _, (L.drop lo).take m, by rw [hl], by rw [hl]; omega, ?_, (h4.drop lo).take m⟩
  by_cases h0 : m = 0
  · exact Or.inl (by rw [h0]; simp)
  · rcases h3 with rfl | ⟨b, o, rfl, h5, h6⟩
    · have := h4.len; simp at this; omega
    · have e : pa (some ⟨b, o, none⟩) c lo 2 = some ⟨b, o + lo * 2, none⟩ := by
        unfold pa
        rw [if_neg (by omega), Option.map_some, addr_add]
      rw [e]
      exact (So.drop (Or.inr ⟨b, o, rfl, h5, h6⟩) lo).take m

theorem Try.infoObu : (Try.prog.info? 29).map (fun i => (i.zero, i.size, i.bytes)) = some (some (.agg #[.int .i64 0, .slice none 0 0]), 2, 32) := by kernel_rfl
theorem oc_single (h : Oh) : (oc [h]).length = 2 := rfl
/-- 'append(l, Obu{..})' on a list that the call made -/
theorem wpList_append_pc (wr : World) {ops : Array Oper} {rest : List Oper} {o : Oper} {a : Act} {Q : Exit → Act → World → Prop} (hgd : o.guard = none) (s x : Operand)
    (ho : o.op = .call { callee := .builtin .append, args := #[s, x], argTypes := #[37, 37] })
    (B : Nat) (L : List Oh) (v : Value) (h : Oh) (cs : Array Value) (hcs : cs = (oc [h]).toArray) (hown : Ow wr B v L) (hB : B ≤ wr.heap.size) (hL : L.length < 4398046511104)
    (hs : a.eval s = v) (H : Nat) (hH : wr.heap.size = H) (hx : a.eval x = .slice (some ⟨H, 0, none⟩) 1 1)
    (k : ∀ g cap w', Ow w' B (.slice (some ⟨g, 0, none⟩) (L.length + 1) cap) (L ++ [h]) → wr.grownBy w' v.ownBlock → (v.ownBlock = some g ∨ wr.heap.size ≤ g) → Below B wr w' → wpList Try.prog ops Q rest (a.put o.dst (.slice (some ⟨g, 0, none⟩) (L.length + 1) cap)) w') :
    wpList Try.prog ops Q (o :: rest) a (wr.alloc (.cells cs 29)) := by
  subst hcs
  subst hH
  obtain ⟨i, hi, hz0, hz1, hz2⟩ := info_parts Try.infoObu
  have hnews : ∀ j u, (oc [h])[j]? = some u → (wr.alloc (.cells (oc [h]).toArray 29)).cell? ((⟨wr.heap.size, 0, none⟩ : Addr).add j) = some u := World.news_of_block (cs := (oc [h]).toArray) (heap_alloc_new wr _)
  refine wpList_append_lies _ hgd s x 37 ho B 29 i _ 2 32 Try.underlying37 hi hz0 hz1 hz2 rfl (by omega) v L.length (oc L) hs (hown.own.alloc _) ⟨wr.heap.size, 0, none⟩ 1 1 (oc [h]) hx (by rfl) hnews (oc_one _) (by omega) (by unfold maxLen; omega) (by omega) (by simp; omega) (wr.heap.size + 1) (by simp) ?_
  intro g cap w' hown' hgrow hat _
  have hgr := grown_trans (below_grown (from_alloc wr _) v.ownBlock) hgrow (fun g hg => Or.inl hg)
  have hbb := grown_below hgr hB (fun g hg => (hown.own.lt g hg).1)
  exact k g cap w' ⟨by rw [oc_append, List.length_append]; exact hown'⟩ hgr (by rcases hat with e | e; exact Or.inl e; exact Or.inr (by omega)) hbb
theorem undrew' {a b : World} {row : Option Nat} (h : a.drew.grownBy b row) : a.grownBy b row := ⟨h.os, h.tape, h.output, h.size, h.block⟩
/-- the same in a region that draws its order -/
theorem step_append_pc (wr : World) {ops : Array Oper} {o : Oper} {a : Act} {K : Act → World → Prop} {Q : Exit → Act → World → Prop} {E : Prop} (hgd : o.guard = none) (s x : Operand)
    (ho : o.op = .call { callee := .builtin .append, args := #[s, x], argTypes := #[37, 37] })
    (B : Nat) (L : List Oh) (v : Value) (h : Oh) (cs : Array Value) (hcs : cs = (oc [h]).toArray) (hown : Ow wr B v L) (hB : B ≤ wr.heap.size) (hL : L.length < 4398046511104)
    (hs : a.eval s = v) (H : Nat) (hH : wr.heap.size = H) (hx : a.eval x = .slice (some ⟨H, 0, none⟩) 1 1)
    (k : ∀ g cap w', Ow w' B (.slice (some ⟨g, 0, none⟩) (L.length + 1) cap) (L ++ [h]) → wr.grownBy w' v.ownBlock → (v.ownBlock = some g ∨ wr.heap.size ≤ g) → Below B wr w' → K (a.put o.dst (.slice (some ⟨g, 0, none⟩) (L.length + 1) cap)) w') :
    if Region.wanted o (yielded ops a.tmps) = true then Oper.wp Try.prog o a (wr.alloc (.cells cs 29)).drew K Q else E := by
  subst hcs
  subst hH
  obtain ⟨i, hi, hz0, hz1, hz2⟩ := info_parts Try.infoObu
  have hnews : ∀ j u, (oc [h])[j]? = some u → (wr.alloc (.cells (oc [h]).toArray 29)).drew.cell? ((⟨wr.heap.size, 0, none⟩ : Addr).add j) = some u := by
    have := World.news_of_block (w := wr.alloc (.cells (oc [h]).toArray 29)) (cs := (oc [h]).toArray) (heap_alloc_new wr _)
    simpa using this
  refine step_append_lies _ hgd s x 37 ho B 29 i _ 2 32 Try.underlying37 hi hz0 hz1 hz2 rfl (by omega) v L.length (oc L) hs (hown.own.alloc _).drew ⟨wr.heap.size, 0, none⟩ 1 1 (oc [h]) hx (by rfl) hnews (oc_one _) (by omega) (by unfold maxLen; omega) (by omega) (by simp; omega) (wr.heap.size + 1) (by simp) ?_
  intro g cap w' hown' hgrow hat _
  have hgr := grown_trans (below_grown (from_alloc wr _) v.ownBlock) (undrew' hgrow) (fun g hg => Or.inl hg)
  have hbb := grown_below hgr hB (fun g hg => (hown.own.lt g hg).1)
  exact k g cap w' ⟨by rw [oc_append, List.length_append]; exact hown'⟩ hgr (by rcases hat with e | e; exact Or.inl e; exact Or.inr (by omega)) hbb
end Go.Proofs.Ytkippnfijjhobab
