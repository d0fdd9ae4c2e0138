/- DERIVED. Averages of copies; lists of copies that are made one behind the other. -/
import Derived.Test.YtpijgdfhkmailaaMg
import Derived.Test.YtpijgdfhkmailaaLd
namespace Go.Proofs.Ytpijgdfhkmailaa
open Go.RowKit

/-- what an average is, of a list that has one or not -/
noncomputable def avL (L : List Tb) : List Nat := open Classical in if h : ∃ m, AvG L m then av h.choose (L.map Tb.C) else []
noncomputable def avX (L : List Tb) : Int := open Classical in if ∃ m, AvG L m then 0 else 2
theorem avG_uniq {L : List Tb} {m m' : Nat} (h : AvG L m) (h' : AvG L m') : m = m' := by
  have h0 := h.some
  rw [← (h.all _ (List.getElem_mem h0)).2, (h'.all _ (List.getElem_mem h0)).2]
/-- copies have the same average -/
def Alike (L M : List Tb) : Prop := M.length = L.length ∧ ∀ (j : Nat) (t s : Tb), L[j]? = some t → M[j]? = some s → s.C = t.C ∧ s.n = t.n
theorem Alike.map {L M : List Tb} (h : Alike L M) : M.map Tb.C = L.map Tb.C := by
  refine List.ext_getElem (by simp [h.1]) fun j h1 h2 => ?_
  simp at h1 h2
  simp only [List.getElem_map]
  exact (h.2 j _ _ (List.getElem?_eq_getElem h2) (List.getElem?_eq_getElem h1)).1
theorem Alike.avG {L M : List Tb} (h : Alike L M) (m : Nat) : AvG M m ↔ AvG L m := by
  have key : ∀ {A B : List Tb}, B.length = A.length → (∀ (j : Nat) (t s : Tb), A[j]? = some t → B[j]? = some s → s.C = t.C ∧ s.n = t.n) → AvG A m → AvG B m := fun {A B} hl hh hg => by
    refine ⟨by rw [hl]; exact hg.some, fun s hs => ?_⟩
    obtain ⟨j, hj, rfl⟩ := List.getElem_of_mem hs
    have hj' : j < A.length := by omega
    have := hh j _ _ (List.getElem?_eq_getElem hj') (List.getElem?_eq_getElem hj)
    rw [this.1, this.2]
    exact hg.all _ (List.getElem_mem hj')
  exact ⟨key h.1.symm (fun j t s ht hs => by have := h.2 j s t hs ht; exact ⟨this.1.symm, this.2.symm⟩), key h.1 h.2⟩
theorem Alike.avL {L M : List Tb} (h : Alike L M) : avL M = avL L ∧ avX M = avX L := by
  have e : (∃ m, AvG M m) ↔ ∃ m, AvG L m := ⟨fun ⟨m, hm⟩ => ⟨m, (h.avG m).1 hm⟩, fun ⟨m, hm⟩ => ⟨m, (h.avG m).2 hm⟩⟩
  unfold Go.Proofs.Ytpijgdfhkmailaa.avL avX
  by_cases hg : ∃ m, AvG L m
  · have hg' := e.2 hg
    rw [dif_pos hg, dif_pos hg', if_pos hg, if_pos hg', h.map, avG_uniq hg'.choose_spec ((h.avG _).2 hg.choose_spec)]
    exact ⟨rfl, rfl⟩
  · have hg' : ¬ ∃ m, AvG M m := fun x => hg (e.1 x)
    rw [dif_neg hg, dif_neg hg', if_neg hg, if_neg hg']
    exact ⟨rfl, rfl⟩
theorem avL_len (L : List Tb) : (Go.Proofs.Ytpijgdfhkmailaa.avL L).length ≤ 16 := by
  unfold Go.Proofs.Ytpijgdfhkmailaa.avL
  split
  · rename_i h
    rw [av_len]
    have := h.choose_spec
    have h0 := this.some
    have ht := this.all _ (List.getElem_mem h0)
    rw [← ht.2]; exact ht.1.hi
  · simp

/-- the copies that were made so far: M of the first tables of L -/
structure Cs (w wr : World) (L M : List Tb) (k : Nat) : Prop where
  len : M.length = k
  cp : ∀ (j : Nat) (t s : Tb), L[j]? = some t → M[j]? = some s → ∃ g, s.a = some ⟨g, 0, none⟩ ∧ s.C = t.C ∧ s.n = t.n ∧ Cp wr w.heap.size g s.c t.C
theorem Cs.to {w wr w' : World} {L M : List Tb} {k : Nat} (h : Cs w wr L M k) (hb : Below wr.heap.size wr w') : Cs w w' L M k :=
  ⟨h.len, fun j t s ht hs => by obtain ⟨g, h1, h2, h3, h4⟩ := h.cp j t s ht hs; exact ⟨g, h1, h2, h3, h4.to hb⟩⟩
theorem Cs.kept {w wr w' : World} {L M : List Tb} {k : Nat} (h : Cs w wr L M k) (hb : ∀ g, (∃ s : Tb, s ∈ M ∧ s.a = some ⟨g, 0, none⟩) → w'.heap[g]? = wr.heap[g]?) : Cs w w' L M k :=
  ⟨h.len, fun j t s ht hs => by
    obtain ⟨g, h1, h2, h3, h4⟩ := h.cp j t s ht hs
    exact ⟨g, h1, h2, h3, ⟨h4.own.carry (hb g ⟨s, List.mem_of_getElem? hs, h1⟩)⟩⟩⟩

/-- 'append(l, t)', and what turned -/
theorem wpList_append_tab2 (wr : World) {ops : Array Oper} {rest : List Oper} {o : Oper} {a : Act} {Q : Exit → Act → World → Prop} (hgd : o.guard = none) (s x : Operand)
    (ho : o.op = .call { callee := .builtin .append, args := #[s, x], argTypes := #[42, 42] })
    (B : Nat) (L : List Tb) (v : Value) (t : Tb) (hown : Ot wr B v L) (hB : B ≤ wr.heap.size) (hL : L.length < 4398046511104)
    (hs : a.eval s = v) (hx : a.eval x = .slice (some ⟨wr.heap.size, 0, none⟩) 1 1)
    (h : ∀ g cap w', Ot w' B (.slice (some ⟨g, 0, none⟩) (L.length + 1) cap) (L ++ [t]) → wr.grownBy w' v.ownBlock → (v.ownBlock = some g ∨ wr.heap.size ≤ g) → wpList Try.prog ops Q rest (a.put o.dst (.slice (some ⟨g, 0, none⟩) (L.length + 1) cap)) w') :
    wpList Try.prog ops Q (o :: rest) a (wr.alloc (.cells #[.slice t.a t.C.length t.c, .int .i64 t.n] 24)) := by
  obtain ⟨i, hi, hz0, hz1, hz2⟩ := info_parts Try.info24
  have hnews : ∀ j u, (tcs [t])[j]? = some u → (wr.alloc (.cells #[.slice t.a t.C.length t.c, .int .i64 t.n] 24)).cell? ((⟨wr.heap.size, 0, none⟩ : Addr).add j) = some u := World.news_of_block (cs := #[.slice t.a t.C.length t.c, .int .i64 t.n]) (heap_alloc_new wr _)
  refine wpList_append_lies _ hgd s x 42 ho B 24 i (.agg #[.slice none 0 0, .int .i64 0]) 2 32 Try.underlying42 hi hz0 hz1 hz2 rfl (by omega) v L.length (tcs L) hs (hown.own.alloc _) ⟨wr.heap.size, 0, none⟩ 1 1 (tcs [t]) hx (by rfl) hnews (tcs_one _) (by omega) (by unfold maxLen; omega) (by omega) (by simp; omega) (wr.heap.size + 1) (by simp) ?_
  intro g cap w' hown' hgrow hat _
  refine h g cap w' ⟨by rw [List.length_append, tcs_append]; exact hown'⟩ ?_ ?_
  · exact grown_trans (below_grown (from_alloc wr _) _) hgrow (fun g hg => Or.inl hg)
  · rcases hat with e | e
    · exact Or.inl e
    · right; omega

/-- where the loop that copies stands -/
structure Cv (w : World) (L : List Tb) (sv : Value) (wr : World) (k : Nat) (M : List Tb) : Prop where
  k1 : k ≤ L.length
  ot : Ot wr w.heap.size sv M
  cs : Cs w wr L M k
  lt : ∀ g, (∃ s : Tb, s ∈ M ∧ s.a = some ⟨g, 0, none⟩) → g < wr.heap.size ∧ sv.ownBlock ≠ some g
  b : Below w.heap.size w wr

theorem Cv.start (w : World) (L : List Tb) : Cv w L (.slice none 0 0) w 0 [] :=
  ⟨Nat.zero_le _, Ot.nil _ _, ⟨rfl, fun j t s _ hs => by simp at hs⟩, fun g ⟨s, hs, _⟩ => (by cases hs), Below.refl _ _⟩
theorem Cv.step {w wr w1 w' : World} {L M : List Tb} {sv : Value} {k g gc r cap : Nat} {t : Tb} (h : Cv w L sv wr k M) (ht : L[k]? = some t) (hcp : Cp w1 wr.heap.size g gc t.C) (hb : Below wr.heap.size wr w1)
    (ho : Ot w' w.heap.size (.slice (some ⟨r, 0, none⟩) (M.length + 1) cap) (M ++ [⟨some ⟨g, 0, none⟩, gc, t.C, t.n⟩])) (hg : w1.grownBy w' sv.ownBlock) (hat : sv.ownBlock = some r ∨ w1.heap.size ≤ r) :
    Cv w L (.slice (some ⟨r, 0, none⟩) (M.length + 1) cap) w' (k + 1) (M ++ [⟨some ⟨g, 0, none⟩, gc, t.C, t.n⟩]) := by
  have hgl := hcp.own.lies
  have hsz := hb.size
  have hrow : ∀ q, sv.ownBlock = some q → w.heap.size ≤ q ∧ q < wr.heap.size := fun q hq => h.ot.own.lt q hq
  have hkl : k < L.length := (List.getElem?_eq_some_iff.1 ht).1
  have hML := h.cs.len
  have hgne : some g ≠ sv.ownBlock := fun e => by have := (hrow g e.symm).2; omega
  refine ⟨by omega, ho, ⟨by simp [hML], fun j t' s ht' hs => ?_⟩, fun q ⟨s, hs, he⟩ => ?_, ?_⟩
  · by_cases hj : j < M.length
    · rw [List.getElem?_append_left hj] at hs
      obtain ⟨q, h1, h2, h3, h4⟩ := h.cs.cp j t' s ht' hs
      have hq := h.lt q ⟨s, List.mem_of_getElem? hs, h1⟩
      exact ⟨q, h1, h2, h3, ⟨(h4.to hb).own.carry (hg.block q (by omega) (fun e => hq.2 e.symm))⟩⟩
    · rw [List.getElem?_append_right (by omega)] at hs
      have hj0 : j - M.length = 0 := by
        rcases Nat.eq_zero_or_pos (j - M.length) with e | e
        · exact e
        · rw [List.getElem?_eq_none (by simp; omega)] at hs; cases hs
      rw [hj0] at hs
      simp at hs
      subst hs
      have hjk : j = k := by omega
      subst hjk
      rw [ht] at ht'
      cases ht'
      exact ⟨g, rfl, rfl, rfl, ⟨(hcp.own.carry (hg.block g hgl.2 hgne)).mono h.b.size⟩⟩
  · rcases List.mem_append.1 hs with e | e
    · have hq := h.lt q ⟨s, e, he⟩
      refine ⟨by have := hg.size; omega, fun e2 => ?_⟩
      simp [Value.ownBlock] at e2
      subst e2
      rcases hat with e3 | e3
      · exact hq.2 e3
      · omega
    · simp at e
      subst e
      simp at he
      subst he
      refine ⟨by have := hg.size; omega, fun e2 => ?_⟩
      simp [Value.ownBlock] at e2
      subst e2
      rcases hat with e3 | e3
      · exact hgne e3.symm
      · omega
  · exact below_to h.b hb |>.trans (grown_below hg (by have := h.b.size; omega) (fun q hq => (hrow q hq).1))

end Go.Proofs.Ytpijgdfhkmailaa
