/- DERIVED. Lists of lists of pieces, in memory. -/
import Derived.Test.YtkippnfijjhobabTm
namespace Go.Proofs.Ytkippnfijjhobab
open Go.RowKit

def nilV : Value := .slice none 0 0
/-- lists of pieces in a list that a call made, each in a row of its own -/
structure OgK (w : World) (B : Nat) (v : Value) (K : List Value) (Q : List (List Pc)) : Prop where
  own : w.ownsRow B 37 1 v K.length K
  len : K.length = Q.length
  at' : ∀ j, j < Q.length → Ol w B (K.getD j nilV) (Q.getD j [])
  apart : ∀ i j, i < j → j < Q.length → ∀ g, (K.getD i nilV).ownBlock = some g → (K.getD j nilV).ownBlock ≠ some g
def Og (w : World) (B : Nat) (v : Value) (Q : List (List Pc)) : Prop := ∃ K, OgK w B v K Q
theorem Ol.keep {w w' : World} {B : Nat} {v : Value} {P : List Pc} (h : Ol w B v P) (k1 : ∀ g, v.ownBlock = some g → w'.heap[g]? = w.heap[g]?) (k2 : ∀ (u : Value) (n : Nat) (xs : List Value), w.ownsRow B 5 1 u n xs → ∀ g, u.ownBlock = some g → w'.heap[g]? = w.heap[g]?) : Ol w' B v P := by
  obtain ⟨L, h1, h2⟩ := h
  refine ⟨L, ⟨own_carry h1.own k1⟩, ⟨h2.len, fun j hj => ?_⟩⟩
  obtain ⟨e1, e2, e3, e4⟩ := h2.at' j hj
  exact ⟨e1, e2, own_carry e3 (k2 _ _ _ e3), e4⟩
theorem Ol.own {w : World} {B : Nat} {v : Value} {P : List Pc} (h : Ol w B v P) : ∃ n xs, w.ownsRow B 29 2 v n xs := by
  obtain ⟨L, h1, _⟩ := h
  exact ⟨_, _, h1.own⟩
theorem Ol.lt {w : World} {B : Nat} {v : Value} {P : List Pc} (h : Ol w B v P) : ∀ g, v.ownBlock = some g → B ≤ g ∧ g < w.heap.size := by
  obtain ⟨n, xs, h1⟩ := h.own
  exact h1.lt
theorem OgK.to {w w' : World} {B : Nat} {v : Value} {K : List Value} {Q : List (List Pc)} (h : OgK w B v K Q) (hb : Below w.heap.size w w') : OgK w' B v K Q :=
  ⟨own_below h.own hb, h.len, fun j hj => (h.at' j hj).to hb, h.apart⟩
theorem OgK.nil (w : World) (B : Nat) : OgK w B (.slice none 0 0) [] [] := ⟨World.ownsRow_nil _ _ _ _, rfl, fun j hj => by simp at hj, fun i j _ hj => by simp at hj⟩
theorem getD_snocV (K : List Value) (x : Value) (j : Nat) (h : j < K.length + 1) : (K ++ [x]).getD j nilV = if j < K.length then K.getD j nilV else x := by
  simp only [List.getD_eq_getElem?_getD]
  by_cases hj : j < K.length
  · rw [if_pos hj, List.getElem?_append_left hj]
  · rw [if_neg hj, List.getElem?_append_right (by omega), show j - K.length = 0 from by omega]
    rfl
theorem getD_snocQ (Q : List (List Pc)) (x : List Pc) (j : Nat) (h : j < Q.length + 1) : (Q ++ [x]).getD j [] = if j < Q.length then Q.getD j [] else x := by
  simp only [List.getD_eq_getElem?_getD]
  by_cases hj : j < Q.length
  · rw [if_pos hj, List.getElem?_append_left hj]
  · rw [if_neg hj, List.getElem?_append_right (by omega), show j - Q.length = 0 from by omega]
    rfl
/-- another list, with nothing in it -/
theorem OgK.more {w w' : World} {B : Nat} {v v' : Value} {K : List Value} {Q : List (List Pc)} (h : OgK w B v K Q) (ho : w'.ownsRow B 37 1 v' (K.length + 1) (K ++ [nilV])) (hg : w.grownBy w' v.ownBlock) : OgK w' B v' (K ++ [nilV]) (Q ++ [[]]) := by
  have hl := h.len
  refine ⟨by simpa using ho, by simp [hl], fun j hj => ?_, fun i j hij hj g hi hj' => ?_⟩
  · simp at hj
    rw [getD_snocV _ _ _ (by omega), getD_snocQ _ _ _ (by omega), hl]
    by_cases e : j < Q.length
    · rw [if_pos e, if_pos e]
      have hj' := h.at' j e
      obtain ⟨n, xs, ho'⟩ := hj'.own
      exact hj'.keep (fun g hg' => hg.block g (hj'.lt g hg').2 (fun e => own_apart ho' h.own (by decide) g hg' e.symm)) (fun u n xs hu g hg' => hg.block g (hu.lt g hg').2 (fun e => own_apart hu h.own (by decide) g hg' e.symm))
    · rw [if_neg e, if_neg e]; exact Ol.nil _ _
  · simp at hj
    rw [getD_snocV _ _ _ (by omega)] at hi hj'
    by_cases e : j < K.length
    · rw [if_pos e] at hj'
      rw [if_pos (by omega)] at hi
      exact h.apart i j hij (by omega) g hi hj'
    · rw [if_neg e] at hj'
      simp [nilV, Value.ownBlock] at hj'
theorem getD_setV (K : List Value) (x : Value) (i j : Nat) (h : i < K.length) : (K.set i x).getD j nilV = if i = j then x else K.getD j nilV := by
  rw [List.getD_eq_getElem?_getD, List.getD_eq_getElem?_getD, List.getElem?_set]
  by_cases e : i = j
  · subst e; rw [if_pos rfl, if_pos h, if_pos rfl]; rfl
  · rw [if_neg e, if_neg e]
theorem getD_setQ (Q : List (List Pc)) (x : List Pc) (i j : Nat) (h : i < Q.length) : (Q.set i x).getD j [] = if i = j then x else Q.getD j [] := by
  rw [List.getD_eq_getElem?_getD, List.getD_eq_getElem?_getD, List.getElem?_set]
  by_cases e : i = j
  · subst e; rw [if_pos rfl, if_pos h, if_pos rfl]; rfl
  · rw [if_neg e, if_neg e]
/-- a piece more in the last list -/
theorem OgK.grow {w1 w6 : World} {B g0 n0 c0 l n c g cap : Nat} {K : List Value} {Q : List (List Pc)} {L : List Oh} {u : Value} {a : Option Addr} {t : Int} {D : List Nat} (h : OgK w1 B (.slice (some ⟨g0, 0, none⟩) n0 c0) K Q) (hn0 : n0 = K.length) (hl : l + 1 = Q.length) (hu : u = K.getD l nilV)
    (hL : Ow w1 B u L) (hLb : Bo w1 B L (Q.getD l [])) (hn : n = D.length) (hw : w1.ownsRow B 5 1 (.slice a n c) n (bs D)) (hz : ∀ i, D.getD i 0 < 256) (hD : D.length ≤ 140737488355328)
    (hO : Ow w6 B (.slice (some ⟨g, 0, none⟩) (L.length + 1) cap) (L ++ [(t, a, n, c)])) (hg : w1.grownBy w6 u.ownBlock) (hat : u.ownBlock = some g ∨ w1.heap.size ≤ g) :
    OgK (w6.setCell ⟨g0, l, none⟩ (.slice (some ⟨g, 0, none⟩) (L.length + 1) cap)) B (.slice (some ⟨g0, 0, none⟩) n0 c0) (K.set l (.slice (some ⟨g, 0, none⟩) (L.length + 1) cap)) (Q.set l (Q.getD l [] ++ [(t, D)])) := by
  subst hn0
  have hlen := h.len
  have hlast := h.at' l (by omega)
  rw [← hu] at hlast
  have hg0 : ∀ g', (Value.slice (some ⟨g0, 0, none⟩) K.length c0).ownBlock = some g' → g' = g0 := fun g' e => by simpa [Value.ownBlock] using e.symm
  have hrow6 : w6.ownsRow B 37 1 (.slice (some ⟨g0, 0, none⟩) K.length c0) K.length K := own_carry h.own (fun g' hg' => hg.block g' (h.own.lt g' hg').2 (fun e => own_apart h.own hL.own (by decide) g' hg' e.symm))
  have hne : ∀ (e s m : Nat) (x : Value) (xs : List Value), w6.ownsRow B e s x m xs → e ≠ 37 → ∀ g', x.ownBlock = some g' → (w6.setCell ⟨g0, l, none⟩ (.slice (some ⟨g, 0, none⟩) (L.length + 1) cap)).heap[g']? = w6.heap[g']? := fun e s m x xs hx he g' hg' => Below.heap_setCell _ _ _ _ (by
    intro e2
    have e3 : g0 = g' := by first | exact e2 | exact e2.symm
    exact own_apart hx hrow6 he g' hg' (by rw [← e3]; rfl))
  refine ⟨?_, by simp [hlen], fun j hj => ?_, fun i j hij hj g' hi hj' => ?_⟩
  · have := (hrow6.stored l (.slice (some ⟨g, 0, none⟩) (L.length + 1) cap)).1
    simpa using this
  · simp at hj
    rw [getD_setV _ _ _ _ (by omega), getD_setQ _ _ _ _ (by omega)]
    by_cases e : l = j
    · rw [if_pos e, if_pos e]
      have hb6 := (hLb.snoc (t := t) hn hw hz hD).grown hL.own hg
      exact Ol.keep ⟨_, hO, hb6⟩ (fun g' hg' => hne _ _ _ _ _ hO.own (by decide) g' hg') (fun x m xs hx g' hg' => hne _ _ _ _ _ hx (by decide) g' hg')
    · rw [if_neg e, if_neg e]
      have hj1 := h.at' j hj
      obtain ⟨m1, xs1, ho1⟩ := hj1.own
      have h6 : Ol w6 B (K.getD j nilV) (Q.getD j []) := hj1.keep (fun g' hg' => hg.block g' (hj1.lt g' hg').2 (fun e' => by
        have := h.apart j l (by omega) (by omega) g' hg'
        rw [← hu] at this
        exact this e'.symm)) (fun x m xs hx g' hg' => hg.block g' (hx.lt g' hg').2 (fun e' => own_apart hx hL.own (by decide) g' hg' e'.symm))
      obtain ⟨m2, xs2, ho2⟩ := h6.own
      exact h6.keep (fun g' hg' => hne _ _ _ _ _ ho2 (by decide) g' hg') (fun x m xs hx g' hg' => hne _ _ _ _ _ hx (by decide) g' hg')
  · simp at hj
    rw [getD_setV _ _ _ _ (by omega)] at hi hj'
    have hil : ¬ l = i := by omega
    rw [if_neg hil] at hi
    by_cases e : l = j
    · rw [if_pos e] at hj'
      simp [Value.ownBlock] at hj'
      subst hj'
      have h1 := (h.at' i (by omega)).lt _ hi
      rcases hat with e' | e'
      · have := h.apart i l (by omega) (by omega) _ hi
        rw [← hu] at this
        exact this e'
      · omega
    · rw [if_neg e] at hj'
      exact h.apart i j hij hj g' hi hj'
/-- 'append(all, nil)' on a list of lists that the call made -/
theorem Try.infoObus : (Try.prog.info? 37).map (fun i => (i.zero, i.size, i.bytes)) = some (some (.slice none 0 0), 1, 24) := by kernel_rfl
theorem wpList_append_nil (V : World) {ops : Array Oper} {rest : List Oper} {o : Oper} {a : Act} {Q : Exit → Act → World → Prop} (hgd : o.guard = none) (s x : Operand)
    (ho : o.op = .call { callee := .builtin .append, args := #[s, x], argTypes := #[34, 34] })
    (B H : Nat) (K : List Value) (v : Value) (n : Nat) (hn : n = K.length) (h0 : V.cell? ⟨H, 0, none⟩ = some nilV) (hown : V.ownsRow B 37 1 v n K) (hB : B ≤ V.heap.size) (hL : K.length < 4398046511104)
    (hs : a.eval s = v) (hx : a.eval x = .slice (some ⟨H, 0, none⟩) 1 1)
    (k : ∀ g cap w', w'.ownsRow B 37 1 (.slice (some ⟨g, 0, none⟩) (n + 1) cap) (K.length + 1) (K ++ [nilV]) → V.grownBy w' v.ownBlock → Below B V w' → wpList Try.prog ops Q rest (a.put o.dst (.slice (some ⟨g, 0, none⟩) (n + 1) cap)) w') :
    wpList Try.prog ops Q (o :: rest) a V := by
  subst hn
  obtain ⟨i, hi, hz0, hz1, hz2⟩ := info_parts Try.infoObus
  have hnews : ∀ j u, [nilV][j]? = some u → V.cell? ((⟨H, 0, none⟩ : Addr).add j) = some u := by
    intro j u hu
    rw [addr_add, Nat.zero_add]
    cases j with
    | zero => simp at hu; rw [← hu]; exact h0
    | succ j => simp at hu
  refine wpList_append_lies _ hgd s x 34 ho B 37 i _ 1 24 Try.underlying34 hi hz0 hz1 hz2 rfl (by omega) v K.length K hs hown ⟨H, 0, none⟩ 1 1 [nilV] hx (by rfl) hnews (by intro u hu; simp at hu; subst hu; rfl) (by omega) (by unfold maxLen; omega) (by omega) hB V.heap.size rfl ?_
  intro g cap w' hown' hgrow _ _
  exact k g cap w' hown' hgrow (grown_below hgrow hB (fun g hg => (hown.lt g hg).1))
end Go.Proofs.Ytkippnfijjhobab
