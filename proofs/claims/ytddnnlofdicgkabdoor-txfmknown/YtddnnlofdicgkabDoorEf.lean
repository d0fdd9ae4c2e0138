/- DERIVED. The walks of sums (of two rows) and close1; what is made of sums. -/
import Derived.Test.YtddnnlofdicgkabDoorEb
namespace Go.Proofs.YtddnnlofdicgkabDoor
open Go.RowKit

/-- 'append(c, x)' in a region that draws its order -/
theorem step_append_int (wr : World) {ops : Array Oper} {o : Oper} {a : Act} {K : Act → World → Prop} {Q : Exit → Act → World → Prop} {E : Prop} (hgd : o.guard = none) (s x : Operand)
    (ho : o.op = .call { callee := .builtin .append, args := #[s, x], argTypes := #[22, 22] })
    (B n c : Nat) (C : List Int) (ad : Option Addr) (X y : Int) (hX : X = y) (hown : Oi wr B ad n c C) (hB : B ≤ wr.heap.size) (hL : n < 1099511627776)
    (hs : a.eval s = .slice ad n c) (hx : a.eval x = .slice (some ⟨wr.heap.size, 0, none⟩) 1 1)
    (h : ∀ g cap w', Oi w' B (some ⟨g, 0, none⟩) (n + 1) cap (C ++ [y]) → Below B wr w' → B ≤ w'.heap.size → K (a.put o.dst (.slice (some ⟨g, 0, none⟩) (n + 1) cap)) w') :
    if Region.wanted o (yielded ops a.tmps) = true then Oper.wp Tryd.prog o a (wr.alloc (.cells #[.int .i64 X] 3)).drew K Q else E := by
  subst hX
  obtain ⟨i, hi, hz0, hz1, hz2⟩ := info_parts Tryd.info3
  have hnews : ∀ j u, (is [X])[j]? = some u → (wr.alloc (.cells #[.int .i64 X] 3)).drew.cell? ((⟨wr.heap.size, 0, none⟩ : Addr).add j) = some u := World.news_of_block (w := wr.alloc (.cells #[.int .i64 X] 3)) (cs := #[.int .i64 X]) (heap_alloc_new wr _)
  refine step_append_lies _ hgd s x 22 ho B 3 i (.int .i64 0) 1 8 Tryd.underlying22 hi hz0 hz1 hz2 rfl (by omega) (.slice ad n c) n (is C) hs (hown.own.alloc _).drew ⟨wr.heap.size, 0, none⟩ 1 1 (is [X]) hx (by rfl) hnews (is_one _) (by omega) (by unfold maxLen; omega) (by omega) (by simp; omega) (wr.heap.size + 1) (by simp) ?_
  intro g cap w' hown' hgrow hat hlt
  have hgr := grown_trans (below_grown (from_alloc wr _) (Value.slice ad n c).ownBlock) (undrew hgrow) (fun g hg => Or.inl hg)
  have hbb := grown_below hgr hB (fun g hg => (hown.own.lt g hg).1)
  exact h g cap w' ⟨by rw [is_append]; exact hown'⟩ hbb (Nat.le_trans hB hbb.size)

/-- the sums of two rows -/
def adL (A B : List Int) : List Int := (List.range A.length).map fun i => A.getD i 0 + B.getD i 0
theorem adL_len (A B : List Int) : (adL A B).length = A.length := by simp [adL]
theorem adL_get (A B : List Int) (i : Nat) (h : i < A.length) : (adL A B).getD i 0 = A.getD i 0 + B.getD i 0 := by simp [adL, h]
theorem take_snoc (C : List Int) (k : Nat) (h : k < C.length) : C.take (k + 1) = C.take k ++ [C.getD k 0] := by
  rw [List.take_succ_eq_append_getElem h]
  simp [List.getD_eq_getElem?_getD, List.getElem?_eq_getElem h]
structure SuI (w : World) (n : Nat) (D : List Int) (s i : Value) (wr : World) : Prop where
  ex : ∃ (k c : Nat) (a : Option Addr), k ≤ n ∧ i = .int .i64 k ∧ s = .slice a k c ∧ Oi wr w.heap.size a k c (D.take k) ∧ Below w.heap.size w wr
/-- a row, in new memory, with room behind it -/
def Nu (w w' : World) (e : Ending) (D : List Int) : Prop := ∃ a c, e = .returned (.slice a D.length c) ∧ Si w' a D ∧ Below w.heap.size w w'

end Go.Proofs.YtddnnlofdicgkabDoor
