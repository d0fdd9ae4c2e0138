/- DERIVED. The walk of CopyInts; rows that grow by two. -/
import Derived.Test.YtddnnlofdicgkabDoorDb
import Derived.Test.YtddnnlofdicgkabDoorEf
namespace Go.Proofs.YtddnnlofdicgkabDoor
open Go.RowKit

/-- a copy, alone in new memory -/
def Cp (w w' : World) (e : Ending) (C : List Int) : Prop := ∃ a c, e = .returned (.slice a C.length c) ∧ Oi w' w.heap.size a C.length c C ∧ Below w.heap.size w w'

set_option maxHeartbeats 400000 in
set_option maxHeartbeats 400000 in
/-- 'append(c, x, y)' -/
theorem wpList_append_two (wr : World) {ops : Array Oper} {rest : List Oper} {o : Oper} {a : Act} {Q : Exit → Act → World → Prop} (hgd : o.guard = none) (s x : Operand)
    (ho : o.op = .call { callee := .builtin .append, args := #[s, x], argTypes := #[22, 22] })
    (B n c : Nat) (C : List Int) (ad : Option Addr) (y z : Int) (hown : Oi wr B ad n c C) (hB : B ≤ wr.heap.size) (hL : n ≤ 17592186043904)
    (hs : a.eval s = .slice ad n c) (hx : a.eval x = .slice (some ⟨wr.heap.size, 0, none⟩) 2 2)
    (h : ∀ g cap w', Oi w' B (some ⟨g, 0, none⟩) (n + 2) cap (C ++ [y, z]) → Below B wr w' → B ≤ w'.heap.size → wpList Tryd.prog ops Q rest (a.put o.dst (.slice (some ⟨g, 0, none⟩) (n + 2) cap)) w') :
    wpList Tryd.prog ops Q (o :: rest) a (wr.alloc (.cells #[.int .i64 y, .int .i64 z] 3)) := by
  obtain ⟨i, hi, hz0, hz1, hz2⟩ := info_parts Tryd.info3
  have hnews : ∀ j u, (is [y, z])[j]? = some u → (wr.alloc (.cells #[.int .i64 y, .int .i64 z] 3)).cell? ((⟨wr.heap.size, 0, none⟩ : Addr).add j) = some u := World.news_of_block (cs := #[.int .i64 y, .int .i64 z]) (heap_alloc_new wr _)
  refine wpList_append_lies _ hgd s x 22 ho B 3 i (.int .i64 0) 1 8 Tryd.underlying22 hi hz0 hz1 hz2 rfl (by omega) (.slice ad n c) n (is C) hs (hown.own.alloc _) ⟨wr.heap.size, 0, none⟩ 2 2 (is [y, z]) hx (by rfl) hnews (is_one _) (by omega) (by unfold maxLen; omega) (by omega) (by simp; omega) (wr.heap.size + 1) (by simp) ?_
  intro g cap w' hown' hgrow hat _
  have hgr := grown_trans (below_grown (from_alloc wr _) (Value.slice ad n c).ownBlock) hgrow (fun g hg => Or.inl hg)
  have hbb := grown_below hgr hB (fun g hg => (hown.own.lt g hg).1)
  exact h g cap w' ⟨by rw [is_append]; exact hown'⟩ hbb (Nat.le_trans hB hbb.size)

theorem Ri.oi {w : World} {g B : Nat} {C : List Int} (h : Ri 3 w g C) (hB : B ≤ g) (hl : C.length ≤ 1048576) : Oi w B (some ⟨g, 0, none⟩) C.length C.length C :=
  ⟨by rw [is_length, Nat.mul_one], Or.inr ⟨g, C.length, (is C).toArray, rfl, hB, h.heap, Nat.le_refl _, by unfold maxLen; omega, by simp [is_length], by rw [Nat.mul_one]; simp [is_length, List.take_of_length_le]⟩⟩
theorem Oi.cellAt {w : World} {B n c g : Nat} {C : List Int} (h : Oi w B (some ⟨g, 0, none⟩) n c C) (j : Nat) (hj : j < n) : w.cell? ⟨g, j, none⟩ = some (.int .i64 (C.getD j 0)) := by
  have hl := h.len
  rw [h.own.cellAt j (by omega)]; exact is_get C j (by omega)
theorem Oi.lt {w : World} {B n c g : Nat} {C : List Int} (h : Oi w B (some ⟨g, 0, none⟩) n c C) : B ≤ g ∧ g < w.heap.size := h.own.lt g rfl
theorem Oi.cap {w : World} {B n c g : Nat} {C : List Int} (h : Oi w B (some ⟨g, 0, none⟩) n c C) : n ≤ c := own_cap h.own
theorem getD_left (C D : List Int) (j : Nat) (h : j < C.length) : (C ++ D).getD j 0 = C.getD j 0 := by rw [List.getD_eq_getElem?_getD, List.getElem?_append_left h, ← List.getD_eq_getElem?_getD]
theorem getD_right (C D : List Int) (j : Nat) : (C ++ D).getD (C.length + j) 0 = D.getD j 0 := by rw [List.getD_eq_getElem?_getD, List.getElem?_append_right (by omega), ← List.getD_eq_getElem?_getD]; congr 1; omega

end Go.Proofs.YtddnnlofdicgkabDoor
