/- DERIVED. A list of tables that the call itself makes, one append a round. -/
import Derived.Test.YtpijgdfhkmailaaOq
namespace Go.Proofs.Ytpijgdfhkmailaa
open Go.RowKit

theorem Try.info24 : (Try.prog.info? 24).map (fun i => (i.zero, i.size, i.bytes)) = some (some (.agg #[.slice none 0 0, .int .i64 0]), 2, 32) := by kernel_rfl

/-- tables, as cells -/
def tcs : List Tb → List Value
  | [] => []
  | t :: L => .slice t.a t.C.length t.c :: .int .i64 t.n :: tcs L
theorem tcs_length : ∀ L : List Tb, (tcs L).length = L.length * 2
  | [] => rfl
  | t :: L => by simp [tcs, tcs_length L]; omega
theorem tcs_append : ∀ L M : List Tb, tcs (L ++ M) = tcs L ++ tcs M
  | [], _ => rfl
  | t :: L, M => by simp [tcs, tcs_append L M]
theorem tcs_one : ∀ (L : List Tb) (u : Value), u ∈ tcs L → u.oneCell' = true
  | t :: L, u, hu => by
    simp only [tcs, List.mem_cons] at hu
    rcases hu with rfl | rfl | hu
    · rfl
    · rfl
    · exact tcs_one L u hu
theorem tcs_get0 : ∀ (L : List Tb) (j : Nat) (t : Tb), L[j]? = some t → (tcs L)[j * 2]? = some (.slice t.a t.C.length t.c)
  | t' :: L, 0, t, h => by simp at h; subst h; rfl
  | t' :: L, j + 1, t, h => by
    have := tcs_get0 L j t (by simpa using h)
    rw [show (j + 1) * 2 = j * 2 + 1 + 1 from by omega]
    simpa [tcs] using this
theorem tcs_get1 : ∀ (L : List Tb) (j : Nat) (t : Tb), L[j]? = some t → (tcs L)[j * 2 + 1]? = some (.int .i64 t.n)
  | t' :: L, 0, t, h => by simp at h; subst h; rfl
  | t' :: L, j + 1, t, h => by
    have := tcs_get1 L j t (by simpa using h)
    rw [show (j + 1) * 2 + 1 = j * 2 + 1 + 1 + 1 from by omega]
    simpa [tcs] using this

/-- a list of tables of the call's own -/
structure Ot (w : World) (B : Nat) (v : Value) (L : List Tb) : Prop where
  own : w.ownsRow B 24 2 v L.length (tcs L)
theorem Ot.nil (w : World) (B : Nat) : Ot w B (.slice none 0 0) [] := ⟨World.ownsRow_nil _ _ _ _⟩
theorem Ot.to {w w' : World} {B : Nat} {v : Value} {L : List Tb} (h : Ot w B v L) (hb : Below w.heap.size w w') : Ot w' B v L := ⟨own_below h.own hb⟩
theorem Ot.form {w : World} {B : Nat} {v : Value} {L : List Tb} (h : Ot w B v L) : ∃ a c, v = .slice a L.length c := own_slice h.own
theorem Ot.ts {w : World} {B n c : Nat} {a : Option Addr} {L : List Tb} (h : Ot w B (.slice a n c) L) (h0 : 0 < L.length) (hin : ∀ t, t ∈ L → t.In w) : ∃ g, a = some ⟨g, 0, none⟩ ∧ B ≤ g ∧ Ts w g 0 L := by
  obtain ⟨g, cap, hv, hB, hlt⟩ := h.own.form h0
  simp only [Value.slice.injEq] at hv
  obtain ⟨rfl, rfl, rfl⟩ := hv
  refine ⟨g, rfl, hB, hlt, fun j t ht => ?_, fun j t ht => ?_, hin⟩
  · have hj : j < L.length := (List.getElem?_eq_some_iff.1 ht).1
    rw [Nat.zero_add, h.own.cellAt _ (by omega)]; exact tcs_get0 L j t ht
  · have hj : j < L.length := (List.getElem?_eq_some_iff.1 ht).1
    rw [Nat.zero_add, h.own.cellAt _ (by omega)]; exact tcs_get1 L j t ht

/-- 'append(l, t)' -/
theorem wpList_append_tab (wr : World) {ops : Array Oper} {rest : List Oper} {o : Oper} {a : Act} {Q : Exit → Act → World → Prop} (hgd : o.guard = none) (s x : Operand)
    (ho : o.op = .call { callee := .builtin .append, args := #[s, x], argTypes := #[42, 42] })
    (B : Nat) (L : List Tb) (v : Value) (t : Tb) (hown : Ot wr B v L) (hB : B ≤ wr.heap.size) (hL : L.length < 4398046511104)
    (hs : a.eval s = v) (hx : a.eval x = .slice (some ⟨wr.heap.size, 0, none⟩) 1 1)
    (h : ∀ g cap w', Ot w' B (.slice (some ⟨g, 0, none⟩) (L.length + 1) cap) (L ++ [t]) → Below B wr w' → wpList Try.prog ops Q rest (a.put o.dst (.slice (some ⟨g, 0, none⟩) (L.length + 1) cap)) w') :
    wpList Try.prog ops Q (o :: rest) a (wr.alloc (.cells #[.slice t.a t.C.length t.c, .int .i64 t.n] 24)) := by
  obtain ⟨i, hi, hz0, hz1, hz2⟩ := info_parts Try.info24
  have hnews : ∀ j u, (tcs [t])[j]? = some u → (wr.alloc (.cells #[.slice t.a t.C.length t.c, .int .i64 t.n] 24)).cell? ((⟨wr.heap.size, 0, none⟩ : Addr).add j) = some u := World.news_of_block (cs := #[.slice t.a t.C.length t.c, .int .i64 t.n]) (heap_alloc_new wr _)
  refine wpList_append_lies _ hgd s x 42 ho B 24 i (.agg #[.slice none 0 0, .int .i64 0]) 2 32 Try.underlying42 hi hz0 hz1 hz2 rfl (by omega) v L.length (tcs L) hs (hown.own.alloc _) ⟨wr.heap.size, 0, none⟩ 1 1 (tcs [t]) hx (by rfl) hnews (tcs_one _) (by omega) (by unfold maxLen; omega) (by omega) (by simp; omega) (wr.heap.size + 1) (by simp) ?_
  intro g cap w' hown' hgrow _ _
  refine h g cap w' ⟨by rw [List.length_append, tcs_append]; exact hown'⟩ ?_
  exact (((Below.refl B wr).alloc hB _)).grown hgrow (by simp; omega) (fun k hk => (hown.own.lt k hk).1)

end Go.Proofs.Ytpijgdfhkmailaa
