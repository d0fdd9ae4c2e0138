/- DERIVED. Copy, Same. -/
import Derived.Test.YtkippnfijjhobabTc
import Derived.Test.YtkippnfijjhobabTi
namespace Go.Proofs.Ytkippnfijjhobab
open Go.RowKit

/-- 'append(l, Obu{..})' in a region that draws its order, in whatever world -/
theorem step_append_pcV (V : World) {ops : Array Oper} {o : Oper} {a : Act} {K : Act → World → Prop} {Q : Exit → Act → World → Prop} {E : Prop} (hgd : o.guard = none) (s x : Operand)
    (ho : o.op = .call { callee := .builtin .append, args := #[s, x], argTypes := #[37, 37] })
    (B H : Nat) (L : List Oh) (v : Value) (h : Oh) (h0 : V.cell? ⟨H, 0, none⟩ = some (.int .i64 h.1)) (h1 : V.cell? ⟨H, 1, none⟩ = some h.body) (hown : Ow V B v L) (hB : B ≤ V.heap.size) (hL : L.length < 4398046511104)
    (hs : a.eval s = v) (hx : a.eval x = .slice (some ⟨H, 0, none⟩) 1 1)
    (k : ∀ g cap w', Ow w' B (.slice (some ⟨g, 0, none⟩) (L.length + 1) cap) (L ++ [h]) → V.grownBy w' v.ownBlock → (v.ownBlock = some g ∨ V.heap.size ≤ g) → Below B V w' → K (a.put o.dst (.slice (some ⟨g, 0, none⟩) (L.length + 1) cap)) w') :
    if Region.wanted o (yielded ops a.tmps) = true then Oper.wp Try.prog o a V K Q else E := by
  obtain ⟨i, hi, hz0, hz1, hz2⟩ := info_parts Try.infoObu
  have hnews : ∀ j u, (oc [h])[j]? = some u → V.cell? ((⟨H, 0, none⟩ : Addr).add j) = some u := by
    intro j u hu
    have e : oc [h] = [.int .i64 h.1, h.body] := rfl
    rw [e] at hu
    rw [addr_add, Nat.zero_add]
    cases j with
    | zero => simp at hu; rw [← hu]; exact h0
    | succ j =>
      cases j with
      | zero => simp at hu; rw [← hu]; exact h1
      | succ j => simp at hu
  refine step_append_lies _ hgd s x 37 ho B 29 i _ 2 32 Try.underlying37 hi hz0 hz1 hz2 rfl (by omega) v L.length (oc L) hs hown.own ⟨H, 0, none⟩ 1 1 (oc [h]) hx (by rfl) hnews (oc_one _) (by omega) (by unfold maxLen; omega) (by omega) hB V.heap.size rfl ?_
  intro g cap w' hown' hgrow hat _
  have hbb := grown_below hgrow hB (fun g hg => (hown.own.lt g hg).1)
  exact k g cap w' ⟨by rw [oc_append, List.length_append]; exact hown'⟩ hgrow (by rcases hat with e | e; exact Or.inl e; exact Or.inr (by omega)) hbb
theorem Ow.alloc {w : World} {B : Nat} {v : Value} {L : List Oh} (h : Ow w B v L) (o : Obj) : Ow (w.alloc o) B v L := ⟨h.own.alloc o⟩
theorem Ow.drew {w : World} {B : Nat} {v : Value} {L : List Oh} (h : Ow w B v L) : Ow w.drew B v L := ⟨h.own⟩
theorem Bo.alloc {w : World} {B : Nat} {L : List Oh} {P : List Pc} (h : Bo w B L P) (o : Obj) : Bo (w.alloc o) B L P := h.to (from_alloc _ _)
theorem take_snoc {P : List Pc} {j : Nat} (hj : j < P.length) : P.take (j + 1) = P.take j ++ [P.getD j p0] := by
  rw [List.take_add_one, List.getD_eq_getElem?_getD, List.getElem?_eq_getElem hj]
  rfl

def CoI (B : Nat) (w0 : World) (P : List Pc) (ov iv : Value) (wr : World) : Prop := ∃ j : Nat, iv = .int .i64 (j : Int) ∧ j ≤ P.length ∧ Ol wr B ov (P.take j) ∧ Below B w0 wr
/-- a copy's list, one piece longer -/
theorem co_step {B j n c : Nat} {w0 w1 w' : World} {P : List Pc} {L : List Oh} {v v' : Value} {a : Option Addr} {D : List Nat} {t : Int} (hj : j < P.length) (hp : P.getD j p0 = (t, D)) (ho : Ow w1 B v L) (hbo : Bo w1 B L (P.take j)) (hn : n = D.length) (hw : w1.ownsRow B 5 1 (.slice a n c) n (bs D)) (hz : ∀ i, D.getD i 0 < 256) (hl : D.length ≤ 140737488355328)
    (hw' : Ow w' B v' (L ++ [(t, a, n, c)])) (hg : w1.grownBy w' v.ownBlock) (hb : Below B w0 w') {I : Int} (hI : I = ((j + 1 : Nat) : Int)) : CoI B w0 P v' (.int .i64 I) w' := by
  subst hI
  refine ⟨j + 1, rfl, by omega, ⟨_, hw', ?_⟩, hb⟩
  rw [take_snoc hj, hp]
  exact (hbo.snoc hn hw hz hl).grown ho.own hg

end Go.Proofs.Ytkippnfijjhobab
