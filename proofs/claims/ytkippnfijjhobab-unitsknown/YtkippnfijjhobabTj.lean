/- DERIVED. A whole slice appended. -/
import Derived.Test.YtkippnfijjhobabTb
import Derived.Maps.AppendAt
import Derived.Deep.Upon
namespace Go.Proofs.Ytkippnfijjhobab
open Go.RowKit

/-- a slice as a source of cells: nil, or cells behind an address -/
def SrcC (w : World) (u : Value) (m : Nat) (news : List Value) : Prop := (u = .slice none 0 0 ∧ m = 0 ∧ news = []) ∨ ∃ ad c, u = .slice (some ad) m c ∧ ∀ j x, news[j]? = some x → w.cell? (ad.add j) = some x
theorem wp_append_src {P : Program} {w : World} {o : Oper} {a : Act} {K : Act → World → Prop} {Q : Exit → Act → World → Prop} (s x : Operand) (t : TypeId)
    (ho : o.op = .call { callee := .builtin .append, args := #[s, x], argTypes := #[t, t] })
    (base : Nat) (e : TypeId) (i : TypeInfo) (z : Value) (size bytes : Nat) (ht : P.underlying t = some (.slice e)) (hi : P.info? e = some i) (hz : i.zero = some z)
    (hsize : i.size = size) (hby : i.bytes = bytes) (hzs : z.cells.size = size) (hsz : 0 < size)
    (v : Value) (n : Nat) (xs : List Value) (hs : a.eval s = v) (hown : w.ownsRow base e size v n xs)
    (u : Value) (m : Nat) (news : List Value) (hx : a.eval x = u) (hl : news.length = m * size) (hu : SrcC w u m news) (h1 : ∀ u ∈ news, u.oneCell' = true)
    (h63 : n + m ≤ maxLen) (hbytes : (n + m) * bytes ≤ 140737488355328) (hbase : base ≤ w.heap.size)
    (h : ∀ v' w', w'.ownsRow base e size v' (n + m) (xs ++ news) → w.grownBy w' v.ownBlock → (v'.ownBlock = v.ownBlock ∨ v'.ownBlock = some w.heap.size) → K (a.put o.dst v') w') : o.wp P a w K Q := by
  rcases hu with ⟨rfl, rfl, rfl⟩ | ⟨ad, c, rfl, hnews⟩
  · obtain ⟨a1, c1, rfl⟩ := own_slice hown
    have hle := (own_form hown).1
    have hr := run_append_nothing (P := P) w t t o.type e i ht hi a1 n c1 hle (.slice none 0 0) (Src.ofNil w ht 0)
    unfold Oper.wp execOp
    simp only [ho, resolve, invoke, builtin, Sem.run_bind, Sem.run_pure, Result.andThen_ok, List.map_toArray, List.map_cons, List.map_nil, hs, hx, hr]
    exact h _ _ (by simpa using hown) ⟨rfl, rfl, rfl, Nat.le_refl _, fun _ _ _ => rfl⟩ (Or.inl rfl)
  · obtain ⟨v', w', hr, h2, h3, h4, h5⟩ := run_append_own_at (P := P) w base t o.type e i z size bytes ht hi hz hsize hby hzs hsz v n xs hown ad m c news hl hnews h1 h63 hbytes hbase
    unfold Oper.wp execOp
    simp only [ho, resolve, invoke, builtin, Sem.run_bind, Sem.run_pure, Result.andThen_ok, List.map_toArray, List.map_cons, List.map_nil, hs, hx, hr]
    exact h _ _ h2 h3 h5
theorem By.srcC {w : World} {N n c : Nat} {a : Option Addr} {C : List Nat} (h : By w N (.slice a n c) C) : SrcC w (.slice a n c) n (bs C) := by
  obtain ⟨a', c', h1, _, _, _⟩ := h.ex
  simp only [Value.slice.injEq] at h1
  obtain ⟨rfl, rfl, rfl⟩ := h1
  rcases h.src with ⟨rfl, h2⟩ | ⟨ad, c, h2, h3⟩
  · exact Or.inl ⟨h2, rfl, rfl⟩
  · simp only [Value.slice.injEq] at h2
    obtain ⟨rfl, _, rfl⟩ := h2
    refine Or.inr ⟨ad, _, rfl, fun j x hx => ?_⟩
    have hj : j < C.length := by have := (List.getElem?_eq_some_iff.1 hx).1; rwa [bs_length] at this
    rw [bs_get C j hj] at hx
    rw [← hx]; exact h3 j hj
/-- 'append(b, c...)' on bytes that the call made -/
theorem wpList_append_by (wr : World) {ops : Array Oper} {rest : List Oper} {o : Oper} {a : Act} {Q : Exit → Act → World → Prop} (hgd : o.guard = none) (s x : Operand)
    (ho : o.op = .call { callee := .builtin .append, args := #[s, x], argTypes := #[24, 24] })
    (B N n : Nat) (C D : List Nat) (v u : Value) (hn : n = C.length) (hown : wr.ownsRow B 5 1 v n (bs C)) (hu : By wr N u D) (hB : B ≤ wr.heap.size) (hL : n + D.length ≤ 1099511627776)
    (hs : a.eval s = v) (hx : a.eval x = u)
    (k : ∀ a' c' w', w'.ownsRow B 5 1 (.slice a' (n + D.length) c') (n + D.length) (bs (C ++ D)) → wr.grownBy w' v.ownBlock → Below B wr w' → wpList Try.prog ops Q rest (a.put o.dst (.slice a' (n + D.length) c')) w') :
    wpList Try.prog ops Q (o :: rest) a wr := by
  obtain ⟨i, hi, hz0, hz1, hz2⟩ := info_parts Try.info5
  obtain ⟨a2, c2, rfl, _, _, _⟩ := hu.ex
  refine wpList_plain hgd fun _ hK => wp_append_src s x 24 ho B 5 i (.int .u8 0) 1 1 Try.underlying24 hi hz0 hz1 hz2 rfl (by omega) v n (bs C) hs hown _ D.length (bs D) hx (by rw [bs_length, Nat.mul_one]) hu.srcC (bs_one D) (by unfold maxLen; omega) (by omega) hB ?_
  intro v' w' h1 h2 h3
  obtain ⟨a', c', rfl⟩ := own_slice h1
  exact hK _ _ (k a' c' w' (by rw [bs_append]; exact h1) h2 (grown_below h2 hB (fun g hg => (hown.lt g hg).1)))
end Go.Proofs.Ytkippnfijjhobab
