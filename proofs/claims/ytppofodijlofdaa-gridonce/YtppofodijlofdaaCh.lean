/- DERIVED. Put. -/
import Derived.Test.YtppofodijlofdaaCg
namespace Go.Proofs.Ytppofodijlofdaa
open Go.RowKit

theorem heap_set {w : World} {g t : Nat} {xs : List Value} (h : w.heap[g]? = some (.cells xs.toArray t (0, 0))) (k : Nat) (v : Value) : (w.setCell ⟨g, k, none⟩ v).heap[g]? = some (.cells (xs.set k v).toArray t (0, 0)) := by
  rw [setCell_eq_setRow w g k _ _ _ _ h, setRow_heap w g _ _ _ _ h]
  simp
theorem below_grownN {a b : World} (h : Below a.heap.size a b) (r : Option Nat) : a.grownBy b r := ⟨h.os, h.tape, h.output, h.size, fun i hi _ => h.block i hi⟩
theorem grown_to {a b c : World} {r : Option Nat} (h : a.grownBy b r) (k : b.grownBy c r) : a.grownBy c r :=
  ⟨k.os.trans h.os, k.tape.trans h.tape, k.output.trans h.output, Nat.le_trans h.size k.size, fun i hi hne => by
    rw [k.block i (Nat.lt_of_lt_of_le hi h.size) hne]
    exact h.block i hi hne⟩
theorem Try.info40z : (Try.prog.info? 40).map (fun i => (i.zero, i.size, i.bytes)) = some (some (.agg bz.cs.toArray), 23, 176) := by kernel_rfl
/-- 'append(l, b)' on a row of blocks, in a region that draws its order -/
theorem step_append_block (wr : World) {ops : Array Oper} {o : Oper} {a : Act} {K : Act → World → Prop} {Q : Exit → Act → World → Prop} {E : Prop} (hgd : o.guard = none) (s x : Operand)
    (ho : o.op = .call { callee := .builtin .append, args := #[s, x], argTypes := #[24, 24] })
    (L : List Bl) (v : Value) (b : Bl) (bc : Array Value) (hbc : bc = b.cs.toArray) (hown : Or wr 0 v L) (hL : L.length < 1000000)
    (hs : a.eval s = v) (hx : a.eval x = .slice (some ⟨wr.heap.size, 0, none⟩) 1 1)
    (h : ∀ g cap w', Or w' 0 (.slice (some ⟨g, 0, none⟩) (L.length + 1) cap) (L ++ [b]) → wr.grownBy w' v.ownBlock → (v.ownBlock = some g ∨ wr.heap.size ≤ g) → g < w'.heap.size → K (a.put o.dst (.slice (some ⟨g, 0, none⟩) (L.length + 1) cap)) w') :
    if Region.wanted o (yielded ops a.tmps) = true then Oper.wp Try.prog o a (wr.alloc (.cells bc 40)).drew K Q else E := by
  subst hbc
  obtain ⟨i, hi, hz0, hz1, hz2⟩ := info_parts Try.info40z
  have hnews : ∀ j u, (bs [b])[j]? = some u → (wr.alloc (.cells b.cs.toArray 40)).drew.cell? ((⟨wr.heap.size, 0, none⟩ : Addr).add j) = some u := by
    have e : bs [b] = b.cs := by simp [bs]
    rw [e]
    have := World.news_of_block (w := wr.alloc (.cells b.cs.toArray 40)) (cs := b.cs.toArray) (heap_alloc_new wr _)
    simpa using this
  refine step_append_lies _ hgd s x 24 ho 0 40 i (.agg bz.cs.toArray) 23 176 Try.underlying24 hi hz0 hz1 hz2 rfl (by omega) v L.length (bs L) hs (hown.own.alloc _).drew ⟨wr.heap.size, 0, none⟩ 1 1 (bs [b]) hx (by rfl) hnews (bs_one _) (by omega) (by unfold maxLen; omega) (by omega) (Nat.zero_le _) (wr.heap.size + 1) (by simp) ?_
  intro g cap w' hown' hgrow hat hlt
  have hgr := grown_to (below_grownN (from_alloc wr _) v.ownBlock) (undrew hgrow)
  exact h g cap w' ⟨by rw [bs_append, List.length_append]; exact hown'⟩ hgr (by rcases hat with e | e; exact Or.inl e; exact Or.inr (by omega)) hlt
/-- only the grid's own memory turns -/
structure Gt (p m : Nat) (v v' : Value) (w w' : World) : Prop where
  os : w'.os = w.os
  tape : w'.tape = w.tape
  output : w'.output = w.output
  size : w.heap.size ≤ w'.heap.size
  block : ∀ i, i < w.heap.size → ¬ Gb p m v i → w'.heap[i]? = w.heap[i]?
  new : ∀ g, v'.ownBlock = some g → v.ownBlock = some g ∨ w.heap.size ≤ g
/-- what Put answers where the block may be put -/
def Pq (p m : Nat) (T : Rc) (v : Value) (L : List Bl) (b : Bl) (w w' : World) (e : Ending) : Prop := e = .returned (.int .i64 0) ∧ ∃ v', Gd w' p m T v' (L ++ [b]) ∧ Gt p m v v' w w'
/-- the end of Put -/
theorem pq_mk {w V w1 : World} {p m : Nat} {T : Rc} {v : Value} {L : List Bl} {b : Bl} {g cap : Nat} (hg : Gd w p m T v L) (hm : mp T L b = true) (hV : w.grownBy V (some m)) (hMp : Mp V m (64 * L.length + 64) (upL (ow L) (cls b) L.length))
    (h1 : Or w1 0 (.slice (some ⟨g, 0, none⟩) (L.length + 1) cap) (L ++ [b])) (h2 : V.grownBy w1 v.ownBlock) (h3 : v.ownBlock = some g ∨ V.heap.size ≤ g) :
    Pq p m T v L b w (w1.setCell ⟨p, 4, none⟩ (.slice (some ⟨g, 0, none⟩) (L.length + 1) cap)) (.returned (.int .i64 0)) := by
  have hpm := hg.nm
  have hplt := hg.lt
  have hmlt := hg.map.lt
  have hvp : ∀ q, v.ownBlock = some q → q ≠ p ∧ q ≠ m := hg.nv
  have hgp : g ≠ p ∧ g ≠ m := by
    rcases h3 with h | h
    · exact hvp g h
    · have := hV.size; omega
  have e1 : w1.heap[p]? = w.heap[p]? := by
    rw [h2.block p (Nat.lt_of_lt_of_le hplt hV.size) (fun e => (hvp p e.symm).1 rfl), hV.block p hplt (fun e => hpm (by simpa using e.symm))]
  have e2 : w1.heap[m]? = V.heap[m]? := h2.block m (Nat.lt_of_lt_of_le hmlt hV.size) (fun e => (hvp m e.symm).2 rfl)
  refine ⟨rfl, .slice (some ⟨g, 0, none⟩) (L.length + 1) cap, ⟨?_, ?_, ?_, hg.tok, ?_, hpm, ?_⟩, ⟨?_, ?_, ?_, ?_, ?_, ?_⟩⟩
  · have := heap_set (w := w1) (g := p) (t := 63) (xs := [.int .i64 T.1, .int .i64 T.2.1, .int .i64 T.2.2.1, .int .i64 T.2.2.2, v, .map (some m)]) (by rw [e1]; exact hg.heap) 4 (.slice (some ⟨g, 0, none⟩) (L.length + 1) cap)
    exact this
  · exact h1.carry fun q hq => Below.heap_setCell _ _ _ _ (by
      obtain rfl : g = q := by simpa [Value.ownBlock] using hq
      exact hgp.1)
  · have h4 : Mp w1 m (64 * L.length + 64) (ow (L ++ [b])) := (hMp.carry e2).cong (put_ow hm)
    rw [List.length_append, show 64 * (L.length + [b].length) = 64 * L.length + 64 from by simp; omega]
    exact h4.carry (Below.heap_setCell _ _ _ _ hpm)
  · intro c hc
    rcases List.mem_append.1 hc with h | h
    · exact hg.fit c h
    · obtain rfl : c = b := by simpa using h
      unfold mp at hm
      rw [Bool.and_eq_true] at hm
      exact fit_of hm.1
  · intro q hq
    obtain rfl : g = q := by simpa [Value.ownBlock] using hq
    exact hgp
  · simp only [World.setCell]; rw [h2.os, hV.os]
  · simp only [World.setCell]; rw [h2.tape, hV.tape]
  · simp only [World.setCell]; rw [h2.output, hV.output]
  · have h5 := hV.size
    have h6 := h2.size
    simp
    omega
  · intro i hi hn
    rw [Below.heap_setCell _ _ _ _ (fun e => hn (Or.inl e)), h2.block i (Nat.lt_of_lt_of_le hi hV.size) (fun e => hn (Or.inr (Or.inr e.symm))), hV.block i hi (fun e => hn (Or.inr (Or.inl (by simpa using e))))]
  · intro q hq
    obtain rfl : g = q := by simpa [Value.ownBlock] using hq
    rcases h3 with h | h
    · exact Or.inl h
    · exact Or.inr (Nat.le_trans hV.size h)
theorem cellsOf_new {w : World} {T : Rc} {b : Bl} (ht : TOk T) (h : Fit T b) : Calls Try.prog 26 #[.agg b.cs.toArray] w fun e w' => ∃ a c, e = .returned (.slice a (cls b).length c) ∧ Sc w' a (cls b) ∧ (∀ g o s, cls b ≠ [] → a = some ⟨g, o, s⟩ → w.heap.size ≤ g) ∧ Below w.heap.size w w' := by
  obtain ⟨X, Y, I, J, h1, h2, h3, h4, h5, h6, h7, h8, h9, h10, h11⟩ := fit_cells ht h
  refine (cellsOf_any h1 h2 h3 h4 (by omega) h6 (by omega) h8 h9 h10).mono ?_
  rintro e w' ⟨a, c, rfl, ho, hb⟩
  have hl : (cls b).length = J * I := by rw [← h11, clp_len]; rfl
  refine ⟨a, c, by rw [hl], by rw [← h11]; exact ho.sc, fun g o s _ e => ?_, hb⟩
  subst e
  rcases ho.own.2 with ⟨e, _⟩ | ⟨g', cap, cur, e, e2, _⟩
  · cases e
  · simp only [Value.slice.injEq, Option.some.injEq, Addr.mk.injEq] at e
    rw [e.1.1]; exact e2
end Go.Proofs.Ytppofodijlofdaa
