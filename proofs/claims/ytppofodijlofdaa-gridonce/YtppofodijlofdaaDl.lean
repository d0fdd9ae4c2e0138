/- DERIVED. The document's Put: which blocks lie over which, what is refused because it does not fit. -/
import Derived.Test.YtppofodijlofdaaDb
import Derived.Test.YtppofodijlofdaaCi
namespace Go.Proofs.Ytppofodijlofdaa
open Go.RowKit

/-- do two blocks lie over each other? -/
def ovB (a b : Bl) : Bool := decide (a.x < b.x + b.w ∧ b.x < a.x + a.w ∧ a.y < b.y + b.h ∧ b.y < a.y + a.h)
theorem both_in {a b c d : Int} (h1 : a % 8 = 0) (h2 : c % 8 = 0) (h3 : a < c + d) (h4 : c < a + b) (hb : 8 ≤ b) (hd : 8 ≤ d) : ∃ X : Int, a ≤ 8 * X ∧ 8 * X < a + b ∧ c ≤ 8 * X ∧ 8 * X < c + d := by
  by_cases h : a ≤ c
  · exact ⟨c / 8, by omega, by omega, by omega, by omega⟩
  · exact ⟨a / 8, by omega, by omega, by omega, by omega⟩
theorem mp_ov {T : Rc} {L : List Bl} {b : Bl} (hL : ∀ a ∈ L, Fit T a) : mp T L b = (fitB T b && !L.any (fun a => ovB a b)) := by
  unfold mp
  cases hf : fitB T b
  · rfl
  · have hfb := fit_of hf
    rw [all_none]
    simp only [Bool.true_and]
    congr 1
    rw [Bool.eq_iff_iff]
    simp only [List.any_eq_true]
    constructor
    · rintro ⟨⟨cx, cy⟩, hc, hs⟩
      unfold ow at hs
      rw [List.findIdx?_isSome, List.any_eq_true] at hs
      obtain ⟨a, ha, hi⟩ := hs
      have hb := of_decide_eq_true ((mem_cls hfb cx cy).1 hc)
      have hi := of_decide_eq_true hi
      exact ⟨a, ha, decide_eq_true (by omega)⟩
    · rintro ⟨a, ha, ho⟩
      have ho := of_decide_eq_true ho
      have hfa := hL a ha
      have w1 := hfa.ws
      have w2 := hfb.ws
      have w3 := hfa.hs
      have w4 := hfb.hs
      obtain ⟨X, x1, x2, x3, x4⟩ := both_in hfa.x8 hfb.x8 ho.1 ho.2.1 (by omega) (by omega)
      obtain ⟨Y, y1, y2, y3, y4⟩ := both_in hfa.y8 hfb.y8 ho.2.2.1 ho.2.2.2 (by omega) (by omega)
      refine ⟨(X, Y), (mem_cls hfb X Y).2 (decide_eq_true ⟨x3, x4, y3, y4⟩), ?_⟩
      unfold ow
      rw [List.findIdx?_isSome, List.any_eq_true]
      exact ⟨a, ha, decide_eq_true ⟨x1, x2, y1, y2⟩⟩
/-- what Put may have turned -/
structure Rt (p : Nat) (v v' : Value) (w w' : World) : Prop where
  os : w'.os = w.os
  tape : w'.tape = w.tape
  output : w'.output = w.output
  size : w.heap.size ≤ w'.heap.size
  block : ∀ i, i < w.heap.size → ¬ Rb p v i → w'.heap[i]? = w.heap[i]?
  new : ∀ g, v'.ownBlock = some g → v.ownBlock = some g ∨ w.heap.size ≤ g
/-- what the document's Put answers where the block may be put -/
def Rq (p : Nat) (T : Rc) (v : Value) (L : List Bl) (b : Bl) (w w' : World) (e : Ending) : Prop := e = .returned (.int .i64 0) ∧ ∃ v', Rd w' p T v' (L ++ [b]) ∧ Rt p v v' w w'
theorem rq_mk {w V w1 : World} {p : Nat} {T : Rc} {v : Value} {L : List Bl} {b : Bl} {g cap : Nat} (hg : Rd w p T v L) (hf : Fit T b) (hV : Below w.heap.size w V)
    (h1 : Or w1 0 (.slice (some ⟨g, 0, none⟩) (L.length + 1) cap) (L ++ [b])) (h2 : V.grownBy w1 v.ownBlock) (h3 : v.ownBlock = some g ∨ V.heap.size ≤ g) :
    Rq p T v L b w (w1.setCell ⟨p, 4, none⟩ (.slice (some ⟨g, 0, none⟩) (L.length + 1) cap)) (.returned (.int .i64 0)) := by
  have hplt := hg.lt
  have hvp : ∀ q, v.ownBlock = some q → q ≠ p := hg.nv
  have hgp : g ≠ p := by
    rcases h3 with h | h
    · exact hvp g h
    · have := hV.size; omega
  have e1 : w1.heap[p]? = w.heap[p]? := by
    rw [h2.block p (Nat.lt_of_lt_of_le hplt hV.size) (fun e => hvp p e.symm rfl), hV.block p hplt]
  refine ⟨rfl, .slice (some ⟨g, 0, none⟩) (L.length + 1) cap, ⟨?_, ?_, hg.tok, ?_, ?_⟩, ⟨?_, ?_, ?_, ?_, ?_, ?_⟩⟩
  · have := heap_set (w := w1) (g := p) (t := 69) (xs := [.int .i64 T.1, .int .i64 T.2.1, .int .i64 T.2.2.1, .int .i64 T.2.2.2, v]) (by rw [e1]; exact hg.heap) 4 (.slice (some ⟨g, 0, none⟩) (L.length + 1) cap)
    exact this
  · exact h1.carry fun q hq => Below.heap_setCell _ _ _ _ (by
      obtain rfl : g = q := by simpa [Value.ownBlock] using hq
      exact hgp)
  · intro c hc
    rcases List.mem_append.1 hc with h | h
    · exact hg.fit c h
    · obtain rfl : c = b := by simpa using h
      exact hf
  · intro q hq
    obtain rfl : g = q := by simpa [Value.ownBlock] using hq
    exact hgp
  · simp only [World.setCell]; rw [h2.os, hV.os]
  · simp only [World.setCell]; rw [h2.tape, hV.tape]
  · simp only [World.setCell]; rw [h2.output, hV.output]
  · have h5 := hV.size
    have h6 := h2.size
    simp
    omega
  · intro i hi hn
    rw [Below.heap_setCell _ _ _ _ (fun e => hn (Or.inl e)), h2.block i (Nat.lt_of_lt_of_le hi hV.size) (fun e => hn (Or.inr e.symm)), hV.block i hi]
  · intro q hq
    obtain rfl : g = q := by simpa [Value.ownBlock] using hq
    rcases h3 with h | h
    · exact Or.inl h
    · exact Or.inr (Nat.le_trans hV.size h)
end Go.Proofs.Ytppofodijlofdaa
