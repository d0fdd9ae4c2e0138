/- DERIVED. Two grids side by side; lists of places; the document's Put, whether it may or not. -/
import Derived.Test.YtppofodijlofdaaEa
import Derived.Test.YtppofodijlofdaaDn
import Derived.Test.YtppofodijlofdaaDc
import Derived.Test.YtppofodijlofdaaDf
import Derived.Test.YtppofodijlofdaaDe
import Derived.Test.YtppofodijlofdaaCt
namespace Go.Proofs.Ytppofodijlofdaa
open Go.RowKit

theorem rput_ok {w : World} {p : Nat} {T : Rc} {v : Value} {L : List Bl} {b : Bl} (hg : Rd w p T v L) (hm : mp T L b = true) (hL : L.length < 1000) :
    Calls Try.prog 11 #[.pointer (some ⟨p, 0, none⟩), .agg b.cs.toArray] w fun e w' => Rq p T v L b w w' e := by
  rw [mp_ov hg.fit, Bool.and_eq_true, Bool.not_eq_true'] at hm
  refine (rput_fit hg (fit_of hm.1) hL).mono fun e w' h => ?_
  rcases h with ⟨h1, -⟩ | ⟨-, h2⟩
  · rw [hm.2] at h1; cases h1
  · exact h2
theorem rput_no {w : World} {p : Nat} {T : Rc} {v : Value} {L : List Bl} {b : Bl} (hg : Rd w p T v L) (hm : mp T L b = false) (hL : L.length < 1000) :
    Calls Try.prog 11 #[.pointer (some ⟨p, 0, none⟩), .agg b.cs.toArray] w fun e w' => e = .returned (.int .i64 2) ∧ Below w.heap.size w w' := by
  rw [mp_ov hg.fit] at hm
  cases hf : fitB T b
  · exact rput_non hg hf
  · rw [hf, Bool.true_and, Bool.not_eq_false'] at hm
    refine (rput_fit hg (fit_of hf) hL).mono fun e w' h => ?_
    rcases h with ⟨-, h1⟩ | ⟨h2, -⟩
    · exact h1
    · rw [hm] at h2; cases h2
/-- both grids, beside what stood before them -/
structure Gr (w u : World) (p m q : Nat) (T : Rc) (v v2 : Value) (L L2 : List Bl) : Prop where
  gd : Gd u p m T v L
  rd : Rd u q T v2 L2
  bel : Below w.heap.size w u
  og : ∀ i, Gb p m v i → w.heap.size ≤ i
  oq : ∀ i, Rb q v2 i → w.heap.size ≤ i
  ap : ∀ i, Gb p m v i → ¬ Rb q v2 i
section
variable {w u u' : World} {p m q : Nat} {T : Rc} {v v' v2 v2' : Value} {L L' L2 L2' : List Bl}
theorem Gr.to (h : Gr w u p m q T v v2 L L2) (hb : Below u.heap.size u u') : Gr w u' p m q T v v2 L L2 := ⟨h.gd.to hb, h.rd.to hb, h.bel.trans (hb.mono h.bel.size), h.og, h.oq, h.ap⟩
theorem Gr.drew (h : Gr w u p m q T v v2 L L2) : Gr w u.drew p m q T v v2 L L2 := h.to (below_drew (Below.refl _ _))
theorem Gr.putg (h : Gr w u p m q T v v2 L L2) (hg : Gd u' p m T v' L') (ht : Gt p m v v' u u') : Gr w u' p m q T v' v2 L' L2 := by
  have hs := h.bel.size
  have hn : ∀ i, Gb p m v' i → Gb p m v i ∨ u.heap.size ≤ i := fun i hi => by
    rcases hi with rfl | rfl | hi
    · exact Or.inl (Or.inl rfl)
    · exact Or.inl (Or.inr (Or.inl rfl))
    · rcases ht.new i hi with e | e
      · exact Or.inl (Or.inr (Or.inr e))
      · exact Or.inr e
  refine ⟨hg, h.rd.carry fun i hi => ht.block i (h.rd.blt hi) fun e => h.ap i e hi, ⟨ht.os.trans h.bel.os, ht.tape.trans h.bel.tape, ht.output.trans h.bel.output, Nat.le_trans hs ht.size, fun i hi => ?_⟩, fun i hi => ?_, h.oq, fun i hi hj => ?_⟩
  · rw [ht.block i (by omega) (fun e => by have := h.og i e; omega)]
    exact h.bel.block i hi
  · rcases hn i hi with e | e
    · exact h.og i e
    · omega
  · rcases hn i hi with e | e
    · exact h.ap i e hj
    · have := h.rd.blt hj; omega
theorem Gr.putr (h : Gr w u p m q T v v2 L L2) (hg : Rd u' q T v2' L2') (ht : Rt q v2 v2' u u') : Gr w u' p m q T v v2' L L2' := by
  have hs := h.bel.size
  have hn : ∀ i, Rb q v2' i → Rb q v2 i ∨ u.heap.size ≤ i := fun i hi => by
    rcases hi with rfl | hi
    · exact Or.inl (Or.inl rfl)
    · rcases ht.new i hi with e | e
      · exact Or.inl (Or.inr e)
      · exact Or.inr e
  refine ⟨h.gd.carry fun i hi => ht.block i (h.gd.blt hi) fun e => h.ap i hi e, hg, ⟨ht.os.trans h.bel.os, ht.tape.trans h.bel.tape, ht.output.trans h.bel.output, Nat.le_trans hs ht.size, fun i hi => ?_⟩, h.og, fun i hi => ?_, fun i hi hj => ?_⟩
  · rw [ht.block i (by omega) (fun e => by have := h.oq i e; omega)]
    exact h.bel.block i hi
  · rcases hn i hi with e | e
    · exact h.oq i e
    · omega
  · rcases hn i hj with e | e
    · exact h.ap i hi e
    · have := h.gd.blt hi; omega
end
/-- only the row of v turns -/
structure Sv (v : Value) (u u' : World) : Prop where
  os : u'.os = u.os
  tape : u'.tape = u.tape
  output : u'.output = u.output
  size : u'.heap.size = u.heap.size
  block : ∀ i, v.ownBlock ≠ some i → u'.heap[i]? = u.heap[i]?
theorem Sv.refl (v : Value) (u : World) : Sv v u u := ⟨rfl, rfl, rfl, rfl, fun _ _ => rfl⟩
theorem Sv.set {v : Value} {u u' : World} (h : Sv v u u') {g : Nat} (hg : v.ownBlock = some g) (o : Nat) (x : Value) : Sv v u (u'.setCell ⟨g, o, none⟩ x) :=
  ⟨by simpa [World.setCell] using h.os, by simpa [World.setCell] using h.tape, by simpa [World.setCell] using h.output, by simpa using h.size, fun i hi => (Below.heap_setCell _ _ _ _ (fun e => hi (by have e' : i = g := e; rw [e']; exact hg))).trans (h.block i hi)⟩
theorem Gr.sv {w u u' : World} {p m q : Nat} {T : Rc} {v v2 x : Value} {L L2 : List Bl} (h : Gr w u p m q T v v2 L L2) (hs : Sv x u u') (hx : ∀ g, x.ownBlock = some g → w.heap.size ≤ g ∧ ¬ Gb p m v g ∧ ¬ Rb q v2 g) : Gr w u' p m q T v v2 L L2 :=
  ⟨h.gd.carry fun i hi => hs.block i fun e => (hx i e).2.1 hi, h.rd.carry fun i hi => hs.block i fun e => (hx i e).2.2 hi,
   ⟨hs.os.trans h.bel.os, hs.tape.trans h.bel.tape, hs.output.trans h.bel.output, by rw [hs.size]; exact h.bel.size, fun i hi => (hs.block i fun e => by have := (hx i e).1; omega).trans (h.bel.block i hi)⟩, h.og, h.oq, h.ap⟩
/-- five numbers that are asked about, at a place of a block -/
def A5 (w : World) (g o : Nat) (x : List Int) : Prop := w.cell? ⟨g, o, none⟩ = some (.int .i64 (x.getD 0 0)) ∧ w.cell? ⟨g, o + 1, none⟩ = some (.int .i64 (x.getD 1 0)) ∧ w.cell? ⟨g, o + 2, none⟩ = some (.int .i64 (x.getD 2 0)) ∧ w.cell? ⟨g, o + 3, none⟩ = some (.int .i64 (x.getD 3 0)) ∧ w.cell? ⟨g, o + 4, none⟩ = some (.int .i64 (x.getD 4 0))
theorem A5.below {w w' : World} {g o B : Nat} {x : List Int} (h : A5 w g o x) (hb : Below B w w') (hg : g < B) : A5 w' g o x := by
  obtain ⟨h0, h1, h2, h3, h4⟩ := h
  exact ⟨by rw [newCell hb _ _ hg]; exact h0, by rw [newCell hb _ _ hg]; exact h1, by rw [newCell hb _ _ hg]; exact h2, by rw [newCell hb _ _ hg]; exact h3, by rw [newCell hb _ _ hg]; exact h4⟩
/-- a slice of places -/
def Sa (w : World) (a : Option Addr) (A : List (List Int)) : Prop :=
  A = [] ∨ ∃ b o, a = some ⟨b, o, none⟩ ∧ b < w.heap.size ∧ ∀ k, k < A.length → A5 w b (o + k * 5) (A.getD k [])
theorem Sa.form {w : World} {a : Option Addr} {A : List (List Int)} (h : Sa w a A) (h0 : 0 < A.length) : ∃ b o, a = some ⟨b, o, none⟩ ∧ b < w.heap.size ∧ ∀ k, k < A.length → A5 w b (o + k * 5) (A.getD k []) := by
  rcases h with rfl | h
  · simp at h0
  · exact h
/-- places whose first two numbers are numbers of 64 bits -/
def AOk (A : List (List Int)) : Prop := ∀ k, k < A.length → I64 ((A.getD k []).getD 0 0) ∧ I64 ((A.getD k []).getD 1 0)
def BOk (B : List Bl) : Prop := ∀ k, k < B.length → I64 (B.getD k bz).y
theorem wrap_i64 (n : Int) : I64 (wrap64 n) := by unfold I64 wrap64; omega
end Go.Proofs.Ytppofodijlofdaa
