/- DERIVED. The document's grid: in, New. -/
import Derived.Test.YtppofodijlofdaaCu
namespace Go.Proofs.Ytppofodijlofdaa
open Go.RowKit

/-- the document's grid: its tile, its blocks -/
structure Rd (w : World) (p : Nat) (T : Rc) (v : Value) (L : List Bl) : Prop where
  heap : w.heap[p]? = some (.cells #[.int .i64 T.1, .int .i64 T.2.1, .int .i64 T.2.2.1, .int .i64 T.2.2.2, v] 69 (0, 0))
  row : Or w 0 v L
  tok : TOk T
  fit : ∀ b ∈ L, Fit T b
  nv : ∀ g, v.ownBlock = some g → g ≠ p
def Rb (p : Nat) (v : Value) (i : Nat) : Prop := i = p ∨ v.ownBlock = some i
theorem Rd.lt {w : World} {p : Nat} {T : Rc} {v : Value} {L : List Bl} (h : Rd w p T v L) : p < w.heap.size := (Array.getElem?_eq_some_iff.1 h.heap).1
theorem Rd.blt {w : World} {p : Nat} {T : Rc} {v : Value} {L : List Bl} (h : Rd w p T v L) {i : Nat} (hi : Rb p v i) : i < w.heap.size := by
  rcases hi with rfl | hi
  · exact h.lt
  · exact (h.row.lt hi).2
theorem Rd.carry {w w' : World} {p : Nat} {T : Rc} {v : Value} {L : List Bl} (h : Rd w p T v L) (hb : ∀ i, Rb p v i → w'.heap[i]? = w.heap[i]?) : Rd w' p T v L :=
  ⟨by rw [hb p (Or.inl rfl)]; exact h.heap, h.row.carry (fun g hg => hb g (Or.inr hg)), h.tok, h.fit, h.nv⟩
theorem Rd.to {w w' : World} {p : Nat} {T : Rc} {v : Value} {L : List Bl} (h : Rd w p T v L) (hb : Below w.heap.size w w') : Rd w' p T v L := h.carry fun i hi => hb.block i (h.blt hi)
theorem Rd.cell {w : World} {p : Nat} {T : Rc} {v : Value} {L : List Bl} (h : Rd w p T v L) (j : Nat) (x : Value) (hx : #[Value.int .i64 T.1, .int .i64 T.2.1, .int .i64 T.2.2.1, .int .i64 T.2.2.2, v][j]? = some x) : w.cell? ⟨p, j, none⟩ = some x := by
  simp only [World.cell?, h.heap]
  exact hx
theorem Rd.cl {w : World} {p : Nat} {T : Rc} {v : Value} {L : List Bl} (h : Rd w p T v L) : Cl4 w p T := ⟨h.cell 0 _ rfl, h.cell 1 _ rfl, h.cell 2 _ rfl, h.cell 3 _ rfl⟩
theorem Rd.c4 {w : World} {p : Nat} {T : Rc} {v : Value} {L : List Bl} (h : Rd w p T v L) : w.cell? ⟨p, 4, none⟩ = some v := h.cell 4 _ rfl
theorem Rd.thaw {w : World} {p : Nat} {T : Rc} {v : Value} {L : List Bl} (h : Rd w p T v L) (j : Nat) : w.frozen? ⟨p, j, none⟩ = false := by simp [World.frozen?, h.heap]
set_option maxRecDepth 100000 in
set_option maxHeartbeats 1000000 in
theorem inn_any {w : World} {p : Nat} {T : Rc} {X Y : Int} (hc : Cl4 w p T) (ht : TOk T) : Calls Try.prog 28 #[.pointer (some ⟨p, 0, none⟩), .int .i64 X, .int .i64 Y] w fun e w' => e = .returned (.bool (hasT T X Y)) ∧ Below w.heap.size w w' := by
  obtain ⟨d0, d1, d2, d3⟩ := hc
  obtain ⟨t0, t1⟩ := ht
  obtain ⟨_, _, -, _, _, -, _⟩ := mr_of t0
  obtain ⟨_, _, -, _, _, -, _⟩ := mr_of t1
  clear t0 t1
  obtain ⟨x0, y0, w0, h0⟩ := T
  simp only at *
  by_cases h1 : x0 ≤ X
  · by_cases h2 : y0 ≤ Y
    · by_cases h3 : X < x0 + w0
      · rw [show hasT (x0, y0, w0, h0) X Y = decide (Y < y0 + h0) from by unfold hasT; rw [decide_eq_decide]; exact ⟨fun q => q.2.2.2, fun q => ⟨h1, h3, h2, q⟩⟩]
        go_enter Try.func28, Try.ntmps28
        go_wp2_with fail
        go_quiet (fail)
        go_wp2_with fail
        go_ret
        exact ⟨rfl, below_drewN (Below.refl _ _) _⟩
      · rw [show hasT (x0, y0, w0, h0) X Y = false from decide_eq_false (fun q => h3 q.2.1)]
        have h3' : decide (X < x0 + w0) = false := decide_eq_false h3
        clear h3
        go_enter Try.func28, Try.ntmps28
        go_wp2_with fail
        go_quiet (fail)
        go_wp2_with fail
        go_ret
        exact ⟨rfl, below_drewN (Below.refl _ _) _⟩
    · rw [show hasT (x0, y0, w0, h0) X Y = false from decide_eq_false (fun q => h2 q.2.2.1)]
      have h2' : decide (y0 ≤ Y) = false := decide_eq_false h2
      clear h2
      go_enter Try.func28, Try.ntmps28
      go_wp2_with fail
      go_quiet (fail)
      go_wp2_with fail
      go_ret
      exact ⟨rfl, below_drewN (Below.refl _ _) _⟩
  · rw [show hasT (x0, y0, w0, h0) X Y = false from decide_eq_false (fun q => h1 q.1)]
    have h1' : decide (x0 ≤ X) = false := decide_eq_false h1
    clear h1
    go_enter Try.func28, Try.ntmps28
    go_wp2_with fail
    go_quiet (fail)
    go_wp2_with fail
    go_ret
    exact ⟨rfl, below_drewN (Below.refl _ _) _⟩
theorem tdv (n d : Int) : n.tmod d = 0 ↔ n % d = 0 := by rw [← Int.dvd_iff_tmod_eq_zero, ← Int.dvd_iff_emod_eq_zero]
/-- a grid of the document's is answered -/
def Mq (w w' : World) (e : Ending) (T : Rc) : Prop := ∃ p, e = .returned (.tuple #[.pointer (some ⟨p, 0, none⟩), .int .i64 0]) ∧ Rd w' p T (.slice none 0 0) [] ∧ w.heap.size ≤ p ∧ Below w.heap.size w w'
theorem mq_mk {w V : World} {T : Rc} {p : Nat} (ht : TOk T) (hb : Below w.heap.size w V) (hp : V.heap.size = p) :
    Mq w (V.alloc (.cells #[.int .i64 T.1, .int .i64 T.2.1, .int .i64 T.2.2.1, .int .i64 T.2.2.2, .slice none 0 0] 69)) (.returned (.tuple #[.pointer (some ⟨p, 0, none⟩), .int .i64 0])) T := by
  subst hp
  exact ⟨V.heap.size, rfl, ⟨heap_alloc_new _ _, Or.nil _ _, ht, fun b hb => (by cases hb), fun g hg => (by cases hg)⟩, hb.size, below_alloc hb (Nat.le_refl _) _⟩
set_option maxRecDepth 100000 in
set_option maxHeartbeats 2000000 in
theorem rnew_ok {w : World} {T : Rc} (ht : TOk T) : Calls Try.prog 8 #[.agg #[.int .i64 T.1, .int .i64 T.2.1, .int .i64 T.2.2.1, .int .i64 T.2.2.2]] w fun e w' => Mq w w' e T := by
  have HF : Hid (∀ (V : World) (p : Nat), Below w.heap.size w V → V.heap.size = p → Mq w (V.alloc (.cells #[.int .i64 T.1, .int .i64 T.2.1, .int .i64 T.2.2.1, .int .i64 T.2.2.2, .slice none 0 0] 69)) (.returned (.tuple #[.pointer (some ⟨p, 0, none⟩), .int .i64 0])) T) := fun V p h1 h2 => mq_mk ht h1 h2
  have HB : Hid (Below w.heap.size w (w.alloc (.cells #[.int .i64 T.1, .int .i64 T.2.1, .int .i64 T.2.2.1, .int .i64 T.2.2.2] 23))) := from_alloc _ _
  have h1 := mr_of ht.1
  have h2 := mr_of ht.2
  obtain ⟨x, y, a, b⟩ := T
  simp only at *
  obtain ⟨p0, p1, p2, p3, p4, p5, p6⟩ := h1
  obtain ⟨q0, q1, q2, q3, q4, q5, q6⟩ := h2
  have m1 := tmod_yes p2
  have m2 := tmod_yes p5
  have m3 := tmod_yes q2
  have m4 := tmod_yes q5
  clear ht p2 p5 q2 q5
  have HZ : Hid ((w.alloc (.cells #[.int .i64 x, .int .i64 y, .int .i64 a, .int .i64 b] 23)).heap.size = w.heap.size + 1) := by show _ = _; simp
  go_enter Try.func8, Try.ntmps8
  go_wp2_with fail
  go_ret2
  have := HF.out _ _ HB.out HZ.out
  simpa using this
end Go.Proofs.Ytppofodijlofdaa
