/- DERIVED. What the walk of CdfKnown leans on: lists that were built in place, eight tables in a row, averages that may not be. -/
import Derived.Test.YtpijgdfhkmailabTh
namespace Go.Proofs.Ytpijgdfhkmailab
open Go.RowKit

theorem Sl.at {w : World} {k : IntKind} {b o : Nat} {C : List Nat} (h : Sl w k (some ⟨b, o, none⟩) C) (j : Nat) (hj : j < C.length) : w.cell? ⟨b, o + j, none⟩ = some (.int k (C.getD j 0 : Nat)) := by
  obtain ⟨b', o', h1, _, h3⟩ := h.form (by omega)
  simp only [Option.some.injEq, Addr.mk.injEq, and_true] at h1
  obtain ⟨rfl, rfl⟩ := h1
  exact h3 j hj
theorem built1 (w : World) (x : Nat) (X : Int) (t : TypeId) (hx : X = (x : Int)) : Sl (w.alloc (.cells #[.int .u16 X] t)) .u16 (some ⟨w.heap.size, 0, none⟩) [x] :=
  Or.inr ⟨w.heap.size, 0, rfl, by simp, fun j hj => by
    simp at hj
    subst hj
    simp [hx]⟩
theorem built3 (w : World) (x y z : Nat) (X Y Z : Int) (t : TypeId) (hx : X = (x : Int)) (hy : Y = (y : Int)) (hz : Z = (z : Int)) : Sl (w.alloc (.cells #[.int .u16 X, .int .u16 Y, .int .u16 Z] t)) .u16 (some ⟨w.heap.size, 0, none⟩) [x, y, z] :=
  Or.inr ⟨w.heap.size, 0, rfl, by simp, fun j hj => by
    simp at hj
    rcases (show j = 0 ∨ j = 1 ∨ j = 2 by omega) with rfl | rfl | rfl <;> simp [hx, hy, hz]⟩
theorem built4 (w : World) (x y z u : Nat) (X Y Z U : Int) (t : TypeId) (hx : X = (x : Int)) (hy : Y = (y : Int)) (hz : Z = (z : Int)) (hu : U = (u : Int)) : Sl (w.alloc (.cells #[.int .u16 X, .int .u16 Y, .int .u16 Z, .int .u16 U] t)) .u16 (some ⟨w.heap.size, 0, none⟩) [x, y, z, u] :=
  Or.inr ⟨w.heap.size, 0, rfl, by simp, fun j hj => by
    simp at hj
    rcases (show j = 0 ∨ j = 1 ∨ j = 2 ∨ j = 3 by omega) with rfl | rfl | rfl | rfl <;> simp [hx, hy, hz, hu]⟩

theorem eight_ts {u : World} {t0 t1 t2 t3 t4 t5 t6 t7 : Tb} (h : ∀ t ∈ [t0, t1, t2, t3, t4, t5, t6, t7], t.In u) :
    Ts (u.alloc (.cells #[.slice t0.a t0.C.length t0.c, .int .i64 t0.n, .slice t1.a t1.C.length t1.c, .int .i64 t1.n, .slice t2.a t2.C.length t2.c, .int .i64 t2.n, .slice t3.a t3.C.length t3.c, .int .i64 t3.n, .slice t4.a t4.C.length t4.c, .int .i64 t4.n, .slice t5.a t5.C.length t5.c, .int .i64 t5.n, .slice t6.a t6.C.length t6.c, .int .i64 t6.n, .slice t7.a t7.C.length t7.c, .int .i64 t7.n] 24)) u.heap.size 0 [t0, t1, t2, t3, t4, t5, t6, t7] := by
  refine ⟨by simp, fun j t ht => ?_, fun j t ht => ?_, fun t ht => (h t ht).to (from_alloc _ _)⟩
  · rcases j with _ | _ | _ | _ | _ | _ | _ | _ | j
    all_goals first | (simp at ht; done) | (simp at ht; subst ht; simp)
  · rcases j with _ | _ | _ | _ | _ | _ | _ | _ | j
    all_goals first | (simp at ht; done) | (simp at ht; subst ht; simp)

theorem one_ts {u : World} {t : Tb} (h : t.In u) : Ts (u.alloc (.cells #[.slice t.a t.C.length t.c, .int .i64 t.n] 24)) u.heap.size 0 [t] := by
  refine ⟨by simp, fun j s ht => ?_, fun j s ht => ?_, fun s ht => by simp at ht; subst ht; exact h.to (from_alloc _ _)⟩
  · rcases j with _ | j
    · simp at ht; subst ht; simp
    · simp at ht
  · rcases j with _ | j
    · simp at ht; subst ht; simp
    · simp at ht
theorem avg_bad {u : World} {t : Tb} (h : t.In u) (hb : ¬ TOk t.C t.n) :
    Calls Try.prog 9 #[.slice (some ⟨u.heap.size, 0, none⟩) 1 1] (u.alloc (.cells #[.slice t.a t.C.length t.c, .int .i64 t.n] 24)) fun e w' => e = .returned (.tuple #[.agg #[.slice none 0 0, .int .i64 0], .int .i64 2]) ∧ Below u.heap.size u w' := by
  refine (average_some (c := 1) (one_ts h) rfl (by simp)).mono fun e w' hav => ?_
  rcases hav with ⟨ha, _⟩ | ⟨_, he, hbw⟩
  · exact absurd (ha t (by simp)).1 hb
  · exact ⟨he, below_to (from_alloc _ _) hbw⟩
theorem two_ts {u : World} {t s : Tb} (h : t.In u) (k : s.In u) : Ts (u.alloc (.cells #[.slice t.a t.C.length t.c, .int .i64 t.n, .slice s.a s.C.length s.c, .int .i64 s.n] 24)) u.heap.size 0 [t, s] := by
  refine ⟨by simp, fun j r ht => ?_, fun j r ht => ?_, fun r ht => by simp at ht; rcases ht with rfl | rfl; exact h.to (from_alloc _ _); exact k.to (from_alloc _ _)⟩
  · rcases j with _ | _ | j
    all_goals first | (simp at ht; done) | (simp at ht; subst ht; simp)
  · rcases j with _ | _ | j
    all_goals first | (simp at ht; done) | (simp at ht; subst ht; simp)
theorem avg_two {u : World} {t s : Tb} (h : t.In u) (k : s.In u) (hb : s.C.length ≠ t.C.length) :
    Calls Try.prog 9 #[.slice (some ⟨u.heap.size, 0, none⟩) 2 2] (u.alloc (.cells #[.slice t.a t.C.length t.c, .int .i64 t.n, .slice s.a s.C.length s.c, .int .i64 s.n] 24)) fun e w' => e = .returned (.tuple #[.agg #[.slice none 0 0, .int .i64 0], .int .i64 2]) ∧ Below u.heap.size u w' := by
  refine (average_some (c := 2) (two_ts h k) rfl (by simp)).mono fun e w' hav => ?_
  rcases hav with ⟨ha, _⟩ | ⟨_, he, hbw⟩
  · exact absurd (ha s (by simp)).2 hb
  · exact ⟨he, below_to (from_alloc _ _) hbw⟩

/-- a table that is answered -/
def Nb (w w' : World) (e : Ending) (C : List Nat) (L : Nat) (n x : Int) : Prop := ∃ a c, e = .returned (.tuple #[.agg #[.slice a L c, .int .i64 n], .int .i64 x]) ∧ Sl w' .u16 a C ∧ Below w.heap.size w w'
theorem Nb.ofTn {w w' : World} {e : Ending} {C D : List Nat} {L : Nat} {n m : Int} (h : Tn w w' e C n) (hC : C = D) (hL : D.length = L) (hn : n = m) : Nb w w' e D L m 0 := by
  subst hC hL hn
  obtain ⟨g, c, h1, h2, h3⟩ := h
  exact ⟨_, c, h1, h2.sl, h3⟩
theorem Nb.ofNo {w w' : World} {e : Ending} (h : e = .returned (.tuple #[.agg #[.slice none 0 0, .int .i64 0], .int .i64 2]) ∧ Below w.heap.size w w') : Nb w w' e [] 0 0 2 := ⟨none, 0, h.1, Sl.nil _ _ _, h.2⟩

/-- where the loop over the tables that may not be stands -/
def KI (w : World) (X x1 : Nat) (L : List Tb) (t : Tb) (iv : Value) (wr : World) : Prop := ∃ k : Nat, k ≤ 8 ∧ iv = .int .i64 k ∧ Ts wr X 0 L ∧ Loc wr x1 t ∧ Below w.heap.size w wr
theorem made17 {w1 : World} {B g : Nat} (h : w1.ownsRow B 29 1 (.slice (some ⟨g, 0, none⟩) 17 17) 17 (madeCells (Value.int .u16 0).cells (17 * 1)).toList) : Sl w1 .u16 (some ⟨g, 0, none⟩) (List.replicate 17 0) := by
  have : (madeCells (Value.int .u16 0).cells (17 * 1)).toList = ns .u16 (List.replicate 17 0) := by rw [← part_zero (fun _ => 0) 17]; congr 1
  rw [this] at h
  exact Sl.ofOwn (n := 17) (c := 17) (by simpa using h)

/-- the eight tables that may not be -/
def badL (u m : Nat) : List Tb := [⟨none, 0, [], 0⟩, ⟨some ⟨u, 0, none⟩, 1, [32768], 0⟩, ⟨some ⟨u + 1, 0, none⟩, 3, [5, 4, 32768], 0⟩, ⟨some ⟨u + 1 + 1, 0, none⟩, 2, [5, 32767], 0⟩, ⟨some ⟨u + 1 + 1 + 1, 0, none⟩, 2, [5, 32768], -1⟩, ⟨some ⟨u + 1 + 1 + 1 + 1, 0, none⟩, 2, [5, 32768], 33⟩, ⟨some ⟨u + 1 + 1 + 1 + 1 + 1, 0, none⟩, 17, List.replicate 17 0, 0⟩, ⟨some ⟨m, 0, none⟩, 2, [32769, 32768], 0⟩]
theorem badL_no (u m : Nat) : ∀ t ∈ badL u m, ¬ TOk t.C t.n := by
  intro t ht h
  simp only [badL, List.mem_cons, List.not_mem_nil, or_false] at ht
  rcases ht with rfl | rfl | rfl | rfl | rfl | rfl | rfl | rfl
  · have := h.lo; simp at this
  · have := h.lo; simp at this
  · have := h.rise 1 (by omega) (by simp); simp at this
  · have := h.last; simp at this
  · have := h.n0; simp at this
  · have := h.n1; simp at this
  · have := h.hi; simp at this
  · have := h.rise 1 (by omega) (by simp); simp at this
theorem in_u16 {u : World} {t : Tb} (h : Sl u .u16 t.a t.C) (hl : t.C.length ≤ 17) (hm : ∀ x ∈ t.C, x < 65536) : t.In u :=
  ⟨h, by omega, fun i => by
    rw [List.getD_eq_getElem?_getD]
    cases e : t.C[i]? with
    | none => simp
    | some x => exact hm x (List.mem_of_getElem? e)⟩
theorem bad_ts {u wm : World} {B : Nat} (hown : wm.ownsRow B 29 1 (.slice (some ⟨(((((u.alloc (.cells #[.int .u16 32768] 29)).alloc (.cells #[.int .u16 5, .int .u16 4, .int .u16 32768] 29)).alloc (.cells #[.int .u16 5, .int .u16 32767] 29)).alloc (.cells #[.int .u16 5, .int .u16 32768] 29)).alloc (.cells #[.int .u16 5, .int .u16 32768] 29)).heap.size, 0, none⟩) 17 17) 17 (madeCells (Value.int .u16 0).cells (17 * 1)).toList) (hg : (((((u.alloc (.cells #[.int .u16 32768] 29)).alloc (.cells #[.int .u16 5, .int .u16 4, .int .u16 32768] 29)).alloc (.cells #[.int .u16 5, .int .u16 32767] 29)).alloc (.cells #[.int .u16 5, .int .u16 32768] 29)).alloc (.cells #[.int .u16 5, .int .u16 32768] 29)).grownBy wm none) :
    Ts ((wm.alloc (.cells #[.int .u16 32769, .int .u16 32768] 29)).alloc (.cells #[.slice none 0 0, .int .i64 0, .slice (some ⟨u.heap.size, 0, none⟩) 1 1, .int .i64 0, .slice (some ⟨u.heap.size + 1, 0, none⟩) 3 3, .int .i64 0, .slice (some ⟨u.heap.size + 1 + 1, 0, none⟩) 2 2, .int .i64 0, .slice (some ⟨u.heap.size + 1 + 1 + 1, 0, none⟩) 2 2, .int .i64 (-1), .slice (some ⟨u.heap.size + 1 + 1 + 1 + 1, 0, none⟩) 2 2, .int .i64 33, .slice (some ⟨u.heap.size + 1 + 1 + 1 + 1 + 1, 0, none⟩) 17 17, .int .i64 0, .slice (some ⟨wm.heap.size, 0, none⟩) 2 2, .int .i64 0] 24)) (wm.heap.size + 1) 0 (badL u.heap.size wm.heap.size) ∧ Below u.heap.size u ((wm.alloc (.cells #[.int .u16 32769, .int .u16 32768] 29)).alloc (.cells #[.slice none 0 0, .int .i64 0, .slice (some ⟨u.heap.size, 0, none⟩) 1 1, .int .i64 0, .slice (some ⟨u.heap.size + 1, 0, none⟩) 3 3, .int .i64 0, .slice (some ⟨u.heap.size + 1 + 1, 0, none⟩) 2 2, .int .i64 0, .slice (some ⟨u.heap.size + 1 + 1 + 1, 0, none⟩) 2 2, .int .i64 (-1), .slice (some ⟨u.heap.size + 1 + 1 + 1 + 1, 0, none⟩) 2 2, .int .i64 33, .slice (some ⟨u.heap.size + 1 + 1 + 1 + 1 + 1, 0, none⟩) 17 17, .int .i64 0, .slice (some ⟨wm.heap.size, 0, none⟩) 2 2, .int .i64 0] 24)) := by
  have hs1 : (u.alloc (.cells #[.int .u16 32768] 29)).heap.size = u.heap.size + 1 := by simp
  have hs2 : ((u.alloc (.cells #[.int .u16 32768] 29)).alloc (.cells #[.int .u16 5, .int .u16 4, .int .u16 32768] 29)).heap.size = u.heap.size + 1 + 1 := by simp
  have hs3 : (((u.alloc (.cells #[.int .u16 32768] 29)).alloc (.cells #[.int .u16 5, .int .u16 4, .int .u16 32768] 29)).alloc (.cells #[.int .u16 5, .int .u16 32767] 29)).heap.size = u.heap.size + 1 + 1 + 1 := by simp
  have hs4 : ((((u.alloc (.cells #[.int .u16 32768] 29)).alloc (.cells #[.int .u16 5, .int .u16 4, .int .u16 32768] 29)).alloc (.cells #[.int .u16 5, .int .u16 32767] 29)).alloc (.cells #[.int .u16 5, .int .u16 32768] 29)).heap.size = u.heap.size + 1 + 1 + 1 + 1 := by simp
  have hs5 : (((((u.alloc (.cells #[.int .u16 32768] 29)).alloc (.cells #[.int .u16 5, .int .u16 4, .int .u16 32768] 29)).alloc (.cells #[.int .u16 5, .int .u16 32767] 29)).alloc (.cells #[.int .u16 5, .int .u16 32768] 29)).alloc (.cells #[.int .u16 5, .int .u16 32768] 29)).heap.size = u.heap.size + 1 + 1 + 1 + 1 + 1 := by simp
  have hsm : (wm.alloc (.cells #[.int .u16 32769, .int .u16 32768] 29)).heap.size = wm.heap.size + 1 := by simp
  have bm : Below (((((u.alloc (.cells #[.int .u16 32768] 29)).alloc (.cells #[.int .u16 5, .int .u16 4, .int .u16 32768] 29)).alloc (.cells #[.int .u16 5, .int .u16 32767] 29)).alloc (.cells #[.int .u16 5, .int .u16 32768] 29)).alloc (.cells #[.int .u16 5, .int .u16 32768] 29)).heap.size (((((u.alloc (.cells #[.int .u16 32768] 29)).alloc (.cells #[.int .u16 5, .int .u16 4, .int .u16 32768] 29)).alloc (.cells #[.int .u16 5, .int .u16 32767] 29)).alloc (.cells #[.int .u16 5, .int .u16 32768] 29)).alloc (.cells #[.int .u16 5, .int .u16 32768] 29)) wm := (Below.refl _ _).grown hg (Nat.le_refl _) (fun k hk => by cases hk)
  have b7 : Below wm.heap.size wm (wm.alloc (.cells #[.int .u16 32769, .int .u16 32768] 29)) := from_alloc _ _
  have s1 := (((((built1 u 32768 32768 29 rfl).alloc (.cells #[.int .u16 5, .int .u16 4, .int .u16 32768] 29)).alloc (.cells #[.int .u16 5, .int .u16 32767] 29)).alloc (.cells #[.int .u16 5, .int .u16 32768] 29)).alloc (.cells #[.int .u16 5, .int .u16 32768] 29)).to bm |>.to b7
  have s2 := ((((built3 (u.alloc (.cells #[.int .u16 32768] 29)) 5 4 32768 5 4 32768 29 rfl rfl rfl).alloc (.cells #[.int .u16 5, .int .u16 32767] 29)).alloc (.cells #[.int .u16 5, .int .u16 32768] 29)).alloc (.cells #[.int .u16 5, .int .u16 32768] 29)).to bm |>.to b7
  have s3 := (((built_sl ((u.alloc (.cells #[.int .u16 32768] 29)).alloc (.cells #[.int .u16 5, .int .u16 4, .int .u16 32768] 29)) 5 32767 5 32767 29 rfl rfl).alloc (.cells #[.int .u16 5, .int .u16 32768] 29)).alloc (.cells #[.int .u16 5, .int .u16 32768] 29)).to bm |>.to b7
  have s4 := ((built_sl (((u.alloc (.cells #[.int .u16 32768] 29)).alloc (.cells #[.int .u16 5, .int .u16 4, .int .u16 32768] 29)).alloc (.cells #[.int .u16 5, .int .u16 32767] 29)) 5 32768 5 32768 29 rfl rfl).alloc (.cells #[.int .u16 5, .int .u16 32768] 29)).to bm |>.to b7
  have s5 := (built_sl ((((u.alloc (.cells #[.int .u16 32768] 29)).alloc (.cells #[.int .u16 5, .int .u16 4, .int .u16 32768] 29)).alloc (.cells #[.int .u16 5, .int .u16 32767] 29)).alloc (.cells #[.int .u16 5, .int .u16 32768] 29)) 5 32768 5 32768 29 rfl rfl).to bm |>.to b7
  have s6 := (made17 hown).to b7
  have s7 := built_sl wm 32769 32768 32769 32768 29 rfl rfl
  rw [hs1] at s2
  rw [hs2] at s3
  rw [hs3] at s4
  rw [hs4] at s5
  rw [hs5] at s6
  constructor
  · rw [← hsm]
    refine eight_ts (t0 := ⟨none, 0, [], 0⟩) (t1 := ⟨some ⟨u.heap.size, 0, none⟩, 1, [32768], 0⟩) (t2 := ⟨some ⟨u.heap.size + 1, 0, none⟩, 3, [5, 4, 32768], 0⟩) (t3 := ⟨some ⟨u.heap.size + 1 + 1, 0, none⟩, 2, [5, 32767], 0⟩) (t4 := ⟨some ⟨u.heap.size + 1 + 1 + 1, 0, none⟩, 2, [5, 32768], -1⟩) (t5 := ⟨some ⟨u.heap.size + 1 + 1 + 1 + 1, 0, none⟩, 2, [5, 32768], 33⟩) (t6 := ⟨some ⟨u.heap.size + 1 + 1 + 1 + 1 + 1, 0, none⟩, 17, List.replicate 17 0, 0⟩) (t7 := ⟨some ⟨wm.heap.size, 0, none⟩, 2, [32769, 32768], 0⟩) ?_
    intro t ht
    simp only [List.mem_cons, List.not_mem_nil, or_false] at ht
    rcases ht with rfl | rfl | rfl | rfl | rfl | rfl | rfl | rfl
    · exact in_u16 (Sl.nil _ _ _) (by simp) (by simp)
    · exact in_u16 s1 (by simp) (by simp)
    · exact in_u16 s2 (by simp) (by simp)
    · exact in_u16 s3 (by simp) (by simp)
    · exact in_u16 s4 (by simp) (by simp)
    · exact in_u16 s5 (by simp) (by simp)
    · exact in_u16 s6 (by simp) (by simp)
    · exact in_u16 s7 (by simp) (by simp)
  · exact to_alloc (to_alloc (below_to (to_alloc (to_alloc (to_alloc (to_alloc (from_alloc _ _) _) _) _) _) bm) _) _

end Go.Proofs.Ytpijgdfhkmailab
