/- DERIVED. The walks of the statements' own 'has' and 'works'. -/
import Derived.Test.YtkmnpechhdendaaDoorL3Tg
namespace Go.Proofs.YtkmnpechhdendaaDoor.L3
open Go.RowKit

set_option maxRecDepth 100000 in
set_option maxHeartbeats 1000000 in
theorem flC2 : flC 2 = [16384, 32768] := by decide +kernel
theorem ad2 : ad [16384, 32768] 0 0 = [17408, 32768] := by decide +kernel
theorem adN0 : adN 0 = 1 := by decide +kernel
theorem av2 : av 2 [[16384, 32768], [17408, 32768]] = [16896, 32768] := by decide +kernel
theorem ok2 {x : Nat} {n : Int} (hx : x ≤ 32768) (h0 : 0 ≤ n) (h1 : n ≤ 32) : TOk [x, 32768] n :=
  ⟨by simp, by simp, rfl, h0, h1, fun i g1 g2 => by
    have e : i = 1 := by simp at g2; omega
    subst e; exact hx⟩

/-- a list that was built in place -/
theorem built_sl (w : World) (x y : Nat) (X Y : Int) (t : TypeId) (hx : X = (x : Int)) (hy : Y = (y : Int)) : Sl (w.alloc (.cells #[.int .u16 X, .int .u16 Y] t)) .u16 (some ⟨w.heap.size, 0, none⟩) [x, y] :=
  Or.inr ⟨w.heap.size, 0, rfl, by simp, fun j hj => by
    simp at hj
    rcases (show j = 0 ∨ j = 1 by omega) with rfl | rfl <;> simp [hx, hy]⟩

/-- a variable in block x that has a table -/
structure Loc (u : World) (x : Nat) (t : Tb) : Prop where
  low : x < u.heap.size
  c0 : u.cell? ⟨x, 0, none⟩ = some (.slice t.a t.C.length t.c)
  c1 : u.cell? ⟨x, 1, none⟩ = some (.int .i64 t.n)
  sl : Sl u .u16 t.a t.C
theorem Loc.to {u v : World} {x : Nat} {t : Tb} (h : Loc u x t) (hb : Below u.heap.size u v) : Loc v x t :=
  ⟨Nat.lt_of_lt_of_le h.low hb.size, by rw [newCell hb _ _ h.low]; exact h.c0, by rw [newCell hb _ _ h.low]; exact h.c1, h.sl.to hb⟩
theorem Loc.new {u : World} (t : Tb) (h : Sl u .u16 t.a t.C) : Loc (u.alloc (.cells #[.slice t.a t.C.length t.c, .int .i64 t.n] 59)) u.heap.size t :=
  ⟨by simp, by simp, by simp, h.alloc _⟩
theorem to_alloc {w u : World} (h : Below w.heap.size w u) (o : Obj) : Below w.heap.size w (u.alloc o) := below_alloc h (Nat.le_refl _) o
theorem from_alloc (u : World) (o : Obj) : Below u.heap.size u (u.alloc o) := (Below.refl _ _).alloc (Nat.le_refl _) _

theorem pair_ts {u : World} {a1 a2 : Option Addr} {c1 c2 x1 y1 x2 y2 : Nat} {n1 n2 : Int} (h1 : Sl u .u16 a1 [x1, y1]) (h2 : Sl u .u16 a2 [x2, y2]) (b1 : x1 < 65536 := by omega) (b2 : y1 < 65536 := by omega) (b3 : x2 < 65536 := by omega) (b4 : y2 < 65536 := by omega) :
    Ts (u.alloc (.cells #[.slice a1 2 c1, .int .i64 n1, .slice a2 2 c2, .int .i64 n2] 59)) u.heap.size 0 [⟨a1, c1, [x1, y1], n1⟩, ⟨a2, c2, [x2, y2], n2⟩] := by
  refine ⟨by simp, fun j t ht => ?_, fun j t ht => ?_, fun t ht => ?_⟩
  · rcases j with _ | _ | j
    · simp at ht; subst ht; simp
    · simp at ht; subst ht; simp
    · simp at ht
  · rcases j with _ | _ | j
    · simp at ht; subst ht; simp
    · simp at ht; subst ht; simp
    · simp at ht
  · have hu : ∀ x y : Nat, x < 65536 → y < 65536 → ∀ i, ([x, y] : List Nat).getD i 0 < 65536 := fun x y hx hy i => by
      rcases i with _ | _ | i <;> simp [List.getD_eq_getElem?_getD] <;> assumption
    simp at ht
    rcases ht with rfl | rfl
    · exact ⟨h1.alloc _, by simp, hu _ _ b1 b2⟩
    · exact ⟨h2.alloc _, by simp, hu _ _ b3 b4⟩

end Go.Proofs.YtkmnpechhdendaaDoor.L3
