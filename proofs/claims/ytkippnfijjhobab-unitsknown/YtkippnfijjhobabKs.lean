/- DERIVED. What UnitsKnown calls, on objects just made. -/
import Derived.Test.YtkippnfijjhobabKr
namespace Go.Proofs.Ytkippnfijjhobab
open Go.RowKit

theorem jn2' {w u : World} {Z : List Nat} {O : Obj} (hu : Below w.heap.size w u) (hZ : Z = List.replicate 200 0) (hg : By (u.alloc O) (u.heap.size + 1) (.slice (some ⟨u.heap.size, 0, none⟩) 200 200) Z) : Calls Try.prog 5 #[.slice (some ⟨u.heap.size + 1, 0, none⟩) 2 2] ((u.alloc O).alloc (.cells #[.int .i64 2, .slice none 0 0, .int .i64 1, .slice (some ⟨u.heap.size, 0, none⟩) 200 200] 29)) fun e w' => ∃ a c A5, e = .returned (.tuple #[.slice a 205 c, .int .i64 0]) ∧ (∀ t : World, (Instr.sliceAt 24 (.slice a 205 c) none (some (.int .i64 5)) none).run Try.prog t = .ok (.slice A5 5 c) t) ∧ By w' w'.heap.size (.slice A5 5 c) [32, 0, 16, 200, 1] ∧ Below w.heap.size w w' := by
  have h := jn2 (below_to hu (from_alloc _ O)) hZ (hg.mono (by simp))
  rw [show (u.alloc O).heap.size = u.heap.size + 1 from by simp] at h
  refine h.mono ?_
  rintro e w' ⟨a, c, C, rfl, hc, hl, ht, hby, hb⟩
  have h5 := hby.part 0 5 (by omega)
  rw [List.drop_zero, ht, Nat.sub_zero] at h5
  exact ⟨a, c, _, rfl, fun t => cut_to (hi := 5) rfl (by omega) t, h5, hb⟩
theorem cut_big : ∃ A9 : Nat → Option Addr, (∀ (g : Nat) (t : World), (Instr.sliceAt 24 (.slice (some ⟨g, 0, none⟩) 16777217 16777217) none (some (.int .i64 16777216)) none).run Try.prog t = .ok (.slice (A9 g) 16777216 16777217) t) ∧ ∀ (g N : Nat) (t : World) (Z : List Nat), Z.length = 16777217 → By t N (.slice (some ⟨g, 0, none⟩) 16777217 16777217) Z → By t N (.slice (A9 g) 16777216 16777217) (Z.take 16777216) := by
  refine ⟨fun g => pa (some ⟨g, 0, none⟩) 16777217 0 1, fun g t => cut_to (hi := 16777216) rfl (by omega) t, fun g N t Z hZ h => ?_⟩
  have h5 := h.part 0 16777216 (by omega)
  rw [List.drop_zero, Nat.sub_zero] at h5
  exact h5
theorem jn7' {u : World} {Z : List Nat} {O : Obj} (hZ : Z.length = 16777217) (hg : By (u.alloc O) (u.heap.size + 1) (.slice (some ⟨u.heap.size, 0, none⟩) 16777217 16777217) Z) : Calls Try.prog 5 #[.slice (some ⟨u.heap.size + 1, 0, none⟩) 1 1] ((u.alloc O).alloc (.cells #[.int .i64 3, .slice (some ⟨u.heap.size, 0, none⟩) 16777217 16777217] 29)) fun e w' => ∃ a c, e = .returned (.tuple #[.slice a 0 c, .int .i64 5]) ∧ Below (u.alloc O).heap.size (u.alloc O) w' := by
  have h := jn7 (Below.refl _ (u.alloc O)) hZ (hg.mono (by simp))
  rw [show (u.alloc O).heap.size = u.heap.size + 1 from by simp] at h ⊢
  exact h
theorem un2' {w u : World} (hu : Below w.heap.size w u) : Calls Try.prog 9 #[.slice (some ⟨u.heap.size + 1, 0, none⟩) 2 2] ((u.alloc (.cells #[.int .u8 1] 5)).alloc (.cells #[.int .i64 2, .slice none 0 0, .int .i64 2, .slice (some ⟨u.heap.size, 0, none⟩) 1 1] 29)) fun e w' => ∃ v, e = .returned (.tuple #[v, .int .i64 4]) ∧ Below w.heap.size w w' := by
  have h := un2 (below_to hu (from_alloc _ (.cells #[.int .u8 1] 5))) ((by_lit [1] rfl rfl (by decide) (by decide)).mono (by simp))
  rw [show (u.alloc (.cells #[.int .u8 1] 5)).heap.size = u.heap.size + 1 from by simp] at h
  exact h
theorem works_lit {w u : World} (hu : Below w.heap.size w u) : Calls Try.prog 10 #[] u fun e w' => e = .returned (.bool true) ∧ Below w.heap.size w w' := by
  refine (works_any u).mono ?_
  rintro e w' ⟨rfl, h⟩
  exact ⟨rfl, below_to hu h⟩
theorem eb5 {w u : World} {M c : Nat} {a : Option Addr} (h : By u M (.slice a 5 c) [32, 0, 16, 200, 1]) (hM : M ≤ u.heap.size) (hu : Below w.heap.size w u) : Calls Try.prog 6 #[.slice a 5 c, .slice (some ⟨u.heap.size, 0, none⟩) 5 5] (u.alloc (.cells #[.int .u8 32, .int .u8 0, .int .u8 16, .int .u8 200, .int .u8 1] 5)) fun e w' => e = .returned (.bool true) ∧ Below w.heap.size w w' :=
  eb_lit h hM hu rfl rfl (by decide) (by decide)
theorem ei3 {w u : World} {c : Nat} {a : Option Addr} (hs : Si u a [1, 0, 2]) (hu : Below w.heap.size w u) : Calls Try.prog 7 #[.slice a 3 c, .slice (some ⟨u.heap.size, 0, none⟩) 3 3] (u.alloc (.cells #[.int .i64 1, .int .i64 0, .int .i64 2] 3)) fun e w' => e = .returned (.bool true) ∧ Below w.heap.size w w' :=
  ei_lit hs hu rfl rfl (by decide)
theorem ei1 {w u : World} {c : Nat} {a : Option Addr} (hs : Si u a [-1]) (hu : Below w.heap.size w u) : Calls Try.prog 7 #[.slice a 1 c, .slice (some ⟨u.heap.size, 0, none⟩) 1 1] (u.alloc (.cells #[.int .i64 (-1)] 3)) fun e w' => e = .returned (.bool true) ∧ Below w.heap.size w w' :=
  ei_lit hs hu rfl rfl (by decide)
end Go.Proofs.Ytkippnfijjhobab
