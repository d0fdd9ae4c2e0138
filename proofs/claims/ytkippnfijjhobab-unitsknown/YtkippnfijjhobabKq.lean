/- DERIVED. told and Join of what UnitsKnown says. -/
import Derived.Test.YtkippnfijjhobabKt
import Derived.Test.YtkippnfijjhobabKg
import Derived.Test.YtkippnfijjhobabTi
import Derived.Test.YtkippnfijjhobabTu
namespace Go.Proofs.Ytkippnfijjhobab
open Go.RowKit

theorem Try.eq000 (w : World) : (Op.equalIn 10000 22 (.agg #[.int .i64 0, .int .i64 0, .int .i64 0]) (.agg #[.int .i64 0, .int .i64 0, .int .i64 0])).run Try.prog w = .ok true w := by kernel_rfl
theorem Try.eq123 (w : World) : (Op.equalIn 10000 22 (.agg #[.int .i64 1, .int .i64 2, .int .i64 3]) (.agg #[.int .i64 1, .int .i64 2, .int .i64 3])).run Try.prog w = .ok true w := by kernel_rfl
theorem Try.eq124 (w : World) : (Op.equalIn 10000 22 (.agg #[.int .i64 1, .int .i64 2, .int .i64 4]) (.agg #[.int .i64 1, .int .i64 2, .int .i64 4])).run Try.prog w = .ok true w := by kernel_rfl
theorem Try.eq003 (w : World) : (Op.equalIn 10000 22 (.agg #[.int .i64 0, .int .i64 0, .int .i64 3]) (.agg #[.int .i64 0, .int .i64 0, .int .i64 3])).run Try.prog w = .ok true w := by kernel_rfl
theorem Try.eq004 (w : World) : (Op.equalIn 10000 22 (.agg #[.int .i64 0, .int .i64 0, .int .i64 4]) (.agg #[.int .i64 0, .int .i64 0, .int .i64 4])).run Try.prog w = .ok true w := by kernel_rfl
theorem Try.eq005 (w : World) : (Op.equalIn 10000 22 (.agg #[.int .i64 0, .int .i64 0, .int .i64 5]) (.agg #[.int .i64 0, .int .i64 0, .int .i64 5])).run Try.prog w = .ok true w := by kernel_rfl
theorem Try.eq370 (w : World) : (Op.equalIn 10000 22 (.agg #[.int .i64 3, .int .i64 7, .int .i64 0]) (.agg #[.int .i64 3, .int .i64 7, .int .i64 0])).run Try.prog w = .ok true w := by kernel_rfl
/-- bytes that were just built -/
theorem by_lit {u : World} {cs : Array Value} {n : Nat} (b : List Nat) (hcs : cs = (bs b).toArray) (hn : n = b.length) (hb : b.all (· < 256) = true) (hl : b.length ≤ 1000) : By (u.alloc (.cells cs 5)) (u.heap.size + 1) (.slice (some ⟨u.heap.size, 0, none⟩) n n) b := by
  subst hcs hn
  exact by_cells (small_byt hb) hl fun j hj => by
    have := World.news_of_block (cs := (bs b).toArray) (heap_alloc_new u (.cells (bs b).toArray 5)) j _ (bs_get b j hj)
    rw [addr_add, Nat.zero_add] at this
    exact this
theorem told_lit {w u : World} {cs : Array Value} {n : Nat} {x y z : Int} (b : List Nat) (hu : Below w.heap.size w u) (hcs : cs = (bs b).toArray) (hn : n = b.length) (hb : b.all (· < 256) = true) (hl : b.length ≤ 1000) (hx : ((splitP b).1.length : Int) = x) (hy : ((splitP b).2.1 : Int) = y) (hz : ((splitP b).2.2 : Int) = z) :
    Calls Try.prog 4 #[.slice (some ⟨u.heap.size, 0, none⟩) n n] (u.alloc (.cells cs 5)) fun e w' => e = .returned (.agg #[.int .i64 x, .int .i64 y, .int .i64 z]) ∧ Below w.heap.size w w' := by
  refine (told_any (by_lit b hcs hn hb hl) (by simp) (by omega)).mono ?_
  rintro e w' ⟨rfl, h⟩
  exact ⟨by simp [tdL, hx, hy, hz], below_to (below_to hu (from_alloc _ _)) h⟩
theorem by_nil (w : World) (N : Nat) : By w N (.slice none 0 0) [] := ⟨⟨none, 0, rfl, Nat.le_refl _, fun _ => rfl, Or.inl rfl⟩, by simp, by simp⟩
theorem told_nil {w u : World} (hu : Below w.heap.size w u) : Calls Try.prog 4 #[.slice none 0 0] u fun e w' => e = .returned (.agg #[.int .i64 0, .int .i64 0, .int .i64 0]) ∧ Below w.heap.size w w' := by
  refine (told_any (by_nil u 0) (by simp) (by simp)).mono ?_
  rintro e w' ⟨rfl, h⟩
  exact ⟨rfl, below_to hu h⟩
theorem td1 {w u : World} (hu : Below w.heap.size w u) : Calls Try.prog 4 #[.slice (some ⟨u.heap.size, 0, none⟩) 5 5] (u.alloc (.cells #[.int .u8 32, .int .u8 0, .int .u8 48, .int .u8 2, .int .u8 1] 5)) fun e w' => e = .returned (.agg #[.int .i64 1, .int .i64 2, .int .i64 3]) ∧ Below w.heap.size w w' :=
  told_lit [32, 0, 48, 2, 1] hu rfl rfl (by decide) (by decide) (by decide +kernel) (by decide +kernel) (by decide +kernel)
theorem td2 {w u : World} (hu : Below w.heap.size w u) : Calls Try.prog 4 #[.slice (some ⟨u.heap.size, 0, none⟩) 4 4] (u.alloc (.cells #[.int .u8 32, .int .u8 0, .int .u8 33, .int .u8 0] 5)) fun e w' => e = .returned (.agg #[.int .i64 1, .int .i64 2, .int .i64 4]) ∧ Below w.heap.size w w' :=
  told_lit [32, 0, 33, 0] hu rfl rfl (by decide) (by decide) (by decide +kernel) (by decide +kernel) (by decide +kernel)
theorem td3 {w u : World} (hu : Below w.heap.size w u) : Calls Try.prog 4 #[.slice (some ⟨u.heap.size, 0, none⟩) 1 1] (u.alloc (.cells #[.int .u8 32] 5)) fun e w' => e = .returned (.agg #[.int .i64 0, .int .i64 0, .int .i64 3]) ∧ Below w.heap.size w w' :=
  told_lit [32] hu rfl rfl (by decide) (by decide) (by decide +kernel) (by decide +kernel) (by decide +kernel)
theorem td4 {w u : World} (hu : Below w.heap.size w u) : Calls Try.prog 4 #[.slice (some ⟨u.heap.size, 0, none⟩) 2 2] (u.alloc (.cells #[.int .u8 64, .int .u8 0] 5)) fun e w' => e = .returned (.agg #[.int .i64 0, .int .i64 0, .int .i64 4]) ∧ Below w.heap.size w w' :=
  told_lit [64, 0] hu rfl rfl (by decide) (by decide) (by decide +kernel) (by decide +kernel) (by decide +kernel)
theorem td5 {w u : World} (hu : Below w.heap.size w u) : Calls Try.prog 4 #[.slice (some ⟨u.heap.size, 0, none⟩) 2 2] (u.alloc (.cells #[.int .u8 0, .int .u8 0] 5)) fun e w' => e = .returned (.agg #[.int .i64 0, .int .i64 0, .int .i64 4]) ∧ Below w.heap.size w w' :=
  told_lit [0, 0] hu rfl rfl (by decide) (by decide) (by decide +kernel) (by decide +kernel) (by decide +kernel)
theorem td6 {w u : World} (hu : Below w.heap.size w u) : Calls Try.prog 4 #[.slice (some ⟨u.heap.size, 0, none⟩) 3 3] (u.alloc (.cells #[.int .u8 16, .int .u8 128, .int .u8 0] 5)) fun e w' => e = .returned (.agg #[.int .i64 0, .int .i64 0, .int .i64 4]) ∧ Below w.heap.size w w' :=
  told_lit [16, 128, 0] hu rfl rfl (by decide) (by decide) (by decide +kernel) (by decide +kernel) (by decide +kernel)
theorem td7 {w u : World} (hu : Below w.heap.size w u) : Calls Try.prog 4 #[.slice (some ⟨u.heap.size, 0, none⟩) 5 5] (u.alloc (.cells #[.int .u8 16, .int .u8 129, .int .u8 128, .int .u8 128, .int .u8 8] 5)) fun e w' => e = .returned (.agg #[.int .i64 0, .int .i64 0, .int .i64 5]) ∧ Below w.heap.size w w' :=
  told_lit [16, 129, 128, 128, 8] hu rfl rfl (by decide) (by decide) (by decide +kernel) (by decide +kernel) (by decide +kernel)
theorem td8 {w u : World} (hu : Below w.heap.size w u) : Calls Try.prog 4 #[.slice (some ⟨u.heap.size, 0, none⟩) 5 5] (u.alloc (.cells #[.int .u8 16, .int .u8 128, .int .u8 128, .int .u8 128, .int .u8 8] 5)) fun e w' => e = .returned (.agg #[.int .i64 0, .int .i64 0, .int .i64 3]) ∧ Below w.heap.size w w' :=
  told_lit [16, 128, 128, 128, 8] hu rfl rfl (by decide) (by decide) (by decide +kernel) (by decide +kernel) (by decide +kernel)
theorem td9 {w u : World} (hu : Below w.heap.size w u) : Calls Try.prog 4 #[.slice (some ⟨u.heap.size, 0, none⟩) 6 6] (u.alloc (.cells #[.int .u8 16, .int .u8 255, .int .u8 255, .int .u8 255, .int .u8 255, .int .u8 31] 5)) fun e w' => e = .returned (.agg #[.int .i64 0, .int .i64 0, .int .i64 4]) ∧ Below w.heap.size w w' :=
  told_lit [16, 255, 255, 255, 255, 31] hu rfl rfl (by decide) (by decide) (by decide +kernel) (by decide +kernel) (by decide +kernel)
theorem td10 {w u : World} (hu : Below w.heap.size w u) : Calls Try.prog 4 #[.slice (some ⟨u.heap.size, 0, none⟩) 2 2] (u.alloc (.cells #[.int .u8 16, .int .u8 128] 5)) fun e w' => e = .returned (.agg #[.int .i64 0, .int .i64 0, .int .i64 3]) ∧ Below w.heap.size w w' :=
  told_lit [16, 128] hu rfl rfl (by decide) (by decide) (by decide +kernel) (by decide +kernel) (by decide +kernel)
theorem td11 {w u : World} (hu : Below w.heap.size w u) : Calls Try.prog 4 #[.slice (some ⟨u.heap.size, 0, none⟩) 7 7] (u.alloc (.cells #[.int .u8 48, .int .u8 1, .int .u8 7, .int .u8 16, .int .u8 0, .int .u8 32, .int .u8 0] 5)) fun e w' => e = .returned (.agg #[.int .i64 3, .int .i64 7, .int .i64 0]) ∧ Below w.heap.size w w' :=
  told_lit [48, 1, 7, 16, 0, 32, 0] hu rfl rfl (by decide) (by decide) (by decide +kernel) (by decide +kernel) (by decide +kernel)
end Go.Proofs.Ytkippnfijjhobab
