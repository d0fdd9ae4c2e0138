/- DERIVED. Several texts in one: Coders that are none: every method says so. Sets that may not be: Check, Writer, Reader, Average refuse. The walk of SymsNames, over what its last calls answer. SymsNames: its last calls are SymsWrites and SymsReads. -/
import Derived.Test.YtppanogpeengnabGreatDoorRows
import Derived.Test.YtppanogpeengnabGreatDoorL3Ga
import Derived.Test.YtppanogpeengnabGreatDoorSa
import Derived.Test.YtppanogpeengnabGreatDoorSd
import Derived.Test.YtppanogpeengnabGreatDoorSe
import Derived.Deep.DeepCutAuto
import Derived.Deep.OwnRows
import Derived.Test.YtppanogpeengnabGreatDoorMG
import Derived.Test.YtppanogpeengnabGreatDoorMI
import Derived.Test.YtppanogpeengnabGreatDoorSq
namespace Go.Proofs.YtppanogpeengnabGreatDoor
open Go.RowKit L3

/-- a coder that is none: nil, or a zero one -/
def Zc (w : World) (p : Value) : Prop := p = .pointer none ∨ ∃ x, p = .pointer (some ⟨x, 0, none⟩) ∧ w.cell? ⟨x, 0, none⟩ = some (.pointer none) ∧ w.cell? ⟨x, 1, none⟩ = some (.pointer none)

set_option maxHeartbeats 1000000 in
theorem none_z {w : World} {p : Value} (h : Zc w p) : Calls Tryz.prog 19 #[p] w fun e w' => e = .returned (.bool true) ∧ w = w' := by
  rcases h with rfl | ⟨x, rfl, h0, h1⟩
  · go_enter Tryz.func19, Tryz.ntmps19
    go_wp2_with fail
    go_ret
    exact ⟨rfl, rfl⟩
  · go_enter Tryz.func19, Tryz.ntmps19
    go_wp2_with fail
    go_ret
    exact ⟨rfl, rfl⟩
set_option maxHeartbeats 1000000 in
theorem symbol_z {w : World} {p : Value} {a b c : Int} (h : Zc w p) : Calls Tryz.prog 4 #[p, .int .i64 a, .int .i64 b, .int .i64 c] w fun e w' => e = .returned (.tuple #[.int .i64 0, .int .i64 1]) ∧ w = w' := by
  have H : Hid _ := h
  clear h
  go_enter Tryz.func4, Tryz.ntmps4
  go_wp2_with fail
  refine (none_z H.out).mono ?_
  rintro e w1 ⟨rfl, rfl⟩
  go_wp2_with fail
  go_returns
  exact ⟨rfl, rfl⟩
set_option maxHeartbeats 1000000 in
theorem bits_z {w : World} {p : Value} {a b : Int} (h : Zc w p) : Calls Tryz.prog 5 #[p, .int .i64 a, .int .i64 b] w fun e w' => e = .returned (.tuple #[.int .i64 0, .int .i64 1]) ∧ w = w' := by
  have H : Hid _ := h
  clear h
  go_enter Tryz.func5, Tryz.ntmps5
  go_wp2_with fail
  refine (none_z H.out).mono ?_
  rintro e w1 ⟨rfl, rfl⟩
  go_wp2_with fail
  go_returns
  exact ⟨rfl, rfl⟩
set_option maxHeartbeats 1000000 in
theorem set_z {w : World} {p : Value} (h : Zc w p) (hl : ∀ x, p = .pointer (some ⟨x, 0, none⟩) → x < w.heap.size) : Calls Tryz.prog 6 #[p] w fun e w' => e = .returned (.tuple #[.agg #[.slice none 0 0], .int .i64 1]) ∧ Below w.heap.size w w' := by
  have H : Hid (∀ w', Below w.heap.size w w' → Zc w' p) := fun w' hb => by
    rcases h with rfl | ⟨x, rfl, h0, h1⟩
    · exact Or.inl rfl
    · have hx := hl x rfl
      exact Or.inr ⟨x, rfl, by rw [newCell hb _ _ hx]; exact h0, by rw [newCell hb _ _ hx]; exact h1⟩
  have HA : Hid (∀ o, Below w.heap.size w (w.alloc o)) := fun o => (Below.refl _ _).alloc (Nat.le_refl _) _
  clear h hl
  go_enter Tryz.func6, Tryz.ntmps6
  go_wp2_with fail
  refine (none_z (H.out _ (HA.out _))).mono ?_
  rintro e w1 ⟨rfl, rfl⟩
  go_wp2_with fail
  go_returns
  exact ⟨rfl, by first | exact HA.out _ | exact below_set (HA.out _) (Nat.le_refl _) _⟩
set_option maxHeartbeats 1000000 in
theorem bytes_z {w : World} {p : Value} (h : Zc w p) : Calls Tryz.prog 7 #[p] w fun e w' => e = .returned (.tuple #[.slice none 0 0, .int .i64 1]) ∧ w = w' := by
  have H : Hid _ := h
  clear h
  go_enter Tryz.func7, Tryz.ntmps7
  go_wp2_with fail
  refine (none_z H.out).mono ?_
  rintro e w1 ⟨rfl, rfl⟩
  go_wp2_with fail
  go_returns
  exact ⟨rfl, rfl⟩
set_option maxHeartbeats 1000000 in
theorem writes_z {w : World} {p : Value} (h : Zc w p) : Calls Tryz.prog 8 #[p] w fun e w' => e = .returned (.bool false) ∧ w = w' := by
  have H : Hid _ := h
  clear h
  go_enter Tryz.func8, Tryz.ntmps8
  go_wp2_with fail
  refine (none_z H.out).mono ?_
  rintro e w1 ⟨rfl, rfl⟩
  go_wp2_with fail
  go_ret
  exact ⟨rfl, rfl⟩
set_option maxHeartbeats 1000000 in
theorem count_z {w : World} {p : Value} (h : Zc w p) : Calls Tryz.prog 9 #[p] w fun e w' => e = .returned (.int .i64 0) ∧ w = w' := by
  have H : Hid _ := h
  clear h
  go_enter Tryz.func9, Tryz.ntmps9
  go_wp2_with fail
  refine (none_z H.out).mono ?_
  rintro e w1 ⟨rfl, rfl⟩
  go_wp2_with fail
  go_ret
  exact ⟨rfl, rfl⟩

end Go.Proofs.YtppanogpeengnabGreatDoor

namespace Go.Proofs.YtppanogpeengnabGreatDoor
open Go.RowKit L3

set_option maxHeartbeats 1000000 in
theorem check_none {w : World} {c : Nat} : Calls Tryz.prog 15 #[.agg #[.slice none 0 c]] w fun e w' => e = .returned (.int .i64 2) ∧ Below w.heap.size w w' := by
  have HA : Hid (∀ o, Below w.heap.size w (w.alloc o)) := fun o => (Below.refl _ _).alloc (Nat.le_refl _) _
  go_enter Tryz.func15, Tryz.ntmps15
  go_wp2_with fail
  go_ret
  exact ⟨rfl, HA.out _⟩
set_option maxHeartbeats 1000000 in
theorem check_row {w : World} {g c : Nat} (hsh : Sh w) (hg : w.cell? ⟨g, 0, none⟩ = some (.slice none 0 0)) : Calls Tryz.prog 15 #[.agg #[.slice (some ⟨g, 0, none⟩) 32 c]] w fun e w' => e = .returned (.int .i64 2) ∧ Below w.heap.size w w' := by
  have HA : Hid (∀ o, Below w.heap.size w (w.alloc o)) := fun o => (Below.refl _ _).alloc (Nat.le_refl _) _
  have hgl : g < w.heap.size := World.block_lt_of_cell? w _ hg
  have hg' : ∀ o, (w.alloc o).cell? ⟨g, 0, none⟩ = some (.slice none 0 0) := fun o => by rw [newCell (HA.out o) _ _ hgl]; exact hg
  have h0 := hsh.c 0 (by omega)
  have h0' : ∀ o, (w.alloc o).cell? ⟨0, 0, none⟩ = some (.int .i64 8) := fun o => by rw [newCell (HA.out o) _ _ hsh.low]; exact h0
  clear hg h0 hsh
  go_enter Tryz.func15, Tryz.ntmps15
  go_wp2_with fail
  go_loop [14] (fun i => i = .int .i64 0) (fun _ => 0)
  case atStart => rfl
  case round =>
    subst hrel
    go_wp2_with fail
    go_ret
    exact ⟨rfl, HA.out _⟩
set_option maxHeartbeats 1000000 in
theorem writer_row {w : World} {g c : Nat} {ad : Bool} (hsh : Sh w) (hg : w.cell? ⟨g, 0, none⟩ = some (.slice none 0 0)) : Calls Tryz.prog 13 #[.agg #[.slice (some ⟨g, 0, none⟩) 32 c], .bool ad] w fun e w' => e = .returned (.tuple #[.pointer none, .int .i64 2]) ∧ Below w.heap.size w w' := by
  have HA : Hid (∀ o, Below w.heap.size w (w.alloc o)) := fun o => (Below.refl _ _).alloc (Nat.le_refl _) _
  have hgl : g < w.heap.size := World.block_lt_of_cell? w _ hg
  have HC : Hid (∀ o, Sh (w.alloc o) ∧ (w.alloc o).cell? ⟨g, 0, none⟩ = some (.slice none 0 0)) := fun o => ⟨hsh.to (HA.out o), by rw [newCell (HA.out o) _ _ hgl]; exact hg⟩
  clear hg hsh
  go_enter Tryz.func13, Tryz.ntmps13
  go_wp2_with fail
  refine (check_row (HC.out _).1 (HC.out _).2).mono ?_
  rintro e w1 ⟨rfl, hb⟩
  have HB : Hid (Below w.heap.size w w1) := below_to (HA.out _) hb
  clear hb
  go_wp2_with fail
  go_returns
  exact ⟨rfl, HB.out⟩
set_option maxHeartbeats 1000000 in
theorem reader_none {w : World} {ad : Bool} {c : Nat} {b : Value} : Calls Tryz.prog 12 #[b, .agg #[.slice none 0 c], .bool ad] w fun e w' => e = .returned (.tuple #[.pointer none, .int .i64 2]) ∧ Below w.heap.size w w' := by
  have HA : Hid (∀ o, Below w.heap.size w (w.alloc o)) := fun o => (Below.refl _ _).alloc (Nat.le_refl _) _
  go_enter Tryz.func12, Tryz.ntmps12
  go_wp2_with fail
  refine check_none.mono ?_
  rintro e w1 ⟨rfl, hb⟩
  have HB : Hid (Below w.heap.size w w1) := below_to (HA.out _) hb
  clear hb
  go_wp2_with fail
  go_returns
  exact ⟨rfl, HB.out⟩
set_option maxHeartbeats 1000000 in
theorem average_none {w : World} : Calls Tryz.prog 11 #[.slice none 0 0] w fun e w' => e = .returned (.tuple #[.agg #[.slice none 0 0], .int .i64 2]) ∧ Below w.heap.size w w' := by
  have HA : Hid (∀ o o', Below w.heap.size w ((w.alloc o).alloc o')) := fun o o' => ((Below.refl _ _).alloc (Nat.le_refl _) _).alloc (by simp) _
  go_enter Tryz.func11, Tryz.ntmps11
  go_wp2_with fail
  go_returns
  exact ⟨rfl, HA.out _ _⟩

end Go.Proofs.YtppanogpeengnabGreatDoor

namespace Go.Proofs.YtppanogpeengnabGreatDoor
open Go.RowKit L3

def shL : List Int := [8, 10, 4, 8, 3, 2, 3, 2, 4, 13, 8, 7, 1, 13, 1, 14, 1, 8, 2, 16, 1, 2, 3, 3, 3, 9, 1, 2, 3, 3, 1, 2, 3, 4, 1, 4, 2, 11, 2, 8, 1, 3, 1, 2, 4, 2, 2, 5, 2, 7, 2, 9, 2, 11, 2, 3, 10, 4, 14, 4, 6, 2, 3, 2]
theorem shL_at : ∀ k, k < 32 → shL.getD (2 * k) 0 = (sC k : Int) ∧ shL.getD (2 * k + 1) 0 = (sV k : Int) := by decide +kernel
def is (xs : List Int) : List Value := xs.map fun z : Int => .int .i64 z
theorem is_get (xs : List Int) (j : Nat) (h : j < xs.length) : (is xs)[j]? = some (.int .i64 (xs.getD j 0)) := by simp [is, List.getElem?_eq_getElem h]
/-- the row of shapes lies in block g -/
def Rs (w : World) (g : Nat) : Prop := w.heap[g]? = some (.cells (is shL).toArray 3 (0, 0))
theorem Rs.cell {w : World} {g : Nat} (h : Rs w g) (j : Nat) (hj : j < 64) : w.cell? ⟨g, j, none⟩ = some (.int .i64 (shL.getD j 0)) := by
  have h1 : w.heap[g]? = some (.cells (is shL).toArray 3 (0, 0)) := h
  simp only [World.cell?, h1]
  have := is_get shL j hj
  simpa using this
theorem Rs.lt {w : World} {g : Nat} (h : Rs w g) : g < w.heap.size := (Array.getElem?_eq_some_iff.1 (show w.heap[g]? = some _ from h)).1
theorem Rs.to {w w' : World} {g : Nat} (h : Rs w g) (hb : Below w.heap.size w w') : Rs w' g := by
  have h1 : w.heap[g]? = some (.cells (is shL).toArray 3 (0, 0)) := h
  show w'.heap[g]? = _
  rw [hb.block g h.lt]; exact h1
/-- the twelve things to code -/
def dArr : Array Value := #[.bool false, .int .i64 0, .int .i64 32, .int .i64 0, .int .i64 0, .bool false, .int .i64 0, .int .i64 (-1), .int .i64 0, .int .i64 0, .bool false, .int .i64 0, .int .i64 2, .int .i64 3, .int .i64 0, .bool false, .int .i64 0, .int .i64 2, .int .i64 (-1), .int .i64 0, .bool false, .int .i64 0, .int .i64 2, .int .i64 0, .int .i64 2, .bool false, .int .i64 0, .int .i64 2, .int .i64 0, .int .i64 (-1), .bool true, .int .i64 31, .int .i64 0, .int .i64 0, .int .i64 0, .bool true, .int .i64 (-1), .int .i64 0, .int .i64 0, .int .i64 0, .bool true, .int .i64 30, .int .i64 0, .int .i64 0, .int .i64 1073741823, .bool true, .int .i64 3, .int .i64 0, .int .i64 0, .int .i64 8, .bool true, .int .i64 3, .int .i64 0, .int .i64 0, .int .i64 (-1), .bool true, .int .i64 0, .int .i64 0, .int .i64 0, .int .i64 0]
def Dl (w : World) (g : Nat) : Prop := w.heap[g]? = some (.cells dArr 49 (0, 0))
theorem Dl.lt {w : World} {g : Nat} (h : Dl w g) : g < w.heap.size := (Array.getElem?_eq_some_iff.1 (show w.heap[g]? = some _ from h)).1
theorem Dl.to {w w' : World} {g : Nat} (h : Dl w g) (hb : Below w.heap.size w w') : Dl w' g := by
  have h1 : w.heap[g]? = some (.cells dArr 49 (0, 0)) := h
  show w'.heap[g]? = _
  rw [hb.block g h.lt]; exact h1
theorem Zc.to {w w' : World} {p : Value} (h : Zc w p) (hb : Below w.heap.size w w') : Zc w' p := by
  rcases h with h | ⟨x, h, h0, h1⟩
  · exact Or.inl h
  · have hx := World.block_lt_of_cell? w _ h0
    exact Or.inr ⟨x, h, by rw [newCell hb _ _ hx]; exact h0, by rw [newCell hb _ _ hx]; exact h1⟩
theorem Zc.lt {w : World} {p : Value} (h : Zc w p) (x : Nat) (e : p = .pointer (some ⟨x, 0, none⟩)) : x < w.heap.size := by
  rcases h with h | ⟨y, h, h0, _⟩
  · rw [h] at e; cases e
  · rw [h] at e
    simp only [Value.pointer.injEq, Option.some.injEq, Addr.mk.injEq] at e
    obtain ⟨rfl, _⟩ := e
    exact World.block_lt_of_cell? w _ h0
theorem zero_coder (w : World) : Zc (w.alloc (.cells #[.pointer none, .pointer none, .slice none 0 0, .bool false, .int .i64 0] 40)) (.pointer (some ⟨w.heap.size, 0, none⟩)) := Or.inr ⟨_, rfl, by simp, by simp⟩

set_option maxRecDepth 100000 in
set_option maxHeartbeats 4000000 in
theorem names_core {w : World} (hsh : Sh w)
    (hAw : ∀ w1, Sh w1 → Calls Tryz.prog 14 #[] w1 fun e w' => e = .returned (.bool true) ∧ Below w1.heap.size w1 w')
    (hWr : ∀ w1 g, Sh w1 → Dl w1 g → Calls Tryz.prog 17 #[.slice none 0 0, .slice (some ⟨g, 0, none⟩) 12 12, .bool true] w1 fun e w' => e = .returned (.bool true) ∧ Below w1.heap.size w1 w')
    (hRa : ∀ w1 g, Sh w1 → Dl w1 g → Calls Tryz.prog 18 #[.slice none 0 0, .slice (some ⟨g, 0, none⟩) 12 12, .bool true] w1 fun e w' => e = .returned (.bool true) ∧ Below w1.heap.size w1 w')
    (hRb : ∀ w1 g, Sh w1 → Dl w1 g → Calls Tryz.prog 18 #[.slice (some ⟨w1.heap.size, 0, none⟩) 5 5, .slice (some ⟨g, 0, none⟩) 12 12, .bool false] (w1.alloc (.cells #[.int .u8 255, .int .u8 255, .int .u8 255, .int .u8 255, .int .u8 255] 5)) fun e w' => e = .returned (.bool true) ∧ Below w1.heap.size w1 w') :
    Calls Tryz.prog 3 #[] w fun e w' => e = .returned (.bool true) ∧ Below w.heap.size w w' := by
  have HSH : Hid (∀ v, Below w.heap.size w v → Sh v) := fun v hv => hsh.to hv
  have HAw : Hid _ := hAw
  have HWr : Hid _ := hWr
  have HRa : Hid _ := hRa
  have HRb : Hid _ := hRb
  clear hsh hAw hWr hRa hRb
  go_enter Tryz.func3, Tryz.ntmps3
  go_wp2_with fail
  go_loopw [1, 2] (fun p i wr => ∃ k : Nat, k ≤ 2 ∧ i = .int .i64 k ∧ Zc wr p ∧ Below w.heap.size w wr) (fun _ i _ => 2 - (intOf i).toNat)
  case atStart => exact ⟨0, by omega, rfl, Or.inl rfl, Below.refl _ _⟩
  case round =>
    obtain ⟨k, hk, rfl, hz, hb⟩ := hrel
    have HZ : Hid (Zc wr u1) := hz
    have HB : Hid (Below w.heap.size w wr) := hb
    clear hz hb
    by_cases hlt : k < 2
    · have k1 : (k : Int) < 2 := by omega
      go_wp2_with fail
      refine (symbol_z HZ.out).mono ?_
      rintro e x1 ⟨rfl, rfl⟩
      go_wp2_with fail
      refine (bits_z HZ.out).mono ?_
      rintro e x1 ⟨rfl, rfl⟩
      go_wp2_with fail
      refine (set_z HZ.out HZ.out.lt).mono ?_
      rintro e x1 ⟨rfl, hb1⟩
      have HZ1 : Hid (∀ o, Zc (x1.alloc o) u1) := fun o => (HZ.out.to hb1).to ((Below.refl _ _).alloc (Nat.le_refl _) _)
      have HB1 : Hid (∀ o, Below w.heap.size w (x1.alloc o)) := fun o => to_alloc (below_to HB.out hb1) o
      clear hb1 HZ HB
      go_wp2_with fail
      refine (bytes_z (HZ1.out _)).mono ?_
      rintro e x2 ⟨rfl, rfl⟩
      have hc : (x1.alloc (.cells #[.slice none 0 0] 29)).cell? ⟨x1.heap.size, 0, none⟩ = some (.slice none 0 0) := by simp
      have HZ2 : Hid (Zc (x1.alloc (.cells #[.slice none 0 0] 29)) u1) := HZ1.out _
      have HB2 : Hid (Below w.heap.size w (x1.alloc (.cells #[.slice none 0 0] 29))) := HB1.out _
      clear HZ1 HB1
      generalize x1.alloc (.cells #[.slice none 0 0] 29) = x2 at *
      generalize x1.heap.size = gx at *
      go_wp2_with (first | (go_at_call 8; refine (writes_z HZ2.out).mono ?_; rintro e x3 ⟨rfl, rfl⟩) | (go_at_call 9; refine (count_z HZ2.out).mono ?_; rintro e x3 ⟨rfl, rfl⟩))
      go_roundw
      case rel => exact ⟨k + 1, by omega, by go_num, zero_coder _, to_alloc HB2.out _⟩
      case measure => simp [intOf]; omega
    · have k1 : ¬ (k : Int) < 2 := by omega
      have k2 : decide ((k : Int) < 2) = false := by rw [decide_eq_false_iff_not]; omega
      clear HZ
      go_upto_region 12 with fail
      have HS0 : Hid (Rs (wr.alloc (.cells #[.int .i64 8, .int .i64 10, .int .i64 4, .int .i64 8, .int .i64 3, .int .i64 2, .int .i64 3, .int .i64 2, .int .i64 4, .int .i64 13, .int .i64 8, .int .i64 7, .int .i64 1, .int .i64 13, .int .i64 1, .int .i64 14, .int .i64 1, .int .i64 8, .int .i64 2, .int .i64 16, .int .i64 1, .int .i64 2, .int .i64 3, .int .i64 3, .int .i64 3, .int .i64 9, .int .i64 1, .int .i64 2, .int .i64 3, .int .i64 3, .int .i64 1, .int .i64 2, .int .i64 3, .int .i64 4, .int .i64 1, .int .i64 4, .int .i64 2, .int .i64 11, .int .i64 2, .int .i64 8, .int .i64 1, .int .i64 3, .int .i64 1, .int .i64 2, .int .i64 4, .int .i64 2, .int .i64 2, .int .i64 5, .int .i64 2, .int .i64 7, .int .i64 2, .int .i64 9, .int .i64 2, .int .i64 11, .int .i64 2, .int .i64 3, .int .i64 10, .int .i64 4, .int .i64 14, .int .i64 4, .int .i64 6, .int .i64 2, .int .i64 3, .int .i64 2] 3)) wr.heap.size ∧ Below w.heap.size w (wr.alloc (.cells #[.int .i64 8, .int .i64 10, .int .i64 4, .int .i64 8, .int .i64 3, .int .i64 2, .int .i64 3, .int .i64 2, .int .i64 4, .int .i64 13, .int .i64 8, .int .i64 7, .int .i64 1, .int .i64 13, .int .i64 1, .int .i64 14, .int .i64 1, .int .i64 8, .int .i64 2, .int .i64 16, .int .i64 1, .int .i64 2, .int .i64 3, .int .i64 3, .int .i64 3, .int .i64 9, .int .i64 1, .int .i64 2, .int .i64 3, .int .i64 3, .int .i64 1, .int .i64 2, .int .i64 3, .int .i64 4, .int .i64 1, .int .i64 4, .int .i64 2, .int .i64 11, .int .i64 2, .int .i64 8, .int .i64 1, .int .i64 3, .int .i64 1, .int .i64 2, .int .i64 4, .int .i64 2, .int .i64 2, .int .i64 5, .int .i64 2, .int .i64 7, .int .i64 2, .int .i64 9, .int .i64 2, .int .i64 11, .int .i64 2, .int .i64 3, .int .i64 10, .int .i64 4, .int .i64 14, .int .i64 4, .int .i64 6, .int .i64 2, .int .i64 3, .int .i64 2] 3))) := ⟨(show (wr.alloc (.cells (is shL).toArray 3)).heap[wr.heap.size]? = _ from heap_alloc_new wr _), to_alloc HB.out _⟩
      clear HB
      go_wp2_with fail
      generalize wr.alloc (.cells #[.int .i64 8, .int .i64 10, .int .i64 4, .int .i64 8, .int .i64 3, .int .i64 2, .int .i64 3, .int .i64 2, .int .i64 4, .int .i64 13, .int .i64 8, .int .i64 7, .int .i64 1, .int .i64 13, .int .i64 1, .int .i64 14, .int .i64 1, .int .i64 8, .int .i64 2, .int .i64 16, .int .i64 1, .int .i64 2, .int .i64 3, .int .i64 3, .int .i64 3, .int .i64 9, .int .i64 1, .int .i64 2, .int .i64 3, .int .i64 3, .int .i64 1, .int .i64 2, .int .i64 3, .int .i64 4, .int .i64 1, .int .i64 4, .int .i64 2, .int .i64 11, .int .i64 2, .int .i64 8, .int .i64 1, .int .i64 3, .int .i64 1, .int .i64 2, .int .i64 4, .int .i64 2, .int .i64 2, .int .i64 5, .int .i64 2, .int .i64 7, .int .i64 2, .int .i64 9, .int .i64 2, .int .i64 11, .int .i64 2, .int .i64 3, .int .i64 10, .int .i64 4, .int .i64 14, .int .i64 4, .int .i64 6, .int .i64 2, .int .i64 3, .int .i64 2] 3) = v0 at *
      generalize wr.heap.size = gs at *
      go_loopw [12] (fun i wx => ∃ j : Nat, j ≤ 32 ∧ i = .int .i64 j ∧ Rs wx gs ∧ Below w.heap.size w wx) (fun i _ => 32 - (intOf i).toNat)
      case atStart => exact ⟨0, by omega, rfl, HS0.out.1, HS0.out.2⟩
      case round =>
        clear HS0
        rename_i wold
        obtain ⟨j, hj, rfl, hrs, hbe⟩ := hrel
        have HR : Hid (Rs wr gs) := hrs
        have HB : Hid (Below w.heap.size w wr) := hbe
        clear hrs hbe
        have j0 : (0 : Int) ≤ (j : Int) := by omega
        by_cases hj2 : j < 32
        · have j1 : (j : Int) < 32 := by omega
          obtain ⟨b0, hb0, hb0i⟩ : ∃ b : Nat, b = 2 * j ∧ 2 * (j : Int) = (b : Int) := ⟨_, rfl, by omega⟩
          obtain ⟨b1, hb1, hb1i⟩ : ∃ b : Nat, b = 2 * j + 1 ∧ (b0 : Int) + 1 = (b : Int) := ⟨_, rfl, by omega⟩
          have e0 : (0 : Int) ≤ (b0 : Int) := by omega
          have e1 : (b0 : Int) < 64 := by omega
          have e2 : (0 : Int) ≤ (b1 : Int) := by omega
          have e3 : (b1 : Int) < 64 := by omega
          have HC : Hid (∀ v, Below wr.heap.size wr v → v.cell? ⟨gs, b0, none⟩ = some (.int .i64 (sC j : Nat)) ∧ v.cell? ⟨gs, b1, none⟩ = some (.int .i64 (sV j : Nat))) := fun v hv => by
            have h := shL_at j hj2
            rw [(HR.out.to hv).cell b0 (by omega), (HR.out.to hv).cell b1 (by omega), hb0, hb1, h.1, h.2]
            exact ⟨rfl, rfl⟩
          have HSj : Hid (Sh wr) := HSH.out _ HB.out
          have HJ : Hid (j < 32) := hj2
          go_wp2_with fail
          refine (shape_ok HSj.out HJ.out).mono ?_
          rintro e w3 ⟨rfl, hb3⟩
          obtain ⟨c0, c1⟩ := HC.out _ hb3
          have HN : Hid (Rs w3 gs ∧ Below w.heap.size w w3) := ⟨HR.out.to hb3, below_to HB.out hb3⟩
          clear hb3 HC HSj
          have t0 : (((sC j : Nat) : Int) != ((sC j : Nat) : Int)) = false := by simp
          have t1 : (((sV j : Nat) : Int) != ((sV j : Nat) : Int)) = false := by simp
          generalize ((sC j : Nat) : Int) = X at *
          generalize ((sV j : Nat) : Int) = Y at *
          clear hb0 hb1
          go_wp2_with fail
          go_roundw
          case rel => exact ⟨j + 1, by omega, by go_num, HN.out.1, HN.out.2⟩
          case measure => simp [intOf]; omega
        · have j1 : ¬ (j : Int) < 32 := by omega
          clear HR
          go_wp2_with fail
          refine (shape_no (Or.inl (by omega))).mono ?_
          rintro e w3 ⟨rfl, hb3⟩
          have HB3 : Hid (Below w.heap.size w w3) := below_to HB.out hb3
          clear hb3 HB
          go_wp2_with fail
          refine (shape_no (Or.inr (by omega))).mono ?_
          rintro e w4 ⟨rfl, hb4⟩
          have HB4 : Hid (Below w.heap.size w w4) := below_to HB3.out hb4
          clear hb4 HB3
          go_wp2_with fail
          refine average_none.mono ?_
          rintro e w5 ⟨rfl, hb5⟩
          have HB5 : Hid (∀ o, Below w.heap.size w (w5.alloc o)) := fun o => to_alloc (below_to HB4.out hb5) o
          clear hb5 HB4
          go_wp2_with fail
          refine reader_none.mono ?_
          rintro e w6 ⟨rfl, hb6⟩
          have HB6 : Hid (Below w.heap.size w w6) := below_to (HB5.out _) hb6
          clear hb6 HB5
          have hmk : ∀ u : World, (Instr.makeSlice 27 (.int .i64 32) (.int .i64 32)).run Tryz.prog u = .ok (.slice (some ⟨u.heap.size, 0, none⟩) 32 32) (u.alloc (.cells (madeCells #[.slice none 0 0] 32) 60)) := fun u => run_make_row' 27 60 (.slice none 0 0) 24 Tryz.underlying27 Tryz.inf60 rfl .i64 .i64 32 (by omega) (by omega) u
          have HC7 : Hid (Sh (w6.alloc (.cells (madeCells #[.slice none 0 0] 32) 60)) ∧ (w6.alloc (.cells (madeCells #[.slice none 0 0] 32) 60)).cell? ⟨w6.heap.size, 0, none⟩ = some (.slice none 0 0) ∧ Below w.heap.size w (w6.alloc (.cells (madeCells #[.slice none 0 0] 32) 60))) := ⟨HSH.out _ (to_alloc HB6.out _), by rw [World.cell?, heap_alloc_new]; simp [madeCells], to_alloc HB6.out _⟩
          go_wp2_with fail
          refine (writer_row HC7.out.1 HC7.out.2.1).mono ?_
          rintro e w7 ⟨rfl, hb7⟩
          have HB7 : Hid (Below w.heap.size w w7) := below_to HC7.out.2.2 hb7
          clear hb7 HC7 hmk HB6
          go_upto_region 25 with fail
          have HD8 : Hid (Dl (w7.alloc (.cells #[.bool false, .int .i64 0, .int .i64 32, .int .i64 0, .int .i64 0, .bool false, .int .i64 0, .int .i64 (-1), .int .i64 0, .int .i64 0, .bool false, .int .i64 0, .int .i64 2, .int .i64 3, .int .i64 0, .bool false, .int .i64 0, .int .i64 2, .int .i64 (-1), .int .i64 0, .bool false, .int .i64 0, .int .i64 2, .int .i64 0, .int .i64 2, .bool false, .int .i64 0, .int .i64 2, .int .i64 0, .int .i64 (-1), .bool true, .int .i64 31, .int .i64 0, .int .i64 0, .int .i64 0, .bool true, .int .i64 (-1), .int .i64 0, .int .i64 0, .int .i64 0, .bool true, .int .i64 30, .int .i64 0, .int .i64 0, .int .i64 1073741823, .bool true, .int .i64 3, .int .i64 0, .int .i64 0, .int .i64 8, .bool true, .int .i64 3, .int .i64 0, .int .i64 0, .int .i64 (-1), .bool true, .int .i64 0, .int .i64 0, .int .i64 0, .int .i64 0] 49)) w7.heap.size ∧ Below w.heap.size w (w7.alloc (.cells #[.bool false, .int .i64 0, .int .i64 32, .int .i64 0, .int .i64 0, .bool false, .int .i64 0, .int .i64 (-1), .int .i64 0, .int .i64 0, .bool false, .int .i64 0, .int .i64 2, .int .i64 3, .int .i64 0, .bool false, .int .i64 0, .int .i64 2, .int .i64 (-1), .int .i64 0, .bool false, .int .i64 0, .int .i64 2, .int .i64 0, .int .i64 2, .bool false, .int .i64 0, .int .i64 2, .int .i64 0, .int .i64 (-1), .bool true, .int .i64 31, .int .i64 0, .int .i64 0, .int .i64 0, .bool true, .int .i64 (-1), .int .i64 0, .int .i64 0, .int .i64 0, .bool true, .int .i64 30, .int .i64 0, .int .i64 0, .int .i64 1073741823, .bool true, .int .i64 3, .int .i64 0, .int .i64 0, .int .i64 8, .bool true, .int .i64 3, .int .i64 0, .int .i64 0, .int .i64 (-1), .bool true, .int .i64 0, .int .i64 0, .int .i64 0, .int .i64 0] 49))) := ⟨(show (w7.alloc (.cells dArr 49)).heap[w7.heap.size]? = _ from heap_alloc_new w7 _), to_alloc HB7.out _⟩
          clear HB7
          generalize w7.alloc (.cells #[.bool false, .int .i64 0, .int .i64 32, .int .i64 0, .int .i64 0, .bool false, .int .i64 0, .int .i64 (-1), .int .i64 0, .int .i64 0, .bool false, .int .i64 0, .int .i64 2, .int .i64 3, .int .i64 0, .bool false, .int .i64 0, .int .i64 2, .int .i64 (-1), .int .i64 0, .bool false, .int .i64 0, .int .i64 2, .int .i64 0, .int .i64 2, .bool false, .int .i64 0, .int .i64 2, .int .i64 0, .int .i64 (-1), .bool true, .int .i64 31, .int .i64 0, .int .i64 0, .int .i64 0, .bool true, .int .i64 (-1), .int .i64 0, .int .i64 0, .int .i64 0, .bool true, .int .i64 30, .int .i64 0, .int .i64 0, .int .i64 1073741823, .bool true, .int .i64 3, .int .i64 0, .int .i64 0, .int .i64 8, .bool true, .int .i64 3, .int .i64 0, .int .i64 0, .int .i64 (-1), .bool true, .int .i64 0, .int .i64 0, .int .i64 0, .int .i64 0] 49) = w8 at *
          generalize w7.heap.size = gd at *
          go_wp2_with fail
          refine (HAw.out _ (HSH.out _ HD8.out.2)).mono ?_
          rintro e y1 ⟨rfl, hb1⟩
          have H1 : Hid (Dl y1 gd ∧ Below w.heap.size w y1) := ⟨HD8.out.1.to hb1, below_to HD8.out.2 hb1⟩
          clear hb1 HD8
          go_wp2_with fail
          refine (default_any (HSH.out _ H1.out.2)).mono ?_
          rintro e y2 ⟨bt, K, rfl, hst, hkl, hdq, _, hb2⟩
          have H2 : Hid (Dl y2 gd ∧ Below w.heap.size w y2) := ⟨H1.out.1.to hb2, below_to H1.out.2 hb2⟩
          have HK : Hid (St y2 y1.heap.size bt K ∧ Okk K) := ⟨hst, okk_default hkl hdq⟩
          clear hb2 hst hkl hdq H1
          go_wp2_with fail
          refine (scheck_ok (HSH.out _ H2.out.2) HK.out.1 HK.out.2).mono ?_
          rintro e y3 ⟨rfl, hb3⟩
          have H3 : Hid (Dl y3 gd ∧ Below w.heap.size w y3) := ⟨H2.out.1.to hb3, below_to H2.out.2 hb3⟩
          clear hb3 H2 HK
          go_wp2_with fail
          refine (HWr.out _ _ (HSH.out _ H3.out.2) H3.out.1).mono ?_
          rintro e y4 ⟨rfl, hb4⟩
          have H4 : Hid (Dl y4 gd ∧ Below w.heap.size w y4) := ⟨H3.out.1.to hb4, below_to H3.out.2 hb4⟩
          clear hb4 H3
          go_wp2_with fail
          refine (HRa.out _ _ (HSH.out _ H4.out.2) H4.out.1).mono ?_
          rintro e y5 ⟨rfl, hb5⟩
          have H5 : Hid (Dl y5 gd ∧ Below w.heap.size w y5) := ⟨H4.out.1.to hb5, below_to H4.out.2 hb5⟩
          clear hb5 H4
          go_wp2_with fail
          refine (HRb.out _ _ (HSH.out _ H5.out.2) H5.out.1).mono ?_
          rintro e y6 ⟨rfl, hb6⟩
          have H6 : Hid (Below w.heap.size w y6) := below_to H5.out.2 hb6
          clear hb6 H5
          go_wp2_with fail
          go_ret
          exact ⟨rfl, H6.out⟩

end Go.Proofs.YtppanogpeengnabGreatDoor

namespace Go.Proofs.YtppanogpeengnabGreatDoor
open Go.RowKit L3

def dList : List Dx := [⟨false, 0, 32, 0, 0⟩, ⟨false, 0, -1, 0, 0⟩, ⟨false, 0, 2, 3, 0⟩, ⟨false, 0, 2, -1, 0⟩, ⟨false, 0, 2, 0, 2⟩, ⟨false, 0, 2, 0, -1⟩, ⟨true, 31, 0, 0, 0⟩, ⟨true, -1, 0, 0, 0⟩, ⟨true, 30, 0, 0, 1073741823⟩, ⟨true, 3, 0, 0, 8⟩, ⟨true, 3, 0, 0, -1⟩, ⟨true, 0, 0, 0, 0⟩]
theorem Dl.dos {w : World} {g : Nat} (h : Dl w g) : DoAt w (some ⟨g, 0, none⟩) dList := by
  have h1 : w.heap[g]? = some (.cells dArr 49 (0, 0)) := h
  refine Or.inr ⟨g, 0, rfl, h.lt, fun j hj => ?_⟩
  simp only [World.cell?, h1]
  have hj' : j < 12 := hj
  have : j = 0 ∨ j = 1 ∨ j = 2 ∨ j = 3 ∨ j = 4 ∨ j = 5 ∨ j = 6 ∨ j = 7 ∨ j = 8 ∨ j = 9 ∨ j = 10 ∨ j = 11 := by omega
  rcases this with rfl | rfl | rfl | rfl | rfl | rfl | rfl | rfl | rfl | rfl | rfl | rfl <;> exact ⟨rfl, rfl, rfl, rfl, rfl⟩
theorem nil_do (w : World) : DoAt w none [] := Or.inl rfl
theorem five_src (w : World) : L2.SrcOf (w.alloc (.cells #[.int .u8 255, .int .u8 255, .int .u8 255, .int .u8 255, .int .u8 255] 5)) (.slice (some ⟨w.heap.size, 0, none⟩) 5 5) [255, 255, 255, 255, 255] := by
  refine Or.inr ⟨⟨w.heap.size, 0, none⟩, 5, rfl, fun j hj => ?_⟩
  have hj' : j < 5 := hj
  have : j = 0 ∨ j = 1 ∨ j = 2 ∨ j = 3 ∨ j = 4 := by omega
  rcases this with rfl | rfl | rfl | rfl | rfl <;> simp [Addr.add]
theorem five_small : ∀ i : Nat, ([255, 255, 255, 255, 255] : List Nat).getD i 0 < 256 := by
  intro i
  match i with
  | 0 => decide
  | 1 => decide
  | 2 => decide
  | 3 => decide
  | 4 => decide
  | i + 5 => simp
theorem names_walk {w : World} (hsh : Sh w) : Calls Tryz.prog 3 #[] w fun e w' => e = .returned (.bool true) ∧ Below w.heap.size w w' := by
  refine names_core hsh (fun w1 h1 => awake_ok h1) (fun w1 g h1 hd => ?_) (fun w1 g h1 hd => ?_) (fun w1 g h1 hd => ?_)
  · exact writes_walk w1 none 0 [] (some ⟨g, 0, none⟩) 12 dList true h1 (nil_do _) (by simp) hd.dos (by decide)
  · exact reads_walk w1 (.slice none 0 0) [] (some ⟨g, 0, none⟩) 12 dList true h1 (Or.inl ⟨rfl, rfl⟩) (by simp) (by simp) hd.dos (by decide)
  · have hb : Below w1.heap.size w1 (w1.alloc (.cells #[.int .u8 255, .int .u8 255, .int .u8 255, .int .u8 255, .int .u8 255] 5)) := from_alloc _ _
    refine (reads_walk _ (.slice (some ⟨w1.heap.size, 0, none⟩) 5 5) [255, 255, 255, 255, 255] (some ⟨g, 0, none⟩) 12 dList false (h1.to hb) (five_src w1) five_small (by decide) (hd.to hb).dos (by decide)).mono ?_
    rintro e w' ⟨he, hb'⟩
    exact ⟨he, below_to hb hb'⟩

end Go.Proofs.YtppanogpeengnabGreatDoor
