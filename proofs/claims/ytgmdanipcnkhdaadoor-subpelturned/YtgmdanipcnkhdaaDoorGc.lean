/- DERIVED. Rows that a call makes: make; Bring. -/
import Derived.Test.YtgmdanipcnkhdaaDoorGb
namespace Go.Proofs.YtgmdanipcnkhdaaDoor
open Go.RowKit

theorem Tryd.info3 : (Tryd.prog.info? 3).map (fun i => (i.zero, i.size, i.bytes)) = some (some (.int .i64 0), 1, 8) := by kernel_rfl
theorem mk_ints {n : Nat} (hn : n ≤ 1048576) (u : World) : (Instr.makeSlice 56 (.int .i64 (n : Int)) (.int .i64 (n : Int))).run Tryd.prog u = .ok (.slice (some ⟨u.heap.size, 0, none⟩) n n) (u.alloc (.cells (madeCells #[.int .i64 0] n) 3)) :=
  run_make_row' 56 3 (.int .i64 0) 8 Tryd.underlying56 Tryd.info3 rfl .i64 .i64 n (by omega) (by omega) u
theorem ext_getD {C D : List Int} (hl : C.length = D.length) (h : ∀ j, j < C.length → C.getD j 0 = D.getD j 0) : C = D := by
  refine List.ext_getElem hl fun j h1 h2 => ?_
  have := h j h1
  simpa [List.getD_eq_getElem?_getD, List.getElem?_eq_getElem h1, List.getElem?_eq_getElem h2] using this
theorem getD_set (C : List Int) (k j : Nat) (x : Int) (hk : k < C.length) : (C.set k x).getD j 0 = if k = j then x else C.getD j 0 := by
  rw [List.getD_eq_getElem?_getD, List.getD_eq_getElem?_getD, List.getElem?_set]
  by_cases e : k = j
  · subst e; simp [hk]
  · simp [e]
/-- are two lists the same? -/
def eqI (C D : List Int) : Bool := decide (C = D)
theorem eqI_yes {C D : List Int} (h : C = D) : eqI C D = true := by simp [eqI, h]
theorem eqI_no {C D : List Int} (h : ¬ C = D) : eqI C D = false := by simp [eqI, h]
theorem eqI_self (C : List Int) : eqI C C = true := eqI_yes rfl

theorem tmod_fix (i n : Int) (h : 0 < n) : (if i.tmod n < 0 then i.tmod n + n else i.tmod n) = i % n := by
  have h1 := Int.tmod_lt_of_pos i h
  rcases Int.lt_or_le i 0 with hi | hi
  · have e := Int.tmod_eq_emod (a := i) (b := n)
    have h2 := Int.emod_nonneg i (by omega : n ≠ 0)
    have h3 := Int.emod_lt_of_pos i h
    rw [e]
    split <;> split at * <;> first | omega | skip
    all_goals simp_all
    all_goals omega
  · have e := Int.tmod_eq_emod_of_nonneg (a := i) (b := n) hi
    have h2 := Int.emod_nonneg i (by omega : n ≠ 0)
    rw [e, if_neg (by omega)]

set_option maxRecDepth 100000 in
set_option maxHeartbeats 400000 in
theorem bring_any {w : World} {i n : Int} (h0 : 0 < n) (h1 : n ≤ 1099511627776) : Calls Tryd.prog 17 #[.int .i64 i, .int .i64 n] w fun e w' => e = .returned (.int .i64 (i % n)) ∧ w = w' := by
  have HT : Hid ((if i.tmod n < 0 then i.tmod n + n else i.tmod n) = i % n) := tmod_fix i n h0
  have b1 := Int.tmod_lt_of_pos i h0
  have b2 : -n < i.tmod n := by
    have := Int.lt_tmod_of_pos i h0
    omega
  have z : n ≠ 0 := by omega
  have z' : ¬ n ≤ 0 := by omega
  generalize i % n = r at *
  by_cases hz : i.tmod n < 0
  · have HR : Hid (r = i.tmod n + n) := by show _ = _; rw [← HT.out, if_pos hz]
    clear HT
    go_enter Tryd.func17, Tryd.ntmps17
    go_wp2_with fail
    go_ret
    exact ⟨by rw [HR.out]; rfl, rfl⟩
  · have HR : Hid (r = i.tmod n) := by show _ = _; rw [← HT.out, if_neg hz]
    clear HT
    go_enter Tryd.func17, Tryd.ntmps17
    go_wp2_with fail
    go_ret
    exact ⟨by rw [HR.out]; rfl, rfl⟩

/-- a row grows, and again -/
theorem grown_trans {a b c : World} {r r' : Option Nat} (h : a.grownBy b r) (k : b.grownBy c r') (hr : ∀ g, r' = some g → r = some g ∨ a.heap.size ≤ g) : a.grownBy c r :=
  ⟨k.os.trans h.os, k.tape.trans h.tape, k.output.trans h.output, Nat.le_trans h.size k.size, fun i hi hne => by
    rw [k.block i (Nat.lt_of_lt_of_le hi h.size) (fun e => by rcases hr i e.symm with e | e; exact hne e.symm; omega)]
    exact h.block i hi hne⟩
theorem grown_below {B : Nat} {a b : World} {r : Option Nat} (h : a.grownBy b r) (hB : B ≤ a.heap.size) (hr : ∀ g, r = some g → B ≤ g) : Below B a b :=
  ⟨h.os, h.tape, h.output, h.size, fun i hi => h.block i (by omega) (fun e => by have := hr i e.symm; omega)⟩
theorem below_grown {a b : World} (h : Below a.heap.size a b) (r : Option Nat) : a.grownBy b r := ⟨h.os, h.tape, h.output, h.size, fun i hi _ => h.block i hi⟩

end Go.Proofs.YtgmdanipcnkhdaaDoor
