/- DERIVED. Frames that may be. -/
import Derived.Test.YtpideemiijhkgabDoorPm
namespace Go.Proofs.YtpideemiijhkgabDoor
open Go.RowKit


/-- a plane, as a value -/
structure Pv where
  W : Int
  H : Int
  a : Option Addr
  c : Nat
  C : List Nat
/-- a side of a video -/
structure Vs (n : Int) : Prop where
  lo : 16 ≤ n
  hi : n ≤ 256
  even : n % 2 = 0
set_option maxHeartbeats 1000000 in
theorem vs_yes {w : World} {n : Int} (h : Vs n) : Calls Tryd.prog 19 #[.int .i64 n] w fun e w' => e = .returned (.bool true) ∧ w' = w := by
  obtain ⟨h0, h1, h2⟩ := h
  have h3 : (n % 2 == 0) = true := by simp [h2]
  have h4 : (n.tmod 2 == 0) = true := by rw [Int.tmod_eq_emod_of_nonneg (by omega)]; exact h3
  have H2 : Hid _ := h2
  clear h2
  go_enter Tryd.func19, Tryd.ntmps19
  go_wp2
  go_ret
  exact ⟨rfl, rfl⟩
set_option maxHeartbeats 1000000 in
theorem vs_no {w : World} {n : Int} (h : ¬ Vs n) : Calls Tryd.prog 19 #[.int .i64 n] w fun e w' => e = .returned (.bool false) ∧ w' = w := by
  by_cases h0 : n < 16
  · go_enter Tryd.func19, Tryd.ntmps19
    go_wp2
    go_ret
    exact ⟨rfl, rfl⟩
  by_cases h1 : 256 < n
  · go_enter Tryd.func19, Tryd.ntmps19
    go_wp2
    go_ret
    exact ⟨rfl, rfl⟩
  have h2 : ¬ n % 2 = 0 := fun e => h ⟨by omega, by omega, e⟩
  have h3 : (n % 2 == 0) = false := by simp; omega
  clear h h2
  go_enter Tryd.func19, Tryd.ntmps19
  go_wp2
  go_ret
  exact ⟨rfl, rfl⟩
set_option maxHeartbeats 1000000 in
theorem sizes_any {w : World} {W H : Int} (h0 : 0 ≤ W) (h1 : W ≤ 256) (h2 : 0 ≤ H) (h3 : H ≤ 256) :
    Calls Tryd.prog 20 #[.int .i64 W, .int .i64 H] w fun e w' => e = .returned (.agg #[.int .i64 W, .int .i64 H, .int .i64 (W / 2), .int .i64 (H / 2), .int .i64 (W / 2), .int .i64 (H / 2)]) ∧ Below w.heap.size w w' := by
  go_enter Tryd.func20, Tryd.ntmps20
  go_wp2
  go_returns
  exact ⟨rfl, by go_grown⟩
theorem idx0 (v0 v1 v2 v3 v4 v5 : Value) (w : World) : (Instr.index 59 (.agg #[v0, v1, v2, v3, v4, v5]) (.int .i64 0)).run Tryd.prog w = .ok (.agg #[v0, v1]) w := by rfl
theorem idx1 (v0 v1 v2 v3 v4 v5 : Value) (w : World) : (Instr.index 59 (.agg #[v0, v1, v2, v3, v4, v5]) (.int .i64 1)).run Tryd.prog w = .ok (.agg #[v2, v3]) w := by rfl
theorem idx2 (v0 v1 v2 v3 v4 v5 : Value) (w : World) : (Instr.index 59 (.agg #[v0, v1, v2, v3, v4, v5]) (.int .i64 2)).run Tryd.prog w = .ok (.agg #[v4, v5]) w := by rfl
/-- a frame that may be -/
structure FrOk (p q r : Pv) : Prop where
  w : Vs p.W
  h : Vs p.H
  p0 : POk p.W p.H p.C
  w1 : q.W = p.W / 2
  h1 : q.H = p.H / 2
  p1 : POk q.W q.H q.C
  w2 : r.W = p.W / 2
  h2 : r.H = p.H / 2
  p2 : POk r.W r.H r.C
noncomputable def fk (p q r : Pv) : Int := open Classical in if FrOk p q r then 0 else 2
theorem fk_ok {p q r : Pv} (h : FrOk p q r) : fk p q r = 0 := by unfold fk; rw [if_pos h]
theorem fk_no {p q r : Pv} (h : ¬ FrOk p q r) : fk p q r = 2 := by unfold fk; rw [if_neg h]

end Go.Proofs.YtpideemiijhkgabDoor
