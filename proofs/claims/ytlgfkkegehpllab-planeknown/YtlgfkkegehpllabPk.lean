/- DERIVED. Frames; the walks of isVideoSide, sizes, codedSide. -/
import Derived.Test.YtlgfkkegehpllabPj
namespace Go.Proofs.Ytlgfkkegehpllab
open Go.RowKit

/-- a plane, as a value -/
structure Pv where
  W : Int
  H : Int
  a : Option Addr
  c : Nat
  C : List Nat

/-- a side of a video -/
structure Vs (n : Int) : Prop where
  lo : 16 ≤ n
  hi : n ≤ 256
  even : n % 2 = 0

set_option maxHeartbeats 1000000 in
theorem vs_yes {w : World} {n : Int} (h : Vs n) : Calls Try.prog 25 #[.int .i64 n] w fun e w' => e = .returned (.bool true) ∧ w' = w := by
  obtain ⟨h0, h1, h2⟩ := h
  have h3 : (n % 2 == 0) = true := by simp [h2]
  have h4 : (n.tmod 2 == 0) = true := by rw [Int.tmod_eq_emod_of_nonneg (by omega)]; exact h3
  have H2 : Hid _ := h2
  clear h2
  go_enter Try.func25, Try.ntmps25
  go_wp2
  go_ret
  exact ⟨rfl, rfl⟩

set_option maxHeartbeats 1000000 in
theorem vs_no {w : World} {n : Int} (h : ¬ Vs n) : Calls Try.prog 25 #[.int .i64 n] w fun e w' => e = .returned (.bool false) ∧ w' = w := by
  by_cases h0 : n < 16
  · go_enter Try.func25, Try.ntmps25
    go_wp2
    go_ret
    exact ⟨rfl, rfl⟩
  by_cases h1 : 256 < n
  · go_enter Try.func25, Try.ntmps25
    go_wp2
    go_ret
    exact ⟨rfl, rfl⟩
  have h2 : ¬ n % 2 = 0 := fun e => h ⟨by omega, by omega, e⟩
  have h3 : (n % 2 == 0) = false := by simp; omega
  clear h h2
  go_enter Try.func25, Try.ntmps25
  go_wp2
  go_ret
  exact ⟨rfl, rfl⟩

set_option maxHeartbeats 1000000 in
theorem sizes_any {w : World} {W H : Int} (h0 : 0 ≤ W) (h1 : W ≤ 256) (h2 : 0 ≤ H) (h3 : H ≤ 256) :
    Calls Try.prog 26 #[.int .i64 W, .int .i64 H] w fun e w' => e = .returned (.agg #[.int .i64 W, .int .i64 H, .int .i64 (W / 2), .int .i64 (H / 2), .int .i64 (W / 2), .int .i64 (H / 2)]) ∧ Below w.heap.size w w' := by
  go_enter Try.func26, Try.ntmps26
  go_wp2
  go_returns
  exact ⟨rfl, by go_grown⟩

theorem idx0 (v0 v1 v2 v3 v4 v5 : Value) (w : World) : (Instr.index 62 (.agg #[v0, v1, v2, v3, v4, v5]) (.int .i64 0)).run Try.prog w = .ok (.agg #[v0, v1]) w := by rfl
theorem idx1 (v0 v1 v2 v3 v4 v5 : Value) (w : World) : (Instr.index 62 (.agg #[v0, v1, v2, v3, v4, v5]) (.int .i64 1)).run Try.prog w = .ok (.agg #[v2, v3]) w := by rfl
theorem idx2 (v0 v1 v2 v3 v4 v5 : Value) (w : World) : (Instr.index 62 (.agg #[v0, v1, v2, v3, v4, v5]) (.int .i64 2)).run Try.prog w = .ok (.agg #[v4, v5]) w := by rfl
/-- the next multiple of 8 -/
def cs (n : Nat) : Nat := (n + 7) / 8 * 8
theorem cs_le {n : Nat} (h : n ≤ 256) : n ≤ cs n ∧ cs n ≤ 256 ∧ cs n % 8 = 0 ∧ cs n ≤ n + 7 := by unfold cs; omega

set_option maxHeartbeats 1000000 in
theorem codedSide_any {w : World} {n : Nat} (h1 : n ≤ 256) :
    Calls Try.prog 28 #[.int .i64 (n : Int)] w fun e w' => e = .returned (.int .i64 (cs n : Nat)) ∧ w' = w := by
  have h2 : (n : Int) ≤ 256 := by omega
  go_enter Try.func28, Try.ntmps28
  go_wp2
  go_ret
  refine ⟨ret_int ?_, rfl⟩
  unfold cs
  omega

/-- a frame that may be -/
structure FOk (p q r : Pv) : Prop where
  w : Vs p.W
  h : Vs p.H
  p0 : POk p.W p.H p.C
  w1 : q.W = p.W / 2
  h1 : q.H = p.H / 2
  p1 : POk q.W q.H q.C
  w2 : r.W = p.W / 2
  h2 : r.H = p.H / 2
  p2 : POk r.W r.H r.C
noncomputable def fk (p q r : Pv) : Int := open Classical in if FOk p q r then 0 else 2
theorem fk_ok {p q r : Pv} (h : FOk p q r) : fk p q r = 0 := by unfold fk; rw [if_pos h]
theorem fk_no {p q r : Pv} (h : ¬ FOk p q r) : fk p q r = 2 := by unfold fk; rw [if_neg h]

end Go.Proofs.Ytlgfkkegehpllab
