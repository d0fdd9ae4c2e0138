/- DERIVED. The document's Within. -/
import Derived.Test.YtlgfkkegehpllaaQc
namespace Go.Proofs.Ytlgfkkegehpllaa
open Go.RowKit

set_option maxHeartbeats 1000000 in
theorem rwithin_yes {u : World} {a : Option Addr} {n c : Nat} {W H X Y w h : Int} (k : Win W H X Y w h) (hW1 : W ≤ 512) (hH1 : H ≤ 512) :
    Calls Try.prog 54 #[.agg #[.int .i64 W, .int .i64 H, .slice a n c], .agg #[.int .i64 X, .int .i64 Y, .int .i64 w, .int .i64 h]] u fun e w' => e = .returned (.bool true) ∧ Below u.heap.size u w' := by
  obtain ⟨k1, k2, k3, k4, k5, k6⟩ := k
  have k7 : w ≤ W := by omega
  have k8 : h ≤ H := by omega
  have k9 : X ≤ W - w := by omega
  have k10 : Y ≤ H - h := by omega
  clear k5 k6
  go_enter Try.func54, Try.ntmps54
  go_wp2
  go_ret
  exact ⟨rfl, to_alloc (from_alloc _ _) _⟩

set_option maxHeartbeats 1000000 in
theorem rwithin_no {u : World} {a : Option Addr} {n c : Nat} {W H X Y w h : Int} (k : ¬ Win W H X Y w h) (hW1 : W ≤ 512) (hH1 : H ≤ 512) :
    Calls Try.prog 54 #[.agg #[.int .i64 W, .int .i64 H, .slice a n c], .agg #[.int .i64 X, .int .i64 Y, .int .i64 w, .int .i64 h]] u fun e w' => e = .returned (.bool false) ∧ Below u.heap.size u w' := by
  have KK : Hid _ := k
  clear k
  by_cases k1 : w < 1
  · go_enter Try.func54, Try.ntmps54
    go_wp2
    go_ret
    exact ⟨rfl, to_alloc (from_alloc _ _) _⟩
  by_cases k2 : h < 1
  · go_enter Try.func54, Try.ntmps54
    go_wp2
    go_ret
    exact ⟨rfl, to_alloc (from_alloc _ _) _⟩
  by_cases k3 : X < 0
  · go_enter Try.func54, Try.ntmps54
    go_wp2
    go_ret
    exact ⟨rfl, to_alloc (from_alloc _ _) _⟩
  by_cases k4 : Y < 0
  · go_enter Try.func54, Try.ntmps54
    go_wp2
    go_ret
    exact ⟨rfl, to_alloc (from_alloc _ _) _⟩
  by_cases k5 : W < w
  · go_enter Try.func54, Try.ntmps54
    go_wp2
    go_ret
    exact ⟨rfl, to_alloc (from_alloc _ _) _⟩
  by_cases k6 : H < h
  · go_enter Try.func54, Try.ntmps54
    go_wp2
    go_ret
    exact ⟨rfl, to_alloc (from_alloc _ _) _⟩
  by_cases k7 : W - w < X
  · go_enter Try.func54, Try.ntmps54
    go_wp2
    go_ret
    exact ⟨rfl, to_alloc (from_alloc _ _) _⟩
  have k8 : H - h < Y := Int.not_le.1 fun g => KK.out ⟨by omega, by omega, by omega, by omega, by omega, by omega⟩
  go_enter Try.func54, Try.ntmps54
  go_wp2
  go_ret
  refine ⟨?_, to_alloc (from_alloc _ _) _⟩
  show Ending.returned (.bool (decide (Y ≤ H - h))) = .returned (.bool false)
  rw [decide_eq_false (by omega)]

end Go.Proofs.Ytlgfkkegehpllaa
