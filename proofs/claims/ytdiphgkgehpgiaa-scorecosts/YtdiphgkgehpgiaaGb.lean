/- DERIVED. The walk of ScoreCosts. -/
import Derived.Test.YtdiphgkgehpgiaaFk
namespace Go.Proofs.Ytdiphgkgehpgiaa
open Go.RowKit Ieee

theorem wrap_small {n : Int} (h0 : 0 ≤ n) (h1 : n ≤ 100000) : IntKind.i64.wrap n = n := by
  rw [IntKind.wrap_i64]; omega
theorem shr_any (P : Program) {c : Int} (hc : 0 ≤ c) : ∃ f : Int → Int, ∀ t x w, (binOp .shr t (.int .u64 x) (.int .i64 c)).run P w = .ok (.int .u64 (f x)) w := by
  refine ⟨fun x => x.fdiv (2 ^ min c.toNat IntKind.u64.bits), fun t x w => ?_⟩
  have : ¬ c < 0 := by omega
  simp [binOp, Op.shift, this]
set_option maxRecDepth 100000 in
set_option maxHeartbeats 4000000 in
theorem costs_walk (d rate : Int) (l : Nat) (u : World) (_hd0 : 0 ≤ d) (_hd1 : d < 18446744073709551616) (_hr0 : 0 ≤ rate) (_hr1 : rate < 18446744073709551616) : Calls Try.prog 4 #[.int .u64 d, .int .u64 rate, .float .f64 l] u fun e w' => e = .returned (.bool true) ∧ Below u.heap.size u w' := by
  go_enter Try.func4, Try.ntmps4
  go_wp2
  go_loopw [7] (fun i wr => ∃ k m : Nat, k ≤ 8 ∧ i = .int .i64 k ∧ wr = u.drewN m) (fun i _ => 8 - (intOf i).toNat)
  case atStart => exact ⟨0, 0, by omega, rfl, rfl⟩
  case round =>
    obtain ⟨k, m, hk, rfl, rfl⟩ := hrel
    by_cases hlt : k < 8
    · have b0 : (0 : Int) ≤ (k : Int) := by omega
      have b1 : (k : Int) < 8 := by omega
      generalize hW : u.drewN m = v at *
      have HW : Hid (u.drewN m = v) := hW
      clear hW
      obtain ⟨f, hf⟩ := shr_any Try.prog (c := 8 * (k : Int)) (by omega)
      have hw : IntKind.i64.wrap (8 * (k : Int)) = 8 * (k : Int) := wrap_small (by omega) (by omega)
      go_wp2
      go_region_held3 (fun _ => True) (trivial) (first
          | (go_at_call 15; refine (cost_any _ _ _ _).mono ?_; rintro e wA ⟨rA, nA, rfl, rfl, hA⟩)
          | (go_at_call 16; refine (rcost_any _ _ _ _).mono ?_; rintro e wB ⟨rB, nB, rfl, rfl, hB⟩)
          | (go_at_call 10; refine (same_is (by assumption) (by assumption) _).mono ?_; rintro e wC ⟨rfl, rfl⟩))
      all_goals
        go_wp2
        go_roundw
        case rel => exact ⟨k + 1, _, by omega, by go_num, by rw [← HW.out]; exact drewN_drewN _ _ _⟩
        case measure => simp [intOf]; omega
    · go_wp2_with (go_at_call 14; refine (works_true _).mono ?_; rintro e w' ⟨rfl, hb⟩)
      go_ret
      exact ⟨rfl, below_to (below_drewN (Below.refl _ _) _) hb⟩

end Go.Proofs.Ytdiphgkgehpgiaa
