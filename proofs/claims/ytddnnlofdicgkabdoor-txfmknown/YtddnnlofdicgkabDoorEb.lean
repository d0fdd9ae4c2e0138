/- DERIVED. The walks of lengths and Abs; what rows of a kind become, in numbers. -/
import Derived.Test.YtddnnlofdicgkabDoorDb
namespace Go.Proofs.YtddnnlofdicgkabDoor
open Go.RowKit

def ab (v : Int) : Int := if v < 0 then -v else v
theorem ab_le {v M : Int} (h : -M ≤ v ∧ v ≤ M) : ab v ≤ M := by unfold ab; split <;> omega
theorem abs_any {w : World} {v : Int} (h : -4611686018427387904 ≤ v ∧ v ≤ 4611686018427387904) : Calls Tryd.prog 13 #[.int .i64 v] w fun e w' => e = .returned (.int .i64 (ab v)) ∧ w' = w := by
  obtain ⟨h0, h1⟩ := h
  by_cases hz : v < 0
  · have HA : Hid (ab v = -v) := by show _ = _; unfold ab; rw [if_pos hz]
    go_enter Tryd.func13, Tryd.ntmps13
    go_wp2_with fail
    go_ret
    exact ⟨by rw [HA.out]; rfl, rfl⟩
  · have HA : Hid (ab v = v) := by show _ = _; unfold ab; rw [if_neg hz]
    go_enter Tryd.func13, Tryd.ntmps13
    go_wp2_with fail
    go_ret
    exact ⟨by rw [HA.out]; rfl, rfl⟩

end Go.Proofs.YtddnnlofdicgkabDoor
