/- DERIVED. The walk of BasisCos. -/
import Derived.Test.YtjbipejpegmmoaaDoorFa
namespace Go.Proofs.YtjbipejpegmmoaaDoor
open Go.RowKit

set_option maxRecDepth 100000 in
set_option maxHeartbeats 2000000 in
theorem cos_walk {w : World} {j : Int} (hq : Qt w) : Calls Tryd.prog 3 #[.int .i64 j] w fun e w' => e = .returned (.bool true) ∧ Below w.heap.size w w' := by
  have HQ : Hid (Qt w) := hq
  clear hq
  go_enter Tryd.func3, Tryd.ntmps3
  go_wp2_with fail
  go_loopw [3] (fun i wr => ∃ k : Int, -300 ≤ k ∧ k ≤ 600 ∧ i = .int .i64 k ∧ Below w.heap.size w wr) (fun i _ => (600 - intOf i).toNat)
  case atStart => exact ⟨-300, by omega, by omega, rfl, Below.refl _ _⟩
  case round =>
    obtain ⟨k, hk0, hk1, rfl, hb⟩ := hrel
    have HQr : Hid (Qt wr) := HQ.out.to hb
    have HB : Hid (Below w.heap.size w wr) := hb
    clear hb
    by_cases hlt : k < 600
    · have hn : (cosJ k != cosJ k) = false := by simp
      go_wp2_with fail
      refine (cos_any HQr.out).mono ?_
      rintro e w1 ⟨rfl, rfl⟩
      go_wp2_with fail
      refine rcos_any.mono ?_
      rintro e w2 ⟨rfl, hb2⟩
      have HB2 : Hid (Below w.heap.size w w2) := below_to HB.out hb2
      clear hb2
      generalize cosJ k = q at *
      go_wp2_with fail
      go_roundw
      case rel => exact ⟨k + 1, by omega, by omega, by go_num, HB2.out⟩
      case measure => simp [intOf]; omega
    · have hn : (cosJ j == cosJ j) = true := by simp
      go_wp2_with fail
      refine (cos_any HQr.out).mono ?_
      rintro e w1 ⟨rfl, rfl⟩
      go_wp2_with fail
      refine rcos_any.mono ?_
      rintro e w2 ⟨rfl, hb2⟩
      have HB2 : Hid (Below w.heap.size w w2) := below_to HB.out hb2
      have HQ2 : Hid (Qt w2) := HQ.out.to HB2.out
      clear hb2
      generalize cosJ j = q at *
      go_wp2_with fail
      refine (works_any HQ2.out).mono ?_
      rintro e w3 ⟨rfl, hb3⟩
      have HB3 : Hid (Below w.heap.size w w3) := below_to HB2.out hb3
      clear hb3
      go_wp2_with fail
      go_ret
      exact ⟨rfl, HB3.out⟩

end Go.Proofs.YtjbipejpegmmoaaDoor
