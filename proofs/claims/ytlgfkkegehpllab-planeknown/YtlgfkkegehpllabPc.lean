/- DERIVED. The walk of At. -/
import Derived.Test.YtlgfkkegehpllabPb
namespace Go.Proofs.Ytlgfkkegehpllab
open Go.RowKit

set_option maxRecDepth 100000 in
set_option maxHeartbeats 1000000 in
theorem at_ok {w : World} {a : Option Addr} {c : Nat} {C : List Nat} {x y : Nat} {i j : Int} (hs : Sl w .u8 a C) (hx0 : 1 ≤ x) (hx1 : x ≤ 512) (hy0 : 1 ≤ y) (hy1 : y ≤ 512) (hl : C.length = x * y) :
    Calls Try.prog 5 #[.agg #[.int .i64 (x : Int), .int .i64 (y : Int), .slice a C.length c], .int .i64 i, .int .i64 j] w fun e w' => e = .returned (.int .u8 (C.getD (nr j y * x + nr i x) 0 : Nat)) ∧ Below w.heap.size w w' := by
  have hck : ck (x : Int) (y : Int) C = 0 := ck_ok (POk.of hx0 hx1 hy0 hy1 hl)
  have hnx := nr_lt (i := i) hx0
  have hny := nr_lt (i := j) hy0
  have hin : nr j y * x + nr i x < x * y := at_lt hny hnx
  have hp := prod_le hx1 hy1
  obtain ⟨b, o, rfl, hbl, hcell⟩ := hs.form (by omega)
  have hce := hcell (nr j y * x + nr i x) (by omega)
  have NI : Hid (∀ u : World, Calls Try.prog 18 #[.int .i64 i, .int .i64 (x : Int)] u fun e w' => e = .returned (.int .i64 (nr i x : Nat)) ∧ w' = u) := fun u => nearest_any hx0 hx1
  have NJ : Hid (∀ u : World, Calls Try.prog 18 #[.int .i64 j, .int .i64 (y : Int)] u fun e w' => e = .returned (.int .i64 (nr j y : Nat)) ∧ w' = u) := fun u => nearest_any hy0 hy1
  generalize hi' : nr i x = q2 at *
  generalize hj' : nr j y = q1 at *
  clear hi' hj'
  generalize hz : q1 * x = z at *
  have hw1 : IntKind.i64.wrap ((q1 : Int) * (x : Int)) = (z : Int) := by rw [← Int.natCast_mul, hz, IntKind.wrap_i64]; omega
  generalize ht : z + q2 = t at *
  have hw2 : IntKind.i64.wrap ((z : Int) + (q2 : Int)) = (t : Int) := by rw [← Int.natCast_add, ht, IntKind.wrap_i64]; omega
  have b0 : (0 : Int) ≤ (t : Int) := by omega
  have b1 : (t : Int) < (C.length : Int) := by omega
  generalize C.getD t 0 = val at *
  have HCE : Hid _ := hce
  have HBL : Hid _ := hbl
  clear hz ht hs hcell hnx hny hin hp hce hbl hl
  go_enter Try.func5, Try.ntmps5
  go_wp2_with fail
  refine check_any.mono ?_
  rintro e w1 ⟨rfl, hb⟩
  rw [hck]
  have d0 : w1.cell? ⟨w.heap.size, 0, none⟩ = some (.int .i64 (x : Int)) := by rw [newCell hb _ _ (by simp)]; simp
  have d1 : w1.cell? ⟨w.heap.size, 1, none⟩ = some (.int .i64 (y : Int)) := by rw [newCell hb _ _ (by simp)]; simp
  have d2 : w1.cell? ⟨w.heap.size, 2, none⟩ = some (.slice (some ⟨b, o, none⟩) C.length c) := by rw [newCell hb _ _ (by simp)]; simp
  have d3 : w1.cell? ⟨b, o + t, none⟩ = some (.int .u8 (val : Nat)) := by
    have hbl := HBL.out
    rw [newCell hb _ _ (by simp; omega), newCell (from_alloc _ _) _ _ hbl]; exact HCE.out
  have HB : Hid _ := below_to (from_alloc w _) hb
  clear hb hck
  go_wp2_with fail
  go_quiet ((first | (go_at_call 18; with_reducible exact Calls.quiet_of_same (NI.out _)) | (go_at_call 18; with_reducible exact Calls.quiet_of_same (NJ.out _))))
  go_wp2
  go_ret
  exact ⟨rfl, below_drewN HB.out _⟩

end Go.Proofs.Ytlgfkkegehpllab
