/- DERIVED. The walk of the statement CdfKnown. -/
import Derived.Test.YtpijgdfhkmailabKa
namespace Go.Proofs.Ytpijgdfhkmailab
open Go.RowKit

theorem flC3 : flC 3 = [10922, 21845, 32768] := by decide +kernel
theorem stC4 : stC 4 = [16384, 24576, 28672, 32768] := by decide +kernel
def S16 : List Nat := [16384, 24576, 28672, 30720, 31744, 32256, 32512, 32640, 32704, 32736, 32752, 32760, 32764, 32766, 32767, 32768]
theorem stC16 : stC 16 = S16 := by decide +kernel

set_option maxRecDepth 100000 in
set_option maxHeartbeats 20000000 in
theorem known_walk (w : World) : Calls Try.prog 3 #[] w fun e w' => e = .returned (.bool true) ∧ Below w.heap.size w w' := by
  obtain ⟨i, hi, hz0, hz1, hz2⟩ := info_parts Try.info29
  have HB0 : Hid (Below w.heap.size w w) := Below.refl _ _
  go_enter Try.func3, Try.ntmps3
  go_wp2_with fail
  refine ((flat_ok (n := 3) (by omega) (by omega)).mono fun e w' h => Nb.ofTn (L := 3) (m := 0) h flC3 rfl rfl).mono ?_
  rintro e w1 ⟨a1, c1, rfl, hs, hb⟩
  have HB1 : Hid (Below w.heap.size w (w1.alloc (.cells #[.slice a1 3 c1, .int .i64 0] 24))) := below_to HB0.out (to_alloc hb _)
  have Hf1 : Hid (Loc (w1.alloc (.cells #[.slice a1 3 c1, .int .i64 0] 24)) w1.heap.size ⟨a1, c1, [10922, 21845, 32768], 0⟩) := Loc.new ⟨a1, c1, [10922, 21845, 32768], 0⟩ hs
  clear hs hb HB0
  have qf0 : (w1.alloc (.cells #[.slice a1 3 c1, .int .i64 0] 24)).cell? ⟨w1.heap.size, 0, none⟩ = some (.slice a1 3 c1) := Hf1.out.c0
  have qf1 : (w1.alloc (.cells #[.slice a1 3 c1, .int .i64 0] 24)).cell? ⟨w1.heap.size, 1, none⟩ = some (.int .i64 0) := Hf1.out.c1
  go_wp2_with fail
  generalize (w1.alloc (.cells #[.slice a1 3 c1, .int .i64 0] 24)) = v1 at *
  generalize w1.heap.size = x1 at *
  refine ((steep_ok (n := 4) (by omega) (by omega)).mono fun e w' h => Nb.ofTn (L := 4) (m := 0) h stC4 rfl rfl).mono ?_
  rintro e w2 ⟨a2, c2, rfl, hs, hb⟩
  clear qf0 qf1
  have Hf2 : Hid (Loc (w2.alloc (.cells #[.slice a2 4 c2, .int .i64 0] 24)) x1 ⟨a1, c1, [10922, 21845, 32768], 0⟩) := Hf1.out.to (to_alloc hb _)
  have HB2 : Hid (Below w.heap.size w (w2.alloc (.cells #[.slice a2 4 c2, .int .i64 0] 24))) := below_to HB1.out (to_alloc hb _)
  have Hs2 : Hid (Loc (w2.alloc (.cells #[.slice a2 4 c2, .int .i64 0] 24)) w2.heap.size ⟨a2, c2, [16384, 24576, 28672, 32768], 0⟩) := Loc.new ⟨a2, c2, [16384, 24576, 28672, 32768], 0⟩ hs
  clear hs hb Hf1 HB1
  have qf0 : (w2.alloc (.cells #[.slice a2 4 c2, .int .i64 0] 24)).cell? ⟨x1, 0, none⟩ = some (.slice a1 3 c1) := Hf2.out.c0
  have qf1 : (w2.alloc (.cells #[.slice a2 4 c2, .int .i64 0] 24)).cell? ⟨x1, 1, none⟩ = some (.int .i64 0) := Hf2.out.c1
  have qs0 : (w2.alloc (.cells #[.slice a2 4 c2, .int .i64 0] 24)).cell? ⟨w2.heap.size, 0, none⟩ = some (.slice a2 4 c2) := Hs2.out.c0
  have qs1 : (w2.alloc (.cells #[.slice a2 4 c2, .int .i64 0] 24)).cell? ⟨w2.heap.size, 1, none⟩ = some (.int .i64 0) := Hs2.out.c1
  go_wp2_with fail
  generalize (w2.alloc (.cells #[.slice a2 4 c2, .int .i64 0] 24)) = v2 at *
  generalize w2.heap.size = x2 at *
  refine ((flat_no (n := 1) (by omega)).mono fun e w' h => Nb.ofNo h).mono ?_
  rintro e w3 ⟨a3, c3, rfl, hs, hb⟩
  clear qf0 qf1 qs0 qs1
  have Hf3 : Hid (Loc (w3.alloc (.cells #[.slice a3 0 c3, .int .i64 0] 24)) x1 ⟨a1, c1, [10922, 21845, 32768], 0⟩) := Hf2.out.to (to_alloc hb _)
  have Hs3 : Hid (Loc (w3.alloc (.cells #[.slice a3 0 c3, .int .i64 0] 24)) x2 ⟨a2, c2, [16384, 24576, 28672, 32768], 0⟩) := Hs2.out.to (to_alloc hb _)
  have HB3 : Hid (Below w.heap.size w (w3.alloc (.cells #[.slice a3 0 c3, .int .i64 0] 24))) := below_to HB2.out (to_alloc hb _)
  clear hs hb Hf2 Hs2 HB2
  have qf0 : (w3.alloc (.cells #[.slice a3 0 c3, .int .i64 0] 24)).cell? ⟨x1, 0, none⟩ = some (.slice a1 3 c1) := Hf3.out.c0
  have qf1 : (w3.alloc (.cells #[.slice a3 0 c3, .int .i64 0] 24)).cell? ⟨x1, 1, none⟩ = some (.int .i64 0) := Hf3.out.c1
  have qs0 : (w3.alloc (.cells #[.slice a3 0 c3, .int .i64 0] 24)).cell? ⟨x2, 0, none⟩ = some (.slice a2 4 c2) := Hs3.out.c0
  have qs1 : (w3.alloc (.cells #[.slice a3 0 c3, .int .i64 0] 24)).cell? ⟨x2, 1, none⟩ = some (.int .i64 0) := Hs3.out.c1
  go_wp2_with fail
  generalize (w3.alloc (.cells #[.slice a3 0 c3, .int .i64 0] 24)) = v3 at *
  generalize w3.heap.size = x3 at *
  refine ((steep_no (n := 17) (by omega)).mono fun e w' h => Nb.ofNo h).mono ?_
  rintro e w4 ⟨a4, c4, rfl, hs, hb⟩
  clear qf0 qf1 qs0 qs1
  have Hf4 : Hid (Loc (w4.alloc (.cells #[.slice a4 0 c4, .int .i64 0] 24)) x1 ⟨a1, c1, [10922, 21845, 32768], 0⟩) := Hf3.out.to (to_alloc hb _)
  have Hs4 : Hid (Loc (w4.alloc (.cells #[.slice a4 0 c4, .int .i64 0] 24)) x2 ⟨a2, c2, [16384, 24576, 28672, 32768], 0⟩) := Hs3.out.to (to_alloc hb _)
  have HB4 : Hid (Below w.heap.size w (w4.alloc (.cells #[.slice a4 0 c4, .int .i64 0] 24))) := below_to HB3.out (to_alloc hb _)
  clear hs hb Hf3 Hs3 HB3
  have qf0 : (w4.alloc (.cells #[.slice a4 0 c4, .int .i64 0] 24)).cell? ⟨x1, 0, none⟩ = some (.slice a1 3 c1) := Hf4.out.c0
  have qf1 : (w4.alloc (.cells #[.slice a4 0 c4, .int .i64 0] 24)).cell? ⟨x1, 1, none⟩ = some (.int .i64 0) := Hf4.out.c1
  have qs0 : (w4.alloc (.cells #[.slice a4 0 c4, .int .i64 0] 24)).cell? ⟨x2, 0, none⟩ = some (.slice a2 4 c2) := Hs4.out.c0
  have qs1 : (w4.alloc (.cells #[.slice a4 0 c4, .int .i64 0] 24)).cell? ⟨x2, 1, none⟩ = some (.int .i64 0) := Hs4.out.c1
  go_wp2_with fail
  generalize (w4.alloc (.cells #[.slice a4 0 c4, .int .i64 0] 24)) = v4 at *
  generalize w4.heap.size = x4 at *
  refine ((steep_ok (n := 16) (by omega) (by omega)).mono fun e w' h => Nb.ofTn (L := 16) (m := 0) h stC16 rfl rfl).mono ?_
  rintro e w5 ⟨a5, c5, rfl, hs, hb⟩
  obtain ⟨mb, mo, rfl, _, _⟩ := hs.form (by decide)
  clear qf0 qf1 qs0 qs1
  have Hf5 : Hid (Loc (w5.alloc (.cells #[.slice (some ⟨mb, mo, none⟩) 16 c5, .int .i64 0] 24)) x1 ⟨a1, c1, [10922, 21845, 32768], 0⟩) := Hf4.out.to (to_alloc hb _)
  have Hs5 : Hid (Loc (w5.alloc (.cells #[.slice (some ⟨mb, mo, none⟩) 16 c5, .int .i64 0] 24)) x2 ⟨a2, c2, [16384, 24576, 28672, 32768], 0⟩) := Hs4.out.to (to_alloc hb _)
  have HB5 : Hid (Below w.heap.size w (w5.alloc (.cells #[.slice (some ⟨mb, mo, none⟩) 16 c5, .int .i64 0] 24))) := below_to HB4.out (to_alloc hb _)
  have Hm5 : Hid (Loc (w5.alloc (.cells #[.slice (some ⟨mb, mo, none⟩) 16 c5, .int .i64 0] 24)) w5.heap.size ⟨some ⟨mb, mo, none⟩, c5, S16, 0⟩) := Loc.new ⟨some ⟨mb, mo, none⟩, c5, S16, 0⟩ hs
  have HS5 : Hid ((w5.alloc (.cells #[.slice (some ⟨mb, mo, none⟩) 16 c5, .int .i64 0] 24)).heap.size = w5.heap.size + 1) := by unfold Hid; simp
  clear hs hb Hf4 Hs4 HB4
  have qf0 : (w5.alloc (.cells #[.slice (some ⟨mb, mo, none⟩) 16 c5, .int .i64 0] 24)).cell? ⟨x1, 0, none⟩ = some (.slice a1 3 c1) := Hf5.out.c0
  have qf1 : (w5.alloc (.cells #[.slice (some ⟨mb, mo, none⟩) 16 c5, .int .i64 0] 24)).cell? ⟨x1, 1, none⟩ = some (.int .i64 0) := Hf5.out.c1
  have qs0 : (w5.alloc (.cells #[.slice (some ⟨mb, mo, none⟩) 16 c5, .int .i64 0] 24)).cell? ⟨x2, 0, none⟩ = some (.slice a2 4 c2) := Hs5.out.c0
  have qs1 : (w5.alloc (.cells #[.slice (some ⟨mb, mo, none⟩) 16 c5, .int .i64 0] 24)).cell? ⟨x2, 1, none⟩ = some (.int .i64 0) := Hs5.out.c1
  have qm0 : (w5.alloc (.cells #[.slice (some ⟨mb, mo, none⟩) 16 c5, .int .i64 0] 24)).cell? ⟨w5.heap.size, 0, none⟩ = some (.slice (some ⟨mb, mo, none⟩) 16 c5) := Hm5.out.c0
  have qm1 : (w5.alloc (.cells #[.slice (some ⟨mb, mo, none⟩) 16 c5, .int .i64 0] 24)).cell? ⟨w5.heap.size, 1, none⟩ = some (.int .i64 0) := Hm5.out.c1
  go_wp2_with fail
  generalize (w5.alloc (.cells #[.slice (some ⟨mb, mo, none⟩) 16 c5, .int .i64 0] 24)) = v5 at *
  generalize w5.heap.size = x5 at *
  rw [← HS5.out]
  refine (has_true (C := [10922, 21845, 32768]) (Hf5.out.sl.alloc _) (built3 v5 10922 21845 32768 10922 21845 32768 29 rfl rfl rfl) (by simp)).mono ?_
  rintro e w6 ⟨rfl, hb⟩
  clear qf0 qf1 qs0 qs1 qm0 qm1
  have Hf6 : Hid (Loc w6 x1 ⟨a1, c1, [10922, 21845, 32768], 0⟩) := Hf5.out.to (below_to (from_alloc v5 (.cells #[.int .u16 10922, .int .u16 21845, .int .u16 32768] 29)) hb)
  have Hs6 : Hid (Loc w6 x2 ⟨a2, c2, [16384, 24576, 28672, 32768], 0⟩) := Hs5.out.to (below_to (from_alloc v5 (.cells #[.int .u16 10922, .int .u16 21845, .int .u16 32768] 29)) hb)
  have Hm6 : Hid (Loc w6 x5 ⟨(some ⟨mb, mo, none⟩), c5, S16, 0⟩) := Hm5.out.to (below_to (from_alloc v5 (.cells #[.int .u16 10922, .int .u16 21845, .int .u16 32768] 29)) hb)
  have HB6 : Hid (Below w.heap.size w w6) := below_to HB5.out (below_to (from_alloc v5 (.cells #[.int .u16 10922, .int .u16 21845, .int .u16 32768] 29)) hb)
  clear hb Hf5 Hs5 Hm5 HB5
  have qf0 : w6.cell? ⟨x1, 0, none⟩ = some (.slice a1 3 c1) := Hf6.out.c0
  have qf1 : w6.cell? ⟨x1, 1, none⟩ = some (.int .i64 0) := Hf6.out.c1
  have qs0 : w6.cell? ⟨x2, 0, none⟩ = some (.slice a2 4 c2) := Hs6.out.c0
  have qs1 : w6.cell? ⟨x2, 1, none⟩ = some (.int .i64 0) := Hs6.out.c1
  have qm0 : w6.cell? ⟨x5, 0, none⟩ = some (.slice (some ⟨mb, mo, none⟩) 16 c5) := Hm6.out.c0
  have qm1 : w6.cell? ⟨x5, 1, none⟩ = some (.int .i64 0) := Hm6.out.c1
  go_wp2_with fail
  refine (has_true (C := [16384, 24576, 28672, 32768]) (Hs6.out.sl.alloc _) (built4 w6 16384 24576 28672 32768 16384 24576 28672 32768 29 rfl rfl rfl rfl) (by simp)).mono ?_
  rintro e w7 ⟨rfl, hb⟩
  clear qf0 qf1 qs0 qs1 qm0 qm1
  have Hf7 : Hid (Loc w7 x1 ⟨a1, c1, [10922, 21845, 32768], 0⟩) := Hf6.out.to (below_to (from_alloc w6 (.cells #[.int .u16 16384, .int .u16 24576, .int .u16 28672, .int .u16 32768] 29)) hb)
  have Hs7 : Hid (Loc w7 x2 ⟨a2, c2, [16384, 24576, 28672, 32768], 0⟩) := Hs6.out.to (below_to (from_alloc w6 (.cells #[.int .u16 16384, .int .u16 24576, .int .u16 28672, .int .u16 32768] 29)) hb)
  have Hm7 : Hid (Loc w7 x5 ⟨(some ⟨mb, mo, none⟩), c5, S16, 0⟩) := Hm6.out.to (below_to (from_alloc w6 (.cells #[.int .u16 16384, .int .u16 24576, .int .u16 28672, .int .u16 32768] 29)) hb)
  have HB7 : Hid (Below w.heap.size w w7) := below_to HB6.out (below_to (from_alloc w6 (.cells #[.int .u16 16384, .int .u16 24576, .int .u16 28672, .int .u16 32768] 29)) hb)
  clear hb Hf6 Hs6 Hm6 HB6
  have qf0 : w7.cell? ⟨x1, 0, none⟩ = some (.slice a1 3 c1) := Hf7.out.c0
  have qf1 : w7.cell? ⟨x1, 1, none⟩ = some (.int .i64 0) := Hf7.out.c1
  have qs0 : w7.cell? ⟨x2, 0, none⟩ = some (.slice a2 4 c2) := Hs7.out.c0
  have qs1 : w7.cell? ⟨x2, 1, none⟩ = some (.int .i64 0) := Hs7.out.c1
  have qm0 : w7.cell? ⟨x5, 0, none⟩ = some (.slice (some ⟨mb, mo, none⟩) 16 c5) := Hm7.out.c0
  have qm1 : w7.cell? ⟨x5, 1, none⟩ = some (.int .i64 0) := Hm7.out.c1
  have qm14 : w7.cell? ⟨mb, mo + 14, none⟩ = some (.int .u16 32767) := Sl.at (C := S16) Hm7.out.sl 14 (by decide)
  have hsz := HB7.out.size
  go_wp2_with (at_make; refine wpList_make_full _ (by rfl) _ _ _ (by rfl) (w.heap.size) 29 i (.int .u16 0) 1 Try.underlying22 hi hz0 hz1 .i64 .i64 _ _ 17 (by rfl) (by rfl) rfl rfl (by rw [hz2]; omega) (by unfold maxLen; omega) (by simp; omega) ?_; intro wm hown hgrow)
  have hbt := bad_ts hown hgrow
  have HTS : Hid (Ts ((wm.alloc (.cells #[.int .u16 32769, .int .u16 32768] 29)).alloc (.cells #[.slice none 0 0, .int .i64 0, .slice (some ⟨w7.heap.size, 0, none⟩) 1 1, .int .i64 0, .slice (some ⟨w7.heap.size + 1, 0, none⟩) 3 3, .int .i64 0, .slice (some ⟨w7.heap.size + 1 + 1, 0, none⟩) 2 2, .int .i64 0, .slice (some ⟨w7.heap.size + 1 + 1 + 1, 0, none⟩) 2 2, .int .i64 (-1), .slice (some ⟨w7.heap.size + 1 + 1 + 1 + 1, 0, none⟩) 2 2, .int .i64 33, .slice (some ⟨w7.heap.size + 1 + 1 + 1 + 1 + 1, 0, none⟩) 17 17, .int .i64 0, .slice (some ⟨wm.heap.size, 0, none⟩) 2 2, .int .i64 0] 24)) (wm.heap.size + 1) 0 (badL w7.heap.size wm.heap.size)) := hbt.1
  have HNO : Hid (∀ t ∈ badL w7.heap.size wm.heap.size, ¬ TOk t.C t.n) := badL_no _ _
  have HLEN : Hid ((badL w7.heap.size wm.heap.size).length = 8) := rfl
  have HFv : Hid (Loc ((wm.alloc (.cells #[.int .u16 32769, .int .u16 32768] 29)).alloc (.cells #[.slice none 0 0, .int .i64 0, .slice (some ⟨w7.heap.size, 0, none⟩) 1 1, .int .i64 0, .slice (some ⟨w7.heap.size + 1, 0, none⟩) 3 3, .int .i64 0, .slice (some ⟨w7.heap.size + 1 + 1, 0, none⟩) 2 2, .int .i64 0, .slice (some ⟨w7.heap.size + 1 + 1 + 1, 0, none⟩) 2 2, .int .i64 (-1), .slice (some ⟨w7.heap.size + 1 + 1 + 1 + 1, 0, none⟩) 2 2, .int .i64 33, .slice (some ⟨w7.heap.size + 1 + 1 + 1 + 1 + 1, 0, none⟩) 17 17, .int .i64 0, .slice (some ⟨wm.heap.size, 0, none⟩) 2 2, .int .i64 0] 24)) x1 ⟨a1, c1, [10922, 21845, 32768], 0⟩) := Hf7.out.to hbt.2
  have HBv : Hid (Below w.heap.size w ((wm.alloc (.cells #[.int .u16 32769, .int .u16 32768] 29)).alloc (.cells #[.slice none 0 0, .int .i64 0, .slice (some ⟨w7.heap.size, 0, none⟩) 1 1, .int .i64 0, .slice (some ⟨w7.heap.size + 1, 0, none⟩) 3 3, .int .i64 0, .slice (some ⟨w7.heap.size + 1 + 1, 0, none⟩) 2 2, .int .i64 0, .slice (some ⟨w7.heap.size + 1 + 1 + 1, 0, none⟩) 2 2, .int .i64 (-1), .slice (some ⟨w7.heap.size + 1 + 1 + 1 + 1, 0, none⟩) 2 2, .int .i64 33, .slice (some ⟨w7.heap.size + 1 + 1 + 1 + 1 + 1, 0, none⟩) 17 17, .int .i64 0, .slice (some ⟨wm.heap.size, 0, none⟩) 2 2, .int .i64 0] 24))) := below_to HB7.out hbt.2
  clear hbt hown hgrow hsz qm14 qf0 qf1 qs0 qs1 qm0 qm1 Hf7 Hs7 Hm7 HB7
  generalize badL w7.heap.size wm.heap.size = L at *
  generalize ((wm.alloc (.cells #[.int .u16 32769, .int .u16 32768] 29)).alloc (.cells #[.slice none 0 0, .int .i64 0, .slice (some ⟨w7.heap.size, 0, none⟩) 1 1, .int .i64 0, .slice (some ⟨w7.heap.size + 1, 0, none⟩) 3 3, .int .i64 0, .slice (some ⟨w7.heap.size + 1 + 1, 0, none⟩) 2 2, .int .i64 0, .slice (some ⟨w7.heap.size + 1 + 1 + 1, 0, none⟩) 2 2, .int .i64 (-1), .slice (some ⟨w7.heap.size + 1 + 1 + 1 + 1, 0, none⟩) 2 2, .int .i64 33, .slice (some ⟨w7.heap.size + 1 + 1 + 1 + 1 + 1, 0, none⟩) 17 17, .int .i64 0, .slice (some ⟨wm.heap.size, 0, none⟩) 2 2, .int .i64 0] 24)) = vV at *
  generalize wm.heap.size + 1 = X at *
  go_loopw [13] (fun iv wr => KI w X x1 L ⟨a1, c1, [10922, 21845, 32768], 0⟩ iv wr) (fun iv _ => 8 - (intOf iv).toNat)
  case atStart => exact ⟨0, by omega, rfl, HTS.out, HFv.out, HBv.out⟩
  case round =>
    obtain ⟨k, hk, rfl, hts, hf, hb0⟩ := hrel
    clear HTS HFv HBv
    have HTr : Hid _ := hts
    have HFr : Hid _ := hf
    have HBr : Hid _ := hb0
    clear hts hf hb0
    by_cases hlt : k < 8
    · have b0 : 0 ≤ (k : Int) := by omega
      have b1 : (k : Int) < 8 := by omega
      have hkL : k < L.length := by rw [HLEN.out]; exact hlt
      have hget := List.getElem?_eq_getElem hkL
      have HIN : Hid (∀ u, Ts u X 0 L → Tb.In u L[k] ∧ u.cell? ⟨X, k * 2, none⟩ = some (.slice L[k].a L[k].C.length L[k].c) ∧ u.cell? ⟨X, k * 2 + 1, none⟩ = some (.int .i64 L[k].n)) := fun u hu =>
        ⟨hu.ins _ (List.getElem_mem _), by simpa using hu.cell0 k _ hget, by simpa using hu.cell1 k _ hget⟩
      have HBAD : Hid (¬ TOk L[k].C L[k].n) := HNO.out _ (List.getElem_mem _)
      generalize L[k] = t at *
      obtain ⟨ta, tc, tC, tn⟩ := t
      simp only at HIN HBAD
      clear hget
      obtain ⟨i0, r0, r1⟩ := HIN.out _ HTr.out
      have hcl : tC.length ≤ 70368744177664 := i0.len
      have hno : ¬ (TOk tC tn ∧ (0 : Int) ≤ 0 ∧ (0 : Int) < tC.length) := fun h => HBAD.out h.1
      go_wp2_with fail
      refine (bounds_no (s := 0) i0.sl (by show tC.length ≤ _; omega) hno).mono ?_
      rintro e w11 ⟨rfl, hb⟩
      have HT1 : Hid _ := HTr.out.to hb
      have HF1 : Hid _ := HFr.out.to hb
      have HB1' : Hid _ := below_to HBr.out hb
      clear hb HTr HFr HBr r0 r1 i0
      obtain ⟨i0, r0, r1⟩ := HIN.out _ HT1.out
      go_wp2_with fail
      refine (adapt_no (s := 0) i0.sl (by show tC.length ≤ _; omega) hno).mono ?_
      rintro e w12 ⟨rfl, hb⟩
      have HT2 : Hid _ := HT1.out.to (to_alloc hb (.cells #[.slice none 0 0, .int .i64 0] 24))
      have HF2 : Hid _ := HF1.out.to (to_alloc hb (.cells #[.slice none 0 0, .int .i64 0] 24))
      have HB2' : Hid _ := below_to HB1'.out (to_alloc hb (.cells #[.slice none 0 0, .int .i64 0] 24))
      clear hb HT1 HF1 HB1' r0 r1 i0
      obtain ⟨i0, r0, r1⟩ := HIN.out _ HT2.out
      have HS : Hid ((w12.alloc (.cells #[.slice none 0 0, .int .i64 0] 24)).heap.size = w12.heap.size + 1) := by unfold Hid; simp
      go_wp2_with fail
      generalize w12.alloc (.cells #[.slice none 0 0, .int .i64 0] 24) = v12 at *
      generalize w12.heap.size = x12 at *
      rw [← HS.out]
      refine (avg_bad (t := ⟨ta, tc, tC, tn⟩) i0 HBAD.out).mono ?_
      rintro e w13 ⟨rfl, hb⟩
      have HT3 : Hid _ := HT2.out.to (to_alloc hb (.cells #[.slice none 0 0, .int .i64 0] 24))
      have HF3 : Hid _ := HF2.out.to (to_alloc hb (.cells #[.slice none 0 0, .int .i64 0] 24))
      have HB3' : Hid _ := below_to HB2'.out (to_alloc hb (.cells #[.slice none 0 0, .int .i64 0] 24))
      clear hb HT2 HF2 HB2' r0 r1 i0 HS
      obtain ⟨i0, r0, r1⟩ := HIN.out _ HT3.out
      go_wp2_with fail
      generalize w13.alloc (.cells #[.slice none 0 0, .int .i64 0] 24) = v13 at *
      generalize w13.heap.size = x13 at *
      refine (find_no (p := 0) i0.sl (by show tC.length ≤ _; omega) (Or.inl HBAD.out)).mono ?_
      rintro e w14 ⟨rfl, hb⟩
      have HT4 : Hid _ := HT3.out.to hb
      have HF4 : Hid _ := HF3.out.to hb
      have HB4' : Hid _ := below_to HB3'.out hb
      clear hb HT3 HF3 HB3' r0 r1 i0
      obtain ⟨i0, r0, r1⟩ := HIN.out _ HT4.out
      go_wp2_with fail
      refine (check_any i0.sl (by show tC.length ≤ _; omega)).mono ?_
      rintro e w15 ⟨rfl, hb⟩
      rw [show ck tC tn = 2 from ck_no HBAD.out]
      have HT5 : Hid _ := HT4.out.to hb
      have HF5 : Hid _ := HF4.out.to hb
      have HB5' : Hid _ := below_to HB4'.out hb
      clear hb HT4 HF4 HB4' r0 r1 i0
      go_wp2_with fail
      go_roundw
      case rel => exact ⟨k + 1, by omega, by go_num, HT5.out, HF5.out, HB5'.out⟩
      case measure => simp [intOf]; omega
    · have b1 : ¬ (k : Int) < 8 := by omega
      have HS1 : Hid ((wr.alloc (.cells #[.int .u16 0, .int .u16 32768] 29)).heap.size = wr.heap.size + 1) := by unfold Hid; simp
      have hn0 := Loc.new (u := wr.alloc (.cells #[.int .u16 0, .int .u16 32768] 29)) ⟨some ⟨wr.heap.size, 0, none⟩, 2, [0, 32768], 0⟩ (built_sl wr 0 32768 0 32768 29 rfl rfl)
      rw [HS1.out] at hn0
      have Hn9 : Hid (Loc ((wr.alloc (.cells #[.int .u16 0, .int .u16 32768] 29)).alloc (.cells #[.slice (some ⟨wr.heap.size, 0, none⟩) 2 2, .int .i64 0] 24)) (wr.heap.size + 1) ⟨some ⟨wr.heap.size, 0, none⟩, 2, [0, 32768], 0⟩) := hn0
      have Hf9 : Hid (Loc ((wr.alloc (.cells #[.int .u16 0, .int .u16 32768] 29)).alloc (.cells #[.slice (some ⟨wr.heap.size, 0, none⟩) 2 2, .int .i64 0] 24)) x1 ⟨a1, c1, [10922, 21845, 32768], 0⟩) := HFr.out.to (to_alloc (from_alloc _ _) _)
      have HB9 : Hid (Below w.heap.size w ((wr.alloc (.cells #[.int .u16 0, .int .u16 32768] 29)).alloc (.cells #[.slice (some ⟨wr.heap.size, 0, none⟩) 2 2, .int .i64 0] 24))) := below_to HBr.out (to_alloc (from_alloc _ _) _)
      clear hn0 HTr HFr HBr HS1
      have qf0 : ((wr.alloc (.cells #[.int .u16 0, .int .u16 32768] 29)).alloc (.cells #[.slice (some ⟨wr.heap.size, 0, none⟩) 2 2, .int .i64 0] 24)).cell? ⟨x1, 0, none⟩ = some (.slice a1 3 c1) := Hf9.out.c0
      have qf1 : ((wr.alloc (.cells #[.int .u16 0, .int .u16 32768] 29)).alloc (.cells #[.slice (some ⟨wr.heap.size, 0, none⟩) 2 2, .int .i64 0] 24)).cell? ⟨x1, 1, none⟩ = some (.int .i64 0) := Hf9.out.c1
      have qn0 : ((wr.alloc (.cells #[.int .u16 0, .int .u16 32768] 29)).alloc (.cells #[.slice (some ⟨wr.heap.size, 0, none⟩) 2 2, .int .i64 0] 24)).cell? ⟨(wr.heap.size + 1), 0, none⟩ = some (.slice (some ⟨wr.heap.size, 0, none⟩) 2 2) := Hn9.out.c0
      have qn1 : ((wr.alloc (.cells #[.int .u16 0, .int .u16 32768] 29)).alloc (.cells #[.slice (some ⟨wr.heap.size, 0, none⟩) 2 2, .int .i64 0] 24)).cell? ⟨(wr.heap.size + 1), 1, none⟩ = some (.int .i64 0) := Hn9.out.c1
      go_wp2_with fail
      generalize ((wr.alloc (.cells #[.int .u16 0, .int .u16 32768] 29)).alloc (.cells #[.slice (some ⟨wr.heap.size, 0, none⟩) 2 2, .int .i64 0] 24)) = v9 at *
      generalize wr.heap.size + 1 = xn at *
      generalize wr.heap.size = xa at *
      refine (bounds_ok (C := [0, 32768]) (n := 0) (i := 0) Hn9.out.sl (ok2 (by omega) (by omega) (by omega)) (by simp)).mono ?_
      rintro e w21 ⟨rfl, hb⟩
      clear qf0 qf1 qn0 qn1
      rw [show eb [0, 32768] 0 = 0 from by decide +kernel, show ee [0, 32768] 0 = 4 from by decide +kernel]
      have Hf21 : Hid (Loc w21 x1 ⟨a1, c1, [10922, 21845, 32768], 0⟩) := Hf9.out.to hb
      have Hn21 : Hid (Loc w21 xn ⟨(some ⟨xa, 0, none⟩), 2, [0, 32768], 0⟩) := Hn9.out.to hb
      have HB21 : Hid (Below w.heap.size w w21) := below_to HB9.out hb
      clear hb Hf9 Hn9 HB9
      have qf0 : w21.cell? ⟨x1, 0, none⟩ = some (.slice a1 3 c1) := Hf21.out.c0
      have qf1 : w21.cell? ⟨x1, 1, none⟩ = some (.int .i64 0) := Hf21.out.c1
      have qn0 : w21.cell? ⟨xn, 0, none⟩ = some (.slice (some ⟨xa, 0, none⟩) 2 2) := Hn21.out.c0
      have qn1 : w21.cell? ⟨xn, 1, none⟩ = some (.int .i64 0) := Hn21.out.c1
      go_wp2_with fail
      refine (bounds_ok (C := [0, 32768]) (n := 0) (i := 1) Hn21.out.sl (ok2 (by omega) (by omega) (by omega)) (by simp)).mono ?_
      rintro e w22 ⟨rfl, hb⟩
      clear qf0 qf1 qn0 qn1
      rw [show eb [0, 32768] 1 = 4 from by decide +kernel, show ee [0, 32768] 1 = 32768 from by decide +kernel]
      have Hf22 : Hid (Loc w22 x1 ⟨a1, c1, [10922, 21845, 32768], 0⟩) := Hf21.out.to hb
      have HB22 : Hid (Below w.heap.size w w22) := below_to HB21.out hb
      clear hb Hn21 Hf21 HB21
      have qf0 : w22.cell? ⟨x1, 0, none⟩ = some (.slice a1 3 c1) := Hf22.out.c0
      have qf1 : w22.cell? ⟨x1, 1, none⟩ = some (.int .i64 0) := Hf22.out.c1
      go_wp2_with fail
      refine ((flat_ok (n := 2) (by omega) (by omega)).mono fun e w' h => Nb.ofTn (L := 2) (m := 0) h flC2 rfl rfl).mono ?_
      rintro e w23 ⟨a23, c23, rfl, hs, hb⟩
      clear qf0 qf1
      have Hf23 : Hid (Loc (w23.alloc (.cells #[.slice a23 2 c23, .int .i64 0] 24)) x1 ⟨a1, c1, [10922, 21845, 32768], 0⟩) := Hf22.out.to (to_alloc hb _)
      have HB23 : Hid (Below w.heap.size w (w23.alloc (.cells #[.slice a23 2 c23, .int .i64 0] 24))) := below_to HB22.out (to_alloc hb _)
      have Ht23 : Hid (Loc (w23.alloc (.cells #[.slice a23 2 c23, .int .i64 0] 24)) w23.heap.size ⟨a23, c23, [16384, 32768], 0⟩) := Loc.new ⟨a23, c23, [16384, 32768], 0⟩ hs
      clear hs hb Hf22 HB22
      have qf0 : (w23.alloc (.cells #[.slice a23 2 c23, .int .i64 0] 24)).cell? ⟨x1, 0, none⟩ = some (.slice a1 3 c1) := Hf23.out.c0
      have qf1 : (w23.alloc (.cells #[.slice a23 2 c23, .int .i64 0] 24)).cell? ⟨x1, 1, none⟩ = some (.int .i64 0) := Hf23.out.c1
      have qt0 : (w23.alloc (.cells #[.slice a23 2 c23, .int .i64 0] 24)).cell? ⟨w23.heap.size, 0, none⟩ = some (.slice a23 2 c23) := Ht23.out.c0
      have qt1 : (w23.alloc (.cells #[.slice a23 2 c23, .int .i64 0] 24)).cell? ⟨w23.heap.size, 1, none⟩ = some (.int .i64 0) := Ht23.out.c1
      go_wp2_with fail
      generalize (w23.alloc (.cells #[.slice a23 2 c23, .int .i64 0] 24)) = v23 at *
      generalize w23.heap.size = x23 at *
      refine (bounds_no (C := [16384, 32768]) (n := 0) (s := 2) Ht23.out.sl (by simp) (by simp)).mono ?_
      rintro e w24 ⟨rfl, hb⟩
      clear qf0 qf1 qt0 qt1
      have Hf24 : Hid (Loc w24 x1 ⟨a1, c1, [10922, 21845, 32768], 0⟩) := Hf23.out.to hb
      have Ht24 : Hid (Loc w24 x23 ⟨a23, c23, [16384, 32768], 0⟩) := Ht23.out.to hb
      have HB24 : Hid (Below w.heap.size w w24) := below_to HB23.out hb
      clear hb Hf23 Ht23 HB23
      have qf0 : w24.cell? ⟨x1, 0, none⟩ = some (.slice a1 3 c1) := Hf24.out.c0
      have qf1 : w24.cell? ⟨x1, 1, none⟩ = some (.int .i64 0) := Hf24.out.c1
      have qt0 : w24.cell? ⟨x23, 0, none⟩ = some (.slice a23 2 c23) := Ht24.out.c0
      have qt1 : w24.cell? ⟨x23, 1, none⟩ = some (.int .i64 0) := Ht24.out.c1
      go_wp2_with fail
      refine (bounds_no (C := [16384, 32768]) (n := 0) (s := -1) Ht24.out.sl (by simp) (by simp)).mono ?_
      rintro e w25 ⟨rfl, hb⟩
      clear qf0 qf1 qt0 qt1
      have Hf25 : Hid (Loc w25 x1 ⟨a1, c1, [10922, 21845, 32768], 0⟩) := Hf24.out.to hb
      have Ht25 : Hid (Loc w25 x23 ⟨a23, c23, [16384, 32768], 0⟩) := Ht24.out.to hb
      have HB25 : Hid (Below w.heap.size w w25) := below_to HB24.out hb
      clear hb Hf24 Ht24 HB24
      have qf0 : w25.cell? ⟨x1, 0, none⟩ = some (.slice a1 3 c1) := Hf25.out.c0
      have qf1 : w25.cell? ⟨x1, 1, none⟩ = some (.int .i64 0) := Hf25.out.c1
      have qt0 : w25.cell? ⟨x23, 0, none⟩ = some (.slice a23 2 c23) := Ht25.out.c0
      have qt1 : w25.cell? ⟨x23, 1, none⟩ = some (.int .i64 0) := Ht25.out.c1
      go_wp2_with fail
      refine (find_no (C := [16384, 32768]) (n := 0) (p := 32768) Ht25.out.sl (by simp) (Or.inr (by omega))).mono ?_
      rintro e w26 ⟨rfl, hb⟩
      clear qf0 qf1 qt0 qt1
      have Hf26 : Hid (Loc w26 x1 ⟨a1, c1, [10922, 21845, 32768], 0⟩) := Hf25.out.to hb
      have Ht26 : Hid (Loc w26 x23 ⟨a23, c23, [16384, 32768], 0⟩) := Ht25.out.to hb
      have HB26 : Hid (Below w.heap.size w w26) := below_to HB25.out hb
      clear hb Hf25 Ht25 HB25
      have qf0 : w26.cell? ⟨x1, 0, none⟩ = some (.slice a1 3 c1) := Hf26.out.c0
      have qf1 : w26.cell? ⟨x1, 1, none⟩ = some (.int .i64 0) := Hf26.out.c1
      have qt0 : w26.cell? ⟨x23, 0, none⟩ = some (.slice a23 2 c23) := Ht26.out.c0
      have qt1 : w26.cell? ⟨x23, 1, none⟩ = some (.int .i64 0) := Ht26.out.c1
      go_wp2_with fail
      refine ((adapt_no (C := [16384, 32768]) (n := 0) (s := 2) Ht26.out.sl (by simp) (by simp)).mono fun e w' h => Nb.ofNo h).mono ?_
      rintro e w27 ⟨a27, c27, rfl, hs, hb⟩
      clear qf0 qf1 qt0 qt1
      have Hf27 : Hid (Loc (w27.alloc (.cells #[.slice a27 0 c27, .int .i64 0] 24)) x1 ⟨a1, c1, [10922, 21845, 32768], 0⟩) := Hf26.out.to (to_alloc hb _)
      have Ht27 : Hid (Loc (w27.alloc (.cells #[.slice a27 0 c27, .int .i64 0] 24)) x23 ⟨a23, c23, [16384, 32768], 0⟩) := Ht26.out.to (to_alloc hb _)
      have HB27 : Hid (Below w.heap.size w (w27.alloc (.cells #[.slice a27 0 c27, .int .i64 0] 24))) := below_to HB26.out (to_alloc hb _)
      clear hs hb Hf26 Ht26 HB26
      have qf0 : (w27.alloc (.cells #[.slice a27 0 c27, .int .i64 0] 24)).cell? ⟨x1, 0, none⟩ = some (.slice a1 3 c1) := Hf27.out.c0
      have qf1 : (w27.alloc (.cells #[.slice a27 0 c27, .int .i64 0] 24)).cell? ⟨x1, 1, none⟩ = some (.int .i64 0) := Hf27.out.c1
      have qt0 : (w27.alloc (.cells #[.slice a27 0 c27, .int .i64 0] 24)).cell? ⟨x23, 0, none⟩ = some (.slice a23 2 c23) := Ht27.out.c0
      have qt1 : (w27.alloc (.cells #[.slice a27 0 c27, .int .i64 0] 24)).cell? ⟨x23, 1, none⟩ = some (.int .i64 0) := Ht27.out.c1
      go_wp2_with fail
      generalize (w27.alloc (.cells #[.slice a27 0 c27, .int .i64 0] 24)) = v27 at *
      generalize w27.heap.size = x27 at *
      refine (find_ok (C := [16384, 32768]) (n := 0) (p := 16383) Ht27.out.sl (ok2 (by omega) (by omega) (by omega)) (by omega)).mono ?_
      rintro e w28 ⟨s, rfl, hs, hb⟩
      obtain rfl : s = 0 := part_uniq (C := [16384, 32768]) (n := 0) (at' := 16383) (ok2 (by omega) (by omega) (by omega)) hs.1 (by simp) hs.2.1 hs.2.2 (by decide +kernel) (by decide +kernel)
      clear qf0 qf1 qt0 qt1
      have Hf28 : Hid (Loc w28 x1 ⟨a1, c1, [10922, 21845, 32768], 0⟩) := Hf27.out.to hb
      have Ht28 : Hid (Loc w28 x23 ⟨a23, c23, [16384, 32768], 0⟩) := Ht27.out.to hb
      have HB28 : Hid (Below w.heap.size w w28) := below_to HB27.out hb
      clear hb hs Hf27 Ht27 HB27
      have qf0 : w28.cell? ⟨x1, 0, none⟩ = some (.slice a1 3 c1) := Hf28.out.c0
      have qf1 : w28.cell? ⟨x1, 1, none⟩ = some (.int .i64 0) := Hf28.out.c1
      have qt0 : w28.cell? ⟨x23, 0, none⟩ = some (.slice a23 2 c23) := Ht28.out.c0
      have qt1 : w28.cell? ⟨x23, 1, none⟩ = some (.int .i64 0) := Ht28.out.c1
      go_wp2_with fail
      refine (average_none.mono fun e w' h => Nb.ofNo h).mono ?_
      rintro e w29 ⟨a29, c29, rfl, hs, hb⟩
      clear qf0 qf1 qt0 qt1
      have Hf29 : Hid (Loc (w29.alloc (.cells #[.slice a29 0 c29, .int .i64 0] 24)) x1 ⟨a1, c1, [10922, 21845, 32768], 0⟩) := Hf28.out.to (to_alloc hb _)
      have Ht29 : Hid (Loc (w29.alloc (.cells #[.slice a29 0 c29, .int .i64 0] 24)) x23 ⟨a23, c23, [16384, 32768], 0⟩) := Ht28.out.to (to_alloc hb _)
      have HB29 : Hid (Below w.heap.size w (w29.alloc (.cells #[.slice a29 0 c29, .int .i64 0] 24))) := below_to HB28.out (to_alloc hb _)
      have HS29 : Hid ((w29.alloc (.cells #[.slice a29 0 c29, .int .i64 0] 24)).heap.size = w29.heap.size + 1) := by unfold Hid; simp
      clear hs hb Hf28 Ht28 HB28
      have qf0 : (w29.alloc (.cells #[.slice a29 0 c29, .int .i64 0] 24)).cell? ⟨x1, 0, none⟩ = some (.slice a1 3 c1) := Hf29.out.c0
      have qf1 : (w29.alloc (.cells #[.slice a29 0 c29, .int .i64 0] 24)).cell? ⟨x1, 1, none⟩ = some (.int .i64 0) := Hf29.out.c1
      have qt0 : (w29.alloc (.cells #[.slice a29 0 c29, .int .i64 0] 24)).cell? ⟨x23, 0, none⟩ = some (.slice a23 2 c23) := Ht29.out.c0
      have qt1 : (w29.alloc (.cells #[.slice a29 0 c29, .int .i64 0] 24)).cell? ⟨x23, 1, none⟩ = some (.int .i64 0) := Ht29.out.c1
      go_wp2_with fail
      generalize (w29.alloc (.cells #[.slice a29 0 c29, .int .i64 0] 24)) = v29 at *
      generalize w29.heap.size = x29 at *
      rw [← HS29.out]
      refine ((avg_two (t := ⟨a23, c23, [16384, 32768], 0⟩) (s := ⟨a1, c1, [10922, 21845, 32768], 0⟩) (in_u16 Ht29.out.sl (by simp) (by simp)) (in_u16 Hf29.out.sl (by simp) (by simp)) (by simp)).mono fun e w' h => (⟨none, 0, h.1, Sl.nil _ _ _, h.2⟩ : Nb v29 w' e [] 0 0 2)).mono ?_
      rintro e w30 ⟨a30, c30, rfl, hs, hb⟩
      clear qf0 qf1 qt0 qt1
      have Ht30 : Hid (Loc (w30.alloc (.cells #[.slice a30 0 c30, .int .i64 0] 24)) x23 ⟨a23, c23, [16384, 32768], 0⟩) := Ht29.out.to (to_alloc hb _)
      have HB30 : Hid (Below w.heap.size w (w30.alloc (.cells #[.slice a30 0 c30, .int .i64 0] 24))) := below_to HB29.out (to_alloc hb _)
      clear hs hb Hf29 Ht29 HB29
      have qt0 : (w30.alloc (.cells #[.slice a30 0 c30, .int .i64 0] 24)).cell? ⟨x23, 0, none⟩ = some (.slice a23 2 c23) := Ht30.out.c0
      have qt1 : (w30.alloc (.cells #[.slice a30 0 c30, .int .i64 0] 24)).cell? ⟨x23, 1, none⟩ = some (.int .i64 0) := Ht30.out.c1
      go_wp2_with fail
      generalize (w30.alloc (.cells #[.slice a30 0 c30, .int .i64 0] 24)) = v30 at *
      generalize w30.heap.size = x30 at *
      refine ((adapt_ok (C := [16384, 32768]) (n := 0) (s := 1) Ht30.out.sl (ok2 (by omega) (by omega) (by omega)) (by simp)).mono fun e w' h => Nb.ofTn (D := [15360, 32768]) (L := 2) (m := 1) h (by decide +kernel) rfl (by decide +kernel)).mono ?_
      rintro e w31 ⟨a31, c31, rfl, hs, hb⟩
      clear qt0 qt1
      have Ht31 : Hid (Loc (w31.alloc (.cells #[.slice a31 2 c31, .int .i64 1] 24)) x23 ⟨a23, c23, [16384, 32768], 0⟩) := Ht30.out.to (to_alloc hb _)
      have HB31 : Hid (Below w.heap.size w (w31.alloc (.cells #[.slice a31 2 c31, .int .i64 1] 24))) := below_to HB30.out (to_alloc hb _)
      have Hq31 : Hid (Loc (w31.alloc (.cells #[.slice a31 2 c31, .int .i64 1] 24)) w31.heap.size ⟨a31, c31, [15360, 32768], 1⟩) := Loc.new ⟨a31, c31, [15360, 32768], 1⟩ hs
      clear hs hb Ht30 HB30
      have qt0 : (w31.alloc (.cells #[.slice a31 2 c31, .int .i64 1] 24)).cell? ⟨x23, 0, none⟩ = some (.slice a23 2 c23) := Ht31.out.c0
      have qt1 : (w31.alloc (.cells #[.slice a31 2 c31, .int .i64 1] 24)).cell? ⟨x23, 1, none⟩ = some (.int .i64 0) := Ht31.out.c1
      have qq0 : (w31.alloc (.cells #[.slice a31 2 c31, .int .i64 1] 24)).cell? ⟨w31.heap.size, 0, none⟩ = some (.slice a31 2 c31) := Hq31.out.c0
      have qq1 : (w31.alloc (.cells #[.slice a31 2 c31, .int .i64 1] 24)).cell? ⟨w31.heap.size, 1, none⟩ = some (.int .i64 1) := Hq31.out.c1
      go_wp2_with fail
      generalize (w31.alloc (.cells #[.slice a31 2 c31, .int .i64 1] 24)) = v31 at *
      generalize w31.heap.size = x31 at *
      refine ((adapt_ok (C := [16384, 32768]) (n := 16) (s := 0) Ht31.out.sl (ok2 (by omega) (by omega) (by omega)) (by simp)).mono fun e w' h => Nb.ofTn (D := [16896, 32768]) (L := 2) (m := 17) h (by decide +kernel) rfl (by decide +kernel)).mono ?_
      rintro e w32 ⟨a32, c32, rfl, hs, hb⟩
      clear qt0 qt1 qq0 qq1
      have Ht32 : Hid (Loc (w32.alloc (.cells #[.slice a32 2 c32, .int .i64 17] 24)) x23 ⟨a23, c23, [16384, 32768], 0⟩) := Ht31.out.to (to_alloc hb _)
      have Hq32 : Hid (Loc (w32.alloc (.cells #[.slice a32 2 c32, .int .i64 17] 24)) x31 ⟨a31, c31, [15360, 32768], 1⟩) := Hq31.out.to (to_alloc hb _)
      have HB32 : Hid (Below w.heap.size w (w32.alloc (.cells #[.slice a32 2 c32, .int .i64 17] 24))) := below_to HB31.out (to_alloc hb _)
      have Hr32 : Hid (Loc (w32.alloc (.cells #[.slice a32 2 c32, .int .i64 17] 24)) w32.heap.size ⟨a32, c32, [16896, 32768], 17⟩) := Loc.new ⟨a32, c32, [16896, 32768], 17⟩ hs
      clear hs hb Ht31 Hq31 HB31
      have qt0 : (w32.alloc (.cells #[.slice a32 2 c32, .int .i64 17] 24)).cell? ⟨x23, 0, none⟩ = some (.slice a23 2 c23) := Ht32.out.c0
      have qt1 : (w32.alloc (.cells #[.slice a32 2 c32, .int .i64 17] 24)).cell? ⟨x23, 1, none⟩ = some (.int .i64 0) := Ht32.out.c1
      have qq0 : (w32.alloc (.cells #[.slice a32 2 c32, .int .i64 17] 24)).cell? ⟨x31, 0, none⟩ = some (.slice a31 2 c31) := Hq32.out.c0
      have qq1 : (w32.alloc (.cells #[.slice a32 2 c32, .int .i64 17] 24)).cell? ⟨x31, 1, none⟩ = some (.int .i64 1) := Hq32.out.c1
      have qr0 : (w32.alloc (.cells #[.slice a32 2 c32, .int .i64 17] 24)).cell? ⟨w32.heap.size, 0, none⟩ = some (.slice a32 2 c32) := Hr32.out.c0
      have qr1 : (w32.alloc (.cells #[.slice a32 2 c32, .int .i64 17] 24)).cell? ⟨w32.heap.size, 1, none⟩ = some (.int .i64 17) := Hr32.out.c1
      go_wp2_with fail
      generalize (w32.alloc (.cells #[.slice a32 2 c32, .int .i64 17] 24)) = v32 at *
      generalize w32.heap.size = x32 at *
      refine ((adapt_ok (C := [16384, 32768]) (n := 15) (s := 0) Ht32.out.sl (ok2 (by omega) (by omega) (by omega)) (by simp)).mono fun e w' h => Nb.ofTn (D := [17408, 32768]) (L := 2) (m := 16) h (by decide +kernel) rfl (by decide +kernel)).mono ?_
      rintro e w33 ⟨a33, c33, rfl, hs, hb⟩
      clear qt0 qt1 qq0 qq1 qr0 qr1
      have Ht33 : Hid (Loc (w33.alloc (.cells #[.slice a33 2 c33, .int .i64 16] 24)) x23 ⟨a23, c23, [16384, 32768], 0⟩) := Ht32.out.to (to_alloc hb _)
      have Hq33 : Hid (Loc (w33.alloc (.cells #[.slice a33 2 c33, .int .i64 16] 24)) x31 ⟨a31, c31, [15360, 32768], 1⟩) := Hq32.out.to (to_alloc hb _)
      have Hr33 : Hid (Loc (w33.alloc (.cells #[.slice a33 2 c33, .int .i64 16] 24)) x32 ⟨a32, c32, [16896, 32768], 17⟩) := Hr32.out.to (to_alloc hb _)
      have HB33 : Hid (Below w.heap.size w (w33.alloc (.cells #[.slice a33 2 c33, .int .i64 16] 24))) := below_to HB32.out (to_alloc hb _)
      have Hk33 : Hid (Loc (w33.alloc (.cells #[.slice a33 2 c33, .int .i64 16] 24)) w33.heap.size ⟨a33, c33, [17408, 32768], 16⟩) := Loc.new ⟨a33, c33, [17408, 32768], 16⟩ hs
      clear hs hb Ht32 Hq32 Hr32 HB32
      have qt0 : (w33.alloc (.cells #[.slice a33 2 c33, .int .i64 16] 24)).cell? ⟨x23, 0, none⟩ = some (.slice a23 2 c23) := Ht33.out.c0
      have qt1 : (w33.alloc (.cells #[.slice a33 2 c33, .int .i64 16] 24)).cell? ⟨x23, 1, none⟩ = some (.int .i64 0) := Ht33.out.c1
      have qq0 : (w33.alloc (.cells #[.slice a33 2 c33, .int .i64 16] 24)).cell? ⟨x31, 0, none⟩ = some (.slice a31 2 c31) := Hq33.out.c0
      have qq1 : (w33.alloc (.cells #[.slice a33 2 c33, .int .i64 16] 24)).cell? ⟨x31, 1, none⟩ = some (.int .i64 1) := Hq33.out.c1
      have qr0 : (w33.alloc (.cells #[.slice a33 2 c33, .int .i64 16] 24)).cell? ⟨x32, 0, none⟩ = some (.slice a32 2 c32) := Hr33.out.c0
      have qr1 : (w33.alloc (.cells #[.slice a33 2 c33, .int .i64 16] 24)).cell? ⟨x32, 1, none⟩ = some (.int .i64 17) := Hr33.out.c1
      have qk0 : (w33.alloc (.cells #[.slice a33 2 c33, .int .i64 16] 24)).cell? ⟨w33.heap.size, 0, none⟩ = some (.slice a33 2 c33) := Hk33.out.c0
      have qk1 : (w33.alloc (.cells #[.slice a33 2 c33, .int .i64 16] 24)).cell? ⟨w33.heap.size, 1, none⟩ = some (.int .i64 16) := Hk33.out.c1
      go_wp2_with fail
      generalize (w33.alloc (.cells #[.slice a33 2 c33, .int .i64 16] 24)) = v33 at *
      generalize w33.heap.size = x33 at *
      refine ((adapt_ok (C := [16384, 32768]) (n := 32) (s := 0) Ht33.out.sl (ok2 (by omega) (by omega) (by omega)) (by simp)).mono fun e w' h => Nb.ofTn (D := [16640, 32768]) (L := 2) (m := 32) h (by decide +kernel) rfl (by decide +kernel)).mono ?_
      rintro e w34 ⟨a34, c34, rfl, hs, hb⟩
      clear qt0 qt1 qq0 qq1 qr0 qr1 qk0 qk1
      have Ht34 : Hid (Loc (w34.alloc (.cells #[.slice a34 2 c34, .int .i64 32] 24)) x23 ⟨a23, c23, [16384, 32768], 0⟩) := Ht33.out.to (to_alloc hb _)
      have Hq34 : Hid (Loc (w34.alloc (.cells #[.slice a34 2 c34, .int .i64 32] 24)) x31 ⟨a31, c31, [15360, 32768], 1⟩) := Hq33.out.to (to_alloc hb _)
      have Hr34 : Hid (Loc (w34.alloc (.cells #[.slice a34 2 c34, .int .i64 32] 24)) x32 ⟨a32, c32, [16896, 32768], 17⟩) := Hr33.out.to (to_alloc hb _)
      have Hk34 : Hid (Loc (w34.alloc (.cells #[.slice a34 2 c34, .int .i64 32] 24)) x33 ⟨a33, c33, [17408, 32768], 16⟩) := Hk33.out.to (to_alloc hb _)
      have HB34 : Hid (Below w.heap.size w (w34.alloc (.cells #[.slice a34 2 c34, .int .i64 32] 24))) := below_to HB33.out (to_alloc hb _)
      have Hy34 : Hid (Loc (w34.alloc (.cells #[.slice a34 2 c34, .int .i64 32] 24)) w34.heap.size ⟨a34, c34, [16640, 32768], 32⟩) := Loc.new ⟨a34, c34, [16640, 32768], 32⟩ hs
      clear hs hb Ht33 Hq33 Hr33 Hk33 HB33
      have qt0 : (w34.alloc (.cells #[.slice a34 2 c34, .int .i64 32] 24)).cell? ⟨x23, 0, none⟩ = some (.slice a23 2 c23) := Ht34.out.c0
      have qt1 : (w34.alloc (.cells #[.slice a34 2 c34, .int .i64 32] 24)).cell? ⟨x23, 1, none⟩ = some (.int .i64 0) := Ht34.out.c1
      have qq0 : (w34.alloc (.cells #[.slice a34 2 c34, .int .i64 32] 24)).cell? ⟨x31, 0, none⟩ = some (.slice a31 2 c31) := Hq34.out.c0
      have qq1 : (w34.alloc (.cells #[.slice a34 2 c34, .int .i64 32] 24)).cell? ⟨x31, 1, none⟩ = some (.int .i64 1) := Hq34.out.c1
      have qr0 : (w34.alloc (.cells #[.slice a34 2 c34, .int .i64 32] 24)).cell? ⟨x32, 0, none⟩ = some (.slice a32 2 c32) := Hr34.out.c0
      have qr1 : (w34.alloc (.cells #[.slice a34 2 c34, .int .i64 32] 24)).cell? ⟨x32, 1, none⟩ = some (.int .i64 17) := Hr34.out.c1
      have qk0 : (w34.alloc (.cells #[.slice a34 2 c34, .int .i64 32] 24)).cell? ⟨x33, 0, none⟩ = some (.slice a33 2 c33) := Hk34.out.c0
      have qk1 : (w34.alloc (.cells #[.slice a34 2 c34, .int .i64 32] 24)).cell? ⟨x33, 1, none⟩ = some (.int .i64 16) := Hk34.out.c1
      have qy0 : (w34.alloc (.cells #[.slice a34 2 c34, .int .i64 32] 24)).cell? ⟨w34.heap.size, 0, none⟩ = some (.slice a34 2 c34) := Hy34.out.c0
      have qy1 : (w34.alloc (.cells #[.slice a34 2 c34, .int .i64 32] 24)).cell? ⟨w34.heap.size, 1, none⟩ = some (.int .i64 32) := Hy34.out.c1
      go_wp2_with fail
      generalize (w34.alloc (.cells #[.slice a34 2 c34, .int .i64 32] 24)) = v34 at *
      generalize w34.heap.size = x34 at *
      refine ((adapt_ok (C := [16384, 32768]) (n := 31) (s := 0) Ht34.out.sl (ok2 (by omega) (by omega) (by omega)) (by simp)).mono fun e w' h => Nb.ofTn (D := [16896, 32768]) (L := 2) (m := 32) h (by decide +kernel) rfl (by decide +kernel)).mono ?_
      rintro e w35 ⟨a35, c35, rfl, hs, hb⟩
      clear qt0 qt1 qq0 qq1 qr0 qr1 qk0 qk1 qy0 qy1
      have Hq35 : Hid (Loc (w35.alloc (.cells #[.slice a35 2 c35, .int .i64 32] 24)) x31 ⟨a31, c31, [15360, 32768], 1⟩) := Hq34.out.to (to_alloc hb _)
      have Hr35 : Hid (Loc (w35.alloc (.cells #[.slice a35 2 c35, .int .i64 32] 24)) x32 ⟨a32, c32, [16896, 32768], 17⟩) := Hr34.out.to (to_alloc hb _)
      have Hk35 : Hid (Loc (w35.alloc (.cells #[.slice a35 2 c35, .int .i64 32] 24)) x33 ⟨a33, c33, [17408, 32768], 16⟩) := Hk34.out.to (to_alloc hb _)
      have Hy35 : Hid (Loc (w35.alloc (.cells #[.slice a35 2 c35, .int .i64 32] 24)) x34 ⟨a34, c34, [16640, 32768], 32⟩) := Hy34.out.to (to_alloc hb _)
      have HB35 : Hid (Below w.heap.size w (w35.alloc (.cells #[.slice a35 2 c35, .int .i64 32] 24))) := below_to HB34.out (to_alloc hb _)
      have Hz35 : Hid (Loc (w35.alloc (.cells #[.slice a35 2 c35, .int .i64 32] 24)) w35.heap.size ⟨a35, c35, [16896, 32768], 32⟩) := Loc.new ⟨a35, c35, [16896, 32768], 32⟩ hs
      have HS35 : Hid ((w35.alloc (.cells #[.slice a35 2 c35, .int .i64 32] 24)).heap.size = w35.heap.size + 1) := by unfold Hid; simp
      clear hs hb Ht34 Hq34 Hr34 Hk34 Hy34 HB34
      have qq0 : (w35.alloc (.cells #[.slice a35 2 c35, .int .i64 32] 24)).cell? ⟨x31, 0, none⟩ = some (.slice a31 2 c31) := Hq35.out.c0
      have qq1 : (w35.alloc (.cells #[.slice a35 2 c35, .int .i64 32] 24)).cell? ⟨x31, 1, none⟩ = some (.int .i64 1) := Hq35.out.c1
      have qr0 : (w35.alloc (.cells #[.slice a35 2 c35, .int .i64 32] 24)).cell? ⟨x32, 0, none⟩ = some (.slice a32 2 c32) := Hr35.out.c0
      have qr1 : (w35.alloc (.cells #[.slice a35 2 c35, .int .i64 32] 24)).cell? ⟨x32, 1, none⟩ = some (.int .i64 17) := Hr35.out.c1
      have qk0 : (w35.alloc (.cells #[.slice a35 2 c35, .int .i64 32] 24)).cell? ⟨x33, 0, none⟩ = some (.slice a33 2 c33) := Hk35.out.c0
      have qk1 : (w35.alloc (.cells #[.slice a35 2 c35, .int .i64 32] 24)).cell? ⟨x33, 1, none⟩ = some (.int .i64 16) := Hk35.out.c1
      have qy0 : (w35.alloc (.cells #[.slice a35 2 c35, .int .i64 32] 24)).cell? ⟨x34, 0, none⟩ = some (.slice a34 2 c34) := Hy35.out.c0
      have qy1 : (w35.alloc (.cells #[.slice a35 2 c35, .int .i64 32] 24)).cell? ⟨x34, 1, none⟩ = some (.int .i64 32) := Hy35.out.c1
      have qz0 : (w35.alloc (.cells #[.slice a35 2 c35, .int .i64 32] 24)).cell? ⟨w35.heap.size, 0, none⟩ = some (.slice a35 2 c35) := Hz35.out.c0
      have qz1 : (w35.alloc (.cells #[.slice a35 2 c35, .int .i64 32] 24)).cell? ⟨w35.heap.size, 1, none⟩ = some (.int .i64 32) := Hz35.out.c1
      go_wp2_with fail
      generalize (w35.alloc (.cells #[.slice a35 2 c35, .int .i64 32] 24)) = v35 at *
      generalize w35.heap.size = x35 at *
      rw [← HS35.out]
      refine (has_true (C := [15360, 32768]) (Hq35.out.sl.alloc _) (built_sl v35 15360 32768 15360 32768 29 rfl rfl) (by simp)).mono ?_
      rintro e w36 ⟨rfl, hb⟩
      clear qq0 qq1 qr0 qr1 qk0 qk1 qy0 qy1 qz0 qz1
      have Hr36 : Hid (Loc w36 x32 ⟨a32, c32, [16896, 32768], 17⟩) := Hr35.out.to (below_to (from_alloc v35 (.cells #[.int .u16 15360, .int .u16 32768] 29)) hb)
      have Hk36 : Hid (Loc w36 x33 ⟨a33, c33, [17408, 32768], 16⟩) := Hk35.out.to (below_to (from_alloc v35 (.cells #[.int .u16 15360, .int .u16 32768] 29)) hb)
      have Hy36 : Hid (Loc w36 x34 ⟨a34, c34, [16640, 32768], 32⟩) := Hy35.out.to (below_to (from_alloc v35 (.cells #[.int .u16 15360, .int .u16 32768] 29)) hb)
      have Hz36 : Hid (Loc w36 x35 ⟨a35, c35, [16896, 32768], 32⟩) := Hz35.out.to (below_to (from_alloc v35 (.cells #[.int .u16 15360, .int .u16 32768] 29)) hb)
      have HB36 : Hid (Below w.heap.size w w36) := below_to HB35.out (below_to (from_alloc v35 (.cells #[.int .u16 15360, .int .u16 32768] 29)) hb)
      clear hb Hq35 Hr35 Hk35 Hy35 Hz35 HB35
      have qr0 : w36.cell? ⟨x32, 0, none⟩ = some (.slice a32 2 c32) := Hr36.out.c0
      have qr1 : w36.cell? ⟨x32, 1, none⟩ = some (.int .i64 17) := Hr36.out.c1
      have qk0 : w36.cell? ⟨x33, 0, none⟩ = some (.slice a33 2 c33) := Hk36.out.c0
      have qk1 : w36.cell? ⟨x33, 1, none⟩ = some (.int .i64 16) := Hk36.out.c1
      have qy0 : w36.cell? ⟨x34, 0, none⟩ = some (.slice a34 2 c34) := Hy36.out.c0
      have qy1 : w36.cell? ⟨x34, 1, none⟩ = some (.int .i64 32) := Hy36.out.c1
      have qz0 : w36.cell? ⟨x35, 0, none⟩ = some (.slice a35 2 c35) := Hz36.out.c0
      have qz1 : w36.cell? ⟨x35, 1, none⟩ = some (.int .i64 32) := Hz36.out.c1
      go_wp2_with fail
      refine (has_true (C := [16896, 32768]) (Hr36.out.sl.alloc _) (built_sl w36 16896 32768 16896 32768 29 rfl rfl) (by simp)).mono ?_
      rintro e w37 ⟨rfl, hb⟩
      clear qr0 qr1 qk0 qk1 qy0 qy1 qz0 qz1
      have Hk37 : Hid (Loc w37 x33 ⟨a33, c33, [17408, 32768], 16⟩) := Hk36.out.to (below_to (from_alloc w36 (.cells #[.int .u16 16896, .int .u16 32768] 29)) hb)
      have Hy37 : Hid (Loc w37 x34 ⟨a34, c34, [16640, 32768], 32⟩) := Hy36.out.to (below_to (from_alloc w36 (.cells #[.int .u16 16896, .int .u16 32768] 29)) hb)
      have Hz37 : Hid (Loc w37 x35 ⟨a35, c35, [16896, 32768], 32⟩) := Hz36.out.to (below_to (from_alloc w36 (.cells #[.int .u16 16896, .int .u16 32768] 29)) hb)
      have HB37 : Hid (Below w.heap.size w w37) := below_to HB36.out (below_to (from_alloc w36 (.cells #[.int .u16 16896, .int .u16 32768] 29)) hb)
      clear hb Hr36 Hk36 Hy36 Hz36 HB36
      have qk0 : w37.cell? ⟨x33, 0, none⟩ = some (.slice a33 2 c33) := Hk37.out.c0
      have qk1 : w37.cell? ⟨x33, 1, none⟩ = some (.int .i64 16) := Hk37.out.c1
      have qy0 : w37.cell? ⟨x34, 0, none⟩ = some (.slice a34 2 c34) := Hy37.out.c0
      have qy1 : w37.cell? ⟨x34, 1, none⟩ = some (.int .i64 32) := Hy37.out.c1
      have qz0 : w37.cell? ⟨x35, 0, none⟩ = some (.slice a35 2 c35) := Hz37.out.c0
      have qz1 : w37.cell? ⟨x35, 1, none⟩ = some (.int .i64 32) := Hz37.out.c1
      go_wp2_with fail
      refine (has_true (C := [17408, 32768]) (Hk37.out.sl.alloc _) (built_sl w37 17408 32768 17408 32768 29 rfl rfl) (by simp)).mono ?_
      rintro e w38 ⟨rfl, hb⟩
      clear qk0 qk1 qy0 qy1 qz0 qz1
      have Hy38 : Hid (Loc w38 x34 ⟨a34, c34, [16640, 32768], 32⟩) := Hy37.out.to (below_to (from_alloc w37 (.cells #[.int .u16 17408, .int .u16 32768] 29)) hb)
      have Hz38 : Hid (Loc w38 x35 ⟨a35, c35, [16896, 32768], 32⟩) := Hz37.out.to (below_to (from_alloc w37 (.cells #[.int .u16 17408, .int .u16 32768] 29)) hb)
      have HB38 : Hid (Below w.heap.size w w38) := below_to HB37.out (below_to (from_alloc w37 (.cells #[.int .u16 17408, .int .u16 32768] 29)) hb)
      clear hb Hk37 Hy37 Hz37 HB37
      have qy0 : w38.cell? ⟨x34, 0, none⟩ = some (.slice a34 2 c34) := Hy38.out.c0
      have qy1 : w38.cell? ⟨x34, 1, none⟩ = some (.int .i64 32) := Hy38.out.c1
      have qz0 : w38.cell? ⟨x35, 0, none⟩ = some (.slice a35 2 c35) := Hz38.out.c0
      have qz1 : w38.cell? ⟨x35, 1, none⟩ = some (.int .i64 32) := Hz38.out.c1
      go_wp2_with fail
      refine (has_true (C := [16640, 32768]) (Hy38.out.sl.alloc _) (built_sl w38 16640 32768 16640 32768 29 rfl rfl) (by simp)).mono ?_
      rintro e w39 ⟨rfl, hb⟩
      clear qy0 qy1 qz0 qz1
      have Hz39 : Hid (Loc w39 x35 ⟨a35, c35, [16896, 32768], 32⟩) := Hz38.out.to (below_to (from_alloc w38 (.cells #[.int .u16 16640, .int .u16 32768] 29)) hb)
      have HB39 : Hid (Below w.heap.size w w39) := below_to HB38.out (below_to (from_alloc w38 (.cells #[.int .u16 16640, .int .u16 32768] 29)) hb)
      clear hb Hy38 Hz38 HB38
      have qz0 : w39.cell? ⟨x35, 0, none⟩ = some (.slice a35 2 c35) := Hz39.out.c0
      have qz1 : w39.cell? ⟨x35, 1, none⟩ = some (.int .i64 32) := Hz39.out.c1
      go_wp2_with fail
      refine (has_true (C := [16896, 32768]) (Hz39.out.sl.alloc _) (built_sl w39 16896 32768 16896 32768 29 rfl rfl) (by simp)).mono ?_
      rintro e w40 ⟨rfl, hb⟩
      clear qz0 qz1
      have HB40 : Hid (Below w.heap.size w w40) := below_to HB39.out (below_to (from_alloc w39 (.cells #[.int .u16 16896, .int .u16 32768] 29)) hb)
      clear hb Hz39 HB39
      go_wp2_with fail
      refine (works_true _).mono ?_
      rintro e w41 ⟨rfl, hb⟩
      have HB41 : Hid (Below w.heap.size w w41) := below_to HB40.out hb
      clear hb HB40
      go_wp2_with fail
      go_ret
      exact ⟨rfl, HB41.out⟩

end Go.Proofs.Ytpijgdfhkmailab
