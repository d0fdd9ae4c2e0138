/- DERIVED. The walk of works. -/
import Derived.Test.YtdiphgkgehpgiaaFj
namespace Go.Proofs.Ytdiphgkgehpgiaa
open Go.RowKit Ieee

theorem fl_made3 (w : World) (x y z : Nat) : Fl (w.alloc (.cells #[.float .f64 x, .float .f64 y, .float .f64 z] 27)) (some ⟨w.heap.size, 0, none⟩) [x, y, z] := by
  refine Or.inr ⟨w.heap.size, 0, rfl, by simp, fun j hj => ?_⟩
  rcases (show j = 0 ∨ j = 1 ∨ j = 2 by simp at hj; omega) with rfl | rfl | rfl <;> simp
theorem sl_made2 (w : World) (x y : Nat) : Sl (w.alloc (.cells #[.int .u8 (x : Int), .int .u8 (y : Int)] 5)) .u8 (some ⟨w.heap.size, 0, none⟩) [x, y] := by
  refine Or.inr ⟨w.heap.size, 0, rfl, by simp, fun j hj => ?_⟩
  rcases (show j = 0 ∨ j = 1 by simp at hj; omega) with rfl | rfl <;> simp
theorem byt2 {x y : Nat} (hx : x < 256) (hy : y < 256) : Byt [x, y] := fun j => by
  rcases j with _ | _ | j
  · exact hx
  · exact hy
  · simp
theorem row_any {u : World} {a : Option Addr} {n c : Nat} : Calls Try.prog 32 #[.slice a n c] u fun e w' => e = .returned (.agg #[.int .i64 (n : Int), .int .i64 1, .slice a n c]) ∧ Below u.heap.size u w' := by
  go_enter Try.func32, Try.ntmps32
  go_wp2
  refine bodyPost_ret (v := .agg #[.int .i64 (n : Int), .int .i64 1, .slice a n c]) (by simp [results, Try.results32, go_sem]) rfl ⟨rfl, ?_⟩
  first | exact from_alloc _ _ | exact below_set (below_set (below_set (from_alloc _ _) (by simp) _) (by simp) _) (by simp) _
theorem best_w {w : World} {a : Option Addr} (h : Fl w a [4613937818241073152, 4607182418800017408, 4607182418800017408]) : Calls Try.prog 17 #[.slice a 3 3] w fun e w' => e = .returned (.tuple #[.int .i64 1, .int .i64 0]) ∧ w' = w := by
  have := best_any (c := 3) h (by decide)
  rwa [show bst [4613937818241073152, 4607182418800017408, 4607182418800017408] [4613937818241073152, 4607182418800017408, 4607182418800017408].length = some 1 from by decide +kernel] at this
theorem mean_w {w : World} {a : Option Addr} (h : Fl w a [4607182418800017408, 4611686018427387904, 4618441417868443648]) : Calls Try.prog 19 #[.slice a 3 3] w fun e w' => Ans w (some 4613937818241073152) e w' := by
  have := mean_any (c := 3) h (by decide) (by decide)
  rwa [show meanO [4607182418800017408, 4611686018427387904, 4618441417868443648] = some 4613937818241073152 from by decide +kernel] at this
theorem cost_w (w : World) : Calls Try.prog 15 #[.int .u64 10, .int .u64 3, .float .f64 4602678819172646912] w fun e w' => Ans w (some 4622663542519103488) e w' := by
  have := cost_any 10 3 4602678819172646912 w
  rwa [show costO 10 3 4602678819172646912 = some 4622663542519103488 from by decide +kernel] at this
theorem class_w (w : World) : Calls Try.prog 21 #[.float .f64 4602678819172646912] w fun e w' => e = .returned (.string ⟨#[108, 111, 119]⟩) ∧ w' = w := by
  have := class_any (x := 4602678819172646912) (by decide) w
  rwa [show cls 4602678819172646912 = ⟨#[108, 111, 119]⟩ from by decide +kernel] at this
theorem rat_w : ratO 2 1 [0, 0] 2 1 [0, 1] = some 4683673381160091648 := by
  have hp : APk 2 1 [0, 0] 2 1 [0, 1] := ⟨⟨by decide, by decide, by decide, by decide, by decide⟩, ⟨by decide, by decide, by decide, by decide, by decide⟩, rfl, rfl⟩
  unfold ratO
  rw [if_pos hp]
  decide +kernel
theorem ratio_w {u : World} {a b : Option Addr} (h1 : Sl u .u8 a [0, 0]) (h2 : Sl u .u8 b [0, 1]) : Calls Try.prog 11 #[.agg #[.int .i64 2, .int .i64 1, .slice a 2 2], .agg #[.int .i64 2, .int .i64 1, .slice b 2 2]] u fun e w' => Rat u (some 4683673381160091648) e w' := by
  have := ratio_any (c := 2) (d := 2) (W := 2) (H := 1) (W' := 2) (H' := 1) h1 h2 (byt2 (by decide) (by decide)) (byt2 (by decide) (by decide))
  rwa [rat_w] at this
theorem self_eq {x : Nat} (h : ¬ Nan x) : (FloatKind.f64.format.order x x == some .eq) = true := by rw [ord_fmt, ord_eq]; exact feq_self h

set_option maxRecDepth 100000 in
set_option maxHeartbeats 2000000 in
theorem works_true (u : World) : Calls Try.prog 14 #[] u fun e w' => e = .returned (.bool true) ∧ Below u.heap.size u w' := by
  have q1 : (FloatKind.f64.format.order 4683673381160091648 4683673381160091648 == some .eq) = true := self_eq (by decide +kernel)
  have q2 : (FloatKind.f64.format.order 4622663542519103488 4622663542519103488 == some .eq) = true := self_eq (by decide +kernel)
  have q3 : (FloatKind.f64.format.order 4613937818241073152 4613937818241073152 == some .eq) = true := self_eq (by decide +kernel)
  go_enter Try.func14, Try.ntmps14
  go_wp2_with fail
  refine (best_w (fl_made3 _ _ _ _)).mono ?_
  rintro e w1 ⟨rfl, rfl⟩
  have B1 : Hid (Below u.heap.size u _) := from_alloc u (.cells #[.float .f64 4613937818241073152, .float .f64 4607182418800017408, .float .f64 4607182418800017408] 27)
  generalize u.alloc (.cells #[.float .f64 4613937818241073152, .float .f64 4607182418800017408, .float .f64 4607182418800017408] 27) = v1 at *
  go_wp2_with fail
  refine row_any.mono ?_
  rintro e w2 ⟨rfl, hb2⟩
  have S1 : Hid (Sl w2 .u8 (some ⟨v1.heap.size, 0, none⟩) [0, 0]) := (sl_made2 v1 0 0).to hb2
  have B2 : Hid (Below u.heap.size u w2) := below_to B1.out (below_to (from_alloc _ _) hb2)
  clear hb2
  generalize v1.heap.size = g1 at *
  go_wp2_with fail
  refine row_any.mono ?_
  rintro e w3 ⟨rfl, hb3⟩
  have S2 : Hid (Sl w3 .u8 (some ⟨w2.heap.size, 0, none⟩) [0, 1]) := (sl_made2 w2 0 1).to hb3
  have S3 : Hid (Sl w3 .u8 (some ⟨g1, 0, none⟩) [0, 0]) := S1.out.to (below_to (from_alloc _ _) hb3)
  have B3 : Hid (Below u.heap.size u w3) := below_to B2.out (below_to (from_alloc _ _) hb3)
  clear hb3 S1
  generalize w2.heap.size = g2 at *
  go_wp2_with fail
  refine (ratio_w S3.out S2.out).mono ?_
  rintro e w4 ⟨r, rfl, hr, hb4⟩
  obtain rfl : r = 4683673381160091648 := hr
  have B4 : Hid (Below u.heap.size u w4) := below_to B3.out hb4
  clear hb4 S2 S3
  go_wp2_with fail
  refine (cost_w _).mono ?_
  rintro e w5 ⟨r, n, rfl, rfl, hr⟩
  obtain rfl : r = 4622663542519103488 := hr
  have B5 : Hid (Below u.heap.size u (w4.drewN n)) := below_drewN B4.out n
  generalize w4.drewN n = v5 at *
  go_wp2_with fail
  refine (mean_w (fl_made3 _ _ _ _)).mono ?_
  rintro e w6 ⟨r, m, rfl, rfl, hr⟩
  obtain rfl : r = 4613937818241073152 := hr
  have B6 : Hid (Below u.heap.size u _) := below_drewN (below_to B5.out (from_alloc v5 (.cells #[.float .f64 4607182418800017408, .float .f64 4611686018427387904, .float .f64 4618441417868443648] 27))) m
  go_wp2_with fail
  refine (class_w _).mono ?_
  rintro e w7 ⟨rfl, rfl⟩
  go_wp2_with fail
  go_ret
  exact ⟨rfl, B6.out⟩

end Go.Proofs.Ytdiphgkgehpgiaa
