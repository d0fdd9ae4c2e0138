/- DERIVED. works. -/
import Derived.Test.YtjijgeeejhijhaaCd
import Derived.Test.YtjijgeeejhijhaaEf
namespace Go.Proofs.Ytjijgeeejhijhaa
open Go.RowKit

set_option maxRecDepth 100000 in
theorem ex_1 : cutR 4 0 0 16 = [(0, 0, 8, 8), (8, 0, 8, 8), (0, 8, 16, 8)] := by decide +kernel
set_option maxRecDepth 100000 in
theorem ex_2 : tree (0, 0, 24, 16) [] 3 0 0 0 = ([(0, 0, 16, 16), (16, 0, 8, 8), (16, 8, 8, 8)], 0) := by decide +kernel
set_option maxRecDepth 100000 in
theorem ex_3 : tree (0, 0, 64, 64) [13, 1] 3 0 0 0 = ([(0, 0, 32, 16), (0, 16, 32, 16), (32, 0, 32, 32), (0, 32, 32, 32), (32, 32, 32, 32)], 2) := by decide +kernel
theorem Or4.sl {w : World} {B : Nat} {v : Value} {C : List Rc} (h : Or4 w B v C) : ∃ a c, v = .slice a C.length c ∧ Sr w a C := by
  obtain ⟨a, c, h1, _, h3, _⟩ := h.form
  exact ⟨a, c, h1, h3⟩
/-- one list compared with a literal one -/
theorem same_lit {t : World} {a : Option Addr} {n c m : Nat} {L : List Rc} {cs : Array Value} (h : Sr t a L) (hn : L.length = n) (hm : L.length = m) (hl : n ≤ 1000) (hc : cs = (rs L).toArray) :
    Calls Try.prog 23 #[.slice a n c, .slice (some ⟨t.heap.size, 0, none⟩) m m] (t.alloc (.cells cs 23)) fun e w' => e = .returned (.bool true) ∧ Below t.heap.size t w' := by
  have := same_at (c := c) (d := m) (h.to (from_alloc t (.cells cs 23))) (Hr.lit t L rfl hc).sr hn hm (by omega) (by omega)
  refine this.mono ?_
  rintro e w' ⟨rfl, hb⟩
  exact ⟨by rw [eqR_self], below_to (from_alloc _ _) hb⟩
set_option maxRecDepth 100000 in
set_option maxHeartbeats 4000000 in
theorem works_true (u : World) : Calls Try.prog 14 #[] u fun e w' => e = .returned (.bool true) ∧ Below u.heap.size u w' := by
  have H1 : Hid (∀ t, Calls Try.prog 11 #[.agg #[.int .i64 0, .int .i64 0, .int .i64 16, .int .i64 16], .int .i64 4] t fun e w' => ∃ g, e = .returned (.tuple #[.slice (some ⟨g, 0, none⟩) 3 3, .int .i64 0]) ∧ Sr w' (some ⟨g, 0, none⟩) [(0, 0, 8, 8), (8, 0, 8, 8), (0, 8, 16, 8)] ∧ Below t.heap.size t w') := fun t => by
    have := cuts_ok (w := t) (x := 0) (y := 0) (s := 16) (kd := 4) (by decide) (by decide)
    rw [ex_1] at this
    refine this.mono ?_
    rintro e w' ⟨g, rfl, hr, _, hb⟩
    exact ⟨g, rfl, hr.sr, hb⟩
  have H2 : Hid (∀ t, Calls Try.prog 16 #[.agg #[.int .i64 0, .int .i64 0, .int .i64 64, .int .i64 64], .agg #[.int .i64 0, .int .i64 0, .int .i64 24, .int .i64 16], .slice none 0 0] t fun e w' => ∃ a c, e = .returned (.tuple #[.slice a 3 c, .int .i64 0, .int .i64 0]) ∧ Sr w' a [(0, 0, 16, 16), (16, 0, 8, 8), (16, 8, 8, 8)] ∧ Below t.heap.size t w') := fun t => by
    have := blocks_ok (w := t) (x := 0) (y := 0) (s := 64) (s' := 64) (ax := 0) (ay := 0) (aw := 24) (ah := 16) (a := none) (c := 0) (C := []) (by decide) (by decide) (Si.nil _ _) (by simp)
    rw [ex_2] at this
    refine this.mono ?_
    rintro e w' ⟨v, rfl, ho, hb⟩
    obtain ⟨a, c, rfl, hs⟩ := ho.sl
    exact ⟨a, c, rfl, hs, hb⟩
  have H3 : Hid (∀ t, Calls Try.prog 16 #[.agg #[.int .i64 0, .int .i64 0, .int .i64 64, .int .i64 64], .agg #[.int .i64 0, .int .i64 0, .int .i64 64, .int .i64 64], .slice (some ⟨t.heap.size, 0, none⟩) 2 2] (t.alloc (.cells #[.int .i64 13, .int .i64 1] 3)) fun e w' => ∃ a c, e = .returned (.tuple #[.slice a 5 c, .int .i64 2, .int .i64 0]) ∧ Sr w' a [(0, 0, 32, 16), (0, 16, 32, 16), (32, 0, 32, 32), (0, 32, 32, 32), (32, 32, 32, 32)] ∧ Below t.heap.size t w') := fun t => by
    have := blocks_ok (w := t.alloc (.cells #[.int .i64 13, .int .i64 1] 3)) (x := 0) (y := 0) (s := 64) (s' := 64) (ax := 0) (ay := 0) (aw := 64) (ah := 64) (a := some ⟨t.heap.size, 0, none⟩) (c := 2) (C := [13, 1]) (by decide) (by decide) (Ri.built 3 t [13, 1] rfl).si (by simp)
    rw [ex_3] at this
    refine this.mono ?_
    rintro e w' ⟨v, rfl, ho, hb⟩
    obtain ⟨a, c, rfl, hs⟩ := ho.sl
    exact ⟨a, c, rfl, hs, below_to (from_alloc _ _) hb⟩
  have B0 : Hid (Below u.heap.size u u) := Below.refl _ _
  go_enter Try.func14, Try.ntmps14
  go_wp2_with fail
  refine rect_any.mono ?_
  rintro e w1 ⟨rfl, hb⟩
  have B1 : Hid (Below u.heap.size u w1) := below_to B0.out hb
  clear hb B0
  go_wp2_with fail
  refine (H1.out _).mono ?_
  rintro e w2 ⟨ga, rfl, hs, hb⟩
  have B2 : Hid (Below u.heap.size u w2) := below_to B1.out hb
  have P2 : Hid (Sr w2 _ _) := hs
  clear hb B1 hs
  go_wp2_with fail
  refine rect_any.mono ?_
  rintro e w3 ⟨rfl, hb⟩
  have B3 : Hid (Below u.heap.size u w3) := below_to B2.out hb
  have P3 : Hid (Sr w3 _ _) := Sr.to P2.out hb
  clear hb B2 P2
  go_wp2_with fail
  refine rect_any.mono ?_
  rintro e w4 ⟨rfl, hb⟩
  have B4 : Hid (Below u.heap.size u w4) := below_to B3.out hb
  have P4 : Hid (Sr w4 _ _) := Sr.to P3.out hb
  clear hb B3 P3
  go_wp2_with fail
  refine (H2.out _).mono ?_
  rintro e w5 ⟨a2, c2, rfl, hs, hb⟩
  have B5 : Hid (Below u.heap.size u w5) := below_to B4.out hb
  have P5 : Hid (Sr w5 _ _) := Sr.to P4.out hb
  have Q5 : Hid (Sr w5 _ _) := hs
  clear hb B4 P4 hs
  go_wp2_with fail
  refine rect_any.mono ?_
  rintro e w6 ⟨rfl, hb⟩
  have B6 : Hid (Below u.heap.size u w6) := below_to B5.out hb
  have P6 : Hid (Sr w6 _ _) := Sr.to P5.out hb
  have Q6 : Hid (Sr w6 _ _) := Sr.to Q5.out hb
  clear hb B5 P5 Q5
  go_wp2_with fail
  refine rect_any.mono ?_
  rintro e w7 ⟨rfl, hb⟩
  have B7 : Hid (Below u.heap.size u w7) := below_to B6.out hb
  have P7 : Hid (Sr w7 _ _) := Sr.to P6.out hb
  have Q7 : Hid (Sr w7 _ _) := Sr.to Q6.out hb
  clear hb B6 P6 Q6
  go_wp2_with fail
  refine (H3.out _).mono ?_
  rintro e w8 ⟨a3, c3, rfl, hs, hb⟩
  have B8 : Hid (Below u.heap.size u w8) := below_to B7.out hb
  have P8 : Hid (Sr w8 _ _) := Sr.to P7.out hb
  have Q8 : Hid (Sr w8 _ _) := Sr.to Q7.out hb
  have T8 : Hid (Sr w8 _ _) := hs
  clear hb B7 P7 Q7 hs
  go_wp2_with fail
  refine rect_any.mono ?_
  rintro e w9 ⟨rfl, hb⟩
  have B9 : Hid (Below u.heap.size u w9) := below_to B8.out hb
  have P9 : Hid (Sr w9 _ _) := Sr.to P8.out hb
  have Q9 : Hid (Sr w9 _ _) := Sr.to Q8.out hb
  have T9 : Hid (Sr w9 _ _) := Sr.to T8.out hb
  clear hb B8 P8 Q8 T8
  go_wp2_with fail
  refine rect_any.mono ?_
  rintro e w10 ⟨rfl, hb⟩
  have B10 : Hid (Below u.heap.size u w10) := below_to B9.out hb
  have P10 : Hid (Sr w10 _ _) := Sr.to P9.out hb
  have Q10 : Hid (Sr w10 _ _) := Sr.to Q9.out hb
  have T10 : Hid (Sr w10 _ _) := Sr.to T9.out hb
  clear hb B9 P9 Q9 T9
  go_wp2_with fail
  refine rect_any.mono ?_
  rintro e w11 ⟨rfl, hb⟩
  have B11 : Hid (Below u.heap.size u w11) := below_to B10.out hb
  have P11 : Hid (Sr w11 _ _) := Sr.to P10.out hb
  have Q11 : Hid (Sr w11 _ _) := Sr.to Q10.out hb
  have T11 : Hid (Sr w11 _ _) := Sr.to T10.out hb
  clear hb B10 P10 Q10 T10
  go_wp2_with fail
  refine (same_lit P11.out rfl rfl (by decide) (by simp only [rs_cons, rs_nil])).mono ?_
  rintro e w12 ⟨rfl, hb⟩
  have B12 : Hid (Below u.heap.size u w12) := below_to B11.out hb
  have Q12 : Hid (Sr w12 _ _) := Sr.to Q11.out hb
  have T12 : Hid (Sr w12 _ _) := Sr.to T11.out hb
  clear hb B11 Q11 T11
  go_wp2_with fail
  refine rect_any.mono ?_
  rintro e w13 ⟨rfl, hb⟩
  have B13 : Hid (Below u.heap.size u w13) := below_to B12.out hb
  have Q13 : Hid (Sr w13 _ _) := Sr.to Q12.out hb
  have T13 : Hid (Sr w13 _ _) := Sr.to T12.out hb
  clear hb B12 Q12 T12
  go_wp2_with fail
  refine rect_any.mono ?_
  rintro e w14 ⟨rfl, hb⟩
  have B14 : Hid (Below u.heap.size u w14) := below_to B13.out hb
  have Q14 : Hid (Sr w14 _ _) := Sr.to Q13.out hb
  have T14 : Hid (Sr w14 _ _) := Sr.to T13.out hb
  clear hb B13 Q13 T13
  go_wp2_with fail
  refine rect_any.mono ?_
  rintro e w15 ⟨rfl, hb⟩
  have B15 : Hid (Below u.heap.size u w15) := below_to B14.out hb
  have Q15 : Hid (Sr w15 _ _) := Sr.to Q14.out hb
  have T15 : Hid (Sr w15 _ _) := Sr.to T14.out hb
  clear hb B14 Q14 T14
  go_wp2_with fail
  refine (same_lit Q15.out rfl rfl (by decide) (by simp only [rs_cons, rs_nil])).mono ?_
  rintro e w16 ⟨rfl, hb⟩
  have B16 : Hid (Below u.heap.size u w16) := below_to B15.out hb
  have T16 : Hid (Sr w16 _ _) := Sr.to T15.out hb
  clear hb B15 T15
  go_wp2_with fail
  refine rect_any.mono ?_
  rintro e w17 ⟨rfl, hb⟩
  have B17 : Hid (Below u.heap.size u w17) := below_to B16.out hb
  have T17 : Hid (Sr w17 _ _) := Sr.to T16.out hb
  clear hb B16 T16
  go_wp2_with fail
  refine rect_any.mono ?_
  rintro e w18 ⟨rfl, hb⟩
  have B18 : Hid (Below u.heap.size u w18) := below_to B17.out hb
  have T18 : Hid (Sr w18 _ _) := Sr.to T17.out hb
  clear hb B17 T17
  go_wp2_with fail
  refine rect_any.mono ?_
  rintro e w19 ⟨rfl, hb⟩
  have B19 : Hid (Below u.heap.size u w19) := below_to B18.out hb
  have T19 : Hid (Sr w19 _ _) := Sr.to T18.out hb
  clear hb B18 T18
  go_wp2_with fail
  refine rect_any.mono ?_
  rintro e w20 ⟨rfl, hb⟩
  have B20 : Hid (Below u.heap.size u w20) := below_to B19.out hb
  have T20 : Hid (Sr w20 _ _) := Sr.to T19.out hb
  clear hb B19 T19
  go_wp2_with fail
  refine rect_any.mono ?_
  rintro e w21 ⟨rfl, hb⟩
  have B21 : Hid (Below u.heap.size u w21) := below_to B20.out hb
  have T21 : Hid (Sr w21 _ _) := Sr.to T20.out hb
  clear hb B20 T20
  go_wp2_with fail
  refine (same_lit T21.out rfl rfl (by decide) (by simp only [rs_cons, rs_nil])).mono ?_
  rintro e w22 ⟨rfl, hb⟩
  have B22 : Hid (Below u.heap.size u w22) := below_to B21.out hb
  clear hb B21
  go_wp2_with fail
  go_ret
  exact ⟨rfl, B22.out⟩
end Go.Proofs.Ytjijgeeejhijhaa
