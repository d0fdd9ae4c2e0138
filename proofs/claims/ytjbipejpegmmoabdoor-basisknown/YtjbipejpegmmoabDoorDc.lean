/- DERIVED. The walk of works. -/
import Derived.Test.YtjbipejpegmmoabDoorCg
import Derived.Test.YtjbipejpegmmoabDoorDa
namespace Go.Proofs.YtjbipejpegmmoabDoor
open Go.RowKit

theorem inv_at {w : World} {g n c : Nat} {k : Int} {C R : List Int} (hq : Qt w) (hs : Si w (some ⟨g, 0, none⟩) C) (hn : C.length = n) (hm : tkB (kL k) C = true) (hR : invR k C = R) :
    Calls Tryd.prog 6 #[.int .i64 k, .slice (some ⟨g, 0, none⟩) n c] w fun e w' => N2 w w' e R := by
  subst hR; subst hn; exact inv_yes hq hs hm
theorem fwd_at {w : World} {g n c : Nat} {k : Int} {C R : List Int} (hq : Qt w) (hs : Si w (some ⟨g, 0, none⟩) C) (hn : C.length = n) (hm : tkB (kL k) C = true) (hR : fwdR k C = R) :
    Calls Tryd.prog 7 #[.int .i64 k, .slice (some ⟨g, 0, none⟩) n c] w fun e w' => N2 w w' e R := by
  subst hR; subst hn; exact fwd_yes hq hs hm
theorem eq_at {w : World} {g h n m c d : Nat} {C D : List Int} (h1 : Si w (some ⟨g, 0, none⟩) C) (h2 : Si w (some ⟨h, 0, none⟩) D) (hn : C.length = n) (hm : D.length = m) (e : C = D) (hl : n ≤ 140737488355328) :
    Calls Tryd.prog 8 #[.slice (some ⟨g, 0, none⟩) n c, .slice (some ⟨h, 0, none⟩) m d] w fun e w' => e = .returned (.bool true) ∧ Below w.heap.size w w' := by
  subst e; subst hn; subst hm
  have := eqInts_any (c := c) (d := d) h1 h2 hl hl
  rwa [eqI_self] at this

set_option maxRecDepth 100000 in
set_option maxHeartbeats 2000000 in
theorem works_any {w : World} (hq : Qt w) : Calls Tryd.prog 9 #[] w fun e w' => e = .returned (.bool true) ∧ Below w.heap.size w w' := by
  have HQ : Hid (Qt w) := hq
  have HB0 : Hid (Below w.heap.size w w) := Below.refl _ _
  clear hq
  go_enter Tryd.func9, Tryd.ntmps9
  go_wp2_with fail
  have HA1 : Hid (Below w.heap.size w (w.alloc (.cells #[.int .i64 0, .int .i64 4096, .int .i64 0, .int .i64 0] 3))) := from_alloc _ _
  have HQ1 : Hid (Qt (w.alloc (.cells #[.int .i64 0, .int .i64 4096, .int .i64 0, .int .i64 0] 3))) := (HQ).out.to HA1.out
  have HI1 : Hid (Ri 3 (w.alloc (.cells #[.int .i64 0, .int .i64 4096, .int .i64 0, .int .i64 0] 3)) w.heap.size [0, 4096, 0, 0]) := Ri.built 3 w [0, 4096, 0, 0] rfl
  refine (inv_at (C := [0, 4096, 0, 0]) (R := [3784, 1567, -1567, -3784]) HQ1.out HI1.out.si rfl (by decide +kernel) (by decide +kernel)).mono ?_
  rintro e w1 ⟨g1, rfl, hg1, hr1, hb1⟩
  have HB1 : Hid (Below w.heap.size w w1) := below_to (to_alloc HB0.out _) hb1
  have HP1 : Hid (Qt w1) := HQ1.out.to hb1
  have HR1_1 : Hid (Ri 3 w1 g1 [3784, 1567, -1567, -3784]) := hr1
  clear hg1 hr1 hb1 HQ1 HI1 HA1
  simp only [List.length_cons, List.length_nil, Nat.zero_add, Nat.reduceAdd]
  go_wp2_with fail
  have HA2 : Hid (Below w1.heap.size w1 (w1.alloc (.cells #[.int .i64 4096, .int .i64 0, .int .i64 0, .int .i64 0] 3))) := from_alloc _ _
  have HQ2 : Hid (Qt (w1.alloc (.cells #[.int .i64 4096, .int .i64 0, .int .i64 0, .int .i64 0] 3))) := (HP1).out.to HA2.out
  have HI2 : Hid (Ri 3 (w1.alloc (.cells #[.int .i64 4096, .int .i64 0, .int .i64 0, .int .i64 0] 3)) w1.heap.size [4096, 0, 0, 0]) := Ri.built 3 w1 [4096, 0, 0, 0] rfl
  refine (inv_at (C := [4096, 0, 0, 0]) (R := [799, 2276, 3406, 4017]) HQ2.out HI2.out.si rfl (by decide +kernel) (by decide +kernel)).mono ?_
  rintro e w2 ⟨g2, rfl, hg2, hr2, hb2⟩
  have HB2 : Hid (Below w.heap.size w w2) := below_to (to_alloc HB1.out _) hb2
  have HP2 : Hid (Qt w2) := HQ2.out.to hb2
  have HR2_2 : Hid (Ri 3 w2 g2 [799, 2276, 3406, 4017]) := hr2
  have HR1_2 : Hid (Ri 3 w2 g1 [3784, 1567, -1567, -3784]) := (HR1_1.out.to HA2.out).to hb2
  clear hg2 hr2 hb2 HQ2 HI2 HA2
  simp only [List.length_cons, List.length_nil, Nat.zero_add, Nat.reduceAdd]
  go_wp2_with fail
  have HA3 : Hid (Below w2.heap.size w2 (w2.alloc (.cells #[.int .i64 1, .int .i64 2, .int .i64 3, .int .i64 4] 3))) := from_alloc _ _
  have HQ3 : Hid (Qt (w2.alloc (.cells #[.int .i64 1, .int .i64 2, .int .i64 3, .int .i64 4] 3))) := (HP2).out.to HA3.out
  have HI3 : Hid (Ri 3 (w2.alloc (.cells #[.int .i64 1, .int .i64 2, .int .i64 3, .int .i64 4] 3)) w2.heap.size [1, 2, 3, 4]) := Ri.built 3 w2 [1, 2, 3, 4] rfl
  refine (fwd_at (C := [1, 2, 3, 4]) (R := [5, -2, 0, -1]) HQ3.out HI3.out.si rfl (by decide +kernel) (by decide +kernel)).mono ?_
  rintro e w3 ⟨g3, rfl, hg3, hr3, hb3⟩
  have HB3 : Hid (Below w.heap.size w w3) := below_to (to_alloc HB2.out _) hb3
  have HP3 : Hid (Qt w3) := HQ3.out.to hb3
  have HR3_3 : Hid (Ri 3 w3 g3 [5, -2, 0, -1]) := hr3
  have HR1_3 : Hid (Ri 3 w3 g1 [3784, 1567, -1567, -3784]) := (HR1_2.out.to HA3.out).to hb3
  have HR2_3 : Hid (Ri 3 w3 g2 [799, 2276, 3406, 4017]) := (HR2_2.out.to HA3.out).to hb3
  clear hg3 hr3 hb3 HQ3 HI3 HA3
  simp only [List.length_cons, List.length_nil, Nat.zero_add, Nat.reduceAdd]
  go_wp2_with fail
  have HA4 : Hid (Below w3.heap.size w3 (w3.alloc (.cells #[.int .i64 5, .int .i64 5, .int .i64 5, .int .i64 5, .int .i64 5, .int .i64 5, .int .i64 5, .int .i64 5] 3))) := from_alloc _ _
  have HQ4 : Hid (Qt (w3.alloc (.cells #[.int .i64 5, .int .i64 5, .int .i64 5, .int .i64 5, .int .i64 5, .int .i64 5, .int .i64 5, .int .i64 5] 3))) := (HP3).out.to HA4.out
  have HI4 : Hid (Ri 3 (w3.alloc (.cells #[.int .i64 5, .int .i64 5, .int .i64 5, .int .i64 5, .int .i64 5, .int .i64 5, .int .i64 5, .int .i64 5] 3)) w3.heap.size [5, 5, 5, 5, 5, 5, 5, 5]) := Ri.built 3 w3 [5, 5, 5, 5, 5, 5, 5, 5] rfl
  refine (fwd_at (C := [5, 5, 5, 5, 5, 5, 5, 5]) (R := [10, 10, 10, 10, 10, 10, 10, 10]) HQ4.out HI4.out.si rfl (by decide +kernel) (by decide +kernel)).mono ?_
  rintro e w4 ⟨g4, rfl, hg4, hr4, hb4⟩
  have HB4 : Hid (Below w.heap.size w w4) := below_to (to_alloc HB3.out _) hb4
  have HP4 : Hid (Qt w4) := HQ4.out.to hb4
  have HR4_4 : Hid (Ri 3 w4 g4 [10, 10, 10, 10, 10, 10, 10, 10]) := hr4
  have HR1_4 : Hid (Ri 3 w4 g1 [3784, 1567, -1567, -3784]) := (HR1_3.out.to HA4.out).to hb4
  have HR2_4 : Hid (Ri 3 w4 g2 [799, 2276, 3406, 4017]) := (HR2_3.out.to HA4.out).to hb4
  have HR3_4 : Hid (Ri 3 w4 g3 [5, -2, 0, -1]) := (HR3_3.out.to HA4.out).to hb4
  clear hg4 hr4 hb4 HQ4 HI4 HA4
  simp only [List.length_cons, List.length_nil, Nat.zero_add, Nat.reduceAdd]
  go_wp2_with fail
  have HA5 : Hid (Below w4.heap.size w4 (w4.alloc (.cells #[.int .i64 3784, .int .i64 1567, .int .i64 (-1567), .int .i64 (-3784)] 3))) := from_alloc _ _
  have HI5 : Hid (Ri 3 (w4.alloc (.cells #[.int .i64 3784, .int .i64 1567, .int .i64 (-1567), .int .i64 (-3784)] 3)) w4.heap.size [3784, 1567, -1567, -3784]) := Ri.built 3 w4 [3784, 1567, -1567, -3784] rfl
  refine (eq_at (C := [3784, 1567, -1567, -3784]) (D := [3784, 1567, -1567, -3784]) (HR1_4.out.to HA5.out).si HI5.out.si rfl rfl rfl (by decide)).mono ?_
  rintro e w5 ⟨rfl, hb5⟩
  have HB5 : Hid (Below w.heap.size w w5) := below_to (to_alloc HB4.out _) hb5
  have HR2_5 : Hid (Ri 3 w5 g2 [799, 2276, 3406, 4017]) := (HR2_4.out.to HA5.out).to hb5
  have HR3_5 : Hid (Ri 3 w5 g3 [5, -2, 0, -1]) := (HR3_4.out.to HA5.out).to hb5
  have HR4_5 : Hid (Ri 3 w5 g4 [10, 10, 10, 10, 10, 10, 10, 10]) := (HR4_4.out.to HA5.out).to hb5
  clear hb5 HI5 HA5
  go_wp2_with fail
  have HA6 : Hid (Below w5.heap.size w5 (w5.alloc (.cells #[.int .i64 799, .int .i64 2276, .int .i64 3406, .int .i64 4017] 3))) := from_alloc _ _
  have HI6 : Hid (Ri 3 (w5.alloc (.cells #[.int .i64 799, .int .i64 2276, .int .i64 3406, .int .i64 4017] 3)) w5.heap.size [799, 2276, 3406, 4017]) := Ri.built 3 w5 [799, 2276, 3406, 4017] rfl
  refine (eq_at (C := [799, 2276, 3406, 4017]) (D := [799, 2276, 3406, 4017]) (HR2_5.out.to HA6.out).si HI6.out.si rfl rfl rfl (by decide)).mono ?_
  rintro e w6 ⟨rfl, hb6⟩
  have HB6 : Hid (Below w.heap.size w w6) := below_to (to_alloc HB5.out _) hb6
  have HR3_6 : Hid (Ri 3 w6 g3 [5, -2, 0, -1]) := (HR3_5.out.to HA6.out).to hb6
  have HR4_6 : Hid (Ri 3 w6 g4 [10, 10, 10, 10, 10, 10, 10, 10]) := (HR4_5.out.to HA6.out).to hb6
  clear hb6 HI6 HA6
  go_wp2_with fail
  have HA7 : Hid (Below w6.heap.size w6 (w6.alloc (.cells #[.int .i64 5, .int .i64 (-2), .int .i64 0, .int .i64 (-1)] 3))) := from_alloc _ _
  have HI7 : Hid (Ri 3 (w6.alloc (.cells #[.int .i64 5, .int .i64 (-2), .int .i64 0, .int .i64 (-1)] 3)) w6.heap.size [5, -2, 0, -1]) := Ri.built 3 w6 [5, -2, 0, -1] rfl
  refine (eq_at (C := [5, -2, 0, -1]) (D := [5, -2, 0, -1]) (HR3_6.out.to HA7.out).si HI7.out.si rfl rfl rfl (by decide)).mono ?_
  rintro e w7 ⟨rfl, hb7⟩
  have HB7 : Hid (Below w.heap.size w w7) := below_to (to_alloc HB6.out _) hb7
  have HR4_7 : Hid (Ri 3 w7 g4 [10, 10, 10, 10, 10, 10, 10, 10]) := (HR4_6.out.to HA7.out).to hb7
  clear hb7 HI7 HA7
  go_wp2_with fail
  have HA8 : Hid (Below w7.heap.size w7 (w7.alloc (.cells #[.int .i64 10, .int .i64 10, .int .i64 10, .int .i64 10, .int .i64 10, .int .i64 10, .int .i64 10, .int .i64 10] 3))) := from_alloc _ _
  have HI8 : Hid (Ri 3 (w7.alloc (.cells #[.int .i64 10, .int .i64 10, .int .i64 10, .int .i64 10, .int .i64 10, .int .i64 10, .int .i64 10, .int .i64 10] 3)) w7.heap.size [10, 10, 10, 10, 10, 10, 10, 10]) := Ri.built 3 w7 [10, 10, 10, 10, 10, 10, 10, 10] rfl
  refine (eq_at (C := [10, 10, 10, 10, 10, 10, 10, 10]) (D := [10, 10, 10, 10, 10, 10, 10, 10]) (HR4_7.out.to HA8.out).si HI8.out.si rfl rfl rfl (by decide)).mono ?_
  rintro e w8 ⟨rfl, hb8⟩
  have HB8 : Hid (Below w.heap.size w w8) := below_to (to_alloc HB7.out _) hb8
  clear hb8 HI8 HA8
  go_wp2_with fail
  go_ret
  exact ⟨rfl, HB8.out⟩

end Go.Proofs.YtjbipejpegmmoabDoor
