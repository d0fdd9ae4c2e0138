/- DERIVED. The walk of MotionSingles. -/
import Derived.Test.YtpideemiijhkgaaDoorTo
import Derived.Test.YtpideemiijhkgaaDoorWb
import Derived.Test.YtpideemiijhkgaaDoorWc
import Derived.Test.YtpideemiijhkgaaDoorWh
import Derived.Deep.DeepCutAuto
import Derived.Deep.Light
namespace Go.Proofs.YtpideemiijhkgaaDoor
open Go.RowKit

set_option maxRecDepth 100000 in
set_option maxHeartbeats 4000000 in
theorem singles_walk {u : World} {W0 H0 W1 H1 W2 H2 : Int} {a0 a1 a2 : Option Addr} {c0 c1 c2 : Nat} {C0 C1 C2 : List Nat} {n X Y w ht vx vy k : Int} (hg : Gt u) (i0 : PlIn u W0 H0 a0 c0 C0) (i1 : PlIn u W1 H1 a1 c1 C1) (i2 : PlIn u W2 H2 a2 c2 C2) (hl : C0.length ≤ 140737488355328 ∧ C1.length ≤ 140737488355328 ∧ C2.length ≤ 140737488355328) :
    Calls Tryd.prog 3 #[.agg #[.int .i64 W0, .int .i64 H0, .slice a0 C0.length c0, .int .i64 W1, .int .i64 H1, .slice a1 C1.length c1, .int .i64 W2, .int .i64 H2, .slice a2 C2.length c2], .agg #[.int .i64 n, .int .i64 X, .int .i64 Y, .int .i64 w, .int .i64 ht, .int .i64 vx, .int .i64 vy, .int .i64 k]] u fun e w' => e = .returned (.bool true) ∧ Below u.heap.size u w' := by
  obtain ⟨L, er, lL, hP, hD⟩ := both_single i0.byt i1.byt i2.byt W0 H0 W1 H1 W2 H2 n X Y w ht vx vy k
  have HP : Hid _ := hP
  have HD : Hid _ := hD
  have HG : Hid (Gt u) := hg
  have S0 : Hid (Sl u .u8 a0 C0) := i0.sl
  have S1 : Hid (Sl u .u8 a1 C1) := i1.sl
  have S2 : Hid (Sl u .u8 a2 C2) := i2.sl
  have HL : Hid (C0.length ≤ 140737488355328 ∧ C1.length ≤ 140737488355328 ∧ C2.length ≤ 140737488355328) := hl
  have HLL : Hid (L.length ≤ 140737488355328) := by show _ ≤ _; omega
  have HW0 : Hid (Ww u W0 H0 W1 H1 W2 H2 a0 a1 a2 C0.length C1.length C2.length c0 c1 c2 n X Y w ht vx vy k ((u.alloc (.cells #[.int .i64 W0, .int .i64 H0, .slice a0 C0.length c0, .int .i64 W1, .int .i64 H1, .slice a1 C1.length c1, .int .i64 W2, .int .i64 H2, .slice a2 C2.length c2] 27)).alloc (.cells #[.int .i64 n, .int .i64 X, .int .i64 Y, .int .i64 w, .int .i64 ht, .int .i64 vx, .int .i64 vy, .int .i64 k] 33))) := by
    refine ⟨(Fc.built u W0 H0 a0 C0.length c0 W1 H1 a1 C1.length c1 W2 H2 a2 C2.length c2).below (by simp) (from_alloc _ _), Ev.built _ n X Y w ht vx vy k (by simp), to_alloc (from_alloc _ _) _, by simp⟩
  clear hP hD hg i0 i1 i2 hl lL
  go_enter Tryd.func3, Tryd.ntmps3
  go_wp2_with fail
  generalize ((u.alloc (.cells #[.int .i64 W0, .int .i64 H0, .slice a0 C0.length c0, .int .i64 W1, .int .i64 H1, .slice a1 C1.length c1, .int .i64 W2, .int .i64 H2, .slice a2 C2.length c2] 27)).alloc (.cells #[.int .i64 n, .int .i64 X, .int .i64 Y, .int .i64 w, .int .i64 ht, .int .i64 vx, .int .i64 vy, .int .i64 k] 33)) = V at *
  refine (copyFrame_any (S0.out.to HW0.out.bel) (S1.out.to HW0.out.bel) (S2.out.to HW0.out.bel) HL.out.1 HL.out.2.1 HL.out.2.2).mono ?_
  rintro e v1 ⟨b0, b1, b2, d0, d1, d2, rfl, m0, m1, m2, hb⟩
  have hw := HW0.out.to hb
  have HW2 : Hid (Ww u W0 H0 W1 H1 W2 H2 a0 a1 a2 C0.length C1.length C2.length c0 c1 c2 n X Y w ht vx vy k (v1.alloc (.cells #[.int .i64 W0, .int .i64 H0, .slice b0 C0.length d0, .int .i64 W1, .int .i64 H1, .slice b1 C1.length d1, .int .i64 W2, .int .i64 H2, .slice b2 C2.length d2] 27))) := hw.to (from_alloc _ _)
  have T0 : Hid (Sl (v1.alloc (.cells #[.int .i64 W0, .int .i64 H0, .slice b0 C0.length d0, .int .i64 W1, .int .i64 H1, .slice b1 C1.length d1, .int .i64 W2, .int .i64 H2, .slice b2 C2.length d2] 27)) .u8 b0 C0) := m0.sl.to (from_alloc _ _)
  have T1 : Hid (Sl (v1.alloc (.cells #[.int .i64 W0, .int .i64 H0, .slice b0 C0.length d0, .int .i64 W1, .int .i64 H1, .slice b1 C1.length d1, .int .i64 W2, .int .i64 H2, .slice b2 C2.length d2] 27)) .u8 b1 C1) := m1.sl.to (from_alloc _ _)
  have T2 : Hid (Sl (v1.alloc (.cells #[.int .i64 W0, .int .i64 H0, .slice b0 C0.length d0, .int .i64 W1, .int .i64 H1, .slice b1 C1.length d1, .int .i64 W2, .int .i64 H2, .slice b2 C2.length d2] 27)) .u8 b2 C2) := m2.sl.to (from_alloc _ _)
  have HI2 : Hid (Fc v1.heap.size W0 H0 b0 C0.length d0 W1 H1 b1 C1.length d1 W2 H2 b2 C2.length d2 (v1.alloc (.cells #[.int .i64 W0, .int .i64 H0, .slice b0 C0.length d0, .int .i64 W1, .int .i64 H1, .slice b1 C1.length d1, .int .i64 W2, .int .i64 H2, .slice b2 C2.length d2] 27))) := Fc.built v1 W0 H0 b0 C0.length d0 W1 H1 b1 C1.length d1 W2 H2 b2 C2.length d2
  have hlt : v1.heap.size < (v1.alloc (.cells #[.int .i64 W0, .int .i64 H0, .slice b0 C0.length d0, .int .i64 W1, .int .i64 H1, .slice b1 C1.length d1, .int .i64 W2, .int .i64 H2, .slice b2 C2.length d2] 27)).heap.size := by simp
  clear hb hw m0 m1 m2 HW0
  go_upto_region 2 with fail
  generalize (v1.alloc (.cells #[.int .i64 W0, .int .i64 H0, .slice b0 C0.length d0, .int .i64 W1, .int .i64 H1, .slice b1 C1.length d1, .int .i64 W2, .int .i64 H2, .slice b2 C2.length d2] 27)) = v2 at *
  have hw := HW2.out
  have hi := HI2.out
  have q0 := hi.c0
  have q1 := hi.c1
  have q2 := hi.c2
  have q3 := hi.c3
  have q4 := hi.c4
  have q5 := hi.c5
  have q6 := hi.c6
  have q7 := hi.c7
  have q8 := hi.c8
  have e0 := hw.ev.c0
  have e1 := hw.ev.c1
  have e2 := hw.ev.c2
  have e3 := hw.ev.c3
  have e4 := hw.ev.c4
  have e5 := hw.ev.c5
  have e6 := hw.ev.c6
  have e7 := hw.ev.c7
  clear hw hi
  go_wp2_with fail
  refine (HP.out _ b0 b1 b2 d0 d1 d2 (HG.out.to HW2.out.bel) T0.out T1.out T2.out).mono ?_
  rintro e v3 ⟨ad, rfl, haw, hb3⟩
  have HA3 : Hid (Aw v2 v3 ad L) := haw
  have HB3 : Hid (Below v2.heap.size v2 v3) := hb3
  have hw := HW2.out.to hb3
  have HW3 : Hid (Ww u W0 H0 W1 H1 W2 H2 a0 a1 a2 C0.length C1.length C2.length c0 c1 c2 n X Y w ht vx vy k v3) := hw
  clear q0 q1 q2 q3 q4 q5 q6 q7 q8 e0 e1 e2 e3 e4 e5 e6 e7
  have q0 := hw.fc.c0
  have q1 := hw.fc.c1
  have q2 := hw.fc.c2
  have q3 := hw.fc.c3
  have q4 := hw.fc.c4
  have q5 := hw.fc.c5
  have q6 := hw.fc.c6
  have q7 := hw.fc.c7
  have q8 := hw.fc.c8
  have e0 := hw.ev.c0
  have e1 := hw.ev.c1
  have e2 := hw.ev.c2
  have e3 := hw.ev.c3
  have e4 := hw.ev.c4
  have e5 := hw.ev.c5
  have e6 := hw.ev.c6
  have e7 := hw.ev.c7
  clear haw hb3 hw HP
  go_wp2_with fail
  refine (HD.out _ a0 a1 a2 c0 c1 c2 (S0.out.to HW3.out.bel) (S1.out.to HW3.out.bel) (S2.out.to HW3.out.bel)).mono ?_
  rintro e v4 ⟨bd, cc, rfl, hsl, hb4⟩
  have HB4 : Hid (Below v2.heap.size v2 v4) := below_to HB3.out hb4
  have HT : Hid (Calls Tryd.prog 12 #[.slice ad L.length L.length, .int .i64 er, .slice bd L.length cc, .int .i64 er] v4 fun e w' => e = .returned (.bool true) ∧ Below v2.heap.size v4 w') := told_any (HA3.out.to hb4) hsl HB4.out.size HLL.out
  clear q0 q1 q2 q3 q4 q5 q6 q7 q8 e0 e1 e2 e3 e4 e5 e6 e7
  clear hsl hb4 HA3 HB3 HW3 HD
  go_wp2_with fail
  refine HT.out.mono ?_
  rintro e v5 ⟨rfl, hb5⟩
  have hb : Below v2.heap.size v2 v5 := HB4.out.trans hb5
  have HB5 : Hid (Below v2.heap.size v2 v5) := hb
  have hw := HW2.out.to hb
  have HW5 : Hid (Ww u W0 H0 W1 H1 W2 H2 a0 a1 a2 C0.length C1.length C2.length c0 c1 c2 n X Y w ht vx vy k v5) := hw
  have hi := HI2.out.below hlt hb
  have r0 := hi.c0
  have r1 := hi.c1
  have r2 := hi.c2
  have r3 := hi.c3
  have r4 := hi.c4
  have r5 := hi.c5
  have r6 := hi.c6
  have r7 := hi.c7
  have r8 := hi.c8
  have q0 := hw.fc.c0
  have q1 := hw.fc.c1
  have q2 := hw.fc.c2
  have q3 := hw.fc.c3
  have q4 := hw.fc.c4
  have q5 := hw.fc.c5
  have q6 := hw.fc.c6
  have q7 := hw.fc.c7
  have q8 := hw.fc.c8
  clear hb hw hi hb5 HT HB4
  go_wp2_with fail
  refine (sameFrame_true (T0.out.to HB5.out) (T1.out.to HB5.out) (T2.out.to HB5.out) (S0.out.to HW5.out.bel) (S1.out.to HW5.out.bel) (S2.out.to HW5.out.bel) HL.out.1 HL.out.2.1 HL.out.2.2).mono ?_
  rintro e v6 ⟨rfl, hb6⟩
  have HB6 : Hid (Below u.heap.size u v6) := below_to HW5.out.bel hb6
  clear q0 q1 q2 q3 q4 q5 q6 q7 q8 r0 r1 r2 r3 r4 r5 r6 r7 r8
  clear hb6 HW5 HB5
  go_wp2_with fail
  refine (works_true (HG.out.to HB6.out)).mono ?_
  rintro e v7 ⟨rfl, hb7⟩
  have HB7 : Hid (Below u.heap.size u v7) := below_to HB6.out hb7
  clear hb7 HB6
  go_wp2_with fail
  go_ret
  exact ⟨rfl, HB7.out⟩

end Go.Proofs.YtpideemiijhkgaaDoor
