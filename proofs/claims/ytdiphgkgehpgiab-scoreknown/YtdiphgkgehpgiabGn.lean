/- DERIVED. The walk of ScoreKnown. -/
import Derived.Test.YtdiphgkgehpgiabGf
namespace Go.Proofs.Ytdiphgkgehpgiab
open Go.RowKit Ieee

theorem class_nan {x : Nat} (hn : Nan x) (w : World) : Calls Try.prog 11 #[.float .f64 x] w fun e w' => e = .returned (.string ⟨#[110, 111, 110, 101]⟩) ∧ w' = w := by
  have e1 : nanB x = true := decide_eq_true hn
  clear hn
  go_enter Try.func11, Try.ntmps11
  go_wp2_with (go_at_call 17; refine (isNaN_any _ _).mono ?_; rintro e w' ⟨rfl, rfl⟩)
  go_ret
  exact ⟨rfl, rfl⟩
theorem fl_made1 (w : World) (x : Nat) : Fl (w.alloc (.cells #[.float .f64 x] 26)) (some ⟨w.heap.size, 0, none⟩) [x] := by
  refine Or.inr ⟨w.heap.size, 0, rfl, by simp, fun j hj => ?_⟩
  rcases (show j = 0 by simp at hj; omega) with rfl; simp
theorem fl_made2 (w : World) (x y : Nat) : Fl (w.alloc (.cells #[.float .f64 x, .float .f64 y] 26)) (some ⟨w.heap.size, 0, none⟩) [x, y] := by
  refine Or.inr ⟨w.heap.size, 0, rfl, by simp, fun j hj => ?_⟩
  rcases (show j = 0 ∨ j = 1 by simp at hj; omega) with rfl | rfl <;> simp
theorem fl_made4 (w : World) (x y z t : Nat) : Fl (w.alloc (.cells #[.float .f64 x, .float .f64 y, .float .f64 z, .float .f64 t] 26)) (some ⟨w.heap.size, 0, none⟩) [x, y, z, t] := by
  refine Or.inr ⟨w.heap.size, 0, rfl, by simp, fun j hj => ?_⟩
  rcases (show j = 0 ∨ j = 1 ∨ j = 2 ∨ j = 3 by simp at hj; omega) with rfl | rfl | rfl | rfl <;> simp
theorem bst_a {x : Nat} (h : Nan x) : bst [x, 0, 9223372036854775808] 3 = some 1 := by
  have e1 : ¬ Nan 0 := by decide +kernel
  have e2 : flt 9223372036854775808 0 = false := by decide +kernel
  simp only [bst, List.getD_cons_zero, List.getD_cons_succ, if_pos h, if_neg e1, e2]
  rfl
theorem bst_b {x : Nat} (h : Nan x) : bst [x, 9223372036854775808, 0] 3 = some 1 := by
  have e1 : ¬ Nan 9223372036854775808 := by decide +kernel
  have e2 : flt 0 9223372036854775808 = false := by decide +kernel
  simp only [bst, List.getD_cons_zero, List.getD_cons_succ, if_pos h, if_neg e1, e2]
  rfl
theorem bst_c {x : Nat} (h : Nan x) : bst [x, x] 2 = none := by
  simp only [bst, List.getD_cons_zero, List.getD_cons_succ, if_pos h]
theorem apk_yes {x y z t : Nat} : APk 2 1 [x, y] 2 1 [z, t] := ⟨⟨by decide, by decide, by decide, by decide, rfl⟩, ⟨by decide, by decide, by decide, by decide, rfl⟩, rfl, rfl⟩
theorem k_rat1 : ratO 2 1 [0, 0] 2 1 [0, 0] = some 9218868437227405312 := by
  unfold ratO
  rw [if_pos apk_yes]
  decide +kernel
theorem k_rat3 : ratO 2 1 [0, 0] 2 1 [255, 255] = some 4607182418800017408 := by
  unfold ratO
  rw [if_pos apk_yes]
  decide +kernel
theorem k_rat4 : ratO 2 1 [0, 0] 1 2 [0, 0] = none := if_neg (fun h => by have := h.2.2.1; omega)
theorem k_rat5 : ratO 0 0 [] 0 0 [] = none := if_neg (fun h => by have := h.1.w0; omega)
theorem k_ratio {u : World} {a b : Option Addr} {x y z t K : Nat} (hk : ratO 2 1 [x, y] 2 1 [z, t] = some K) (hx : x < 256) (hy : y < 256) (hz : z < 256) (ht : t < 256) (h1 : Sl u .u8 a [x, y]) (h2 : Sl u .u8 b [z, t]) : Calls Try.prog 10 #[.agg #[.int .i64 2, .int .i64 1, .slice a 2 2], .agg #[.int .i64 2, .int .i64 1, .slice b 2 2]] u fun e w' => e = .returned (.float .f64 K) ∧ Below u.heap.size u w' := by
  have := ratio_any (c := 2) (d := 2) (W := 2) (H := 1) (W' := 2) (H' := 1) h1 h2 (byt2 hx hy) (byt2 hz ht)
  rw [hk] at this
  exact this.mono (by
    rintro e w' ⟨r, rfl, hr, hb⟩
    obtain rfl : r = K := hr
    exact ⟨rfl, hb⟩)
theorem k_ratio4 {u : World} {a b : Option Addr} (h1 : Sl u .u8 a [0, 0]) (h2 : Sl u .u8 b [0, 0]) : Calls Try.prog 10 #[.agg #[.int .i64 2, .int .i64 1, .slice a 2 2], .agg #[.int .i64 1, .int .i64 2, .slice b 2 2]] u fun e w' => Rat u none e w' := by
  have := ratio_any (c := 2) (d := 2) (W := 2) (H := 1) (W' := 1) (H' := 2) h1 h2 (byt2 (by decide) (by decide)) (byt2 (by decide) (by decide))
  rwa [k_rat4] at this
theorem k_ratio5 {u : World} : Calls Try.prog 10 #[.agg #[.int .i64 0, .int .i64 0, .slice none 0 0], .agg #[.int .i64 0, .int .i64 0, .slice none 0 0]] u fun e w' => Rat u none e w' := by
  have := ratio_any (u := u) (a := none) (b := none) (c := 0) (d := 0) (C := []) (D := []) (W := 0) (H := 0) (W' := 0) (H' := 0) (Or.inl rfl) (Or.inl rfl) (fun j => by simp) (fun j => by simp)
  rwa [k_rat5] at this
theorem k_cost {d r : Int} {l K : Nat} (hk : costO d r l = some K) (w : World) : Calls Try.prog 12 #[.int .u64 d, .int .u64 r, .float .f64 l] w fun e w' => e = .returned (.float .f64 K) ∧ ∃ n : Nat, w' = w.drewN n := (cost_any d r l w).mono (by
  rintro e w' ⟨x, n, rfl, rfl, h⟩
  rw [hk] at h
  obtain rfl : x = K := h
  exact ⟨rfl, n, rfl⟩)
theorem k_cost0 {d r : Int} {l : Nat} (hk : costO d r l = none) (w : World) : Calls Try.prog 12 #[.int .u64 d, .int .u64 r, .float .f64 l] w fun e w' => Ans w none e w' := by have := cost_any d r l w; rwa [hk] at this
theorem mul_nan {x : Nat} (y : Nat) (h : Nan x) : floatBits .mul .f64 x y = none := by
  show ((Ieee.double.read x).product (Ieee.double.read y)).map _ = none
  rw [read_nan h]; rfl
theorem k_cost9 {x : Nat} (h : Nan x) (d r : Int) : costO d r x = none := by unfold costO; rw [mul_nan _ h]; rfl
theorem k_best {C : List Nat} {o : Option Nat} (n : Nat) (hn : n = C.length) (ho : bst C n = o) {w : World} {a : Option Addr} (h : Fl w a C) (hl : n ≤ 4) : Calls Try.prog 13 #[.slice a n n] w fun e w' => e = .returned (.tuple #[.int .i64 (bi o), .int .i64 (be o)]) ∧ w' = w := by subst hn ho; exact best_any h (by omega)
theorem k_mean {C : List Nat} {K : Nat} (n : Nat) (hn : n = C.length) (ho : meanO C = some K) {w : World} {a : Option Addr} (h : Fl w a C) (hl : n ≤ 4) : Calls Try.prog 7 #[.slice a n n] w fun e w' => e = .returned (.float .f64 K) ∧ ∃ m : Nat, w' = w.drewN m := by
  subst hn
  exact (mean_any h (Nat.le_refl _) (by omega)).mono (by
    rintro e w' ⟨x, m, rfl, rfl, hx⟩
    rw [ho] at hx
    obtain rfl : x = K := hx
    exact ⟨rfl, m, rfl⟩)
theorem k_mean0 {C : List Nat} (n : Nat) (hn : n = C.length) (ho : meanO C = none) {w : World} {a : Option Addr} (h : Fl w a C) (hl : n ≤ 4) : Calls Try.prog 7 #[.slice a n n] w fun e w' => Ans w none e w' := by
  subst hn
  have := mean_any h (Nat.le_refl C.length) (by omega)
  rwa [ho] at this
theorem k_class {x : Nat} {s : ByteArray} (hx : x < 18446744073709551616) (hs : cls x = s) (w : World) : Calls Try.prog 11 #[.float .f64 x] w fun e w' => e = .returned (.string s) ∧ w' = w := by subst hs; exact class_any hx w

set_option maxRecDepth 100000 in
set_option maxHeartbeats 4000000 in
theorem known_walk {u : World} : Calls Try.prog 4 #[] u fun e w' => e = .returned (.bool true) ∧ Below u.heap.size u w' := by
  go_enter Try.func4, Try.ntmps4
  go_wp2_with fail
  refine (quotients_any _).mono ?_
  rintro e w' ⟨x, n, rfl, rfl, hx⟩
  have HX : Hid (Nan x) := hx
  have B1 : Hid (Below u.heap.size u (u.drewN n)) := below_drewN (Below.refl _ _) n
  clear hx
  generalize u.drewN n = v1 at *
  go_wp2_with fail
  refine row_any.mono ?_
  rintro e w2 ⟨rfl, hb2⟩
  have S1 : Hid (Sl w2 .u8 (some ⟨v1.heap.size, 0, none⟩) [0, 0]) := (sl_made2 v1 0 0).to hb2
  have B2 : Hid (Below u.heap.size u w2) := below_to B1.out (below_to (from_alloc _ _) hb2)
  clear hb2
  generalize v1.heap.size = g1 at *
  go_wp2_with fail
  refine row_any.mono ?_
  rintro e w3 ⟨rfl, hb3⟩
  have S2 : Hid (Sl w3 .u8 (some ⟨w2.heap.size, 0, none⟩) [0, 1]) := (sl_made2 w2 0 1).to hb3
  have S3 : Hid (Sl w3 .u8 (some ⟨g1, 0, none⟩) [0, 0]) := S1.out.to (below_to (from_alloc _ _) hb3)
  have B3 : Hid (Below u.heap.size u w3) := below_to B2.out (below_to (from_alloc _ _) hb3)
  clear hb3 S1
  generalize w2.heap.size = g2 at *
  go_wp2_with fail
  refine row_any.mono ?_
  rintro e w4 ⟨rfl, hb4⟩
  have S4 : Hid (Sl w4 .u8 (some ⟨w3.heap.size, 0, none⟩) [255, 255]) := (sl_made2 w3 255 255).to hb4
  have S5 : Hid (Sl w4 .u8 (some ⟨g1, 0, none⟩) [0, 0]) := S3.out.to (below_to (from_alloc _ _) hb4)
  have S6 : Hid (Sl w4 .u8 (some ⟨g2, 0, none⟩) [0, 1]) := S2.out.to (below_to (from_alloc _ _) hb4)
  have B4 : Hid (Below u.heap.size u w4) := below_to B3.out (below_to (from_alloc _ _) hb4)
  clear hb4 S2 S3
  generalize w3.heap.size = g3 at *
  have q0 : (FloatKind.f64.format.order 9218868437227405312 9218868437227405312 == some .eq) = true := self_eq (by decide +kernel)
  have q1 : (FloatKind.f64.format.order 4683673381160091648 4683673381160091648 == some .eq) = true := self_eq (by decide +kernel)
  have q2 : (FloatKind.f64.format.order 4607182418800017408 4607182418800017408 == some .eq) = true := self_eq (by decide +kernel)
  have q3 : (FloatKind.f64.format.order 4616189618054758400 4616189618054758400 == some .eq) = true := self_eq (by decide +kernel)
  have q4 : (FloatKind.f64.format.order 4895412794951729152 4895412794951729152 == some .eq) = true := self_eq (by decide +kernel)
  have q5 : (FloatKind.f64.format.order 18442240474082181120 18442240474082181120 == some .eq) = true := self_eq (by decide +kernel)
  have q6 : (FloatKind.f64.format.order 4845873199050653696 4845873199050653696 == some .eq) = true := self_eq (by decide +kernel)
  have q7 : (FloatKind.f64.format.order 4612436618365282987 4612436618365282987 == some .eq) = true := self_eq (by decide +kernel)
  have q8 : (FloatKind.f64.format.order 0 0 == some .eq) = true := self_eq (by decide +kernel)
  go_wp2_with fail
  have BV : Hid (Below w4.heap.size w4 (((w4.alloc (.cells #[.int .i64 2, .int .i64 1, .slice (some ⟨g1, 0, none⟩) 2 2] 33)).alloc (.cells #[.int .i64 2, .int .i64 1, .slice (some ⟨g2, 0, none⟩) 2 2] 33)).alloc (.cells #[.int .i64 2, .int .i64 1, .slice (some ⟨g3, 0, none⟩) 2 2] 33))) := to_alloc (to_alloc (from_alloc _ _) _) _
  have HC : Hid (∀ t : World, Below (((w4.alloc (.cells #[.int .i64 2, .int .i64 1, .slice (some ⟨g1, 0, none⟩) 2 2] 33)).alloc (.cells #[.int .i64 2, .int .i64 1, .slice (some ⟨g2, 0, none⟩) 2 2] 33)).alloc (.cells #[.int .i64 2, .int .i64 1, .slice (some ⟨g3, 0, none⟩) 2 2] 33)).heap.size (((w4.alloc (.cells #[.int .i64 2, .int .i64 1, .slice (some ⟨g1, 0, none⟩) 2 2] 33)).alloc (.cells #[.int .i64 2, .int .i64 1, .slice (some ⟨g2, 0, none⟩) 2 2] 33)).alloc (.cells #[.int .i64 2, .int .i64 1, .slice (some ⟨g3, 0, none⟩) 2 2] 33)) t → (t.cell? ⟨w4.heap.size, 0, none⟩ = some (.int .i64 2) ∧ t.cell? ⟨w4.heap.size, 1, none⟩ = some (.int .i64 1) ∧ t.cell? ⟨w4.heap.size, 2, none⟩ = some (.slice (some ⟨g1, 0, none⟩) 2 2) ∧ t.cell? ⟨w4.heap.size + 1, 0, none⟩ = some (.int .i64 2) ∧ t.cell? ⟨w4.heap.size + 1, 1, none⟩ = some (.int .i64 1) ∧ t.cell? ⟨w4.heap.size + 1, 2, none⟩ = some (.slice (some ⟨g2, 0, none⟩) 2 2) ∧ t.cell? ⟨w4.heap.size + 1 + 1, 0, none⟩ = some (.int .i64 2) ∧ t.cell? ⟨w4.heap.size + 1 + 1, 1, none⟩ = some (.int .i64 1) ∧ t.cell? ⟨w4.heap.size + 1 + 1, 2, none⟩ = some (.slice (some ⟨g3, 0, none⟩) 2 2))) := fun t ht => by
    refine ⟨?_, ?_, ?_, ?_, ?_, ?_, ?_, ?_, ?_⟩
    all_goals (rw [newCell ht _ _ (by simp <;> omega)]; simp [go_sem])
  have T1 : Hid (Sl _ .u8 (some ⟨g1, 0, none⟩) [0, 0]) := S5.out.to BV.out
  have T2 : Hid (Sl _ .u8 (some ⟨g2, 0, none⟩) [0, 1]) := S6.out.to BV.out
  have T3 : Hid (Sl _ .u8 (some ⟨g3, 0, none⟩) [255, 255]) := S4.out.to BV.out
  have B5 : Hid (Below u.heap.size u _) := below_to B4.out BV.out
  clear S4 S5 S6 BV B1 B2 B3
  generalize ((w4.alloc (.cells #[.int .i64 2, .int .i64 1, .slice (some ⟨g1, 0, none⟩) 2 2] 33)).alloc (.cells #[.int .i64 2, .int .i64 1, .slice (some ⟨g2, 0, none⟩) 2 2] 33)).alloc (.cells #[.int .i64 2, .int .i64 1, .slice (some ⟨g3, 0, none⟩) 2 2] 33) = V at *
  generalize w4.heap.size = z at *
  refine (k_ratio k_rat1 (by decide) (by decide) (by decide) (by decide) (T1.out.to (Below.refl _ _)) (T1.out.to (Below.refl _ _))).mono ?_
  rintro e a1 ⟨rfl, hb⟩
  have Ca1 : Hid (Below V.heap.size V a1) := below_to (Below.refl _ _) hb
  clear hb
  obtain ⟨p0, p1, p2, p3, p4, p5, p6, p7, p8⟩ := HC.out a1 Ca1.out
  go_wp2_with fail
  clear p0 p1 p2 p3 p4 p5 p6 p7 p8
  refine (k_ratio rat_w (by decide) (by decide) (by decide) (by decide) (T1.out.to Ca1.out) (T2.out.to Ca1.out)).mono ?_
  rintro e a2 ⟨rfl, hb⟩
  have Ca2 : Hid (Below V.heap.size V a2) := below_to Ca1.out hb
  clear hb
  obtain ⟨p0, p1, p2, p3, p4, p5, p6, p7, p8⟩ := HC.out a2 Ca2.out
  go_wp2_with fail
  clear p0 p1 p2 p3 p4 p5 p6 p7 p8
  refine (k_ratio k_rat3 (by decide) (by decide) (by decide) (by decide) (T1.out.to Ca2.out) (T3.out.to Ca2.out)).mono ?_
  rintro e a3 ⟨rfl, hb⟩
  have Ca3 : Hid (Below V.heap.size V a3) := below_to Ca2.out hb
  clear hb
  obtain ⟨p0, p1, p2, p3, p4, p5, p6, p7, p8⟩ := HC.out a3 Ca3.out
  go_wp2_with fail
  clear p0 p1 p2 p3 p4 p5 p6 p7 p8
  have D4 : Hid (Below V.heap.size V (a3.alloc (.cells #[.int .u8 0, .int .u8 0] 5))) := to_alloc Ca3.out _
  refine (k_ratio4 (T1.out.to D4.out) (sl_made2 a3 0 0)).mono ?_
  rintro e a4 ⟨r4, rfl, hr, hb⟩
  have R4 : Hid (Nan r4) := hr
  have Ca4 : Hid (Below V.heap.size V a4) := below_to D4.out hb
  clear hb hr
  go_wp2_with fail
  refine (class_nan R4.out _).mono ?_
  rintro e z1 ⟨rfl, rfl⟩
  go_wp2_with fail
  refine k_ratio5.mono ?_
  rintro e a5 ⟨r5, rfl, hr, hb⟩
  have R5 : Hid (Nan r5) := hr
  have B6 : Hid (Below u.heap.size u a5) := below_to B5.out (below_to Ca4.out hb)
  clear hb hr HC T1 T2 T3
  go_wp2_with fail
  refine (class_nan R5.out _).mono ?_
  rintro e z2 ⟨rfl, rfl⟩
  go_wp2_with fail
  refine (k_cost0 (d := 10) (r := 0) (l := 9218868437227405312) (by decide +kernel) _).mono ?_
  rintro e _ ⟨c1, n1, rfl, rfl, hr⟩
  have Hc1 : Hid (Nan c1) := hr
  clear hr
  have B7 : Hid (Below u.heap.size u (z2.drewN n1)) := below_drewN B6.out _
  generalize z2.drewN n1 = y7 at *
  go_wp2_with fail
  refine (class_nan Hc1.out _).mono ?_
  rintro e z3 ⟨rfl, rfl⟩
  go_wp2_with fail
  refine (k_cost (d := 10) (r := 3) (l := 13835058055282163712) (K := 4616189618054758400) (by decide +kernel) _).mono ?_
  rintro e _ ⟨rfl, n1, rfl⟩
  have B8 : Hid (Below u.heap.size u (z3.drewN n1)) := below_drewN B7.out _
  generalize z3.drewN n1 = y8 at *
  go_wp2_with fail
  refine (k_cost (d := 18446744073709551615) (r := 0) (l := 4607182418800017408) (K := 4895412794951729152) (by decide +kernel) _).mono ?_
  rintro e _ ⟨rfl, n1, rfl⟩
  have B9 : Hid (Below u.heap.size u (y8.drewN n1)) := below_drewN B8.out _
  generalize y8.drewN n1 = y9 at *
  go_wp2_with fail
  refine (k_cost (d := 0) (r := 9223372036854775808) (l := 4611686018427387904) (K := 4895412794951729152) (by decide +kernel) _).mono ?_
  rintro e _ ⟨rfl, n1, rfl⟩
  have B10 : Hid (Below u.heap.size u (y9.drewN n1)) := below_drewN B9.out _
  generalize y9.drewN n1 = y10 at *
  go_wp2_with fail
  refine (k_cost (d := 1) (r := 1) (l := 18442240474082181120) (K := 18442240474082181120) (by decide +kernel) _).mono ?_
  rintro e _ ⟨rfl, n1, rfl⟩
  have B11 : Hid (Below u.heap.size u (y10.drewN n1)) := below_drewN B10.out _
  generalize y10.drewN n1 = y11 at *
  go_wp2_with fail
  refine (k_cost (d := 9007199254740993) (r := 0) (l := 0) (K := 4845873199050653696) (by decide +kernel) _).mono ?_
  rintro e _ ⟨rfl, n1, rfl⟩
  have B12 : Hid (Below u.heap.size u (y11.drewN n1)) := below_drewN B11.out _
  generalize y11.drewN n1 = y12 at *
  go_wp2_with fail
  refine (k_cost0 (d := 0) (r := 5) (l := x) (k_cost9 HX.out _ _) _).mono ?_
  rintro e _ ⟨c7, n1, rfl, rfl, hr⟩
  have Hc7 : Hid (Nan c7) := hr
  clear hr
  have B13 : Hid (Below u.heap.size u (y12.drewN n1)) := below_drewN B12.out _
  generalize y12.drewN n1 = y13 at *
  go_wp2_with fail
  refine (class_nan Hc7.out _).mono ?_
  rintro e z4 ⟨rfl, rfl⟩
  go_wp2_with fail
  refine (k_best (C := [x, 0, 9223372036854775808]) 3 rfl (bst_a HX.out) (fl_made3 _ _ _ _) (by decide)).mono ?_
  rintro e _ ⟨rfl, rfl⟩
  simp only [bi, be]
  have B14 : Hid (Below u.heap.size u (z4.alloc (.cells #[.float .f64 x, .float .f64 0, .float .f64 9223372036854775808] 26))) := to_alloc B13.out _
  generalize z4.alloc (.cells #[.float .f64 x, .float .f64 0, .float .f64 9223372036854775808] 26) = y14 at *
  go_wp2_with fail
  refine (k_best (C := [x, 9223372036854775808, 0]) 3 rfl (bst_b HX.out) (fl_made3 _ _ _ _) (by decide)).mono ?_
  rintro e _ ⟨rfl, rfl⟩
  simp only [bi, be]
  have B15 : Hid (Below u.heap.size u (y14.alloc (.cells #[.float .f64 x, .float .f64 9223372036854775808, .float .f64 0] 26))) := to_alloc B14.out _
  generalize y14.alloc (.cells #[.float .f64 x, .float .f64 9223372036854775808, .float .f64 0] 26) = y15 at *
  go_wp2_with fail
  refine best_nil.mono ?_
  rintro e z5 ⟨rfl, rfl⟩
  go_wp2_with fail
  refine (k_best (C := [x, x]) 2 rfl (bst_c HX.out) (fl_made2 _ _ _) (by decide)).mono ?_
  rintro e _ ⟨rfl, rfl⟩
  simp only [bi, be]
  have B16 : Hid (Below u.heap.size u (z5.alloc (.cells #[.float .f64 x, .float .f64 x] 26))) := to_alloc B15.out _
  generalize z5.alloc (.cells #[.float .f64 x, .float .f64 x] 26) = y16 at *
  go_wp2_with fail
  refine (k_best (C := [9218868437227405312, 18442240474082181120]) 2 rfl (show bst [9218868437227405312, 18442240474082181120] 2 = some 1 from by decide +kernel) (fl_made2 _ _ _) (by decide)).mono ?_
  rintro e _ ⟨rfl, rfl⟩
  simp only [bi, be]
  have B17 : Hid (Below u.heap.size u (y16.alloc (.cells #[.float .f64 9218868437227405312, .float .f64 18442240474082181120] 26))) := to_alloc B16.out _
  generalize y16.alloc (.cells #[.float .f64 9218868437227405312, .float .f64 18442240474082181120] 26) = y17 at *
  go_wp2_with fail
  refine (k_best (C := [9218868437227405312]) 1 rfl (show bst [9218868437227405312] 1 = some 0 from by decide +kernel) (fl_made1 _ _) (by decide)).mono ?_
  rintro e _ ⟨rfl, rfl⟩
  simp only [bi, be]
  have B18 : Hid (Below u.heap.size u (y17.alloc (.cells #[.float .f64 9218868437227405312] 26))) := to_alloc B17.out _
  generalize y17.alloc (.cells #[.float .f64 9218868437227405312] 26) = y18 at *
  go_wp2_with fail
  refine (k_mean (C := [4607182418800017408, 4611686018427387904, 4616189618054758400]) (K := 4612436618365282987) 3 rfl (by decide +kernel) (fl_made3 _ _ _ _) (by decide)).mono ?_
  rintro e _ ⟨rfl, n1, rfl⟩
  have B19 : Hid (Below u.heap.size u ((y18.alloc (.cells #[.float .f64 4607182418800017408, .float .f64 4611686018427387904, .float .f64 4616189618054758400] 26)).drewN n1)) := below_drewN (to_alloc B18.out _) _
  generalize (y18.alloc (.cells #[.float .f64 4607182418800017408, .float .f64 4611686018427387904, .float .f64 4616189618054758400] 26)).drewN n1 = y19 at *
  go_wp2_with fail
  refine mean_z.mono ?_
  rintro e _ ⟨m2, n1, rfl, rfl, hr⟩
  have Hm2 : Hid (Nan m2) := hr
  clear hr
  have B20 : Hid (Below u.heap.size u (y19.drewN n1)) := below_drewN B19.out _
  generalize y19.drewN n1 = y20 at *
  go_wp2_with fail
  refine (class_nan Hm2.out _).mono ?_
  rintro e z6 ⟨rfl, rfl⟩
  go_wp2_with fail
  refine (k_mean0 (C := [9218868437227405312, 18442240474082181120]) 2 rfl (by decide +kernel) (fl_made2 _ _ _) (by decide)).mono ?_
  rintro e _ ⟨m3, n1, rfl, rfl, hr⟩
  have Hm3 : Hid (Nan m3) := hr
  clear hr
  have B21 : Hid (Below u.heap.size u ((z6.alloc (.cells #[.float .f64 9218868437227405312, .float .f64 18442240474082181120] 26)).drewN n1)) := below_drewN (to_alloc B20.out _) _
  generalize (z6.alloc (.cells #[.float .f64 9218868437227405312, .float .f64 18442240474082181120] 26)).drewN n1 = y21 at *
  go_wp2_with fail
  refine (class_nan Hm3.out _).mono ?_
  rintro e z7 ⟨rfl, rfl⟩
  go_wp2_with fail
  refine (k_mean (C := [9223372036854775808]) (K := 9223372036854775808) 1 rfl (by decide +kernel) (fl_made1 _ _) (by decide)).mono ?_
  rintro e _ ⟨rfl, n1, rfl⟩
  have B22 : Hid (Below u.heap.size u ((z7.alloc (.cells #[.float .f64 9223372036854775808] 26)).drewN n1)) := below_drewN (to_alloc B21.out _) _
  generalize (z7.alloc (.cells #[.float .f64 9223372036854775808] 26)).drewN n1 = y22 at *
  go_wp2_with fail
  refine (k_class (x := 9223372036854775808) (s := ⟨#[45, 48]⟩) (by decide) (by decide +kernel) _).mono ?_
  rintro e z8 ⟨rfl, rfl⟩
  go_wp2_with fail
  refine (k_mean (C := [4846369599423283200, 4607182418800017408, 4607182418800017408, 14069741636278059008]) (K := 0) 4 rfl (by decide +kernel) (fl_made4 _ _ _ _ _) (by decide)).mono ?_
  rintro e _ ⟨rfl, n1, rfl⟩
  have B23 : Hid (Below u.heap.size u ((z8.alloc (.cells #[.float .f64 4846369599423283200, .float .f64 4607182418800017408, .float .f64 4607182418800017408, .float .f64 14069741636278059008] 26)).drewN n1)) := below_drewN (to_alloc B22.out _) _
  generalize (z8.alloc (.cells #[.float .f64 4846369599423283200, .float .f64 4607182418800017408, .float .f64 4607182418800017408, .float .f64 14069741636278059008] 26)).drewN n1 = y23 at *
  go_wp2_with fail
  refine (k_mean (C := [9218868437227405312, 4607182418800017408]) (K := 9218868437227405312) 2 rfl (by decide +kernel) (fl_made2 _ _ _) (by decide)).mono ?_
  rintro e _ ⟨rfl, n1, rfl⟩
  have B24 : Hid (Below u.heap.size u ((y23.alloc (.cells #[.float .f64 9218868437227405312, .float .f64 4607182418800017408] 26)).drewN n1)) := below_drewN (to_alloc B23.out _) _
  generalize (y23.alloc (.cells #[.float .f64 9218868437227405312, .float .f64 4607182418800017408] 26)).drewN n1 = y24 at *
  go_wp2_with fail
  refine (k_class (x := 4602678819172646912) (s := ⟨#[108, 111, 119]⟩) (by decide) (by decide +kernel) _).mono ?_
  rintro e z9 ⟨rfl, rfl⟩
  go_wp2_with fail
  refine (k_class (x := 4607182418800017408) (s := ⟨#[104, 105, 103, 104]⟩) (by decide) (by decide +kernel) _).mono ?_
  rintro e z10 ⟨rfl, rfl⟩
  go_wp2_with fail
  refine (k_class (x := 9223372036854775808) (s := ⟨#[45, 48]⟩) (by decide) (by decide +kernel) _).mono ?_
  rintro e z11 ⟨rfl, rfl⟩
  go_wp2_with fail
  refine (k_class (x := 0) (s := ⟨#[48]⟩) (by decide) (by decide +kernel) _).mono ?_
  rintro e z12 ⟨rfl, rfl⟩
  go_wp2_with fail
  refine (k_class (x := 13837309855095848960) (s := ⟨#[110, 101, 103, 97, 116, 105, 118, 101]⟩) (by decide) (by decide +kernel) _).mono ?_
  rintro e z13 ⟨rfl, rfl⟩
  go_wp2_with fail
  refine (k_class (x := 18442240474082181120) (s := ⟨#[45, 105, 110, 102]⟩) (by decide) (by decide +kernel) _).mono ?_
  rintro e z14 ⟨rfl, rfl⟩
  go_wp2_with fail
  refine (k_class (x := 9218868437227405312) (s := ⟨#[105, 110, 102]⟩) (by decide) (by decide +kernel) _).mono ?_
  rintro e z15 ⟨rfl, rfl⟩
  go_wp2_with fail
  refine (class_nan HX.out _).mono ?_
  rintro e z16 ⟨rfl, rfl⟩
  go_wp2_with fail
  refine (k_class (x := 1) (s := ⟨#[108, 111, 119]⟩) (by decide) (by decide +kernel) _).mono ?_
  rintro e z17 ⟨rfl, rfl⟩
  go_wp2_with fail
  refine (k_class (x := 9223372036854775809) (s := ⟨#[110, 101, 103, 97, 116, 105, 118, 101]⟩) (by decide) (by decide +kernel) _).mono ?_
  rintro e z18 ⟨rfl, rfl⟩
  go_wp2_with fail
  refine (k_class (x := 9218378953502702454) (s := ⟨#[104, 105, 103, 104]⟩) (by decide) (by decide +kernel) _).mono ?_
  rintro e z19 ⟨rfl, rfl⟩
  go_wp2_with fail
  refine (works_true _).mono ?_
  rintro e wz ⟨rfl, hb⟩
  go_wp2_with fail
  go_ret
  exact ⟨rfl, below_to B24.out hb⟩

end Go.Proofs.Ytdiphgkgehpgiab
