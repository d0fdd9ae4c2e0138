/- DERIVED. The walk of ScanEnds. -/
import Derived.Test.YtoddkhaaacpelaaCd
namespace Go.Proofs.Ytoddkhaaacpelaa
open Go.RowKit

theorem class_one {w : World} : Calls Try.prog 9 #[.int .i64 1] w fun e w' => e = .returned (.tuple #[.int .i64 0, .int .i64 0, .int .i64 0, .int .i64 0]) ∧ Hid (Below w.heap.size w w') := by
  refine (class_yes (z := 1) (c := 0) (by omega) (by omega) ⟨by omega, by decide, fun k hk => by omega⟩).mono ?_
  rintro e w' ⟨rfl, hb⟩
  exact ⟨rfl, hb⟩
theorem class_succ {w : World} {z : Int} {k : Nat} (h0 : 1 ≤ z) (h1 : z ≤ 1024) (h : Cl z (k + 1)) : Calls Try.prog 9 #[.int .i64 z] w fun e w' => e = .returned (.tuple #[.int .i64 ((k : Int) + 1), .int .i64 (k : Int), .int .i64 (z - (2 ^ k + 1)), .int .i64 0]) ∧ Hid (Below w.heap.size w w') := by
  refine (class_yes h0 h1 h).mono ?_
  rintro e w' ⟨rfl, hb⟩
  refine ⟨?_, hb⟩
  rw [clB, clE, if_neg (by omega), if_neg (by omega), Nat.add_sub_cancel]
  congr 1
  simp
theorem Cl.one {z : Int} (h0 : 1 ≤ z) (h : Cl z 0) : z = 1 := by have := h.hi; simp at this; omega
theorem Cl.more {z : Int} {k : Nat} (h : Cl z (k + 1)) : (2 : Int) ^ k < z ∧ z ≤ 2 * 2 ^ k ∧ k ≤ 9 := by
  have h1 := h.lo k (by omega)
  have h2 := h.hi
  have h3 := pow_next (k + 1) (by omega)
  have h4 := h.le
  rw [Nat.add_sub_cancel] at h3
  exact ⟨h1, by omega, by omega⟩
theorem Cl.less {z y : Int} {k l : Nat} (h : Cl z (k + 1)) (h' : Cl y (l + 1)) (e : k < l) : z < y := by
  have h1 := h.more
  have h2 := h'.lo (k + 1) (by omega)
  have h3 := h.hi
  omega

set_option maxRecDepth 100000 in
set_option maxHeartbeats 1000000 in
theorem ends_a {w : World} {a b : Int} (ea : 1 + a % 1024 = 1) (eb : 1 + b % 1024 = 1) : Calls Try.prog 5 #[.int .i64 a, .int .i64 b] w fun e w' => e = .returned (.bool true) ∧ Below w.heap.size w w' := by
  have a0 := Int.emod_nonneg a (b := 1024) (by omega)
  have a1 := Int.emod_lt_of_pos a (b := 1024) (by omega)
  have b0 := Int.emod_nonneg b (b := 1024) (by omega)
  have b1 := Int.emod_lt_of_pos b (b := 1024) (by omega)
  go_enter Try.func5, Try.ntmps5
  go_wp2_with fail
  refine awake_any.mono ?_
  rintro e w1 ⟨rfl, H1⟩
  go_wp2_with fail
  refine (bring_any (by omega) (by omega)).mono ?_
  rintro e w2 ⟨rfl, rfl⟩
  go_wp2_with fail
  refine (bring_any (by omega) (by omega)).mono ?_
  rintro e w2 ⟨rfl, rfl⟩
  go_wp2_with fail
  refine (class_one).mono ?_
  rintro e w2 ⟨rfl, H2⟩
  go_wp2_with fail
  refine (class_one).mono ?_
  rintro e w3 ⟨rfl, H3⟩
  have H4 : Hid (Below w.heap.size w w3) := below_to (below_to H1.out H2.out) H3.out
  clear H1 H2 H3
  go_wp2_with fail
  go_ret
  exact ⟨rfl, H4.out⟩

set_option maxRecDepth 100000 in
set_option maxHeartbeats 1000000 in
theorem ends_b {w : World} {a b y : Int} (ea : 1 + a % 1024 = 1) (eb : 1 + b % 1024 = y) {l : Nat} (hy1 : 1 < y) (hy2 : y ≤ 1024) (hy : Cl y (l + 1)) : Calls Try.prog 5 #[.int .i64 a, .int .i64 b] w fun e w' => e = .returned (.bool true) ∧ Below w.heap.size w w' := by
  have a0 := Int.emod_nonneg a (b := 1024) (by omega)
  have a1 := Int.emod_lt_of_pos a (b := 1024) (by omega)
  have b0 := Int.emod_nonneg b (b := 1024) (by omega)
  have b1 := Int.emod_lt_of_pos b (b := 1024) (by omega)
  obtain ⟨q1, q2, q3⟩ := hy.more
  have HCy : Hid (Cl y (l + 1)) := hy
  obtain ⟨q4, q5⟩ := pow_at (k := l) (by omega)
  have l0 : 0 ≤ (l : Int) := by omega
  have l1 : (l : Int) ≤ 9 := by omega
  clear hy
  go_enter Try.func5, Try.ntmps5
  go_wp2_with fail
  refine awake_any.mono ?_
  rintro e w1 ⟨rfl, H1⟩
  go_wp2_with fail
  refine (bring_any (by omega) (by omega)).mono ?_
  rintro e w2 ⟨rfl, rfl⟩
  go_wp2_with fail
  refine (bring_any (by omega) (by omega)).mono ?_
  rintro e w2 ⟨rfl, rfl⟩
  go_wp2_with fail
  refine (class_one).mono ?_
  rintro e w2 ⟨rfl, H2⟩
  go_wp2_with fail
  refine (class_succ (by omega) (by omega) HCy.out).mono ?_
  rintro e w3 ⟨rfl, H3⟩
  have H4 : Hid (Below w.heap.size w w3) := below_to (below_to H1.out H2.out) H3.out
  clear H1 H2 H3
  generalize hql : (2 : Int) ^ l = q at *
  have f1 : (1 : Int) < y := hy1
  have f2 : ((1 : Int) != y) = true := by rw [bne_iff_ne]; omega
  have f3 : ((0 : Int) == (l : Int) + 1) = false := by rw [beq_eq_false_iff_ne]; omega
  have f4 : ((0 : Int) != (l : Int) + 1) = true := by rw [bne_iff_ne]; omega
  have f5 : ¬ (l : Int) + 1 < 0 := by omega
  go_wp2_with fail
  go_ret
  exact ⟨rfl, H4.out⟩

set_option maxRecDepth 100000 in
set_option maxHeartbeats 1000000 in
theorem ends_c {w : World} {a b z : Int} (ea : 1 + a % 1024 = z) (eb : 1 + b % 1024 = 1) {k : Nat} (hz1 : 1 < z) (hz2 : z ≤ 1024) (hz : Cl z (k + 1)) : Calls Try.prog 5 #[.int .i64 a, .int .i64 b] w fun e w' => e = .returned (.bool true) ∧ Below w.heap.size w w' := by
  have a0 := Int.emod_nonneg a (b := 1024) (by omega)
  have a1 := Int.emod_lt_of_pos a (b := 1024) (by omega)
  have b0 := Int.emod_nonneg b (b := 1024) (by omega)
  have b1 := Int.emod_lt_of_pos b (b := 1024) (by omega)
  obtain ⟨p1, p2, p3⟩ := hz.more
  have HCz : Hid (Cl z (k + 1)) := hz
  obtain ⟨p4, p5⟩ := pow_at (k := k) (by omega)
  have k0 : 0 ≤ (k : Int) := by omega
  have k1 : (k : Int) ≤ 9 := by omega
  clear hz
  go_enter Try.func5, Try.ntmps5
  go_wp2_with fail
  refine awake_any.mono ?_
  rintro e w1 ⟨rfl, H1⟩
  go_wp2_with fail
  refine (bring_any (by omega) (by omega)).mono ?_
  rintro e w2 ⟨rfl, rfl⟩
  go_wp2_with fail
  refine (bring_any (by omega) (by omega)).mono ?_
  rintro e w2 ⟨rfl, rfl⟩
  go_wp2_with fail
  refine (class_succ (by omega) (by omega) HCz.out).mono ?_
  rintro e w2 ⟨rfl, H2⟩
  go_wp2_with fail
  refine (class_one).mono ?_
  rintro e w3 ⟨rfl, H3⟩
  have H4 : Hid (Below w.heap.size w w3) := below_to (below_to H1.out H2.out) H3.out
  clear H1 H2 H3
  generalize hpk : (2 : Int) ^ k = p at *
  have f1 : ¬ z < 1 := by omega
  have f2 : (z != 1) = true := by rw [bne_iff_ne]; omega
  have f3 : ((k : Int) + 1 == 0) = false := by rw [beq_eq_false_iff_ne]; omega
  have f4 : ((k : Int) + 1 != 0) = true := by rw [bne_iff_ne]; omega
  have f6 : ¬ p ≤ z - (p + 1) := by omega
  have f7 : (p + 1 + (z - (p + 1)) == z) = true := by rw [beq_iff_eq]; omega
  go_wp2_with fail
  go_ret
  exact ⟨rfl, H4.out⟩

set_option maxRecDepth 100000 in
set_option maxHeartbeats 1000000 in
theorem ends_d {w : World} {a b z y : Int} (ea : 1 + a % 1024 = z) (eb : 1 + b % 1024 = y) {k l : Nat} (hz1 : 1 < z) (hz2 : z ≤ 1024) (hz : Cl z (k + 1)) (hy1 : 1 < y) (hy2 : y ≤ 1024) (hy : Cl y (l + 1)) (hkl : k < l) (hzy : z < y) : Calls Try.prog 5 #[.int .i64 a, .int .i64 b] w fun e w' => e = .returned (.bool true) ∧ Below w.heap.size w w' := by
  have a0 := Int.emod_nonneg a (b := 1024) (by omega)
  have a1 := Int.emod_lt_of_pos a (b := 1024) (by omega)
  have b0 := Int.emod_nonneg b (b := 1024) (by omega)
  have b1 := Int.emod_lt_of_pos b (b := 1024) (by omega)
  obtain ⟨p1, p2, p3⟩ := hz.more
  have HCz : Hid (Cl z (k + 1)) := hz
  obtain ⟨p4, p5⟩ := pow_at (k := k) (by omega)
  have k0 : 0 ≤ (k : Int) := by omega
  have k1 : (k : Int) ≤ 9 := by omega
  clear hz
  obtain ⟨q1, q2, q3⟩ := hy.more
  have HCy : Hid (Cl y (l + 1)) := hy
  obtain ⟨q4, q5⟩ := pow_at (k := l) (by omega)
  have l0 : 0 ≤ (l : Int) := by omega
  have l1 : (l : Int) ≤ 9 := by omega
  clear hy
  go_enter Try.func5, Try.ntmps5
  go_wp2_with fail
  refine awake_any.mono ?_
  rintro e w1 ⟨rfl, H1⟩
  go_wp2_with fail
  refine (bring_any (by omega) (by omega)).mono ?_
  rintro e w2 ⟨rfl, rfl⟩
  go_wp2_with fail
  refine (bring_any (by omega) (by omega)).mono ?_
  rintro e w2 ⟨rfl, rfl⟩
  go_wp2_with fail
  refine (class_succ (by omega) (by omega) HCz.out).mono ?_
  rintro e w2 ⟨rfl, H2⟩
  go_wp2_with fail
  refine (class_succ (by omega) (by omega) HCy.out).mono ?_
  rintro e w3 ⟨rfl, H3⟩
  have H4 : Hid (Below w.heap.size w w3) := below_to (below_to H1.out H2.out) H3.out
  clear H1 H2 H3
  generalize hpk : (2 : Int) ^ k = p at *
  generalize hql : (2 : Int) ^ l = q at *
  have f6 : ¬ p ≤ z - (p + 1) := by omega
  have f7 : (p + 1 + (z - (p + 1)) == z) = true := by rw [beq_iff_eq]; omega
  have f1 : z < y := hzy
  have f2 : (z != y) = true := by rw [bne_iff_ne]; omega
  have f3 : ((k : Int) + 1 == (l : Int) + 1) = false := by rw [beq_eq_false_iff_ne]; omega
  have f4 : ((k : Int) + 1 != (l : Int) + 1) = true := by rw [bne_iff_ne]; omega
  have f5 : ¬ (l : Int) + 1 < (k : Int) + 1 := by omega
  have f10 : ((k : Int) == (k : Int)) = true := by simp
  have f11 : ((l : Int) == (l : Int)) = true := by simp
  go_wp2_with fail
  go_ret
  exact ⟨rfl, H4.out⟩

set_option maxRecDepth 100000 in
set_option maxHeartbeats 1000000 in
theorem ends_e {w : World} {a b z y : Int} (ea : 1 + a % 1024 = z) (eb : 1 + b % 1024 = y) {k l : Nat} (hz1 : 1 < z) (hz2 : z ≤ 1024) (hz : Cl z (k + 1)) (hy1 : 1 < y) (hy2 : y ≤ 1024) (hy : Cl y (l + 1)) (hkl : k = l) (hzy : z < y) : Calls Try.prog 5 #[.int .i64 a, .int .i64 b] w fun e w' => e = .returned (.bool true) ∧ Below w.heap.size w w' := by
  have a0 := Int.emod_nonneg a (b := 1024) (by omega)
  have a1 := Int.emod_lt_of_pos a (b := 1024) (by omega)
  have b0 := Int.emod_nonneg b (b := 1024) (by omega)
  have b1 := Int.emod_lt_of_pos b (b := 1024) (by omega)
  subst hkl
  obtain ⟨p1, p2, p3⟩ := hz.more
  have HCz : Hid (Cl z (k + 1)) := hz
  obtain ⟨p4, p5⟩ := pow_at (k := k) (by omega)
  have k0 : 0 ≤ (k : Int) := by omega
  have k1 : (k : Int) ≤ 9 := by omega
  clear hz
  obtain ⟨q1, q2, q3⟩ := hy.more
  have HCy : Hid (Cl y (k + 1)) := hy
  clear hy
  go_enter Try.func5, Try.ntmps5
  go_wp2_with fail
  refine awake_any.mono ?_
  rintro e w1 ⟨rfl, H1⟩
  go_wp2_with fail
  refine (bring_any (by omega) (by omega)).mono ?_
  rintro e w2 ⟨rfl, rfl⟩
  go_wp2_with fail
  refine (bring_any (by omega) (by omega)).mono ?_
  rintro e w2 ⟨rfl, rfl⟩
  go_wp2_with fail
  refine (class_succ (by omega) (by omega) HCz.out).mono ?_
  rintro e w2 ⟨rfl, H2⟩
  go_wp2_with fail
  refine (class_succ (by omega) (by omega) HCy.out).mono ?_
  rintro e w3 ⟨rfl, H3⟩
  have H4 : Hid (Below w.heap.size w w3) := below_to (below_to H1.out H2.out) H3.out
  clear H1 H2 H3
  generalize hpk : (2 : Int) ^ k = p at *
  have f6 : ¬ p ≤ z - (p + 1) := by omega
  have f7 : (p + 1 + (z - (p + 1)) == z) = true := by rw [beq_iff_eq]; omega
  have f1 : z < y := hzy
  have f2 : (z != y) = true := by rw [bne_iff_ne]; omega
  have f3 : ((k : Int) + 1 == (k : Int) + 1) = true := by simp
  have f4 : ((k : Int) + 1 != (k : Int) + 1) = false := by simp
  have f8 : (z - (p + 1) == y - (p + 1)) = false := by rw [beq_eq_false_iff_ne]; omega
  have f9 : (y - (p + 1) - (z - (p + 1)) == y - z) = true := by rw [beq_iff_eq]; omega
  have f5 : ¬ (k : Int) + 1 < (k : Int) + 1 := by omega
  have f10 : ((k : Int) == (k : Int)) = true := by simp
  go_wp2_with fail
  go_ret
  exact ⟨rfl, H4.out⟩

set_option maxRecDepth 100000 in
set_option maxHeartbeats 1000000 in
theorem ends_f {w : World} {a b z y : Int} (ea : 1 + a % 1024 = z) (eb : 1 + b % 1024 = y) {k l : Nat} (hz1 : 1 < z) (_ : z ≤ 1024) (hz : Cl z (k + 1)) (hy1 : 1 < y) (hy2 : y ≤ 1024) (hy : Cl y (l + 1)) (hkl : k = l) (hzy : z = y) : Calls Try.prog 5 #[.int .i64 a, .int .i64 b] w fun e w' => e = .returned (.bool true) ∧ Below w.heap.size w w' := by
  have a0 := Int.emod_nonneg a (b := 1024) (by omega)
  have a1 := Int.emod_lt_of_pos a (b := 1024) (by omega)
  have b0 := Int.emod_nonneg b (b := 1024) (by omega)
  have b1 := Int.emod_lt_of_pos b (b := 1024) (by omega)
  subst hkl
  subst hzy
  obtain ⟨p1, p2, p3⟩ := hz.more
  have HCz : Hid (Cl z (k + 1)) := hz
  obtain ⟨p4, p5⟩ := pow_at (k := k) (by omega)
  have k0 : 0 ≤ (k : Int) := by omega
  have k1 : (k : Int) ≤ 9 := by omega
  clear hz
  clear hy
  go_enter Try.func5, Try.ntmps5
  go_wp2_with fail
  refine awake_any.mono ?_
  rintro e w1 ⟨rfl, H1⟩
  go_wp2_with fail
  refine (bring_any (by omega) (by omega)).mono ?_
  rintro e w2 ⟨rfl, rfl⟩
  go_wp2_with fail
  refine (bring_any (by omega) (by omega)).mono ?_
  rintro e w2 ⟨rfl, rfl⟩
  go_wp2_with fail
  refine (class_succ (by omega) (by omega) HCz.out).mono ?_
  rintro e w2 ⟨rfl, H2⟩
  go_wp2_with fail
  refine (class_succ (by omega) (by omega) HCz.out).mono ?_
  rintro e w3 ⟨rfl, H3⟩
  have H4 : Hid (Below w.heap.size w w3) := below_to (below_to H1.out H2.out) H3.out
  clear H1 H2 H3
  generalize hpk : (2 : Int) ^ k = p at *
  have f6 : ¬ p ≤ z - (p + 1) := by omega
  have f7 : (p + 1 + (z - (p + 1)) == z) = true := by rw [beq_iff_eq]; omega
  have f2 : (z != z) = false := by simp
  have f3 : ((k : Int) + 1 == (k : Int) + 1) = true := by simp
  have f4 : ((k : Int) + 1 != (k : Int) + 1) = false := by simp
  have f8 : (z - (p + 1) == z - (p + 1)) = true := by simp
  have f9 : (z - (p + 1) - (z - (p + 1)) == z - z) = true := by rw [beq_iff_eq]; omega
  have f10 : ((k : Int) == (k : Int)) = true := by simp
  go_wp2_with fail
  go_ret
  exact ⟨rfl, H4.out⟩

set_option maxRecDepth 100000 in
set_option maxHeartbeats 1000000 in
theorem ends_g {w : World} {a b z y : Int} (ea : 1 + a % 1024 = z) (eb : 1 + b % 1024 = y) {k l : Nat} (hz1 : 1 < z) (hz2 : z ≤ 1024) (hz : Cl z (k + 1)) (hy1 : 1 < y) (hy2 : y ≤ 1024) (hy : Cl y (l + 1)) (hkl : k = l) (hzy : y < z) : Calls Try.prog 5 #[.int .i64 a, .int .i64 b] w fun e w' => e = .returned (.bool true) ∧ Below w.heap.size w w' := by
  have a0 := Int.emod_nonneg a (b := 1024) (by omega)
  have a1 := Int.emod_lt_of_pos a (b := 1024) (by omega)
  have b0 := Int.emod_nonneg b (b := 1024) (by omega)
  have b1 := Int.emod_lt_of_pos b (b := 1024) (by omega)
  subst hkl
  obtain ⟨p1, p2, p3⟩ := hz.more
  have HCz : Hid (Cl z (k + 1)) := hz
  obtain ⟨p4, p5⟩ := pow_at (k := k) (by omega)
  have k0 : 0 ≤ (k : Int) := by omega
  have k1 : (k : Int) ≤ 9 := by omega
  clear hz
  obtain ⟨q1, q2, q3⟩ := hy.more
  have HCy : Hid (Cl y (k + 1)) := hy
  clear hy
  go_enter Try.func5, Try.ntmps5
  go_wp2_with fail
  refine awake_any.mono ?_
  rintro e w1 ⟨rfl, H1⟩
  go_wp2_with fail
  refine (bring_any (by omega) (by omega)).mono ?_
  rintro e w2 ⟨rfl, rfl⟩
  go_wp2_with fail
  refine (bring_any (by omega) (by omega)).mono ?_
  rintro e w2 ⟨rfl, rfl⟩
  go_wp2_with fail
  refine (class_succ (by omega) (by omega) HCz.out).mono ?_
  rintro e w2 ⟨rfl, H2⟩
  go_wp2_with fail
  refine (class_succ (by omega) (by omega) HCy.out).mono ?_
  rintro e w3 ⟨rfl, H3⟩
  have H4 : Hid (Below w.heap.size w w3) := below_to (below_to H1.out H2.out) H3.out
  clear H1 H2 H3
  generalize hpk : (2 : Int) ^ k = p at *
  have f6 : ¬ p ≤ z - (p + 1) := by omega
  have f7 : (p + 1 + (z - (p + 1)) == z) = true := by rw [beq_iff_eq]; omega
  have f1 : ¬ z < y := by omega
  have f2 : (z != y) = true := by rw [bne_iff_ne]; omega
  have f3 : ((k : Int) + 1 == (k : Int) + 1) = true := by simp
  have f4 : ((k : Int) + 1 != (k : Int) + 1) = false := by simp
  have f8 : (z - (p + 1) == y - (p + 1)) = false := by rw [beq_eq_false_iff_ne]; omega
  have f9 : (y - (p + 1) - (z - (p + 1)) == y - z) = true := by rw [beq_iff_eq]; omega
  have f10 : ((k : Int) == (k : Int)) = true := by simp
  go_wp2_with fail
  go_ret
  exact ⟨rfl, H4.out⟩

set_option maxRecDepth 100000 in
set_option maxHeartbeats 1000000 in
theorem ends_h {w : World} {a b z y : Int} (ea : 1 + a % 1024 = z) (eb : 1 + b % 1024 = y) {k l : Nat} (hz1 : 1 < z) (hz2 : z ≤ 1024) (hz : Cl z (k + 1)) (hy1 : 1 < y) (hy2 : y ≤ 1024) (hy : Cl y (l + 1)) (hkl : l < k) (hzy : y < z) : Calls Try.prog 5 #[.int .i64 a, .int .i64 b] w fun e w' => e = .returned (.bool true) ∧ Below w.heap.size w w' := by
  have a0 := Int.emod_nonneg a (b := 1024) (by omega)
  have a1 := Int.emod_lt_of_pos a (b := 1024) (by omega)
  have b0 := Int.emod_nonneg b (b := 1024) (by omega)
  have b1 := Int.emod_lt_of_pos b (b := 1024) (by omega)
  obtain ⟨p1, p2, p3⟩ := hz.more
  have HCz : Hid (Cl z (k + 1)) := hz
  obtain ⟨p4, p5⟩ := pow_at (k := k) (by omega)
  have k0 : 0 ≤ (k : Int) := by omega
  have k1 : (k : Int) ≤ 9 := by omega
  clear hz
  obtain ⟨q1, q2, q3⟩ := hy.more
  have HCy : Hid (Cl y (l + 1)) := hy
  obtain ⟨q4, q5⟩ := pow_at (k := l) (by omega)
  have l0 : 0 ≤ (l : Int) := by omega
  have l1 : (l : Int) ≤ 9 := by omega
  clear hy
  go_enter Try.func5, Try.ntmps5
  go_wp2_with fail
  refine awake_any.mono ?_
  rintro e w1 ⟨rfl, H1⟩
  go_wp2_with fail
  refine (bring_any (by omega) (by omega)).mono ?_
  rintro e w2 ⟨rfl, rfl⟩
  go_wp2_with fail
  refine (bring_any (by omega) (by omega)).mono ?_
  rintro e w2 ⟨rfl, rfl⟩
  go_wp2_with fail
  refine (class_succ (by omega) (by omega) HCz.out).mono ?_
  rintro e w2 ⟨rfl, H2⟩
  go_wp2_with fail
  refine (class_succ (by omega) (by omega) HCy.out).mono ?_
  rintro e w3 ⟨rfl, H3⟩
  have H4 : Hid (Below w.heap.size w w3) := below_to (below_to H1.out H2.out) H3.out
  clear H1 H2 H3
  generalize hpk : (2 : Int) ^ k = p at *
  generalize hql : (2 : Int) ^ l = q at *
  have f6 : ¬ p ≤ z - (p + 1) := by omega
  have f7 : (p + 1 + (z - (p + 1)) == z) = true := by rw [beq_iff_eq]; omega
  have f1 : ¬ z < y := by omega
  have f2 : (z != y) = true := by rw [bne_iff_ne]; omega
  have f3 : ((k : Int) + 1 == (l : Int) + 1) = false := by rw [beq_eq_false_iff_ne]; omega
  have f4 : ((k : Int) + 1 != (l : Int) + 1) = true := by rw [bne_iff_ne]; omega
  have f10 : ((k : Int) == (k : Int)) = true := by simp
  have f11 : ((l : Int) == (l : Int)) = true := by simp
  go_wp2_with fail
  go_ret
  exact ⟨rfl, H4.out⟩

theorem ends_walk {w : World} {a b : Int} : Calls Try.prog 5 #[.int .i64 a, .int .i64 b] w fun e w' => e = .returned (.bool true) ∧ Below w.heap.size w w' := by
  have a0 := Int.emod_nonneg a (b := 1024) (by omega)
  have a1 := Int.emod_lt_of_pos a (b := 1024) (by omega)
  have b0 := Int.emod_nonneg b (b := 1024) (by omega)
  have b1 := Int.emod_lt_of_pos b (b := 1024) (by omega)
  obtain ⟨z, hz⟩ : ∃ z, 1 + a % 1024 = z := ⟨_, rfl⟩
  obtain ⟨y, hy⟩ : ∃ y, 1 + b % 1024 = y := ⟨_, rfl⟩
  obtain ⟨c, hc⟩ := cl_any (z := z) (by omega)
  obtain ⟨d, hd⟩ := cl_any (z := y) (by omega)
  rcases c with _ | k
  · obtain rfl := hc.one (by omega)
    rcases d with _ | l
    · obtain rfl := hd.one (by omega)
      exact ends_a hz hy
    · have := hd.lo 0 (by omega)
      simp at this
      exact ends_b hz hy this (by omega) hd
  · have h1 := hc.lo 0 (by omega)
    simp at h1
    rcases d with _ | l
    · obtain rfl := hd.one (by omega)
      exact ends_c hz hy h1 (by omega) hc
    · have h2 := hd.lo 0 (by omega)
      simp at h2
      rcases Nat.lt_trichotomy k l with e | e | e
      · exact ends_d hz hy h1 (by omega) hc h2 (by omega) hd e (hc.less hd e)
      · rcases Int.lt_trichotomy z y with f | f | f
        · exact ends_e hz hy h1 (by omega) hc h2 (by omega) hd e f
        · exact ends_f hz hy h1 (by omega) hc h2 (by omega) hd e f
        · exact ends_g hz hy h1 (by omega) hc h2 (by omega) hd e f
      · exact ends_h hz hy h1 (by omega) hc h2 (by omega) hd e (hd.less hc e)

end Go.Proofs.Ytoddkhaaacpelaa
