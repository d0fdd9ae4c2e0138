/- DERIVED. The walk of ScoreDearer. -/
import Derived.Test.YtdiphgkgehpgiaaFk
import Derived.Test.YtdiphgkgehpgiaaFm
namespace Go.Proofs.Ytdiphgkgehpgiaa
open Go.RowKit Ieee

theorem fle_word {x y : Nat} (hx : x ≤ inf) (hy : y ≤ inf) (h : x ≤ y) : (FloatKind.f64.format.order (double.word false x) (double.word false y) == some .lt || FloatKind.f64.format.order (double.word false x) (double.word false y) == some .eq) = true := by
  rw [ord_fmt, ord_le]
  exact decide_eq_true ⟨nan_word _ hx, nan_word _ hy, by rw [key_word hx, key_word hy]; omega⟩
theorem fge_zero {x : Nat} (hx : x ≤ inf) : (FloatKind.f64.format.order (double.word false x) 0 == some .gt || FloatKind.f64.format.order (double.word false x) 0 == some .eq) = true := by
  rw [ord_fmt, ord_ge]
  exact decide_eq_true ⟨zero_ok.1, nan_word _ hx, by rw [key_word hx, zero_ok.2]; omega⟩
theorem fin_of {l : Nat} (hn : ¬ Nan l) (hz : flt l 0 = false) (hc : ¬ cls l = sInf) : rung l < inf ∧ (sgn l = true → rung l = 0) := by
  have h0 : sgn l = true → rung l = 0 := fun hs => by
    by_cases h : rung l = 0
    · exact h
    · rw [lt_zero hn h, hs] at hz; cases hz
  refine ⟨?_, h0⟩
  have hle := Nat.le_of_not_lt hn
  rcases Nat.lt_or_eq_of_le hle with h | h
  · exact h
  · exfalso
    have hs : sgn l = false := by
      cases e : sgn l
      · rfl
      · have := h0 e; rw [h] at this; exact absurd this (by decide +kernel)
    apply hc
    unfold cls
    rw [if_neg hn, if_pos h, hs]; rfl
theorem cost_fin {l : Nat} (hl : rung l < inf) (h0 : sgn l = true → rung l = 0) {d r : Nat} (hd : d ≤ 18446744073709551616) (hr : r ≤ 18446744073709551616) (w : World) : Calls Try.prog 15 #[.int .u64 (d : Int), .int .u64 (r : Int), .float .f64 l] w fun e w' => e = .returned (.float .f64 (double.word false (cr l d r))) ∧ ∃ n : Nat, w' = w.drewN n :=
  (cost_any d r l w).mono (by
    rintro e w' ⟨x, n, rfl, rfl, h⟩
    rw [cost_eq hl h0 hd hr] at h
    obtain rfl : x = _ := h
    exact ⟨rfl, n, rfl⟩)

set_option maxRecDepth 100000 in
set_option maxHeartbeats 4000000 in
theorem dearer_walk {u : World} {D0 D1 R0 R1 l : Nat} (hD0 : D0 < 18446744073709551616) (hD1 : D1 < 18446744073709551616) (hR0 : R0 < 18446744073709551616) (hR1 : R1 < 18446744073709551616) (hl : l < 18446744073709551616) :
    Calls Try.prog 7 #[.agg #[.int .u64 (D0 : Int), .int .u64 (D1 : Int)], .agg #[.int .u64 (R0 : Int), .int .u64 (R1 : Int)], .float .f64 l] u fun e w' => e = .returned (.bool true) ∧ Below u.heap.size u w' := by
  have HB0 : Hid (Below u.heap.size u ((u.alloc (.cells #[.int .u64 (D0 : Int), .int .u64 (D1 : Int)] 46)).alloc (.cells #[.int .u64 (R0 : Int), .int .u64 (R1 : Int)] 46))) := to_alloc (from_alloc _ _) _
  have HL : Hid (l < 18446744073709551616) := hl
  have N0 : Hid (min D0 D1 ≤ 18446744073709551616 ∧ max D0 D1 ≤ 18446744073709551616 ∧ min R0 R1 ≤ 18446744073709551616 ∧ max R0 R1 ≤ 18446744073709551616) := by unfold Hid; omega
  clear hD0 hD1 hR0 hR1 hl
  go_enter Try.func7, Try.ntmps7
  go_wp2_with fail
  refine (works_true _).mono ?_
  rintro e w1 ⟨rfl, hb⟩
  have c0 : ∀ m, (w1.drewN m).cell? ⟨u.heap.size, 0, none⟩ = some (.int .u64 (D0 : Int)) := fun m => by rw [World.cell?_drewN, newCell hb _ _ (by simp; omega)]; simp
  have c1 : ∀ m, (w1.drewN m).cell? ⟨u.heap.size, 1, none⟩ = some (.int .u64 (D1 : Int)) := fun m => by rw [World.cell?_drewN, newCell hb _ _ (by simp; omega)]; simp
  have c2 : ∀ m, (w1.drewN m).cell? ⟨u.heap.size + 1, 0, none⟩ = some (.int .u64 (R0 : Int)) := fun m => by rw [World.cell?_drewN, newCell hb _ _ (by simp)]; simp
  have c3 : ∀ m, (w1.drewN m).cell? ⟨u.heap.size + 1, 1, none⟩ = some (.int .u64 (R1 : Int)) := fun m => by rw [World.cell?_drewN, newCell hb _ _ (by simp)]; simp
  have HB : Hid (Below u.heap.size u w1) := below_to HB0.out hb
  clear hb
  by_cases hn : Nan l
  · have e1 : (FloatKind.f64.format.order l l != some .eq) = true := by rw [nan_ne]; exact decide_eq_true hn
    clear hn c0 c1 c2 c3
    go_wp2_with fail
    go_ret
    exact ⟨rfl, HB.out⟩
  have e1 : (FloatKind.f64.format.order l l != some .eq) = false := by rw [nan_ne]; exact decide_eq_false hn
  cases hz : flt l 0
  · have e2 : (FloatKind.f64.format.order l 0 == some .lt) = false := by rw [ord_fmt, ord_lt, hz]
    by_cases hc : cls l = sInf
    · have K : Hid (∀ w, Calls Try.prog 21 #[.float .f64 l] w fun e w' => e = .returned (.string ⟨#[105, 110, 102]⟩) ∧ w' = w) := fun w => by have := class_any HL.out w; rw [hc] at this; exact this
      clear hn c0 c1 c2 c3 hz hc
      go_wp2_with fail
      refine (K.out _).mono ?_
      rintro e w2 ⟨rfl, rfl⟩
      go_wp2_with fail
      go_ret
      exact ⟨rfl, HB.out⟩
    · obtain ⟨hfin, hzero⟩ := fin_of hn hz hc
      rcases Nat.lt_trichotomy D0 D1 with hD | hD | hD
      · have hD' : ¬ D1 < D0 := by omega
        rcases Nat.lt_trichotomy R0 R1 with hR | hR | hR
        · have hR' : ¬ R1 < R0 := by omega
          have K1 : Hid (∀ w, Calls Try.prog 15 #[.int .u64 (D0 : Int), .int .u64 (R0 : Int), .float .f64 l] w fun e w' => e = .returned (.float .f64 (double.word false (cr l D0 R0))) ∧ ∃ n : Nat, w' = w.drewN n) := fun w => cost_fin hfin hzero (by have := N0.out; omega) (by have := N0.out; omega) w
          have K2 : Hid (∀ w, Calls Try.prog 15 #[.int .u64 (D1 : Int), .int .u64 (R1 : Int), .float .f64 l] w fun e w' => e = .returned (.float .f64 (double.word false (cr l D1 R1))) ∧ ∃ n : Nat, w' = w.drewN n) := fun w => cost_fin hfin hzero (by have := N0.out; omega) (by have := N0.out; omega) w
          have K3 : Hid (∀ w, Calls Try.prog 15 #[.int .u64 (D0 : Int), .int .u64 (R1 : Int), .float .f64 l] w fun e w' => e = .returned (.float .f64 (double.word false (cr l D0 R1))) ∧ ∃ n : Nat, w' = w.drewN n) := fun w => cost_fin hfin hzero (by have := N0.out; omega) (by have := N0.out; omega) w
          have o1 := fle_word (cr_le l D0 R0) (cr_le l D1 R1) (cr_mono (by omega) (by omega))
          have o2 := fle_word (cr_le l D0 R0) (cr_le l D0 R1) (cr_mono (by omega) (by omega))
          have o3 := fge_zero (cr_le l D0 R0)
          generalize double.word false (cr l D0 R0) = x1 at *
          try generalize double.word false (cr l D1 R1) = x2 at *
          try generalize double.word false (cr l D0 R1) = x3 at *
          have KC : Hid (∀ w, Calls Try.prog 21 #[.float .f64 l] w fun e w' => e = .returned (.string (cls l)) ∧ w' = w) := fun w => class_any HL.out w
          generalize cls l = s at *
          clear hn hz hc hfin hzero
          go_wp2_with fail
          refine (KC.out _).mono ?_
          rintro e w2 ⟨rfl, rfl⟩
          have c0' := c0 0
          have c1' := c1 0
          have c2' := c2 0
          have c3' := c3 0
          rw [World.cell?_drewN] at c0' c1' c2' c3'
          go_wp2_with fail
          · go_ret
            exact ⟨rfl, HB.out⟩
          with_reducible refine (K1.out _).mono ?_
          rintro e w3 ⟨rfl, n, rfl⟩
          go_wp2_with fail
          with_reducible refine (K2.out _).mono ?_
          rintro e w4 ⟨rfl, m, rfl⟩
          go_wp2_with fail
          with_reducible refine (K3.out _).mono ?_
          rintro e w5 ⟨rfl, q, rfl⟩
          go_wp2_with fail
          go_ret
          exact ⟨rfl, below_drewN HB.out _⟩
        · subst hR
          have K1 : Hid (∀ w, Calls Try.prog 15 #[.int .u64 (D0 : Int), .int .u64 (R0 : Int), .float .f64 l] w fun e w' => e = .returned (.float .f64 (double.word false (cr l D0 R0))) ∧ ∃ n : Nat, w' = w.drewN n) := fun w => cost_fin hfin hzero (by have := N0.out; omega) (by have := N0.out; omega) w
          have K2 : Hid (∀ w, Calls Try.prog 15 #[.int .u64 (D1 : Int), .int .u64 (R0 : Int), .float .f64 l] w fun e w' => e = .returned (.float .f64 (double.word false (cr l D1 R0))) ∧ ∃ n : Nat, w' = w.drewN n) := fun w => cost_fin hfin hzero (by have := N0.out; omega) (by have := N0.out; omega) w
          have K3 : Hid (∀ w, Calls Try.prog 15 #[.int .u64 (D0 : Int), .int .u64 (R0 : Int), .float .f64 l] w fun e w' => e = .returned (.float .f64 (double.word false (cr l D0 R0))) ∧ ∃ n : Nat, w' = w.drewN n) := fun w => cost_fin hfin hzero (by have := N0.out; omega) (by have := N0.out; omega) w
          have o1 := fle_word (cr_le l D0 R0) (cr_le l D1 R0) (cr_mono (by omega) (by omega))
          have o2 := fle_word (cr_le l D0 R0) (cr_le l D0 R0) (cr_mono (by omega) (by omega))
          have o3 := fge_zero (cr_le l D0 R0)
          generalize double.word false (cr l D0 R0) = x1 at *
          try generalize double.word false (cr l D1 R0) = x2 at *
          try generalize double.word false (cr l D0 R0) = x3 at *
          have KC : Hid (∀ w, Calls Try.prog 21 #[.float .f64 l] w fun e w' => e = .returned (.string (cls l)) ∧ w' = w) := fun w => class_any HL.out w
          generalize cls l = s at *
          clear hn hz hc hfin hzero
          go_wp2_with fail
          refine (KC.out _).mono ?_
          rintro e w2 ⟨rfl, rfl⟩
          have c0' := c0 0
          have c1' := c1 0
          have c2' := c2 0
          have c3' := c3 0
          rw [World.cell?_drewN] at c0' c1' c2' c3'
          go_wp2_with fail
          · go_ret
            exact ⟨rfl, HB.out⟩
          with_reducible refine (K1.out _).mono ?_
          rintro e w3 ⟨rfl, n, rfl⟩
          go_wp2_with fail
          with_reducible refine (K2.out _).mono ?_
          rintro e w4 ⟨rfl, m, rfl⟩
          go_wp2_with fail
          with_reducible refine (K3.out _).mono ?_
          rintro e w5 ⟨rfl, q, rfl⟩
          go_wp2_with fail
          go_ret
          exact ⟨rfl, below_drewN HB.out _⟩
        · have hR' : ¬ R0 < R1 := by omega
          have K1 : Hid (∀ w, Calls Try.prog 15 #[.int .u64 (D0 : Int), .int .u64 (R1 : Int), .float .f64 l] w fun e w' => e = .returned (.float .f64 (double.word false (cr l D0 R1))) ∧ ∃ n : Nat, w' = w.drewN n) := fun w => cost_fin hfin hzero (by have := N0.out; omega) (by have := N0.out; omega) w
          have K2 : Hid (∀ w, Calls Try.prog 15 #[.int .u64 (D1 : Int), .int .u64 (R0 : Int), .float .f64 l] w fun e w' => e = .returned (.float .f64 (double.word false (cr l D1 R0))) ∧ ∃ n : Nat, w' = w.drewN n) := fun w => cost_fin hfin hzero (by have := N0.out; omega) (by have := N0.out; omega) w
          have K3 : Hid (∀ w, Calls Try.prog 15 #[.int .u64 (D0 : Int), .int .u64 (R0 : Int), .float .f64 l] w fun e w' => e = .returned (.float .f64 (double.word false (cr l D0 R0))) ∧ ∃ n : Nat, w' = w.drewN n) := fun w => cost_fin hfin hzero (by have := N0.out; omega) (by have := N0.out; omega) w
          have o1 := fle_word (cr_le l D0 R1) (cr_le l D1 R0) (cr_mono (by omega) (by omega))
          have o2 := fle_word (cr_le l D0 R1) (cr_le l D0 R0) (cr_mono (by omega) (by omega))
          have o3 := fge_zero (cr_le l D0 R1)
          generalize double.word false (cr l D0 R1) = x1 at *
          try generalize double.word false (cr l D1 R0) = x2 at *
          try generalize double.word false (cr l D0 R0) = x3 at *
          have KC : Hid (∀ w, Calls Try.prog 21 #[.float .f64 l] w fun e w' => e = .returned (.string (cls l)) ∧ w' = w) := fun w => class_any HL.out w
          generalize cls l = s at *
          clear hn hz hc hfin hzero
          go_wp2_with fail
          refine (KC.out _).mono ?_
          rintro e w2 ⟨rfl, rfl⟩
          have c0' := c0 0
          have c1' := c1 0
          have c2' := c2 0
          have c3' := c3 0
          rw [World.cell?_drewN] at c0' c1' c2' c3'
          go_wp2_with fail
          · go_ret
            exact ⟨rfl, HB.out⟩
          with_reducible refine (K1.out _).mono ?_
          rintro e w3 ⟨rfl, n, rfl⟩
          go_wp2_with fail
          with_reducible refine (K2.out _).mono ?_
          rintro e w4 ⟨rfl, m, rfl⟩
          go_wp2_with fail
          with_reducible refine (K3.out _).mono ?_
          rintro e w5 ⟨rfl, q, rfl⟩
          go_wp2_with fail
          go_ret
          exact ⟨rfl, below_drewN HB.out _⟩
      · subst hD
        rcases Nat.lt_trichotomy R0 R1 with hR | hR | hR
        · have hR' : ¬ R1 < R0 := by omega
          have K1 : Hid (∀ w, Calls Try.prog 15 #[.int .u64 (D0 : Int), .int .u64 (R0 : Int), .float .f64 l] w fun e w' => e = .returned (.float .f64 (double.word false (cr l D0 R0))) ∧ ∃ n : Nat, w' = w.drewN n) := fun w => cost_fin hfin hzero (by have := N0.out; omega) (by have := N0.out; omega) w
          have K2 : Hid (∀ w, Calls Try.prog 15 #[.int .u64 (D0 : Int), .int .u64 (R1 : Int), .float .f64 l] w fun e w' => e = .returned (.float .f64 (double.word false (cr l D0 R1))) ∧ ∃ n : Nat, w' = w.drewN n) := fun w => cost_fin hfin hzero (by have := N0.out; omega) (by have := N0.out; omega) w
          have K3 : Hid (∀ w, Calls Try.prog 15 #[.int .u64 (D0 : Int), .int .u64 (R1 : Int), .float .f64 l] w fun e w' => e = .returned (.float .f64 (double.word false (cr l D0 R1))) ∧ ∃ n : Nat, w' = w.drewN n) := fun w => cost_fin hfin hzero (by have := N0.out; omega) (by have := N0.out; omega) w
          have o1 := fle_word (cr_le l D0 R0) (cr_le l D0 R1) (cr_mono (by omega) (by omega))
          have o2 := fle_word (cr_le l D0 R0) (cr_le l D0 R1) (cr_mono (by omega) (by omega))
          have o3 := fge_zero (cr_le l D0 R0)
          generalize double.word false (cr l D0 R0) = x1 at *
          try generalize double.word false (cr l D0 R1) = x2 at *
          try generalize double.word false (cr l D0 R1) = x3 at *
          have KC : Hid (∀ w, Calls Try.prog 21 #[.float .f64 l] w fun e w' => e = .returned (.string (cls l)) ∧ w' = w) := fun w => class_any HL.out w
          generalize cls l = s at *
          clear hn hz hc hfin hzero
          go_wp2_with fail
          refine (KC.out _).mono ?_
          rintro e w2 ⟨rfl, rfl⟩
          have c0' := c0 0
          have c1' := c1 0
          have c2' := c2 0
          have c3' := c3 0
          rw [World.cell?_drewN] at c0' c1' c2' c3'
          go_wp2_with fail
          · go_ret
            exact ⟨rfl, HB.out⟩
          with_reducible refine (K1.out _).mono ?_
          rintro e w3 ⟨rfl, n, rfl⟩
          go_wp2_with fail
          with_reducible refine (K2.out _).mono ?_
          rintro e w4 ⟨rfl, m, rfl⟩
          go_wp2_with fail
          with_reducible refine (K3.out _).mono ?_
          rintro e w5 ⟨rfl, q, rfl⟩
          go_wp2_with fail
          go_ret
          exact ⟨rfl, below_drewN HB.out _⟩
        · subst hR
          have K1 : Hid (∀ w, Calls Try.prog 15 #[.int .u64 (D0 : Int), .int .u64 (R0 : Int), .float .f64 l] w fun e w' => e = .returned (.float .f64 (double.word false (cr l D0 R0))) ∧ ∃ n : Nat, w' = w.drewN n) := fun w => cost_fin hfin hzero (by have := N0.out; omega) (by have := N0.out; omega) w
          have K2 : Hid (∀ w, Calls Try.prog 15 #[.int .u64 (D0 : Int), .int .u64 (R0 : Int), .float .f64 l] w fun e w' => e = .returned (.float .f64 (double.word false (cr l D0 R0))) ∧ ∃ n : Nat, w' = w.drewN n) := fun w => cost_fin hfin hzero (by have := N0.out; omega) (by have := N0.out; omega) w
          have K3 : Hid (∀ w, Calls Try.prog 15 #[.int .u64 (D0 : Int), .int .u64 (R0 : Int), .float .f64 l] w fun e w' => e = .returned (.float .f64 (double.word false (cr l D0 R0))) ∧ ∃ n : Nat, w' = w.drewN n) := fun w => cost_fin hfin hzero (by have := N0.out; omega) (by have := N0.out; omega) w
          have o1 := fle_word (cr_le l D0 R0) (cr_le l D0 R0) (cr_mono (by omega) (by omega))
          have o2 := fle_word (cr_le l D0 R0) (cr_le l D0 R0) (cr_mono (by omega) (by omega))
          have o3 := fge_zero (cr_le l D0 R0)
          generalize double.word false (cr l D0 R0) = x1 at *
          try generalize double.word false (cr l D0 R0) = x2 at *
          try generalize double.word false (cr l D0 R0) = x3 at *
          have KC : Hid (∀ w, Calls Try.prog 21 #[.float .f64 l] w fun e w' => e = .returned (.string (cls l)) ∧ w' = w) := fun w => class_any HL.out w
          generalize cls l = s at *
          clear hn hz hc hfin hzero
          go_wp2_with fail
          refine (KC.out _).mono ?_
          rintro e w2 ⟨rfl, rfl⟩
          have c0' := c0 0
          have c1' := c1 0
          have c2' := c2 0
          have c3' := c3 0
          rw [World.cell?_drewN] at c0' c1' c2' c3'
          go_wp2_with fail
          · go_ret
            exact ⟨rfl, HB.out⟩
          with_reducible refine (K1.out _).mono ?_
          rintro e w3 ⟨rfl, n, rfl⟩
          go_wp2_with fail
          with_reducible refine (K2.out _).mono ?_
          rintro e w4 ⟨rfl, m, rfl⟩
          go_wp2_with fail
          with_reducible refine (K3.out _).mono ?_
          rintro e w5 ⟨rfl, q, rfl⟩
          go_wp2_with fail
          go_ret
          exact ⟨rfl, below_drewN HB.out _⟩
        · have hR' : ¬ R0 < R1 := by omega
          have K1 : Hid (∀ w, Calls Try.prog 15 #[.int .u64 (D0 : Int), .int .u64 (R1 : Int), .float .f64 l] w fun e w' => e = .returned (.float .f64 (double.word false (cr l D0 R1))) ∧ ∃ n : Nat, w' = w.drewN n) := fun w => cost_fin hfin hzero (by have := N0.out; omega) (by have := N0.out; omega) w
          have K2 : Hid (∀ w, Calls Try.prog 15 #[.int .u64 (D0 : Int), .int .u64 (R0 : Int), .float .f64 l] w fun e w' => e = .returned (.float .f64 (double.word false (cr l D0 R0))) ∧ ∃ n : Nat, w' = w.drewN n) := fun w => cost_fin hfin hzero (by have := N0.out; omega) (by have := N0.out; omega) w
          have K3 : Hid (∀ w, Calls Try.prog 15 #[.int .u64 (D0 : Int), .int .u64 (R0 : Int), .float .f64 l] w fun e w' => e = .returned (.float .f64 (double.word false (cr l D0 R0))) ∧ ∃ n : Nat, w' = w.drewN n) := fun w => cost_fin hfin hzero (by have := N0.out; omega) (by have := N0.out; omega) w
          have o1 := fle_word (cr_le l D0 R1) (cr_le l D0 R0) (cr_mono (by omega) (by omega))
          have o2 := fle_word (cr_le l D0 R1) (cr_le l D0 R0) (cr_mono (by omega) (by omega))
          have o3 := fge_zero (cr_le l D0 R1)
          generalize double.word false (cr l D0 R1) = x1 at *
          try generalize double.word false (cr l D0 R0) = x2 at *
          try generalize double.word false (cr l D0 R0) = x3 at *
          have KC : Hid (∀ w, Calls Try.prog 21 #[.float .f64 l] w fun e w' => e = .returned (.string (cls l)) ∧ w' = w) := fun w => class_any HL.out w
          generalize cls l = s at *
          clear hn hz hc hfin hzero
          go_wp2_with fail
          refine (KC.out _).mono ?_
          rintro e w2 ⟨rfl, rfl⟩
          have c0' := c0 0
          have c1' := c1 0
          have c2' := c2 0
          have c3' := c3 0
          rw [World.cell?_drewN] at c0' c1' c2' c3'
          go_wp2_with fail
          · go_ret
            exact ⟨rfl, HB.out⟩
          with_reducible refine (K1.out _).mono ?_
          rintro e w3 ⟨rfl, n, rfl⟩
          go_wp2_with fail
          with_reducible refine (K2.out _).mono ?_
          rintro e w4 ⟨rfl, m, rfl⟩
          go_wp2_with fail
          with_reducible refine (K3.out _).mono ?_
          rintro e w5 ⟨rfl, q, rfl⟩
          go_wp2_with fail
          go_ret
          exact ⟨rfl, below_drewN HB.out _⟩
      · have hD' : ¬ D0 < D1 := by omega
        rcases Nat.lt_trichotomy R0 R1 with hR | hR | hR
        · have hR' : ¬ R1 < R0 := by omega
          have K1 : Hid (∀ w, Calls Try.prog 15 #[.int .u64 (D1 : Int), .int .u64 (R0 : Int), .float .f64 l] w fun e w' => e = .returned (.float .f64 (double.word false (cr l D1 R0))) ∧ ∃ n : Nat, w' = w.drewN n) := fun w => cost_fin hfin hzero (by have := N0.out; omega) (by have := N0.out; omega) w
          have K2 : Hid (∀ w, Calls Try.prog 15 #[.int .u64 (D0 : Int), .int .u64 (R1 : Int), .float .f64 l] w fun e w' => e = .returned (.float .f64 (double.word false (cr l D0 R1))) ∧ ∃ n : Nat, w' = w.drewN n) := fun w => cost_fin hfin hzero (by have := N0.out; omega) (by have := N0.out; omega) w
          have K3 : Hid (∀ w, Calls Try.prog 15 #[.int .u64 (D1 : Int), .int .u64 (R1 : Int), .float .f64 l] w fun e w' => e = .returned (.float .f64 (double.word false (cr l D1 R1))) ∧ ∃ n : Nat, w' = w.drewN n) := fun w => cost_fin hfin hzero (by have := N0.out; omega) (by have := N0.out; omega) w
          have o1 := fle_word (cr_le l D1 R0) (cr_le l D0 R1) (cr_mono (by omega) (by omega))
          have o2 := fle_word (cr_le l D1 R0) (cr_le l D1 R1) (cr_mono (by omega) (by omega))
          have o3 := fge_zero (cr_le l D1 R0)
          generalize double.word false (cr l D1 R0) = x1 at *
          try generalize double.word false (cr l D0 R1) = x2 at *
          try generalize double.word false (cr l D1 R1) = x3 at *
          have KC : Hid (∀ w, Calls Try.prog 21 #[.float .f64 l] w fun e w' => e = .returned (.string (cls l)) ∧ w' = w) := fun w => class_any HL.out w
          generalize cls l = s at *
          clear hn hz hc hfin hzero
          go_wp2_with fail
          refine (KC.out _).mono ?_
          rintro e w2 ⟨rfl, rfl⟩
          have c0' := c0 0
          have c1' := c1 0
          have c2' := c2 0
          have c3' := c3 0
          rw [World.cell?_drewN] at c0' c1' c2' c3'
          go_wp2_with fail
          · go_ret
            exact ⟨rfl, HB.out⟩
          with_reducible refine (K1.out _).mono ?_
          rintro e w3 ⟨rfl, n, rfl⟩
          go_wp2_with fail
          with_reducible refine (K2.out _).mono ?_
          rintro e w4 ⟨rfl, m, rfl⟩
          go_wp2_with fail
          with_reducible refine (K3.out _).mono ?_
          rintro e w5 ⟨rfl, q, rfl⟩
          go_wp2_with fail
          go_ret
          exact ⟨rfl, below_drewN HB.out _⟩
        · subst hR
          have K1 : Hid (∀ w, Calls Try.prog 15 #[.int .u64 (D1 : Int), .int .u64 (R0 : Int), .float .f64 l] w fun e w' => e = .returned (.float .f64 (double.word false (cr l D1 R0))) ∧ ∃ n : Nat, w' = w.drewN n) := fun w => cost_fin hfin hzero (by have := N0.out; omega) (by have := N0.out; omega) w
          have K2 : Hid (∀ w, Calls Try.prog 15 #[.int .u64 (D0 : Int), .int .u64 (R0 : Int), .float .f64 l] w fun e w' => e = .returned (.float .f64 (double.word false (cr l D0 R0))) ∧ ∃ n : Nat, w' = w.drewN n) := fun w => cost_fin hfin hzero (by have := N0.out; omega) (by have := N0.out; omega) w
          have K3 : Hid (∀ w, Calls Try.prog 15 #[.int .u64 (D1 : Int), .int .u64 (R0 : Int), .float .f64 l] w fun e w' => e = .returned (.float .f64 (double.word false (cr l D1 R0))) ∧ ∃ n : Nat, w' = w.drewN n) := fun w => cost_fin hfin hzero (by have := N0.out; omega) (by have := N0.out; omega) w
          have o1 := fle_word (cr_le l D1 R0) (cr_le l D0 R0) (cr_mono (by omega) (by omega))
          have o2 := fle_word (cr_le l D1 R0) (cr_le l D1 R0) (cr_mono (by omega) (by omega))
          have o3 := fge_zero (cr_le l D1 R0)
          generalize double.word false (cr l D1 R0) = x1 at *
          try generalize double.word false (cr l D0 R0) = x2 at *
          try generalize double.word false (cr l D1 R0) = x3 at *
          have KC : Hid (∀ w, Calls Try.prog 21 #[.float .f64 l] w fun e w' => e = .returned (.string (cls l)) ∧ w' = w) := fun w => class_any HL.out w
          generalize cls l = s at *
          clear hn hz hc hfin hzero
          go_wp2_with fail
          refine (KC.out _).mono ?_
          rintro e w2 ⟨rfl, rfl⟩
          have c0' := c0 0
          have c1' := c1 0
          have c2' := c2 0
          have c3' := c3 0
          rw [World.cell?_drewN] at c0' c1' c2' c3'
          go_wp2_with fail
          · go_ret
            exact ⟨rfl, HB.out⟩
          with_reducible refine (K1.out _).mono ?_
          rintro e w3 ⟨rfl, n, rfl⟩
          go_wp2_with fail
          with_reducible refine (K2.out _).mono ?_
          rintro e w4 ⟨rfl, m, rfl⟩
          go_wp2_with fail
          with_reducible refine (K3.out _).mono ?_
          rintro e w5 ⟨rfl, q, rfl⟩
          go_wp2_with fail
          go_ret
          exact ⟨rfl, below_drewN HB.out _⟩
        · have hR' : ¬ R0 < R1 := by omega
          have K1 : Hid (∀ w, Calls Try.prog 15 #[.int .u64 (D1 : Int), .int .u64 (R1 : Int), .float .f64 l] w fun e w' => e = .returned (.float .f64 (double.word false (cr l D1 R1))) ∧ ∃ n : Nat, w' = w.drewN n) := fun w => cost_fin hfin hzero (by have := N0.out; omega) (by have := N0.out; omega) w
          have K2 : Hid (∀ w, Calls Try.prog 15 #[.int .u64 (D0 : Int), .int .u64 (R0 : Int), .float .f64 l] w fun e w' => e = .returned (.float .f64 (double.word false (cr l D0 R0))) ∧ ∃ n : Nat, w' = w.drewN n) := fun w => cost_fin hfin hzero (by have := N0.out; omega) (by have := N0.out; omega) w
          have K3 : Hid (∀ w, Calls Try.prog 15 #[.int .u64 (D1 : Int), .int .u64 (R0 : Int), .float .f64 l] w fun e w' => e = .returned (.float .f64 (double.word false (cr l D1 R0))) ∧ ∃ n : Nat, w' = w.drewN n) := fun w => cost_fin hfin hzero (by have := N0.out; omega) (by have := N0.out; omega) w
          have o1 := fle_word (cr_le l D1 R1) (cr_le l D0 R0) (cr_mono (by omega) (by omega))
          have o2 := fle_word (cr_le l D1 R1) (cr_le l D1 R0) (cr_mono (by omega) (by omega))
          have o3 := fge_zero (cr_le l D1 R1)
          generalize double.word false (cr l D1 R1) = x1 at *
          try generalize double.word false (cr l D0 R0) = x2 at *
          try generalize double.word false (cr l D1 R0) = x3 at *
          have KC : Hid (∀ w, Calls Try.prog 21 #[.float .f64 l] w fun e w' => e = .returned (.string (cls l)) ∧ w' = w) := fun w => class_any HL.out w
          generalize cls l = s at *
          clear hn hz hc hfin hzero
          go_wp2_with fail
          refine (KC.out _).mono ?_
          rintro e w2 ⟨rfl, rfl⟩
          have c0' := c0 0
          have c1' := c1 0
          have c2' := c2 0
          have c3' := c3 0
          rw [World.cell?_drewN] at c0' c1' c2' c3'
          go_wp2_with fail
          · go_ret
            exact ⟨rfl, HB.out⟩
          with_reducible refine (K1.out _).mono ?_
          rintro e w3 ⟨rfl, n, rfl⟩
          go_wp2_with fail
          with_reducible refine (K2.out _).mono ?_
          rintro e w4 ⟨rfl, m, rfl⟩
          go_wp2_with fail
          with_reducible refine (K3.out _).mono ?_
          rintro e w5 ⟨rfl, q, rfl⟩
          go_wp2_with fail
          go_ret
          exact ⟨rfl, below_drewN HB.out _⟩
  · have e2 : (FloatKind.f64.format.order l 0 == some .lt) = true := by rw [ord_fmt, ord_lt, hz]
    clear hn c0 c1 c2 c3 hz
    go_wp2_with fail
    go_ret
    exact ⟨rfl, HB.out⟩

theorem dearer_any {u : World} {D0 D1 R0 R1 : Int} {l : Nat} (hD0 : 0 ≤ D0 ∧ D0 < 18446744073709551616) (hD1 : 0 ≤ D1 ∧ D1 < 18446744073709551616) (hR0 : 0 ≤ R0 ∧ R0 < 18446744073709551616) (hR1 : 0 ≤ R1 ∧ R1 < 18446744073709551616) (hl : l < 18446744073709551616) :
    Calls Try.prog 7 #[.agg #[.int .u64 D0, .int .u64 D1], .agg #[.int .u64 R0, .int .u64 R1], .float .f64 l] u fun e w' => e = .returned (.bool true) ∧ Below u.heap.size u w' := by
  obtain ⟨a, rfl⟩ := Int.eq_ofNat_of_zero_le hD0.1
  obtain ⟨b, rfl⟩ := Int.eq_ofNat_of_zero_le hD1.1
  obtain ⟨c, rfl⟩ := Int.eq_ofNat_of_zero_le hR0.1
  obtain ⟨d, rfl⟩ := Int.eq_ofNat_of_zero_le hR1.1
  exact dearer_walk (by omega) (by omega) (by omega) (by omega) hl

end Go.Proofs.Ytdiphgkgehpgiaa
