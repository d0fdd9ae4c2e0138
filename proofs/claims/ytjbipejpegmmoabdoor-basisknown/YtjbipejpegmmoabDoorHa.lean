/- DERIVED. The walk of BasisKnown. -/
import Derived.Test.YtjbipejpegmmoabDoorEb
namespace Go.Proofs.YtjbipejpegmmoabDoor
open Go.RowKit

theorem cos_at {w : World} {j v : Int} (h : Qt w) (hv : cosJ j = v) : Calls Tryd.prog 4 #[.int .i64 j] w fun e w' => e = .returned (.int .i64 v) ∧ w = w' := by
  subst hv
  refine (cos_any h).mono ?_
  rintro e w' ⟨rfl, rfl⟩
  exact ⟨rfl, rfl⟩
theorem cosN_neg : ∀ r, r < 256 → cosN ((256 - r) % 256) = cosN r := by decide +kernel
theorem cosN_128 : ∀ r, r < 256 → cosN ((384 - r) % 256) = -cosN r := by decide +kernel
theorem cosN_sq : ∀ r, r < 256 → -6000 ≤ cosN r * cosN r + cosN ((320 - r) % 256) * cosN ((320 - r) % 256) - 16777216 ∧ cosN r * cosN r + cosN ((320 - r) % 256) * cosN ((320 - r) % 256) - 16777216 ≤ 6000 := by decide +kernel
theorem cos_256 (j : Int) : cosJ (j + 256) = cosJ j := by unfold cosJ; rw [show (j + 256) % 256 = j % 256 from by omega]
theorem cos_neg (j : Int) : cosJ (-j) = cosJ j := by
  unfold cosJ
  rw [← cosN_neg (j % 256).toNat (by omega)]
  congr 1; omega
theorem cos_128 (j : Int) : cosJ (128 - j) = -cosJ j := by
  unfold cosJ
  rw [← cosN_128 (j % 256).toNat (by omega)]
  congr 1; omega
theorem cos_sq (j : Int) : -6000 ≤ cosJ j * cosJ j + cosJ (64 - j) * cosJ (64 - j) - 16777216 ∧ cosJ j * cosJ j + cosJ (64 - j) * cosJ (64 - j) - 16777216 ≤ 6000 := by
  unfold cosJ
  rw [show ((64 - j) % 256).toNat = (320 - (j % 256).toNat) % 256 from by omega]
  exact cosN_sq _ (by omega)
theorem sq_le {a : Int} (h : -4096 ≤ a ∧ a ≤ 4096) : 0 ≤ a * a ∧ a * a ≤ 16777216 := by
  have h1 := prod_le h h
  refine ⟨?_, h1.2⟩
  rcases Int.lt_or_le a 0 with e | e
  · exact Int.mul_nonneg_of_nonpos_of_nonpos (by omega) (by omega)
  · exact Int.mul_nonneg e e
theorem inv_err {w : World} {g n c : Nat} {k : Int} {C : List Int} (hs : Si w (some ⟨g, 0, none⟩) C) (hn : C.length = n) (hl : n ≤ 140737488355328) (hm : tkB (kL k) C = false) :
    Calls Tryd.prog 6 #[.int .i64 k, .slice (some ⟨g, 0, none⟩) n c] w fun e w' => N0 w w' e := by
  subst hn; exact inv_no hs hl hm
theorem fwd_err {w : World} {g n c : Nat} {k : Int} {C : List Int} (hs : Si w (some ⟨g, 0, none⟩) C) (hn : C.length = n) (hl : n ≤ 140737488355328) (hm : tkB (kL k) C = false) :
    Calls Tryd.prog 7 #[.int .i64 k, .slice (some ⟨g, 0, none⟩) n c] w fun e w' => N0 w w' e := by
  subst hn; exact fwd_no hs hl hm
theorem tk_other {k : Int} {C : List Int} (h : k < 0 ∨ 3 < k) : tkB (kL k) C = false := by
  have : kL k = 0 := by unfold kL; rw [if_neg (by omega), if_neg (by omega), if_neg (by omega), if_neg (by omega)]
  exact tkB_no (fun e => by omega)
theorem tk_zero {k : Int} {n : Nat} (h : p2 n = false) : tkB (kL k) (List.replicate n 0) = false := by
  unfold tkB
  rw [List.length_replicate, h]
  simp

set_option maxRecDepth 100000 in
set_option maxHeartbeats 8000000 in
theorem known_walk {w : World} (hq : Qt w) : Calls Tryd.prog 3 #[] w fun e w' => e = .returned (.bool true) ∧ Below w.heap.size w w' := by
  have HQ : Hid (Qt w) := hq
  have HB0 : Hid (Below w.heap.size w w) := Below.refl _ _
  clear hq
  go_enter Tryd.func3, Tryd.ntmps3
  go_wp2_with (first | (go_at_call 4; refine (cos_at (v := 4096) HQ.out (by decide +kernel)).mono ?_; rintro e w' ⟨rfl, rfl⟩) | (go_at_call 4; refine (cos_at (v := 2896) HQ.out (by decide +kernel)).mono ?_; rintro e w' ⟨rfl, rfl⟩) | (go_at_call 4; refine (cos_at (v := 0) HQ.out (by decide +kernel)).mono ?_; rintro e w' ⟨rfl, rfl⟩) | (go_at_call 4; refine (cos_at (v := -2896) HQ.out (by decide +kernel)).mono ?_; rintro e w' ⟨rfl, rfl⟩) | (go_at_call 4; refine (cos_at (v := -4096) HQ.out (by decide +kernel)).mono ?_; rintro e w' ⟨rfl, rfl⟩) | (go_at_call 4; refine (cos_at (v := 3406) HQ.out (by decide +kernel)).mono ?_; rintro e w' ⟨rfl, rfl⟩) | (go_at_call 4; refine (cos_at (v := 4095) HQ.out (by decide +kernel)).mono ?_; rintro e w' ⟨rfl, rfl⟩) | (go_at_call 4; refine (cos_at (v := 101) HQ.out (by decide +kernel)).mono ?_; rintro e w' ⟨rfl, rfl⟩))
  go_loop [2] (fun i => ∃ k : Int, -600 ≤ k ∧ k ≤ 600 ∧ i = .int .i64 k) (fun i => (600 - intOf i).toNat)
  case atStart => exact ⟨-600, by omega, by omega, rfl⟩
  case round =>
    obtain ⟨k, hk0, hk1, rfl⟩ := hrel
    by_cases hlt : k < 600
    · have hA := cosJ_le k
      have hB := cosJ_le (64 - k)
      have e1 : Hid (cosJ (k + 256) = cosJ k) := cos_256 k
      have e2 : Hid (cosJ (-k) = cosJ k) := cos_neg k
      have e3 : Hid (cosJ (128 - k) = -cosJ k) := cos_128 k
      have e4 := cos_sq k
      have e5 : Hid (cosJ k = cosJ k) := rfl
      have e6 : Hid (cosJ (64 - k) = cosJ (64 - k)) := rfl
      have sA := sq_le hA
      have sB := sq_le hB
      generalize hcA : cosJ k = A at e1 e2 e3 e4 hA sA
      generalize hcB : cosJ (64 - k) = B at e4 hB sB
      have e7 : Hid (cosJ k = A) := hcA
      have e8 : Hid (cosJ (64 - k) = B) := hcB
      clear hcA hcB e5 e6
      obtain ⟨a0, a1⟩ := hA
      obtain ⟨b0, b1⟩ := hB
      obtain ⟨s0, s1⟩ := sA
      obtain ⟨s2, s3⟩ := sB
      have HAb : Hid (∀ u : World, Calls Tryd.prog 5 #[.int .i64 (A * A + B * B - 16777216)] u fun e w' => e = .returned (.int .i64 (ab (A * A + B * B - 16777216))) ∧ u = w') := fun u => (abs_any (by omega)).mono (by rintro e w' ⟨rfl, rfl⟩; exact ⟨rfl, rfl⟩)
      have hf := ab_le (M := 6000) e4
      have hf2 : ¬ 6000 < ab (A * A + B * B - 16777216) := by omega
      generalize hAA : A * A = AA at *
      generalize hBB : B * B = BB at *
      generalize ab (AA + BB - 16777216) = far at *
      have nn : (A != A) = false := by simp
      have nm : -(-A) = A := by omega
      clear hf e4
      go_wp2_with (first | (go_at_call 4; with_reducible refine (cos_at HQ.out e7.out).mono ?_; rintro e w' ⟨rfl, rfl⟩) | (go_at_call 4; with_reducible refine (cos_at HQ.out e1.out).mono ?_; rintro e w' ⟨rfl, rfl⟩) | (go_at_call 4; with_reducible refine (cos_at HQ.out e2.out).mono ?_; rintro e w' ⟨rfl, rfl⟩) | (go_at_call 4; with_reducible refine (cos_at HQ.out e3.out).mono ?_; rintro e w' ⟨rfl, rfl⟩) | (go_at_call 4; with_reducible refine (cos_at HQ.out e8.out).mono ?_; rintro e w' ⟨rfl, rfl⟩) | (go_at_call 5; refine (HAb.out _).mono ?_; rintro e w' ⟨rfl, rfl⟩))
      go_round
      case rel => exact ⟨k + 1, by omega, by omega, by go_num⟩
      case measure => simp [intOf]; omega
    · clear hk0 hk1
      go_wp2_with fail
      have HA1 : Hid (Below w.heap.size w (w.alloc (.cells #[.int .i64 4096, .int .i64 0, .int .i64 0, .int .i64 0] 3))) := from_alloc _ _
      have HQ1 : Hid (Qt (w.alloc (.cells #[.int .i64 4096, .int .i64 0, .int .i64 0, .int .i64 0] 3))) := (HQ).out.to HA1.out
      have HI1 : Hid (Ri 3 (w.alloc (.cells #[.int .i64 4096, .int .i64 0, .int .i64 0, .int .i64 0] 3)) w.heap.size [4096, 0, 0, 0]) := Ri.built 3 w [4096, 0, 0, 0] rfl
      refine (inv_at (C := [4096, 0, 0, 0]) (R := [2896, 2896, 2896, 2896]) HQ1.out HI1.out.si rfl (by decide +kernel) (by decide +kernel)).mono ?_
      rintro e w1 ⟨g1, rfl, hg1, hr1, hb1⟩
      have HB1 : Hid (Below w.heap.size w w1) := below_to (to_alloc HB0.out _) hb1
      have HP1 : Hid (Qt w1) := HQ1.out.to hb1
      have HR1_1 : Hid (Ri 3 w1 g1 [2896, 2896, 2896, 2896]) := hr1
      clear hg1 hr1 hb1 HQ1 HI1 HA1
      simp only [List.length_cons, List.length_nil, Nat.zero_add, Nat.reduceAdd]
      go_wp2_with fail
      have HA2 : Hid (Below w1.heap.size w1 (w1.alloc (.cells #[.int .i64 100, .int .i64 100, .int .i64 100, .int .i64 100] 3))) := from_alloc _ _
      have HQ2 : Hid (Qt (w1.alloc (.cells #[.int .i64 100, .int .i64 100, .int .i64 100, .int .i64 100] 3))) := (HP1).out.to HA2.out
      have HI2 : Hid (Ri 3 (w1.alloc (.cells #[.int .i64 100, .int .i64 100, .int .i64 100, .int .i64 100] 3)) w1.heap.size [100, 100, 100, 100]) := Ri.built 3 w1 [100, 100, 100, 100] rfl
      refine (fwd_at (C := [100, 100, 100, 100]) (R := [283, 0, 0, 0]) HQ2.out HI2.out.si rfl (by decide +kernel) (by decide +kernel)).mono ?_
      rintro e w2 ⟨g2, rfl, hg2, hr2, hb2⟩
      have HB2 : Hid (Below w.heap.size w w2) := below_to (to_alloc HB1.out _) hb2
      have HP2 : Hid (Qt w2) := HQ2.out.to hb2
      have HR2_2 : Hid (Ri 3 w2 g2 [283, 0, 0, 0]) := hr2
      have HR1_2 : Hid (Ri 3 w2 g1 [2896, 2896, 2896, 2896]) := (HR1_1.out.to HA2.out).to hb2
      clear hg2 hr2 hb2 HQ2 HI2 HA2
      simp only [List.length_cons, List.length_nil, Nat.zero_add, Nat.reduceAdd]
      go_wp2_with fail
      have HA3 : Hid (Below w2.heap.size w2 (w2.alloc (.cells #[.int .i64 4096, .int .i64 1, .int .i64 (-1), .int .i64 0] 3))) := from_alloc _ _
      have HQ3 : Hid (Qt (w2.alloc (.cells #[.int .i64 4096, .int .i64 1, .int .i64 (-1), .int .i64 0] 3))) := (HP2).out.to HA3.out
      have HI3 : Hid (Ri 3 (w2.alloc (.cells #[.int .i64 4096, .int .i64 1, .int .i64 (-1), .int .i64 0] 3)) w2.heap.size [4096, 1, -1, 0]) := Ri.built 3 w2 [4096, 1, -1, 0] rfl
      refine (inv_at (C := [4096, 1, -1, 0]) (R := [5793, 1, -1, 0]) HQ3.out HI3.out.si rfl (by decide +kernel) (by decide +kernel)).mono ?_
      rintro e w3 ⟨g3, rfl, hg3, hr3, hb3⟩
      have HB3 : Hid (Below w.heap.size w w3) := below_to (to_alloc HB2.out _) hb3
      have HP3 : Hid (Qt w3) := HQ3.out.to hb3
      have HR3_3 : Hid (Ri 3 w3 g3 [5793, 1, -1, 0]) := hr3
      have HR1_3 : Hid (Ri 3 w3 g1 [2896, 2896, 2896, 2896]) := (HR1_2.out.to HA3.out).to hb3
      have HR2_3 : Hid (Ri 3 w3 g2 [283, 0, 0, 0]) := (HR2_2.out.to HA3.out).to hb3
      clear hg3 hr3 hb3 HQ3 HI3 HA3
      simp only [List.length_cons, List.length_nil, Nat.zero_add, Nat.reduceAdd]
      go_wp2_with fail
      have HA4 : Hid (Below w3.heap.size w3 (w3.alloc (.cells #[.int .i64 5, .int .i64 1, .int .i64 (-1), .int .i64 0] 3))) := from_alloc _ _
      have HQ4 : Hid (Qt (w3.alloc (.cells #[.int .i64 5, .int .i64 1, .int .i64 (-1), .int .i64 0] 3))) := (HP3).out.to HA4.out
      have HI4 : Hid (Ri 3 (w3.alloc (.cells #[.int .i64 5, .int .i64 1, .int .i64 (-1), .int .i64 0] 3)) w3.heap.size [5, 1, -1, 0]) := Ri.built 3 w3 [5, 1, -1, 0] rfl
      refine (inv_at (C := [5, 1, -1, 0]) (R := [3, 3, 2, 1]) HQ4.out HI4.out.si rfl (by decide +kernel) (by decide +kernel)).mono ?_
      rintro e w4 ⟨g4, rfl, hg4, hr4, hb4⟩
      have HB4 : Hid (Below w.heap.size w w4) := below_to (to_alloc HB3.out _) hb4
      have HP4 : Hid (Qt w4) := HQ4.out.to hb4
      have HR4_4 : Hid (Ri 3 w4 g4 [3, 3, 2, 1]) := hr4
      have HR1_4 : Hid (Ri 3 w4 g1 [2896, 2896, 2896, 2896]) := (HR1_3.out.to HA4.out).to hb4
      have HR2_4 : Hid (Ri 3 w4 g2 [283, 0, 0, 0]) := (HR2_3.out.to HA4.out).to hb4
      have HR3_4 : Hid (Ri 3 w4 g3 [5793, 1, -1, 0]) := (HR3_3.out.to HA4.out).to hb4
      clear hg4 hr4 hb4 HQ4 HI4 HA4
      simp only [List.length_cons, List.length_nil, Nat.zero_add, Nat.reduceAdd]
      go_wp2_with fail
      have HA5 : Hid (Below w4.heap.size w4 (w4.alloc (.cells #[.int .i64 2896, .int .i64 2896, .int .i64 2896, .int .i64 2896] 3))) := from_alloc _ _
      have HI5 : Hid (Ri 3 (w4.alloc (.cells #[.int .i64 2896, .int .i64 2896, .int .i64 2896, .int .i64 2896] 3)) w4.heap.size [2896, 2896, 2896, 2896]) := Ri.built 3 w4 [2896, 2896, 2896, 2896] rfl
      refine (eq_at (C := [2896, 2896, 2896, 2896]) (D := [2896, 2896, 2896, 2896]) (HR1_4.out.to HA5.out).si HI5.out.si rfl rfl rfl (by decide)).mono ?_
      rintro e w5 ⟨rfl, hb5⟩
      have HB5 : Hid (Below w.heap.size w w5) := below_to (to_alloc HB4.out _) hb5
      have HR2_5 : Hid (Ri 3 w5 g2 [283, 0, 0, 0]) := (HR2_4.out.to HA5.out).to hb5
      have HR3_5 : Hid (Ri 3 w5 g3 [5793, 1, -1, 0]) := (HR3_4.out.to HA5.out).to hb5
      have HR4_5 : Hid (Ri 3 w5 g4 [3, 3, 2, 1]) := (HR4_4.out.to HA5.out).to hb5
      clear hb5 HI5 HA5
      go_wp2_with fail
      have HA6 : Hid (Below w5.heap.size w5 (w5.alloc (.cells #[.int .i64 283, .int .i64 0, .int .i64 0, .int .i64 0] 3))) := from_alloc _ _
      have HI6 : Hid (Ri 3 (w5.alloc (.cells #[.int .i64 283, .int .i64 0, .int .i64 0, .int .i64 0] 3)) w5.heap.size [283, 0, 0, 0]) := Ri.built 3 w5 [283, 0, 0, 0] rfl
      refine (eq_at (C := [283, 0, 0, 0]) (D := [283, 0, 0, 0]) (HR2_5.out.to HA6.out).si HI6.out.si rfl rfl rfl (by decide)).mono ?_
      rintro e w6 ⟨rfl, hb6⟩
      have HB6 : Hid (Below w.heap.size w w6) := below_to (to_alloc HB5.out _) hb6
      have HR3_6 : Hid (Ri 3 w6 g3 [5793, 1, -1, 0]) := (HR3_5.out.to HA6.out).to hb6
      have HR4_6 : Hid (Ri 3 w6 g4 [3, 3, 2, 1]) := (HR4_5.out.to HA6.out).to hb6
      clear hb6 HI6 HA6
      go_wp2_with fail
      have HA7 : Hid (Below w6.heap.size w6 (w6.alloc (.cells #[.int .i64 5793, .int .i64 1, .int .i64 (-1), .int .i64 0] 3))) := from_alloc _ _
      have HI7 : Hid (Ri 3 (w6.alloc (.cells #[.int .i64 5793, .int .i64 1, .int .i64 (-1), .int .i64 0] 3)) w6.heap.size [5793, 1, -1, 0]) := Ri.built 3 w6 [5793, 1, -1, 0] rfl
      refine (eq_at (C := [5793, 1, -1, 0]) (D := [5793, 1, -1, 0]) (HR3_6.out.to HA7.out).si HI7.out.si rfl rfl rfl (by decide)).mono ?_
      rintro e w7 ⟨rfl, hb7⟩
      have HB7 : Hid (Below w.heap.size w w7) := below_to (to_alloc HB6.out _) hb7
      have HR4_7 : Hid (Ri 3 w7 g4 [3, 3, 2, 1]) := (HR4_6.out.to HA7.out).to hb7
      clear hb7 HI7 HA7
      go_wp2_with fail
      have HA8 : Hid (Below w7.heap.size w7 (w7.alloc (.cells #[.int .i64 3, .int .i64 3, .int .i64 2, .int .i64 1] 3))) := from_alloc _ _
      have HI8 : Hid (Ri 3 (w7.alloc (.cells #[.int .i64 3, .int .i64 3, .int .i64 2, .int .i64 1] 3)) w7.heap.size [3, 3, 2, 1]) := Ri.built 3 w7 [3, 3, 2, 1] rfl
      refine (eq_at (C := [3, 3, 2, 1]) (D := [3, 3, 2, 1]) (HR4_7.out.to HA8.out).si HI8.out.si rfl rfl rfl (by decide)).mono ?_
      rintro e w8 ⟨rfl, hb8⟩
      have HB8 : Hid (Below w.heap.size w w8) := below_to (to_alloc HB7.out _) hb8
      clear hb8 HI8 HA8
      go_wp2_with fail
      go_loopw [13] (fun i wr => ∃ k : Int, -1 ≤ k ∧ k ≤ 6 ∧ i = .int .i64 k ∧ Below w.heap.size w wr) (fun i _ => (6 - intOf i).toNat)
      case atStart => exact ⟨-1, by omega, by omega, rfl, HB8.out⟩
      case round =>
        clear HB0 HB1 HB2 HB3 HB4 HB5 HB6 HB7 HB8 HP1 HP2 HP3 HP4
        obtain ⟨k, hk0, hk1, rfl, hb⟩ := hrel
        by_cases hlt : k < 6
        · have HB : Hid (Below w.heap.size w wr) := hb
          clear hb
          go_wp2_with fail
          go_loopw [14] (fun i wr => ∃ n : Nat, n ≤ 70 ∧ i = .int .i64 n ∧ Below w.heap.size w wr) (fun i _ => 70 - (intOf i).toNat)
          case atStart => exact ⟨0, by omega, rfl, HB.out⟩
          case round =>
            clear HB
            obtain ⟨n, hn, rfl, hb⟩ := hrel
            by_cases hn70 : n < 70
            · have n70 : (n : Int) < 70 := by omega
              have hmk := mk_ints (n := n) (by omega)
              have HB : Hid (Below w.heap.size w wr) := hb
              clear hb
              have hks : k = 0 ∨ k = 1 ∨ k = 2 ∨ k = 3 ∨ (k < 0 ∨ 3 < k) := by omega
              clear hk0 hk1 hlt
              have hns : n = 4 ∨ n = 8 ∨ n = 16 ∨ n = 32 ∨ n = 64 ∨ (¬ n = 4 ∧ ¬ n = 8 ∧ ¬ n = 16 ∧ ¬ n = 32 ∧ ¬ n = 64) := by omega
              rcases hns with rfl | rfl | rfl | rfl | rfl | hns
              · rcases hks with rfl | rfl | rfl | rfl | hko
                · as_aux_lemma =>
                    have hmkL : ∀ u : World, (Instr.makeSlice 23 (.int .i64 4) (.int .i64 4)).run Tryd.prog u = .ok (.slice (some ⟨u.heap.size, 0, none⟩) 4 4) (u.alloc (.cells (madeCells #[.int .i64 0] 4) 3)) := fun u => mk_ints (n := 4) (by omega) u
                    go_wp2_with fail
                    have HA1 : Hid (Below wr.heap.size wr (wr.alloc (.cells (madeCells #[.int .i64 0] 4) 3))) := from_alloc _ _
                    have HI1 : Hid (Ri 3 (wr.alloc (.cells (madeCells #[.int .i64 0] 4) 3)) wr.heap.size (List.replicate 4 (0 : Int))) := Ri.made 3 wr 4 rfl
                    refine (inv_at (C := (List.replicate 4 (0 : Int))) (R := invR 0 (List.replicate 4 (0 : Int))) ((HQ.out.to HB.out).to HA1.out) HI1.out.si List.length_replicate (by decide +kernel) rfl).mono ?_
                    rintro e v1 ⟨g1, rfl, -, -, hb1⟩
                    have HC1 : Hid (Below w.heap.size w v1) := below_to (to_alloc HB.out _) hb1
                    clear hb1 HI1 HA1
                    go_wp2_with fail
                    have HA2 : Hid (Below v1.heap.size v1 (v1.alloc (.cells (madeCells #[.int .i64 0] 4) 3))) := from_alloc _ _
                    have HI2 : Hid (Ri 3 (v1.alloc (.cells (madeCells #[.int .i64 0] 4) 3)) v1.heap.size (List.replicate 4 (0 : Int))) := Ri.made 3 v1 4 rfl
                    refine (fwd_at (C := (List.replicate 4 (0 : Int))) (R := fwdR 0 (List.replicate 4 (0 : Int))) ((HQ.out.to HC1.out).to HA2.out) HI2.out.si List.length_replicate (by decide +kernel) rfl).mono ?_
                    rintro e v2 ⟨g2, rfl, -, -, hb2⟩
                    have HC2 : Hid (Below w.heap.size w v2) := below_to (to_alloc HC1.out _) hb2
                    clear hb2 HI2 HA2
                    go_wp2_with fail
                    go_roundw
                    case rel => exact ⟨4 + 1, by omega, by go_num, HC2.out⟩
                    case measure => simp [intOf]
                · as_aux_lemma =>
                    have hmkL : ∀ u : World, (Instr.makeSlice 23 (.int .i64 4) (.int .i64 4)).run Tryd.prog u = .ok (.slice (some ⟨u.heap.size, 0, none⟩) 4 4) (u.alloc (.cells (madeCells #[.int .i64 0] 4) 3)) := fun u => mk_ints (n := 4) (by omega) u
                    go_wp2_with fail
                    have HA1 : Hid (Below wr.heap.size wr (wr.alloc (.cells (madeCells #[.int .i64 0] 4) 3))) := from_alloc _ _
                    have HI1 : Hid (Ri 3 (wr.alloc (.cells (madeCells #[.int .i64 0] 4) 3)) wr.heap.size (List.replicate 4 (0 : Int))) := Ri.made 3 wr 4 rfl
                    refine (inv_at (C := (List.replicate 4 (0 : Int))) (R := invR 1 (List.replicate 4 (0 : Int))) ((HQ.out.to HB.out).to HA1.out) HI1.out.si List.length_replicate (by decide +kernel) rfl).mono ?_
                    rintro e v1 ⟨g1, rfl, -, -, hb1⟩
                    have HC1 : Hid (Below w.heap.size w v1) := below_to (to_alloc HB.out _) hb1
                    clear hb1 HI1 HA1
                    go_wp2_with fail
                    have HA2 : Hid (Below v1.heap.size v1 (v1.alloc (.cells (madeCells #[.int .i64 0] 4) 3))) := from_alloc _ _
                    have HI2 : Hid (Ri 3 (v1.alloc (.cells (madeCells #[.int .i64 0] 4) 3)) v1.heap.size (List.replicate 4 (0 : Int))) := Ri.made 3 v1 4 rfl
                    refine (fwd_at (C := (List.replicate 4 (0 : Int))) (R := fwdR 1 (List.replicate 4 (0 : Int))) ((HQ.out.to HC1.out).to HA2.out) HI2.out.si List.length_replicate (by decide +kernel) rfl).mono ?_
                    rintro e v2 ⟨g2, rfl, -, -, hb2⟩
                    have HC2 : Hid (Below w.heap.size w v2) := below_to (to_alloc HC1.out _) hb2
                    clear hb2 HI2 HA2
                    go_wp2_with fail
                    go_roundw
                    case rel => exact ⟨4 + 1, by omega, by go_num, HC2.out⟩
                    case measure => simp [intOf]
                · as_aux_lemma =>
                    have hmkL : ∀ u : World, (Instr.makeSlice 23 (.int .i64 4) (.int .i64 4)).run Tryd.prog u = .ok (.slice (some ⟨u.heap.size, 0, none⟩) 4 4) (u.alloc (.cells (madeCells #[.int .i64 0] 4) 3)) := fun u => mk_ints (n := 4) (by omega) u
                    go_wp2_with fail
                    have HA1 : Hid (Below wr.heap.size wr (wr.alloc (.cells (madeCells #[.int .i64 0] 4) 3))) := from_alloc _ _
                    have HI1 : Hid (Ri 3 (wr.alloc (.cells (madeCells #[.int .i64 0] 4) 3)) wr.heap.size (List.replicate 4 (0 : Int))) := Ri.made 3 wr 4 rfl
                    refine (inv_at (C := (List.replicate 4 (0 : Int))) (R := invR 2 (List.replicate 4 (0 : Int))) ((HQ.out.to HB.out).to HA1.out) HI1.out.si List.length_replicate (by decide +kernel) rfl).mono ?_
                    rintro e v1 ⟨g1, rfl, -, -, hb1⟩
                    have HC1 : Hid (Below w.heap.size w v1) := below_to (to_alloc HB.out _) hb1
                    clear hb1 HI1 HA1
                    go_wp2_with fail
                    have HA2 : Hid (Below v1.heap.size v1 (v1.alloc (.cells (madeCells #[.int .i64 0] 4) 3))) := from_alloc _ _
                    have HI2 : Hid (Ri 3 (v1.alloc (.cells (madeCells #[.int .i64 0] 4) 3)) v1.heap.size (List.replicate 4 (0 : Int))) := Ri.made 3 v1 4 rfl
                    refine (fwd_at (C := (List.replicate 4 (0 : Int))) (R := fwdR 2 (List.replicate 4 (0 : Int))) ((HQ.out.to HC1.out).to HA2.out) HI2.out.si List.length_replicate (by decide +kernel) rfl).mono ?_
                    rintro e v2 ⟨g2, rfl, -, -, hb2⟩
                    have HC2 : Hid (Below w.heap.size w v2) := below_to (to_alloc HC1.out _) hb2
                    clear hb2 HI2 HA2
                    go_wp2_with fail
                    go_roundw
                    case rel => exact ⟨4 + 1, by omega, by go_num, HC2.out⟩
                    case measure => simp [intOf]
                · as_aux_lemma =>
                    have hmkL : ∀ u : World, (Instr.makeSlice 23 (.int .i64 4) (.int .i64 4)).run Tryd.prog u = .ok (.slice (some ⟨u.heap.size, 0, none⟩) 4 4) (u.alloc (.cells (madeCells #[.int .i64 0] 4) 3)) := fun u => mk_ints (n := 4) (by omega) u
                    go_wp2_with fail
                    have HA1 : Hid (Below wr.heap.size wr (wr.alloc (.cells (madeCells #[.int .i64 0] 4) 3))) := from_alloc _ _
                    have HI1 : Hid (Ri 3 (wr.alloc (.cells (madeCells #[.int .i64 0] 4) 3)) wr.heap.size (List.replicate 4 (0 : Int))) := Ri.made 3 wr 4 rfl
                    refine (inv_at (C := (List.replicate 4 (0 : Int))) (R := invR 3 (List.replicate 4 (0 : Int))) ((HQ.out.to HB.out).to HA1.out) HI1.out.si List.length_replicate (by decide +kernel) rfl).mono ?_
                    rintro e v1 ⟨g1, rfl, -, -, hb1⟩
                    have HC1 : Hid (Below w.heap.size w v1) := below_to (to_alloc HB.out _) hb1
                    clear hb1 HI1 HA1
                    go_wp2_with fail
                    have HA2 : Hid (Below v1.heap.size v1 (v1.alloc (.cells (madeCells #[.int .i64 0] 4) 3))) := from_alloc _ _
                    have HI2 : Hid (Ri 3 (v1.alloc (.cells (madeCells #[.int .i64 0] 4) 3)) v1.heap.size (List.replicate 4 (0 : Int))) := Ri.made 3 v1 4 rfl
                    refine (fwd_at (C := (List.replicate 4 (0 : Int))) (R := fwdR 3 (List.replicate 4 (0 : Int))) ((HQ.out.to HC1.out).to HA2.out) HI2.out.si List.length_replicate (by decide +kernel) rfl).mono ?_
                    rintro e v2 ⟨g2, rfl, -, -, hb2⟩
                    have HC2 : Hid (Below w.heap.size w v2) := below_to (to_alloc HC1.out _) hb2
                    clear hb2 HI2 HA2
                    go_wp2_with fail
                    go_roundw
                    case rel => exact ⟨4 + 1, by omega, by go_num, HC2.out⟩
                    case measure => simp [intOf]
                · as_aux_lemma =>
                    have z0 : (k == 0) = false := by rw [beq_eq_false_iff_ne]; omega
                    have z1 : (k == 1) = false := by rw [beq_eq_false_iff_ne]; omega
                    have z2 : (k == 2) = false := by rw [beq_eq_false_iff_ne]; omega
                    have z3 : (k == 3) = false := by rw [beq_eq_false_iff_ne]; omega
                    have HKO : Hid (k < 0 ∨ 3 < k) := hko
                    clear hko
                    have hmkL : ∀ u : World, (Instr.makeSlice 23 (.int .i64 4) (.int .i64 4)).run Tryd.prog u = .ok (.slice (some ⟨u.heap.size, 0, none⟩) 4 4) (u.alloc (.cells (madeCells #[.int .i64 0] 4) 3)) := fun u => mk_ints (n := 4) (by omega) u
                    go_wp2_with fail
                    have HA1 : Hid (Below wr.heap.size wr (wr.alloc (.cells (madeCells #[.int .i64 0] 4) 3))) := from_alloc _ _
                    have HI1 : Hid (Ri 3 (wr.alloc (.cells (madeCells #[.int .i64 0] 4) 3)) wr.heap.size (List.replicate 4 (0 : Int))) := Ri.made 3 wr 4 rfl
                    refine (inv_err (k := k) (C := (List.replicate 4 (0 : Int))) HI1.out.si List.length_replicate (by omega) (tk_other HKO.out)).mono ?_
                    rintro e v1 ⟨rfl, hb1⟩
                    have HC1 : Hid (Below w.heap.size w v1) := below_to (to_alloc HB.out _) hb1
                    clear hb1 HI1 HA1
                    go_wp2_with fail
                    have HA2 : Hid (Below v1.heap.size v1 (v1.alloc (.cells (madeCells #[.int .i64 0] 4) 3))) := from_alloc _ _
                    have HI2 : Hid (Ri 3 (v1.alloc (.cells (madeCells #[.int .i64 0] 4) 3)) v1.heap.size (List.replicate 4 (0 : Int))) := Ri.made 3 v1 4 rfl
                    refine (fwd_err (k := k) (C := (List.replicate 4 (0 : Int))) HI2.out.si List.length_replicate (by omega) (tk_other HKO.out)).mono ?_
                    rintro e v2 ⟨rfl, hb2⟩
                    have HC2 : Hid (Below w.heap.size w v2) := below_to (to_alloc HC1.out _) hb2
                    clear hb2 HI2 HA2
                    go_wp2_with fail
                    go_roundw
                    case rel => exact ⟨4 + 1, by omega, by go_num, HC2.out⟩
                    case measure => simp [intOf]
              · rcases hks with rfl | rfl | rfl | rfl | hko
                · as_aux_lemma =>
                    have hmkL : ∀ u : World, (Instr.makeSlice 23 (.int .i64 8) (.int .i64 8)).run Tryd.prog u = .ok (.slice (some ⟨u.heap.size, 0, none⟩) 8 8) (u.alloc (.cells (madeCells #[.int .i64 0] 8) 3)) := fun u => mk_ints (n := 8) (by omega) u
                    go_wp2_with fail
                    have HA1 : Hid (Below wr.heap.size wr (wr.alloc (.cells (madeCells #[.int .i64 0] 8) 3))) := from_alloc _ _
                    have HI1 : Hid (Ri 3 (wr.alloc (.cells (madeCells #[.int .i64 0] 8) 3)) wr.heap.size (List.replicate 8 (0 : Int))) := Ri.made 3 wr 8 rfl
                    refine (inv_at (C := (List.replicate 8 (0 : Int))) (R := invR 0 (List.replicate 8 (0 : Int))) ((HQ.out.to HB.out).to HA1.out) HI1.out.si List.length_replicate (by decide +kernel) rfl).mono ?_
                    rintro e v1 ⟨g1, rfl, -, -, hb1⟩
                    have HC1 : Hid (Below w.heap.size w v1) := below_to (to_alloc HB.out _) hb1
                    clear hb1 HI1 HA1
                    go_wp2_with fail
                    have HA2 : Hid (Below v1.heap.size v1 (v1.alloc (.cells (madeCells #[.int .i64 0] 8) 3))) := from_alloc _ _
                    have HI2 : Hid (Ri 3 (v1.alloc (.cells (madeCells #[.int .i64 0] 8) 3)) v1.heap.size (List.replicate 8 (0 : Int))) := Ri.made 3 v1 8 rfl
                    refine (fwd_at (C := (List.replicate 8 (0 : Int))) (R := fwdR 0 (List.replicate 8 (0 : Int))) ((HQ.out.to HC1.out).to HA2.out) HI2.out.si List.length_replicate (by decide +kernel) rfl).mono ?_
                    rintro e v2 ⟨g2, rfl, -, -, hb2⟩
                    have HC2 : Hid (Below w.heap.size w v2) := below_to (to_alloc HC1.out _) hb2
                    clear hb2 HI2 HA2
                    go_wp2_with fail
                    go_roundw
                    case rel => exact ⟨8 + 1, by omega, by go_num, HC2.out⟩
                    case measure => simp [intOf]
                · as_aux_lemma =>
                    have hmkL : ∀ u : World, (Instr.makeSlice 23 (.int .i64 8) (.int .i64 8)).run Tryd.prog u = .ok (.slice (some ⟨u.heap.size, 0, none⟩) 8 8) (u.alloc (.cells (madeCells #[.int .i64 0] 8) 3)) := fun u => mk_ints (n := 8) (by omega) u
                    go_wp2_with fail
                    have HA1 : Hid (Below wr.heap.size wr (wr.alloc (.cells (madeCells #[.int .i64 0] 8) 3))) := from_alloc _ _
                    have HI1 : Hid (Ri 3 (wr.alloc (.cells (madeCells #[.int .i64 0] 8) 3)) wr.heap.size (List.replicate 8 (0 : Int))) := Ri.made 3 wr 8 rfl
                    refine (inv_at (C := (List.replicate 8 (0 : Int))) (R := invR 1 (List.replicate 8 (0 : Int))) ((HQ.out.to HB.out).to HA1.out) HI1.out.si List.length_replicate (by decide +kernel) rfl).mono ?_
                    rintro e v1 ⟨g1, rfl, -, -, hb1⟩
                    have HC1 : Hid (Below w.heap.size w v1) := below_to (to_alloc HB.out _) hb1
                    clear hb1 HI1 HA1
                    go_wp2_with fail
                    have HA2 : Hid (Below v1.heap.size v1 (v1.alloc (.cells (madeCells #[.int .i64 0] 8) 3))) := from_alloc _ _
                    have HI2 : Hid (Ri 3 (v1.alloc (.cells (madeCells #[.int .i64 0] 8) 3)) v1.heap.size (List.replicate 8 (0 : Int))) := Ri.made 3 v1 8 rfl
                    refine (fwd_at (C := (List.replicate 8 (0 : Int))) (R := fwdR 1 (List.replicate 8 (0 : Int))) ((HQ.out.to HC1.out).to HA2.out) HI2.out.si List.length_replicate (by decide +kernel) rfl).mono ?_
                    rintro e v2 ⟨g2, rfl, -, -, hb2⟩
                    have HC2 : Hid (Below w.heap.size w v2) := below_to (to_alloc HC1.out _) hb2
                    clear hb2 HI2 HA2
                    go_wp2_with fail
                    go_roundw
                    case rel => exact ⟨8 + 1, by omega, by go_num, HC2.out⟩
                    case measure => simp [intOf]
                · as_aux_lemma =>
                    have hmkL : ∀ u : World, (Instr.makeSlice 23 (.int .i64 8) (.int .i64 8)).run Tryd.prog u = .ok (.slice (some ⟨u.heap.size, 0, none⟩) 8 8) (u.alloc (.cells (madeCells #[.int .i64 0] 8) 3)) := fun u => mk_ints (n := 8) (by omega) u
                    go_wp2_with fail
                    have HA1 : Hid (Below wr.heap.size wr (wr.alloc (.cells (madeCells #[.int .i64 0] 8) 3))) := from_alloc _ _
                    have HI1 : Hid (Ri 3 (wr.alloc (.cells (madeCells #[.int .i64 0] 8) 3)) wr.heap.size (List.replicate 8 (0 : Int))) := Ri.made 3 wr 8 rfl
                    refine (inv_at (C := (List.replicate 8 (0 : Int))) (R := invR 2 (List.replicate 8 (0 : Int))) ((HQ.out.to HB.out).to HA1.out) HI1.out.si List.length_replicate (by decide +kernel) rfl).mono ?_
                    rintro e v1 ⟨g1, rfl, -, -, hb1⟩
                    have HC1 : Hid (Below w.heap.size w v1) := below_to (to_alloc HB.out _) hb1
                    clear hb1 HI1 HA1
                    go_wp2_with fail
                    have HA2 : Hid (Below v1.heap.size v1 (v1.alloc (.cells (madeCells #[.int .i64 0] 8) 3))) := from_alloc _ _
                    have HI2 : Hid (Ri 3 (v1.alloc (.cells (madeCells #[.int .i64 0] 8) 3)) v1.heap.size (List.replicate 8 (0 : Int))) := Ri.made 3 v1 8 rfl
                    refine (fwd_at (C := (List.replicate 8 (0 : Int))) (R := fwdR 2 (List.replicate 8 (0 : Int))) ((HQ.out.to HC1.out).to HA2.out) HI2.out.si List.length_replicate (by decide +kernel) rfl).mono ?_
                    rintro e v2 ⟨g2, rfl, -, -, hb2⟩
                    have HC2 : Hid (Below w.heap.size w v2) := below_to (to_alloc HC1.out _) hb2
                    clear hb2 HI2 HA2
                    go_wp2_with fail
                    go_roundw
                    case rel => exact ⟨8 + 1, by omega, by go_num, HC2.out⟩
                    case measure => simp [intOf]
                · as_aux_lemma =>
                    have hmkL : ∀ u : World, (Instr.makeSlice 23 (.int .i64 8) (.int .i64 8)).run Tryd.prog u = .ok (.slice (some ⟨u.heap.size, 0, none⟩) 8 8) (u.alloc (.cells (madeCells #[.int .i64 0] 8) 3)) := fun u => mk_ints (n := 8) (by omega) u
                    go_wp2_with fail
                    have HA1 : Hid (Below wr.heap.size wr (wr.alloc (.cells (madeCells #[.int .i64 0] 8) 3))) := from_alloc _ _
                    have HI1 : Hid (Ri 3 (wr.alloc (.cells (madeCells #[.int .i64 0] 8) 3)) wr.heap.size (List.replicate 8 (0 : Int))) := Ri.made 3 wr 8 rfl
                    refine (inv_err (k := 3) (C := (List.replicate 8 (0 : Int))) HI1.out.si List.length_replicate (by omega) (by decide +kernel)).mono ?_
                    rintro e v1 ⟨rfl, hb1⟩
                    have HC1 : Hid (Below w.heap.size w v1) := below_to (to_alloc HB.out _) hb1
                    clear hb1 HI1 HA1
                    go_wp2_with fail
                    have HA2 : Hid (Below v1.heap.size v1 (v1.alloc (.cells (madeCells #[.int .i64 0] 8) 3))) := from_alloc _ _
                    have HI2 : Hid (Ri 3 (v1.alloc (.cells (madeCells #[.int .i64 0] 8) 3)) v1.heap.size (List.replicate 8 (0 : Int))) := Ri.made 3 v1 8 rfl
                    refine (fwd_err (k := 3) (C := (List.replicate 8 (0 : Int))) HI2.out.si List.length_replicate (by omega) (by decide +kernel)).mono ?_
                    rintro e v2 ⟨rfl, hb2⟩
                    have HC2 : Hid (Below w.heap.size w v2) := below_to (to_alloc HC1.out _) hb2
                    clear hb2 HI2 HA2
                    go_wp2_with fail
                    go_roundw
                    case rel => exact ⟨8 + 1, by omega, by go_num, HC2.out⟩
                    case measure => simp [intOf]
                · as_aux_lemma =>
                    have z0 : (k == 0) = false := by rw [beq_eq_false_iff_ne]; omega
                    have z1 : (k == 1) = false := by rw [beq_eq_false_iff_ne]; omega
                    have z2 : (k == 2) = false := by rw [beq_eq_false_iff_ne]; omega
                    have z3 : (k == 3) = false := by rw [beq_eq_false_iff_ne]; omega
                    have HKO : Hid (k < 0 ∨ 3 < k) := hko
                    clear hko
                    have hmkL : ∀ u : World, (Instr.makeSlice 23 (.int .i64 8) (.int .i64 8)).run Tryd.prog u = .ok (.slice (some ⟨u.heap.size, 0, none⟩) 8 8) (u.alloc (.cells (madeCells #[.int .i64 0] 8) 3)) := fun u => mk_ints (n := 8) (by omega) u
                    go_wp2_with fail
                    have HA1 : Hid (Below wr.heap.size wr (wr.alloc (.cells (madeCells #[.int .i64 0] 8) 3))) := from_alloc _ _
                    have HI1 : Hid (Ri 3 (wr.alloc (.cells (madeCells #[.int .i64 0] 8) 3)) wr.heap.size (List.replicate 8 (0 : Int))) := Ri.made 3 wr 8 rfl
                    refine (inv_err (k := k) (C := (List.replicate 8 (0 : Int))) HI1.out.si List.length_replicate (by omega) (tk_other HKO.out)).mono ?_
                    rintro e v1 ⟨rfl, hb1⟩
                    have HC1 : Hid (Below w.heap.size w v1) := below_to (to_alloc HB.out _) hb1
                    clear hb1 HI1 HA1
                    go_wp2_with fail
                    have HA2 : Hid (Below v1.heap.size v1 (v1.alloc (.cells (madeCells #[.int .i64 0] 8) 3))) := from_alloc _ _
                    have HI2 : Hid (Ri 3 (v1.alloc (.cells (madeCells #[.int .i64 0] 8) 3)) v1.heap.size (List.replicate 8 (0 : Int))) := Ri.made 3 v1 8 rfl
                    refine (fwd_err (k := k) (C := (List.replicate 8 (0 : Int))) HI2.out.si List.length_replicate (by omega) (tk_other HKO.out)).mono ?_
                    rintro e v2 ⟨rfl, hb2⟩
                    have HC2 : Hid (Below w.heap.size w v2) := below_to (to_alloc HC1.out _) hb2
                    clear hb2 HI2 HA2
                    go_wp2_with fail
                    go_roundw
                    case rel => exact ⟨8 + 1, by omega, by go_num, HC2.out⟩
                    case measure => simp [intOf]
              · rcases hks with rfl | rfl | rfl | rfl | hko
                · as_aux_lemma =>
                    have hmkL : ∀ u : World, (Instr.makeSlice 23 (.int .i64 16) (.int .i64 16)).run Tryd.prog u = .ok (.slice (some ⟨u.heap.size, 0, none⟩) 16 16) (u.alloc (.cells (madeCells #[.int .i64 0] 16) 3)) := fun u => mk_ints (n := 16) (by omega) u
                    go_wp2_with fail
                    have HA1 : Hid (Below wr.heap.size wr (wr.alloc (.cells (madeCells #[.int .i64 0] 16) 3))) := from_alloc _ _
                    have HI1 : Hid (Ri 3 (wr.alloc (.cells (madeCells #[.int .i64 0] 16) 3)) wr.heap.size (List.replicate 16 (0 : Int))) := Ri.made 3 wr 16 rfl
                    refine (inv_at (C := (List.replicate 16 (0 : Int))) (R := invR 0 (List.replicate 16 (0 : Int))) ((HQ.out.to HB.out).to HA1.out) HI1.out.si List.length_replicate (by decide +kernel) rfl).mono ?_
                    rintro e v1 ⟨g1, rfl, -, -, hb1⟩
                    have HC1 : Hid (Below w.heap.size w v1) := below_to (to_alloc HB.out _) hb1
                    clear hb1 HI1 HA1
                    go_wp2_with fail
                    have HA2 : Hid (Below v1.heap.size v1 (v1.alloc (.cells (madeCells #[.int .i64 0] 16) 3))) := from_alloc _ _
                    have HI2 : Hid (Ri 3 (v1.alloc (.cells (madeCells #[.int .i64 0] 16) 3)) v1.heap.size (List.replicate 16 (0 : Int))) := Ri.made 3 v1 16 rfl
                    refine (fwd_at (C := (List.replicate 16 (0 : Int))) (R := fwdR 0 (List.replicate 16 (0 : Int))) ((HQ.out.to HC1.out).to HA2.out) HI2.out.si List.length_replicate (by decide +kernel) rfl).mono ?_
                    rintro e v2 ⟨g2, rfl, -, -, hb2⟩
                    have HC2 : Hid (Below w.heap.size w v2) := below_to (to_alloc HC1.out _) hb2
                    clear hb2 HI2 HA2
                    go_wp2_with fail
                    go_roundw
                    case rel => exact ⟨16 + 1, by omega, by go_num, HC2.out⟩
                    case measure => simp [intOf]
                · as_aux_lemma =>
                    have hmkL : ∀ u : World, (Instr.makeSlice 23 (.int .i64 16) (.int .i64 16)).run Tryd.prog u = .ok (.slice (some ⟨u.heap.size, 0, none⟩) 16 16) (u.alloc (.cells (madeCells #[.int .i64 0] 16) 3)) := fun u => mk_ints (n := 16) (by omega) u
                    go_wp2_with fail
                    have HA1 : Hid (Below wr.heap.size wr (wr.alloc (.cells (madeCells #[.int .i64 0] 16) 3))) := from_alloc _ _
                    have HI1 : Hid (Ri 3 (wr.alloc (.cells (madeCells #[.int .i64 0] 16) 3)) wr.heap.size (List.replicate 16 (0 : Int))) := Ri.made 3 wr 16 rfl
                    refine (inv_at (C := (List.replicate 16 (0 : Int))) (R := invR 1 (List.replicate 16 (0 : Int))) ((HQ.out.to HB.out).to HA1.out) HI1.out.si List.length_replicate (by decide +kernel) rfl).mono ?_
                    rintro e v1 ⟨g1, rfl, -, -, hb1⟩
                    have HC1 : Hid (Below w.heap.size w v1) := below_to (to_alloc HB.out _) hb1
                    clear hb1 HI1 HA1
                    go_wp2_with fail
                    have HA2 : Hid (Below v1.heap.size v1 (v1.alloc (.cells (madeCells #[.int .i64 0] 16) 3))) := from_alloc _ _
                    have HI2 : Hid (Ri 3 (v1.alloc (.cells (madeCells #[.int .i64 0] 16) 3)) v1.heap.size (List.replicate 16 (0 : Int))) := Ri.made 3 v1 16 rfl
                    refine (fwd_at (C := (List.replicate 16 (0 : Int))) (R := fwdR 1 (List.replicate 16 (0 : Int))) ((HQ.out.to HC1.out).to HA2.out) HI2.out.si List.length_replicate (by decide +kernel) rfl).mono ?_
                    rintro e v2 ⟨g2, rfl, -, -, hb2⟩
                    have HC2 : Hid (Below w.heap.size w v2) := below_to (to_alloc HC1.out _) hb2
                    clear hb2 HI2 HA2
                    go_wp2_with fail
                    go_roundw
                    case rel => exact ⟨16 + 1, by omega, by go_num, HC2.out⟩
                    case measure => simp [intOf]
                · as_aux_lemma =>
                    have hmkL : ∀ u : World, (Instr.makeSlice 23 (.int .i64 16) (.int .i64 16)).run Tryd.prog u = .ok (.slice (some ⟨u.heap.size, 0, none⟩) 16 16) (u.alloc (.cells (madeCells #[.int .i64 0] 16) 3)) := fun u => mk_ints (n := 16) (by omega) u
                    go_wp2_with fail
                    have HA1 : Hid (Below wr.heap.size wr (wr.alloc (.cells (madeCells #[.int .i64 0] 16) 3))) := from_alloc _ _
                    have HI1 : Hid (Ri 3 (wr.alloc (.cells (madeCells #[.int .i64 0] 16) 3)) wr.heap.size (List.replicate 16 (0 : Int))) := Ri.made 3 wr 16 rfl
                    refine (inv_at (C := (List.replicate 16 (0 : Int))) (R := invR 2 (List.replicate 16 (0 : Int))) ((HQ.out.to HB.out).to HA1.out) HI1.out.si List.length_replicate (by decide +kernel) rfl).mono ?_
                    rintro e v1 ⟨g1, rfl, -, -, hb1⟩
                    have HC1 : Hid (Below w.heap.size w v1) := below_to (to_alloc HB.out _) hb1
                    clear hb1 HI1 HA1
                    go_wp2_with fail
                    have HA2 : Hid (Below v1.heap.size v1 (v1.alloc (.cells (madeCells #[.int .i64 0] 16) 3))) := from_alloc _ _
                    have HI2 : Hid (Ri 3 (v1.alloc (.cells (madeCells #[.int .i64 0] 16) 3)) v1.heap.size (List.replicate 16 (0 : Int))) := Ri.made 3 v1 16 rfl
                    refine (fwd_at (C := (List.replicate 16 (0 : Int))) (R := fwdR 2 (List.replicate 16 (0 : Int))) ((HQ.out.to HC1.out).to HA2.out) HI2.out.si List.length_replicate (by decide +kernel) rfl).mono ?_
                    rintro e v2 ⟨g2, rfl, -, -, hb2⟩
                    have HC2 : Hid (Below w.heap.size w v2) := below_to (to_alloc HC1.out _) hb2
                    clear hb2 HI2 HA2
                    go_wp2_with fail
                    go_roundw
                    case rel => exact ⟨16 + 1, by omega, by go_num, HC2.out⟩
                    case measure => simp [intOf]
                · as_aux_lemma =>
                    have hmkL : ∀ u : World, (Instr.makeSlice 23 (.int .i64 16) (.int .i64 16)).run Tryd.prog u = .ok (.slice (some ⟨u.heap.size, 0, none⟩) 16 16) (u.alloc (.cells (madeCells #[.int .i64 0] 16) 3)) := fun u => mk_ints (n := 16) (by omega) u
                    go_wp2_with fail
                    have HA1 : Hid (Below wr.heap.size wr (wr.alloc (.cells (madeCells #[.int .i64 0] 16) 3))) := from_alloc _ _
                    have HI1 : Hid (Ri 3 (wr.alloc (.cells (madeCells #[.int .i64 0] 16) 3)) wr.heap.size (List.replicate 16 (0 : Int))) := Ri.made 3 wr 16 rfl
                    refine (inv_err (k := 3) (C := (List.replicate 16 (0 : Int))) HI1.out.si List.length_replicate (by omega) (by decide +kernel)).mono ?_
                    rintro e v1 ⟨rfl, hb1⟩
                    have HC1 : Hid (Below w.heap.size w v1) := below_to (to_alloc HB.out _) hb1
                    clear hb1 HI1 HA1
                    go_wp2_with fail
                    have HA2 : Hid (Below v1.heap.size v1 (v1.alloc (.cells (madeCells #[.int .i64 0] 16) 3))) := from_alloc _ _
                    have HI2 : Hid (Ri 3 (v1.alloc (.cells (madeCells #[.int .i64 0] 16) 3)) v1.heap.size (List.replicate 16 (0 : Int))) := Ri.made 3 v1 16 rfl
                    refine (fwd_err (k := 3) (C := (List.replicate 16 (0 : Int))) HI2.out.si List.length_replicate (by omega) (by decide +kernel)).mono ?_
                    rintro e v2 ⟨rfl, hb2⟩
                    have HC2 : Hid (Below w.heap.size w v2) := below_to (to_alloc HC1.out _) hb2
                    clear hb2 HI2 HA2
                    go_wp2_with fail
                    go_roundw
                    case rel => exact ⟨16 + 1, by omega, by go_num, HC2.out⟩
                    case measure => simp [intOf]
                · as_aux_lemma =>
                    have z0 : (k == 0) = false := by rw [beq_eq_false_iff_ne]; omega
                    have z1 : (k == 1) = false := by rw [beq_eq_false_iff_ne]; omega
                    have z2 : (k == 2) = false := by rw [beq_eq_false_iff_ne]; omega
                    have z3 : (k == 3) = false := by rw [beq_eq_false_iff_ne]; omega
                    have HKO : Hid (k < 0 ∨ 3 < k) := hko
                    clear hko
                    have hmkL : ∀ u : World, (Instr.makeSlice 23 (.int .i64 16) (.int .i64 16)).run Tryd.prog u = .ok (.slice (some ⟨u.heap.size, 0, none⟩) 16 16) (u.alloc (.cells (madeCells #[.int .i64 0] 16) 3)) := fun u => mk_ints (n := 16) (by omega) u
                    go_wp2_with fail
                    have HA1 : Hid (Below wr.heap.size wr (wr.alloc (.cells (madeCells #[.int .i64 0] 16) 3))) := from_alloc _ _
                    have HI1 : Hid (Ri 3 (wr.alloc (.cells (madeCells #[.int .i64 0] 16) 3)) wr.heap.size (List.replicate 16 (0 : Int))) := Ri.made 3 wr 16 rfl
                    refine (inv_err (k := k) (C := (List.replicate 16 (0 : Int))) HI1.out.si List.length_replicate (by omega) (tk_other HKO.out)).mono ?_
                    rintro e v1 ⟨rfl, hb1⟩
                    have HC1 : Hid (Below w.heap.size w v1) := below_to (to_alloc HB.out _) hb1
                    clear hb1 HI1 HA1
                    go_wp2_with fail
                    have HA2 : Hid (Below v1.heap.size v1 (v1.alloc (.cells (madeCells #[.int .i64 0] 16) 3))) := from_alloc _ _
                    have HI2 : Hid (Ri 3 (v1.alloc (.cells (madeCells #[.int .i64 0] 16) 3)) v1.heap.size (List.replicate 16 (0 : Int))) := Ri.made 3 v1 16 rfl
                    refine (fwd_err (k := k) (C := (List.replicate 16 (0 : Int))) HI2.out.si List.length_replicate (by omega) (tk_other HKO.out)).mono ?_
                    rintro e v2 ⟨rfl, hb2⟩
                    have HC2 : Hid (Below w.heap.size w v2) := below_to (to_alloc HC1.out _) hb2
                    clear hb2 HI2 HA2
                    go_wp2_with fail
                    go_roundw
                    case rel => exact ⟨16 + 1, by omega, by go_num, HC2.out⟩
                    case measure => simp [intOf]
              · rcases hks with rfl | rfl | rfl | rfl | hko
                · as_aux_lemma =>
                    have hmkL : ∀ u : World, (Instr.makeSlice 23 (.int .i64 32) (.int .i64 32)).run Tryd.prog u = .ok (.slice (some ⟨u.heap.size, 0, none⟩) 32 32) (u.alloc (.cells (madeCells #[.int .i64 0] 32) 3)) := fun u => mk_ints (n := 32) (by omega) u
                    go_wp2_with fail
                    have HA1 : Hid (Below wr.heap.size wr (wr.alloc (.cells (madeCells #[.int .i64 0] 32) 3))) := from_alloc _ _
                    have HI1 : Hid (Ri 3 (wr.alloc (.cells (madeCells #[.int .i64 0] 32) 3)) wr.heap.size (List.replicate 32 (0 : Int))) := Ri.made 3 wr 32 rfl
                    refine (inv_at (C := (List.replicate 32 (0 : Int))) (R := invR 0 (List.replicate 32 (0 : Int))) ((HQ.out.to HB.out).to HA1.out) HI1.out.si List.length_replicate (by decide +kernel) rfl).mono ?_
                    rintro e v1 ⟨g1, rfl, -, -, hb1⟩
                    have HC1 : Hid (Below w.heap.size w v1) := below_to (to_alloc HB.out _) hb1
                    clear hb1 HI1 HA1
                    go_wp2_with fail
                    have HA2 : Hid (Below v1.heap.size v1 (v1.alloc (.cells (madeCells #[.int .i64 0] 32) 3))) := from_alloc _ _
                    have HI2 : Hid (Ri 3 (v1.alloc (.cells (madeCells #[.int .i64 0] 32) 3)) v1.heap.size (List.replicate 32 (0 : Int))) := Ri.made 3 v1 32 rfl
                    refine (fwd_at (C := (List.replicate 32 (0 : Int))) (R := fwdR 0 (List.replicate 32 (0 : Int))) ((HQ.out.to HC1.out).to HA2.out) HI2.out.si List.length_replicate (by decide +kernel) rfl).mono ?_
                    rintro e v2 ⟨g2, rfl, -, -, hb2⟩
                    have HC2 : Hid (Below w.heap.size w v2) := below_to (to_alloc HC1.out _) hb2
                    clear hb2 HI2 HA2
                    go_wp2_with fail
                    go_roundw
                    case rel => exact ⟨32 + 1, by omega, by go_num, HC2.out⟩
                    case measure => simp [intOf]
                · as_aux_lemma =>
                    have hmkL : ∀ u : World, (Instr.makeSlice 23 (.int .i64 32) (.int .i64 32)).run Tryd.prog u = .ok (.slice (some ⟨u.heap.size, 0, none⟩) 32 32) (u.alloc (.cells (madeCells #[.int .i64 0] 32) 3)) := fun u => mk_ints (n := 32) (by omega) u
                    go_wp2_with fail
                    have HA1 : Hid (Below wr.heap.size wr (wr.alloc (.cells (madeCells #[.int .i64 0] 32) 3))) := from_alloc _ _
                    have HI1 : Hid (Ri 3 (wr.alloc (.cells (madeCells #[.int .i64 0] 32) 3)) wr.heap.size (List.replicate 32 (0 : Int))) := Ri.made 3 wr 32 rfl
                    refine (inv_err (k := 1) (C := (List.replicate 32 (0 : Int))) HI1.out.si List.length_replicate (by omega) (by decide +kernel)).mono ?_
                    rintro e v1 ⟨rfl, hb1⟩
                    have HC1 : Hid (Below w.heap.size w v1) := below_to (to_alloc HB.out _) hb1
                    clear hb1 HI1 HA1
                    go_wp2_with fail
                    have HA2 : Hid (Below v1.heap.size v1 (v1.alloc (.cells (madeCells #[.int .i64 0] 32) 3))) := from_alloc _ _
                    have HI2 : Hid (Ri 3 (v1.alloc (.cells (madeCells #[.int .i64 0] 32) 3)) v1.heap.size (List.replicate 32 (0 : Int))) := Ri.made 3 v1 32 rfl
                    refine (fwd_err (k := 1) (C := (List.replicate 32 (0 : Int))) HI2.out.si List.length_replicate (by omega) (by decide +kernel)).mono ?_
                    rintro e v2 ⟨rfl, hb2⟩
                    have HC2 : Hid (Below w.heap.size w v2) := below_to (to_alloc HC1.out _) hb2
                    clear hb2 HI2 HA2
                    go_wp2_with fail
                    go_roundw
                    case rel => exact ⟨32 + 1, by omega, by go_num, HC2.out⟩
                    case measure => simp [intOf]
                · as_aux_lemma =>
                    have hmkL : ∀ u : World, (Instr.makeSlice 23 (.int .i64 32) (.int .i64 32)).run Tryd.prog u = .ok (.slice (some ⟨u.heap.size, 0, none⟩) 32 32) (u.alloc (.cells (madeCells #[.int .i64 0] 32) 3)) := fun u => mk_ints (n := 32) (by omega) u
                    go_wp2_with fail
                    have HA1 : Hid (Below wr.heap.size wr (wr.alloc (.cells (madeCells #[.int .i64 0] 32) 3))) := from_alloc _ _
                    have HI1 : Hid (Ri 3 (wr.alloc (.cells (madeCells #[.int .i64 0] 32) 3)) wr.heap.size (List.replicate 32 (0 : Int))) := Ri.made 3 wr 32 rfl
                    refine (inv_at (C := (List.replicate 32 (0 : Int))) (R := invR 2 (List.replicate 32 (0 : Int))) ((HQ.out.to HB.out).to HA1.out) HI1.out.si List.length_replicate (by decide +kernel) rfl).mono ?_
                    rintro e v1 ⟨g1, rfl, -, -, hb1⟩
                    have HC1 : Hid (Below w.heap.size w v1) := below_to (to_alloc HB.out _) hb1
                    clear hb1 HI1 HA1
                    go_wp2_with fail
                    have HA2 : Hid (Below v1.heap.size v1 (v1.alloc (.cells (madeCells #[.int .i64 0] 32) 3))) := from_alloc _ _
                    have HI2 : Hid (Ri 3 (v1.alloc (.cells (madeCells #[.int .i64 0] 32) 3)) v1.heap.size (List.replicate 32 (0 : Int))) := Ri.made 3 v1 32 rfl
                    refine (fwd_at (C := (List.replicate 32 (0 : Int))) (R := fwdR 2 (List.replicate 32 (0 : Int))) ((HQ.out.to HC1.out).to HA2.out) HI2.out.si List.length_replicate (by decide +kernel) rfl).mono ?_
                    rintro e v2 ⟨g2, rfl, -, -, hb2⟩
                    have HC2 : Hid (Below w.heap.size w v2) := below_to (to_alloc HC1.out _) hb2
                    clear hb2 HI2 HA2
                    go_wp2_with fail
                    go_roundw
                    case rel => exact ⟨32 + 1, by omega, by go_num, HC2.out⟩
                    case measure => simp [intOf]
                · as_aux_lemma =>
                    have hmkL : ∀ u : World, (Instr.makeSlice 23 (.int .i64 32) (.int .i64 32)).run Tryd.prog u = .ok (.slice (some ⟨u.heap.size, 0, none⟩) 32 32) (u.alloc (.cells (madeCells #[.int .i64 0] 32) 3)) := fun u => mk_ints (n := 32) (by omega) u
                    go_wp2_with fail
                    have HA1 : Hid (Below wr.heap.size wr (wr.alloc (.cells (madeCells #[.int .i64 0] 32) 3))) := from_alloc _ _
                    have HI1 : Hid (Ri 3 (wr.alloc (.cells (madeCells #[.int .i64 0] 32) 3)) wr.heap.size (List.replicate 32 (0 : Int))) := Ri.made 3 wr 32 rfl
                    refine (inv_err (k := 3) (C := (List.replicate 32 (0 : Int))) HI1.out.si List.length_replicate (by omega) (by decide +kernel)).mono ?_
                    rintro e v1 ⟨rfl, hb1⟩
                    have HC1 : Hid (Below w.heap.size w v1) := below_to (to_alloc HB.out _) hb1
                    clear hb1 HI1 HA1
                    go_wp2_with fail
                    have HA2 : Hid (Below v1.heap.size v1 (v1.alloc (.cells (madeCells #[.int .i64 0] 32) 3))) := from_alloc _ _
                    have HI2 : Hid (Ri 3 (v1.alloc (.cells (madeCells #[.int .i64 0] 32) 3)) v1.heap.size (List.replicate 32 (0 : Int))) := Ri.made 3 v1 32 rfl
                    refine (fwd_err (k := 3) (C := (List.replicate 32 (0 : Int))) HI2.out.si List.length_replicate (by omega) (by decide +kernel)).mono ?_
                    rintro e v2 ⟨rfl, hb2⟩
                    have HC2 : Hid (Below w.heap.size w v2) := below_to (to_alloc HC1.out _) hb2
                    clear hb2 HI2 HA2
                    go_wp2_with fail
                    go_roundw
                    case rel => exact ⟨32 + 1, by omega, by go_num, HC2.out⟩
                    case measure => simp [intOf]
                · as_aux_lemma =>
                    have z0 : (k == 0) = false := by rw [beq_eq_false_iff_ne]; omega
                    have z1 : (k == 1) = false := by rw [beq_eq_false_iff_ne]; omega
                    have z2 : (k == 2) = false := by rw [beq_eq_false_iff_ne]; omega
                    have z3 : (k == 3) = false := by rw [beq_eq_false_iff_ne]; omega
                    have HKO : Hid (k < 0 ∨ 3 < k) := hko
                    clear hko
                    have hmkL : ∀ u : World, (Instr.makeSlice 23 (.int .i64 32) (.int .i64 32)).run Tryd.prog u = .ok (.slice (some ⟨u.heap.size, 0, none⟩) 32 32) (u.alloc (.cells (madeCells #[.int .i64 0] 32) 3)) := fun u => mk_ints (n := 32) (by omega) u
                    go_wp2_with fail
                    have HA1 : Hid (Below wr.heap.size wr (wr.alloc (.cells (madeCells #[.int .i64 0] 32) 3))) := from_alloc _ _
                    have HI1 : Hid (Ri 3 (wr.alloc (.cells (madeCells #[.int .i64 0] 32) 3)) wr.heap.size (List.replicate 32 (0 : Int))) := Ri.made 3 wr 32 rfl
                    refine (inv_err (k := k) (C := (List.replicate 32 (0 : Int))) HI1.out.si List.length_replicate (by omega) (tk_other HKO.out)).mono ?_
                    rintro e v1 ⟨rfl, hb1⟩
                    have HC1 : Hid (Below w.heap.size w v1) := below_to (to_alloc HB.out _) hb1
                    clear hb1 HI1 HA1
                    go_wp2_with fail
                    have HA2 : Hid (Below v1.heap.size v1 (v1.alloc (.cells (madeCells #[.int .i64 0] 32) 3))) := from_alloc _ _
                    have HI2 : Hid (Ri 3 (v1.alloc (.cells (madeCells #[.int .i64 0] 32) 3)) v1.heap.size (List.replicate 32 (0 : Int))) := Ri.made 3 v1 32 rfl
                    refine (fwd_err (k := k) (C := (List.replicate 32 (0 : Int))) HI2.out.si List.length_replicate (by omega) (tk_other HKO.out)).mono ?_
                    rintro e v2 ⟨rfl, hb2⟩
                    have HC2 : Hid (Below w.heap.size w v2) := below_to (to_alloc HC1.out _) hb2
                    clear hb2 HI2 HA2
                    go_wp2_with fail
                    go_roundw
                    case rel => exact ⟨32 + 1, by omega, by go_num, HC2.out⟩
                    case measure => simp [intOf]
              · rcases hks with rfl | rfl | rfl | rfl | hko
                · as_aux_lemma =>
                    have hmkL : ∀ u : World, (Instr.makeSlice 23 (.int .i64 64) (.int .i64 64)).run Tryd.prog u = .ok (.slice (some ⟨u.heap.size, 0, none⟩) 64 64) (u.alloc (.cells (madeCells #[.int .i64 0] 64) 3)) := fun u => mk_ints (n := 64) (by omega) u
                    go_wp2_with fail
                    have HA1 : Hid (Below wr.heap.size wr (wr.alloc (.cells (madeCells #[.int .i64 0] 64) 3))) := from_alloc _ _
                    have HI1 : Hid (Ri 3 (wr.alloc (.cells (madeCells #[.int .i64 0] 64) 3)) wr.heap.size (List.replicate 64 (0 : Int))) := Ri.made 3 wr 64 rfl
                    refine (inv_at (C := (List.replicate 64 (0 : Int))) (R := invR 0 (List.replicate 64 (0 : Int))) ((HQ.out.to HB.out).to HA1.out) HI1.out.si List.length_replicate (by decide +kernel) rfl).mono ?_
                    rintro e v1 ⟨g1, rfl, -, -, hb1⟩
                    have HC1 : Hid (Below w.heap.size w v1) := below_to (to_alloc HB.out _) hb1
                    clear hb1 HI1 HA1
                    go_wp2_with fail
                    have HA2 : Hid (Below v1.heap.size v1 (v1.alloc (.cells (madeCells #[.int .i64 0] 64) 3))) := from_alloc _ _
                    have HI2 : Hid (Ri 3 (v1.alloc (.cells (madeCells #[.int .i64 0] 64) 3)) v1.heap.size (List.replicate 64 (0 : Int))) := Ri.made 3 v1 64 rfl
                    refine (fwd_at (C := (List.replicate 64 (0 : Int))) (R := fwdR 0 (List.replicate 64 (0 : Int))) ((HQ.out.to HC1.out).to HA2.out) HI2.out.si List.length_replicate (by decide +kernel) rfl).mono ?_
                    rintro e v2 ⟨g2, rfl, -, -, hb2⟩
                    have HC2 : Hid (Below w.heap.size w v2) := below_to (to_alloc HC1.out _) hb2
                    clear hb2 HI2 HA2
                    go_wp2_with fail
                    go_roundw
                    case rel => exact ⟨64 + 1, by omega, by go_num, HC2.out⟩
                    case measure => simp [intOf]
                · as_aux_lemma =>
                    have hmkL : ∀ u : World, (Instr.makeSlice 23 (.int .i64 64) (.int .i64 64)).run Tryd.prog u = .ok (.slice (some ⟨u.heap.size, 0, none⟩) 64 64) (u.alloc (.cells (madeCells #[.int .i64 0] 64) 3)) := fun u => mk_ints (n := 64) (by omega) u
                    go_wp2_with fail
                    have HA1 : Hid (Below wr.heap.size wr (wr.alloc (.cells (madeCells #[.int .i64 0] 64) 3))) := from_alloc _ _
                    have HI1 : Hid (Ri 3 (wr.alloc (.cells (madeCells #[.int .i64 0] 64) 3)) wr.heap.size (List.replicate 64 (0 : Int))) := Ri.made 3 wr 64 rfl
                    refine (inv_err (k := 1) (C := (List.replicate 64 (0 : Int))) HI1.out.si List.length_replicate (by omega) (by decide +kernel)).mono ?_
                    rintro e v1 ⟨rfl, hb1⟩
                    have HC1 : Hid (Below w.heap.size w v1) := below_to (to_alloc HB.out _) hb1
                    clear hb1 HI1 HA1
                    go_wp2_with fail
                    have HA2 : Hid (Below v1.heap.size v1 (v1.alloc (.cells (madeCells #[.int .i64 0] 64) 3))) := from_alloc _ _
                    have HI2 : Hid (Ri 3 (v1.alloc (.cells (madeCells #[.int .i64 0] 64) 3)) v1.heap.size (List.replicate 64 (0 : Int))) := Ri.made 3 v1 64 rfl
                    refine (fwd_err (k := 1) (C := (List.replicate 64 (0 : Int))) HI2.out.si List.length_replicate (by omega) (by decide +kernel)).mono ?_
                    rintro e v2 ⟨rfl, hb2⟩
                    have HC2 : Hid (Below w.heap.size w v2) := below_to (to_alloc HC1.out _) hb2
                    clear hb2 HI2 HA2
                    go_wp2_with fail
                    go_roundw
                    case rel => exact ⟨64 + 1, by omega, by go_num, HC2.out⟩
                    case measure => simp [intOf]
                · as_aux_lemma =>
                    have hmkL : ∀ u : World, (Instr.makeSlice 23 (.int .i64 64) (.int .i64 64)).run Tryd.prog u = .ok (.slice (some ⟨u.heap.size, 0, none⟩) 64 64) (u.alloc (.cells (madeCells #[.int .i64 0] 64) 3)) := fun u => mk_ints (n := 64) (by omega) u
                    go_wp2_with fail
                    have HA1 : Hid (Below wr.heap.size wr (wr.alloc (.cells (madeCells #[.int .i64 0] 64) 3))) := from_alloc _ _
                    have HI1 : Hid (Ri 3 (wr.alloc (.cells (madeCells #[.int .i64 0] 64) 3)) wr.heap.size (List.replicate 64 (0 : Int))) := Ri.made 3 wr 64 rfl
                    refine (inv_err (k := 2) (C := (List.replicate 64 (0 : Int))) HI1.out.si List.length_replicate (by omega) (by decide +kernel)).mono ?_
                    rintro e v1 ⟨rfl, hb1⟩
                    have HC1 : Hid (Below w.heap.size w v1) := below_to (to_alloc HB.out _) hb1
                    clear hb1 HI1 HA1
                    go_wp2_with fail
                    have HA2 : Hid (Below v1.heap.size v1 (v1.alloc (.cells (madeCells #[.int .i64 0] 64) 3))) := from_alloc _ _
                    have HI2 : Hid (Ri 3 (v1.alloc (.cells (madeCells #[.int .i64 0] 64) 3)) v1.heap.size (List.replicate 64 (0 : Int))) := Ri.made 3 v1 64 rfl
                    refine (fwd_err (k := 2) (C := (List.replicate 64 (0 : Int))) HI2.out.si List.length_replicate (by omega) (by decide +kernel)).mono ?_
                    rintro e v2 ⟨rfl, hb2⟩
                    have HC2 : Hid (Below w.heap.size w v2) := below_to (to_alloc HC1.out _) hb2
                    clear hb2 HI2 HA2
                    go_wp2_with fail
                    go_roundw
                    case rel => exact ⟨64 + 1, by omega, by go_num, HC2.out⟩
                    case measure => simp [intOf]
                · as_aux_lemma =>
                    have hmkL : ∀ u : World, (Instr.makeSlice 23 (.int .i64 64) (.int .i64 64)).run Tryd.prog u = .ok (.slice (some ⟨u.heap.size, 0, none⟩) 64 64) (u.alloc (.cells (madeCells #[.int .i64 0] 64) 3)) := fun u => mk_ints (n := 64) (by omega) u
                    go_wp2_with fail
                    have HA1 : Hid (Below wr.heap.size wr (wr.alloc (.cells (madeCells #[.int .i64 0] 64) 3))) := from_alloc _ _
                    have HI1 : Hid (Ri 3 (wr.alloc (.cells (madeCells #[.int .i64 0] 64) 3)) wr.heap.size (List.replicate 64 (0 : Int))) := Ri.made 3 wr 64 rfl
                    refine (inv_err (k := 3) (C := (List.replicate 64 (0 : Int))) HI1.out.si List.length_replicate (by omega) (by decide +kernel)).mono ?_
                    rintro e v1 ⟨rfl, hb1⟩
                    have HC1 : Hid (Below w.heap.size w v1) := below_to (to_alloc HB.out _) hb1
                    clear hb1 HI1 HA1
                    go_wp2_with fail
                    have HA2 : Hid (Below v1.heap.size v1 (v1.alloc (.cells (madeCells #[.int .i64 0] 64) 3))) := from_alloc _ _
                    have HI2 : Hid (Ri 3 (v1.alloc (.cells (madeCells #[.int .i64 0] 64) 3)) v1.heap.size (List.replicate 64 (0 : Int))) := Ri.made 3 v1 64 rfl
                    refine (fwd_err (k := 3) (C := (List.replicate 64 (0 : Int))) HI2.out.si List.length_replicate (by omega) (by decide +kernel)).mono ?_
                    rintro e v2 ⟨rfl, hb2⟩
                    have HC2 : Hid (Below w.heap.size w v2) := below_to (to_alloc HC1.out _) hb2
                    clear hb2 HI2 HA2
                    go_wp2_with fail
                    go_roundw
                    case rel => exact ⟨64 + 1, by omega, by go_num, HC2.out⟩
                    case measure => simp [intOf]
                · as_aux_lemma =>
                    have z0 : (k == 0) = false := by rw [beq_eq_false_iff_ne]; omega
                    have z1 : (k == 1) = false := by rw [beq_eq_false_iff_ne]; omega
                    have z2 : (k == 2) = false := by rw [beq_eq_false_iff_ne]; omega
                    have z3 : (k == 3) = false := by rw [beq_eq_false_iff_ne]; omega
                    have HKO : Hid (k < 0 ∨ 3 < k) := hko
                    clear hko
                    have hmkL : ∀ u : World, (Instr.makeSlice 23 (.int .i64 64) (.int .i64 64)).run Tryd.prog u = .ok (.slice (some ⟨u.heap.size, 0, none⟩) 64 64) (u.alloc (.cells (madeCells #[.int .i64 0] 64) 3)) := fun u => mk_ints (n := 64) (by omega) u
                    go_wp2_with fail
                    have HA1 : Hid (Below wr.heap.size wr (wr.alloc (.cells (madeCells #[.int .i64 0] 64) 3))) := from_alloc _ _
                    have HI1 : Hid (Ri 3 (wr.alloc (.cells (madeCells #[.int .i64 0] 64) 3)) wr.heap.size (List.replicate 64 (0 : Int))) := Ri.made 3 wr 64 rfl
                    refine (inv_err (k := k) (C := (List.replicate 64 (0 : Int))) HI1.out.si List.length_replicate (by omega) (tk_other HKO.out)).mono ?_
                    rintro e v1 ⟨rfl, hb1⟩
                    have HC1 : Hid (Below w.heap.size w v1) := below_to (to_alloc HB.out _) hb1
                    clear hb1 HI1 HA1
                    go_wp2_with fail
                    have HA2 : Hid (Below v1.heap.size v1 (v1.alloc (.cells (madeCells #[.int .i64 0] 64) 3))) := from_alloc _ _
                    have HI2 : Hid (Ri 3 (v1.alloc (.cells (madeCells #[.int .i64 0] 64) 3)) v1.heap.size (List.replicate 64 (0 : Int))) := Ri.made 3 v1 64 rfl
                    refine (fwd_err (k := k) (C := (List.replicate 64 (0 : Int))) HI2.out.si List.length_replicate (by omega) (tk_other HKO.out)).mono ?_
                    rintro e v2 ⟨rfl, hb2⟩
                    have HC2 : Hid (Below w.heap.size w v2) := below_to (to_alloc HC1.out _) hb2
                    clear hb2 HI2 HA2
                    go_wp2_with fail
                    go_roundw
                    case rel => exact ⟨64 + 1, by omega, by go_num, HC2.out⟩
                    case measure => simp [intOf]
              · as_aux_lemma =>
                  obtain ⟨x4, x8, x16, x32, x64⟩ := hns
                  have y4 : ((n : Int) == 4) = false := by rw [beq_eq_false_iff_ne]; omega
                  have y8 : ((n : Int) == 8) = false := by rw [beq_eq_false_iff_ne]; omega
                  have y16 : ((n : Int) == 16) = false := by rw [beq_eq_false_iff_ne]; omega
                  have y32 : ((n : Int) == 32) = false := by rw [beq_eq_false_iff_ne]; omega
                  have y64 : ((n : Int) == 64) = false := by rw [beq_eq_false_iff_ne]; omega
                  have HP2 : Hid (p2 n = false) := by show _ = _; simp [p2, x4, x8, x16, x32, x64]
                  clear x4 x8 x16 x32 x64
                  go_wp2_with fail
                  have HA1 : Hid (Below wr.heap.size wr (wr.alloc (.cells (madeCells #[.int .i64 0] n) 3))) := from_alloc _ _
                  have HI1 : Hid (Ri 3 (wr.alloc (.cells (madeCells #[.int .i64 0] n) 3)) wr.heap.size (List.replicate n (0 : Int))) := Ri.made 3 wr n rfl
                  refine (inv_err (k := k) (C := (List.replicate n (0 : Int))) HI1.out.si List.length_replicate (by omega) (tk_zero HP2.out)).mono ?_
                  rintro e v1 ⟨rfl, hb1⟩
                  have HC1 : Hid (Below w.heap.size w v1) := below_to (to_alloc HB.out _) hb1
                  clear hb1 HI1 HA1
                  go_wp2_with fail
                  have HA2 : Hid (Below v1.heap.size v1 (v1.alloc (.cells (madeCells #[.int .i64 0] n) 3))) := from_alloc _ _
                  have HI2 : Hid (Ri 3 (v1.alloc (.cells (madeCells #[.int .i64 0] n) 3)) v1.heap.size (List.replicate n (0 : Int))) := Ri.made 3 v1 n rfl
                  refine (fwd_err (k := k) (C := (List.replicate n (0 : Int))) HI2.out.si List.length_replicate (by omega) (tk_zero HP2.out)).mono ?_
                  rintro e v2 ⟨rfl, hb2⟩
                  have HC2 : Hid (Below w.heap.size w v2) := below_to (to_alloc HC1.out _) hb2
                  clear hb2 HI2 HA2
                  go_wp2_with fail
                  go_roundw
                  case rel => exact ⟨n + 1, by omega, by go_num, HC2.out⟩
                  case measure => simp [intOf]; omega
            · have HB : Hid (Below w.heap.size w wr) := hb
              clear hb
              go_wp2_with fail
              go_roundw
              case rel => exact ⟨k + 1, by omega, by omega, by go_num, HB.out⟩
              case measure => simp [intOf]; omega
        · have HB : Hid (Below w.heap.size w wr) := hb
          have HP : Hid (Qt wr) := HQ.out.to hb
          clear hb hk0 hk1
          go_wp2_with fail
          have HA1 : Hid (Below wr.heap.size wr (wr.alloc (.cells #[.int .i64 1048577, .int .i64 0, .int .i64 0, .int .i64 0] 3))) := from_alloc _ _
          have HI1 : Hid (Ri 3 (wr.alloc (.cells #[.int .i64 1048577, .int .i64 0, .int .i64 0, .int .i64 0] 3)) wr.heap.size [1048577, 0, 0, 0]) := Ri.built 3 wr [1048577, 0, 0, 0] rfl
          refine (inv_err (k := 3) (C := [1048577, 0, 0, 0]) HI1.out.si rfl (by decide) (by decide +kernel)).mono ?_
          rintro e x1 ⟨rfl, hb1⟩
          have HX1 : Hid (Below w.heap.size w x1) := below_to (to_alloc HB.out _) hb1
          have HY1 : Hid (Qt x1) := HQ.out.to HX1.out
          clear hb1 HI1 HA1
          go_wp2_with fail
          have HA2 : Hid (Below x1.heap.size x1 (x1.alloc (.cells #[.int .i64 0, .int .i64 0, .int .i64 0, .int .i64 (-1048577)] 3))) := from_alloc _ _
          have HI2 : Hid (Ri 3 (x1.alloc (.cells #[.int .i64 0, .int .i64 0, .int .i64 0, .int .i64 (-1048577)] 3)) x1.heap.size [0, 0, 0, -1048577]) := Ri.built 3 x1 [0, 0, 0, -1048577] rfl
          refine (fwd_err (k := 0) (C := [0, 0, 0, -1048577]) HI2.out.si rfl (by decide) (by decide +kernel)).mono ?_
          rintro e x2 ⟨rfl, hb2⟩
          have HX2 : Hid (Below w.heap.size w x2) := below_to (to_alloc HX1.out _) hb2
          have HY2 : Hid (Qt x2) := HQ.out.to HX2.out
          clear hb2 HI2 HA2
          go_wp2_with fail
          have HA3 : Hid (Below x2.heap.size x2 (x2.alloc (.cells #[.int .i64 1048576, .int .i64 (-1048576), .int .i64 0, .int .i64 0] 3))) := from_alloc _ _
          have HI3 : Hid (Ri 3 (x2.alloc (.cells #[.int .i64 1048576, .int .i64 (-1048576), .int .i64 0, .int .i64 0] 3)) x2.heap.size [1048576, -1048576, 0, 0]) := Ri.built 3 x2 [1048576, -1048576, 0, 0] rfl
          refine (fwd_at (k := 2) (C := [1048576, -1048576, 0, 0]) (HY2.out.to HA3.out) HI3.out.si rfl (by decide +kernel) rfl).mono ?_
          rintro e x3 ⟨g3, rfl, -, -, hb3⟩
          have HX3 : Hid (Below w.heap.size w x3) := below_to (to_alloc HX2.out _) hb3
          have HY3 : Hid (Qt x3) := HQ.out.to HX3.out
          clear hb3 HI3 HA3
          go_wp2_with fail
          refine (works_any HY3.out).mono ?_
          rintro e x4 ⟨rfl, hb4⟩
          have HX4 : Hid (Below w.heap.size w x4) := below_to HX3.out hb4
          clear hb4
          go_wp2_with fail
          go_ret
          exact ⟨rfl, HX4.out⟩

end Go.Proofs.YtjbipejpegmmoabDoor
