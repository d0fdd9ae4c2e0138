/- DERIVED. The walks of the document's Rows, May and weight. -/
import Derived.Test.YtjbipejpegmmoaaDoorFa
namespace Go.Proofs.YtjbipejpegmmoaaDoor
open Go.RowKit

/-- has a kind such rows? -/
def rwB (k : Int) (n : Nat) : Bool := p2 n && decide (n ≤ kL k)
theorem rwB_other {k : Int} (h : k < 0 ∨ 3 < k) (n : Nat) : rwB k n = false := by
  have : kL k = 0 := by unfold kL; rw [if_neg (by omega), if_neg (by omega), if_neg (by omega), if_neg (by omega)]
  unfold rwB p2
  rw [this]
  by_cases e : n ≤ 0
  · have : n = 0 := by omega
    subst this; rfl
  · simp [e]
theorem p2_low {n : Nat} (h : p2 n = true) : 4 ≤ n := by
  simp only [p2, Bool.or_eq_true, beq_iff_eq] at h
  omega

set_option maxRecDepth 100000 in
set_option maxHeartbeats 4000000 in
theorem rows_any {w : World} {k : Int} {n : Nat} : Calls Tryd.prog 40 #[.int .i64 k, .int .i64 (n : Int)] w fun e w' => e = .returned (.bool (rwB k n)) ∧ w' = w := by
  have hks : k = 0 ∨ k = 1 ∨ k = 2 ∨ k = 3 ∨ (k < 0 ∨ 3 < k) := by omega
  have hns : n = 4 ∨ n = 8 ∨ n = 16 ∨ n = 32 ∨ n = 64 ∨ (¬ n = 4 ∧ ¬ n = 8 ∧ ¬ n = 16 ∧ ¬ n = 32 ∧ ¬ n = 64) := by omega
  rcases hks with rfl | rfl | rfl | rfl | hk
  · rcases hns with rfl | rfl | rfl | rfl | rfl | ⟨x4, x8, x16, x32, x64⟩
    · have HV : Hid (rwB 0 4 = true) := by show _ = _; decide +kernel
      go_enter Tryd.func40, Tryd.ntmps40
      go_wp2_with fail
      go_ret
      exact ⟨by rw [HV.out]; rfl, rfl⟩
    · have HV : Hid (rwB 0 8 = true) := by show _ = _; decide +kernel
      go_enter Tryd.func40, Tryd.ntmps40
      go_wp2_with fail
      go_ret
      exact ⟨by rw [HV.out]; rfl, rfl⟩
    · have HV : Hid (rwB 0 16 = true) := by show _ = _; decide +kernel
      go_enter Tryd.func40, Tryd.ntmps40
      go_wp2_with fail
      go_ret
      exact ⟨by rw [HV.out]; rfl, rfl⟩
    · have HV : Hid (rwB 0 32 = true) := by show _ = _; decide +kernel
      go_enter Tryd.func40, Tryd.ntmps40
      go_wp2_with fail
      go_ret
      exact ⟨by rw [HV.out]; rfl, rfl⟩
    · have HV : Hid (rwB 0 64 = true) := by show _ = _; decide +kernel
      go_enter Tryd.func40, Tryd.ntmps40
      go_wp2_with fail
      go_ret
      exact ⟨by rw [HV.out]; rfl, rfl⟩
    · have HV : Hid (rwB 0 n = false) := by show _ = _; unfold rwB p2; simp [x4, x8, x16, x32, x64]
      have y4 : ((n : Int) == 4) = false := by rw [beq_eq_false_iff_ne]; omega
      have y8 : ((n : Int) == 8) = false := by rw [beq_eq_false_iff_ne]; omega
      have y16 : ((n : Int) == 16) = false := by rw [beq_eq_false_iff_ne]; omega
      have y32 : ((n : Int) == 32) = false := by rw [beq_eq_false_iff_ne]; omega
      have y64 : ((n : Int) == 64) = false := by rw [beq_eq_false_iff_ne]; omega
      clear x4 x8 x16 x32 x64
      go_enter Tryd.func40, Tryd.ntmps40
      go_wp2_with fail
      go_ret
      exact ⟨by rw [HV.out]; rfl, rfl⟩
  · rcases hns with rfl | rfl | rfl | rfl | rfl | ⟨x4, x8, x16, x32, x64⟩
    · have HV : Hid (rwB 1 4 = true) := by show _ = _; decide +kernel
      go_enter Tryd.func40, Tryd.ntmps40
      go_wp2_with fail
      go_ret
      exact ⟨by rw [HV.out]; rfl, rfl⟩
    · have HV : Hid (rwB 1 8 = true) := by show _ = _; decide +kernel
      go_enter Tryd.func40, Tryd.ntmps40
      go_wp2_with fail
      go_ret
      exact ⟨by rw [HV.out]; rfl, rfl⟩
    · have HV : Hid (rwB 1 16 = true) := by show _ = _; decide +kernel
      go_enter Tryd.func40, Tryd.ntmps40
      go_wp2_with fail
      go_ret
      exact ⟨by rw [HV.out]; rfl, rfl⟩
    · have HV : Hid (rwB 1 32 = false) := by show _ = _; decide +kernel
      go_enter Tryd.func40, Tryd.ntmps40
      go_wp2_with fail
      go_ret
      exact ⟨by rw [HV.out]; rfl, rfl⟩
    · have HV : Hid (rwB 1 64 = false) := by show _ = _; decide +kernel
      go_enter Tryd.func40, Tryd.ntmps40
      go_wp2_with fail
      go_ret
      exact ⟨by rw [HV.out]; rfl, rfl⟩
    · have HV : Hid (rwB 1 n = false) := by show _ = _; unfold rwB p2; simp [x4, x8, x16, x32, x64]
      have y4 : ((n : Int) == 4) = false := by rw [beq_eq_false_iff_ne]; omega
      have y8 : ((n : Int) == 8) = false := by rw [beq_eq_false_iff_ne]; omega
      have y16 : ((n : Int) == 16) = false := by rw [beq_eq_false_iff_ne]; omega
      have y32 : ((n : Int) == 32) = false := by rw [beq_eq_false_iff_ne]; omega
      have y64 : ((n : Int) == 64) = false := by rw [beq_eq_false_iff_ne]; omega
      clear x4 x8 x16 x32 x64
      go_enter Tryd.func40, Tryd.ntmps40
      go_wp2_with fail
      go_ret
      exact ⟨by rw [HV.out]; rfl, rfl⟩
  · rcases hns with rfl | rfl | rfl | rfl | rfl | ⟨x4, x8, x16, x32, x64⟩
    · have HV : Hid (rwB 2 4 = true) := by show _ = _; decide +kernel
      go_enter Tryd.func40, Tryd.ntmps40
      go_wp2_with fail
      go_ret
      exact ⟨by rw [HV.out]; rfl, rfl⟩
    · have HV : Hid (rwB 2 8 = true) := by show _ = _; decide +kernel
      go_enter Tryd.func40, Tryd.ntmps40
      go_wp2_with fail
      go_ret
      exact ⟨by rw [HV.out]; rfl, rfl⟩
    · have HV : Hid (rwB 2 16 = true) := by show _ = _; decide +kernel
      go_enter Tryd.func40, Tryd.ntmps40
      go_wp2_with fail
      go_ret
      exact ⟨by rw [HV.out]; rfl, rfl⟩
    · have HV : Hid (rwB 2 32 = true) := by show _ = _; decide +kernel
      go_enter Tryd.func40, Tryd.ntmps40
      go_wp2_with fail
      go_ret
      exact ⟨by rw [HV.out]; rfl, rfl⟩
    · have HV : Hid (rwB 2 64 = false) := by show _ = _; decide +kernel
      go_enter Tryd.func40, Tryd.ntmps40
      go_wp2_with fail
      go_ret
      exact ⟨by rw [HV.out]; rfl, rfl⟩
    · have HV : Hid (rwB 2 n = false) := by show _ = _; unfold rwB p2; simp [x4, x8, x16, x32, x64]
      have y4 : ((n : Int) == 4) = false := by rw [beq_eq_false_iff_ne]; omega
      have y8 : ((n : Int) == 8) = false := by rw [beq_eq_false_iff_ne]; omega
      have y16 : ((n : Int) == 16) = false := by rw [beq_eq_false_iff_ne]; omega
      have y32 : ((n : Int) == 32) = false := by rw [beq_eq_false_iff_ne]; omega
      have y64 : ((n : Int) == 64) = false := by rw [beq_eq_false_iff_ne]; omega
      clear x4 x8 x16 x32 x64
      go_enter Tryd.func40, Tryd.ntmps40
      go_wp2_with fail
      go_ret
      exact ⟨by rw [HV.out]; rfl, rfl⟩
  · rcases hns with rfl | rfl | rfl | rfl | rfl | ⟨x4, x8, x16, x32, x64⟩
    · have HV : Hid (rwB 3 4 = true) := by show _ = _; decide +kernel
      go_enter Tryd.func40, Tryd.ntmps40
      go_wp2_with fail
      go_ret
      exact ⟨by rw [HV.out]; rfl, rfl⟩
    · have HV : Hid (rwB 3 8 = false) := by show _ = _; decide +kernel
      go_enter Tryd.func40, Tryd.ntmps40
      go_wp2_with fail
      go_ret
      exact ⟨by rw [HV.out]; rfl, rfl⟩
    · have HV : Hid (rwB 3 16 = false) := by show _ = _; decide +kernel
      go_enter Tryd.func40, Tryd.ntmps40
      go_wp2_with fail
      go_ret
      exact ⟨by rw [HV.out]; rfl, rfl⟩
    · have HV : Hid (rwB 3 32 = false) := by show _ = _; decide +kernel
      go_enter Tryd.func40, Tryd.ntmps40
      go_wp2_with fail
      go_ret
      exact ⟨by rw [HV.out]; rfl, rfl⟩
    · have HV : Hid (rwB 3 64 = false) := by show _ = _; decide +kernel
      go_enter Tryd.func40, Tryd.ntmps40
      go_wp2_with fail
      go_ret
      exact ⟨by rw [HV.out]; rfl, rfl⟩
    · have HV : Hid (rwB 3 n = false) := by show _ = _; unfold rwB p2; simp [x4, x8, x16, x32, x64]
      have y4 : ((n : Int) == 4) = false := by rw [beq_eq_false_iff_ne]; omega
      have y8 : ((n : Int) == 8) = false := by rw [beq_eq_false_iff_ne]; omega
      have y16 : ((n : Int) == 16) = false := by rw [beq_eq_false_iff_ne]; omega
      have y32 : ((n : Int) == 32) = false := by rw [beq_eq_false_iff_ne]; omega
      have y64 : ((n : Int) == 64) = false := by rw [beq_eq_false_iff_ne]; omega
      clear x4 x8 x16 x32 x64
      go_enter Tryd.func40, Tryd.ntmps40
      go_wp2_with fail
      go_ret
      exact ⟨by rw [HV.out]; rfl, rfl⟩
  · rcases hns with rfl | rfl | rfl | rfl | rfl | ⟨x4, x8, x16, x32, x64⟩
    · have z0 : (k == 0) = false := by rw [beq_eq_false_iff_ne]; omega
      have z1 : (k == 1) = false := by rw [beq_eq_false_iff_ne]; omega
      have z2 : (k == 2) = false := by rw [beq_eq_false_iff_ne]; omega
      have z3 : (k == 3) = false := by rw [beq_eq_false_iff_ne]; omega
      have HV : Hid (rwB k 4 = false) := rwB_other hk 4
      clear hk
      go_enter Tryd.func40, Tryd.ntmps40
      go_wp2_with fail
      go_ret
      exact ⟨by rw [HV.out]; rfl, rfl⟩
    · have z0 : (k == 0) = false := by rw [beq_eq_false_iff_ne]; omega
      have z1 : (k == 1) = false := by rw [beq_eq_false_iff_ne]; omega
      have z2 : (k == 2) = false := by rw [beq_eq_false_iff_ne]; omega
      have z3 : (k == 3) = false := by rw [beq_eq_false_iff_ne]; omega
      have HV : Hid (rwB k 8 = false) := rwB_other hk 8
      clear hk
      go_enter Tryd.func40, Tryd.ntmps40
      go_wp2_with fail
      go_ret
      exact ⟨by rw [HV.out]; rfl, rfl⟩
    · have z0 : (k == 0) = false := by rw [beq_eq_false_iff_ne]; omega
      have z1 : (k == 1) = false := by rw [beq_eq_false_iff_ne]; omega
      have z2 : (k == 2) = false := by rw [beq_eq_false_iff_ne]; omega
      have z3 : (k == 3) = false := by rw [beq_eq_false_iff_ne]; omega
      have HV : Hid (rwB k 16 = false) := rwB_other hk 16
      clear hk
      go_enter Tryd.func40, Tryd.ntmps40
      go_wp2_with fail
      go_ret
      exact ⟨by rw [HV.out]; rfl, rfl⟩
    · have z0 : (k == 0) = false := by rw [beq_eq_false_iff_ne]; omega
      have z1 : (k == 1) = false := by rw [beq_eq_false_iff_ne]; omega
      have z2 : (k == 2) = false := by rw [beq_eq_false_iff_ne]; omega
      have z3 : (k == 3) = false := by rw [beq_eq_false_iff_ne]; omega
      have HV : Hid (rwB k 32 = false) := rwB_other hk 32
      clear hk
      go_enter Tryd.func40, Tryd.ntmps40
      go_wp2_with fail
      go_ret
      exact ⟨by rw [HV.out]; rfl, rfl⟩
    · have z0 : (k == 0) = false := by rw [beq_eq_false_iff_ne]; omega
      have z1 : (k == 1) = false := by rw [beq_eq_false_iff_ne]; omega
      have z2 : (k == 2) = false := by rw [beq_eq_false_iff_ne]; omega
      have z3 : (k == 3) = false := by rw [beq_eq_false_iff_ne]; omega
      have HV : Hid (rwB k 64 = false) := rwB_other hk 64
      clear hk
      go_enter Tryd.func40, Tryd.ntmps40
      go_wp2_with fail
      go_ret
      exact ⟨by rw [HV.out]; rfl, rfl⟩
    · have z0 : (k == 0) = false := by rw [beq_eq_false_iff_ne]; omega
      have z1 : (k == 1) = false := by rw [beq_eq_false_iff_ne]; omega
      have z2 : (k == 2) = false := by rw [beq_eq_false_iff_ne]; omega
      have z3 : (k == 3) = false := by rw [beq_eq_false_iff_ne]; omega
      have HV : Hid (rwB k n = false) := rwB_other hk n
      clear hk
      have y4 : ((n : Int) == 4) = false := by rw [beq_eq_false_iff_ne]; omega
      have y8 : ((n : Int) == 8) = false := by rw [beq_eq_false_iff_ne]; omega
      have y16 : ((n : Int) == 16) = false := by rw [beq_eq_false_iff_ne]; omega
      have y32 : ((n : Int) == 32) = false := by rw [beq_eq_false_iff_ne]; omega
      have y64 : ((n : Int) == 64) = false := by rw [beq_eq_false_iff_ne]; omega
      clear x4 x8 x16 x32 x64
      go_enter Tryd.func40, Tryd.ntmps40
      go_wp2_with fail
      go_ret
      exact ⟨by rw [HV.out]; rfl, rfl⟩

theorem tkB_rw {k : Int} {C : List Int} (h : rwB k C.length = true) (hM : Mst C 1048576) : tkB (kL k) C = true := by
  simp only [rwB, Bool.and_eq_true, decide_eq_true_eq] at h
  exact tkB_mk (p2_low h.1) h.2 h.1 hM
theorem tkB_rw1 {k : Int} {C : List Int} (h : rwB k C.length = false) : tkB (kL k) C = false := by
  refine tkB_no (fun e => ?_)
  have : rwB k C.length = true := by simp only [rwB, Bool.and_eq_true, decide_eq_true_eq]; exact ⟨e.2.2.1, e.2.1⟩
  rw [h] at this; cases this
theorem tkB_rw2 {k : Int} {C : List Int} (h : ¬ Mst C 1048576) : tkB (kL k) C = false := tkB_no (fun e => h e.2.2.2)

set_option maxRecDepth 100000 in
set_option maxHeartbeats 1000000 in
theorem may_any {w : World} {a : Option Addr} {c : Nat} {k : Int} {C : List Int} (hs : Si w a C) (hl : C.length ≤ 140737488355328) :
    Calls Tryd.prog 29 #[.int .i64 k, .slice a C.length c] w fun e w' => e = .returned (.bool (tkB (kL k) C)) ∧ w = w' := by
  cases hr : rwB k C.length with
  | false =>
    rw [tkB_rw1 hr]
    have HR : Hid (rwB k C.length = false) := hr
    clear hr
    go_enter Tryd.func29, Tryd.ntmps29
    go_wp2_with fail
    refine rows_any.mono ?_
    rintro e w' ⟨rfl, rfl⟩
    rw [HR.out]
    go_wp2_with fail
    go_ret
    exact ⟨rfl, rfl⟩
  | true =>
    have HT : Hid (Mst C 1048576 → tkB (kL k) C = true) := tkB_rw hr
    have HN : Hid (¬ Mst C 1048576 → tkB (kL k) C = false) := tkB_rw2
    have HR : Hid (rwB k C.length = true) := hr
    have h0 : 0 < C.length := by
      simp only [rwB, Bool.and_eq_true] at hr
      have := p2_low hr.1
      omega
    obtain ⟨b, o, rfl, hbl, hc⟩ := hs.form h0
    have HC : Hid _ := hc
    clear hr hs hc
    generalize tkB (kL k) C = tk at *
    go_enter Tryd.func29, Tryd.ntmps29
    go_wp2_with fail
    refine rows_any.mono ?_
    rintro e w' ⟨rfl, rfl⟩
    rw [HR.out]
    have hn : (C.length : Int) ≤ 140737488355328 := by omega
    generalize hnn : C.length = n at *
    have HNN : Hid _ := hnn
    clear hnn
    go_wp2_with fail
    go_loop [5] (fun i => ∃ k : Nat, k ≤ n ∧ i = .int .i64 k ∧ Hid (∀ j, j < k → -1048576 ≤ C.getD j 0 ∧ C.getD j 0 ≤ 1048576)) (fun i => n - (intOf i).toNat)
    case atStart => exact ⟨0, by omega, rfl, fun j hj => by omega⟩
    case round =>
      obtain ⟨k, hk, rfl, HK⟩ := hrel
      by_cases hlt : k < n
      · have c0 := HC.out k (by omega)
        have b0 : 0 ≤ (k : Int) := by omega
        have b1 : (k : Int) < (n : Int) := by omega
        generalize hv : C.getD k 0 = v at *
        have HW : Hid (C.getD k 0 = v) := hv
        clear hv
        by_cases v0 : v < -1048576
        · have HF : Hid (tk = false) := HN.out (fun h => by have := h k (by have := HNN.out; omega); rw [HW.out] at this; omega)
          go_wp2_with fail
          go_ret
          exact ⟨by rw [HF.out]; rfl, rfl⟩
        · by_cases v1 : 1048576 < v
          · have HF : Hid (tk = false) := HN.out (fun h => by have := h k (by have := HNN.out; omega); rw [HW.out] at this; omega)
            go_wp2_with fail
            go_ret
            exact ⟨by rw [HF.out]; rfl, rfl⟩
          · go_wp2_with fail
            go_round
            case rel => exact ⟨k + 1, by omega, by go_num, fun j hj => by
              by_cases e : j = k
              · rw [e, HW.out]; omega
              · exact HK.out j (by omega)⟩
            case measure => simp [intOf]; omega
      · have HF : Hid (tk = true) := HT.out (fun j hj => HK.out j (by have := HNN.out; omega))
        go_wp2_with fail
        go_ret
        exact ⟨by rw [HF.out]; rfl, rfl⟩

set_option maxRecDepth 100000 in
set_option maxHeartbeats 2000000 in
theorem weight_any {w : World} {q n k i : Nat} (hq : q < 3) (h0 : 0 < n) (hn : n ≤ 64) (hk : k < n) (hi : i < n) :
    Calls Tryd.prog 42 #[.int .i64 (q : Int), .int .i64 (n : Int), .int .i64 (k : Int), .int .i64 (i : Int)] w fun e w' => e = .returned (.int .i64 (kW (q : Int) n k i)) ∧ Below w.heap.size w w' := by
  have i0 : (0 : Int) ≤ (i : Int) := by omega
  have i1 : (i : Int) ≤ 63 := by omega
  have k1 : (k : Int) ≤ 63 := by omega
  have k2 : (0 : Int) ≤ (k : Int) := by omega
  have n0 : (0 : Int) < (n : Int) := by omega
  have n1 : (n : Int) ≠ 0 := by omega
  have hqs : q = 0 ∨ q = 1 ∨ q = 2 := by omega
  rcases hqs with rfl | rfl | rfl
  · show Calls Tryd.prog 42 #[.int .i64 0, .int .i64 (n : Int), .int .i64 (k : Int), .int .i64 (i : Int)] w fun e w' => e = .returned (.int .i64 (dctW n k i)) ∧ Below w.heap.size w w'
    by_cases hz : k = 0
    · subst hz
      have HD : Hid (dctW n 0 i = cosJ 32) := by show _ = _; rw [cos32]; rfl
      generalize dctW n 0 i = d at *
      go_enter Tryd.func42, Tryd.ntmps42
      go_wp2_with fail
      refine rcos_any.mono ?_
      rintro e w' ⟨rfl, hb⟩
      have HB : Hid _ := hb
      clear hb
      go_wp2_with fail
      go_ret
      exact ⟨by rw [HD.out]; rfl, HB.out⟩
    · have z0 : ((k : Int) == 0) = false := by rw [beq_eq_false_iff_ne]; omega
      have HD : Hid (dctW n k i = cosJ (((2 * i + 1) * k * 64 / n : Nat) : Int)) := by show _ = _; unfold dctW; rw [if_neg hz]
      have p : (2 * i + 1) * k ≤ 127 * 63 := Nat.mul_le_mul (by omega) (by omega)
      have m1 : (2 * (i : Int) + 1) * (k : Int) = (((2 * i + 1) * k : Nat) : Int) := by rw [Int.natCast_mul]; rfl
      have m2 : (0 : Int) ≤ (((2 * i + 1) * k : Nat) : Int) := by omega
      have m3 : (((2 * i + 1) * k : Nat) : Int) ≤ 8001 := by omega
      have m4 : (((2 * i + 1) * k : Nat) : Int) * 64 / (n : Int) = ((((2 * i + 1) * k * 64 / n : Nat)) : Int) := by rw [Int.natCast_ediv, Int.natCast_mul _ 64]; rfl
      generalize dctW n k i = d at *
      generalize ((2 * i + 1) * k * 64 / n : Nat) = qq at *
      generalize (2 * i + 1) * k = m at *
      clear hz p hk hi
      go_enter Tryd.func42, Tryd.ntmps42
      go_wp2_with fail
      refine rcos_any.mono ?_
      rintro e w' ⟨rfl, hb⟩
      have HB : Hid _ := hb
      clear hb
      go_wp2_with fail
      go_ret
      exact ⟨by rw [HD.out]; rfl, HB.out⟩
  · show Calls Tryd.prog 42 #[.int .i64 1, .int .i64 (n : Int), .int .i64 (k : Int), .int .i64 (i : Int)] w fun e w' => e = .returned (.int .i64 (adstW n k i)) ∧ Below w.heap.size w w'
    have HD : Hid (adstW n k i = cosJ (64 - (((2 * i + 1) * (2 * k + 1) * 32 / n : Nat) : Int))) := rfl
    have p : (2 * i + 1) * (2 * k + 1) ≤ 127 * 127 := Nat.mul_le_mul (by omega) (by omega)
    have m1 : (2 * (i : Int) + 1) * (2 * (k : Int) + 1) = (((2 * i + 1) * (2 * k + 1) : Nat) : Int) := by rw [Int.natCast_mul]; rfl
    have m2 : (0 : Int) ≤ (((2 * i + 1) * (2 * k + 1) : Nat) : Int) := by omega
    have m3 : (((2 * i + 1) * (2 * k + 1) : Nat) : Int) ≤ 16129 := by omega
    have m4 : (((2 * i + 1) * (2 * k + 1) : Nat) : Int) * 32 / (n : Int) = ((((2 * i + 1) * (2 * k + 1) * 32 / n : Nat)) : Int) := by rw [Int.natCast_ediv, Int.natCast_mul _ 32]; rfl
    have m5 : (2 * i + 1) * (2 * k + 1) * 32 / n ≤ 16129 * 32 := Nat.le_trans (Nat.div_le_self _ _) (by omega)
    have m6 : ((((2 * i + 1) * (2 * k + 1) * 32 / n : Nat)) : Int) ≤ 516128 := by omega
    have m7 : 0 ≤ ((((2 * i + 1) * (2 * k + 1) * 32 / n : Nat)) : Int) := Int.natCast_nonneg _
    generalize adstW n k i = d at *
    generalize ((2 * i + 1) * (2 * k + 1) * 32 / n : Nat) = qq at *
    generalize (2 * i + 1) * (2 * k + 1) = m at *
    clear p hk hi m5
    go_enter Tryd.func42, Tryd.ntmps42
    go_wp2_with fail
    refine rcos_any.mono ?_
    rintro e w' ⟨rfl, hb⟩
    have HB : Hid _ := hb
    clear hb
    go_wp2_with fail
    go_ret
    exact ⟨by rw [HD.out]; rfl, HB.out⟩
  · show Calls Tryd.prog 42 #[.int .i64 2, .int .i64 (n : Int), .int .i64 (k : Int), .int .i64 (i : Int)] w fun e w' => e = .returned (.int .i64 (idW n k i)) ∧ Below w.heap.size w w'
    have HB : Hid (Below w.heap.size w w) := Below.refl _ _
    by_cases hz : k = i
    · have z0 : ((k : Int) != (i : Int)) = false := by simp [hz]
      have HD : Hid (idW n k i = idV n) := by show _ = _; unfold idW; rw [if_pos hz]
      have HV : Hid (idV n = if n = 4 then 5793 else if n = 8 then 8192 else if n = 16 then 11586 else 16384) := rfl
      clear hz
      by_cases h4 : n = 4
      · subst h4
        go_enter Tryd.func42, Tryd.ntmps42
        go_wp2_with fail
        go_ret
        exact ⟨by rw [HD.out]; rfl, HB.out⟩
      · have y4 : ((n : Int) == 4) = false := by rw [beq_eq_false_iff_ne]; omega
        by_cases h8 : n = 8
        · subst h8
          go_enter Tryd.func42, Tryd.ntmps42
          go_wp2_with fail
          go_ret
          exact ⟨by rw [HD.out]; rfl, HB.out⟩
        · have y8 : ((n : Int) == 8) = false := by rw [beq_eq_false_iff_ne]; omega
          by_cases h16 : n = 16
          · subst h16
            go_enter Tryd.func42, Tryd.ntmps42
            go_wp2_with fail
            go_ret
            exact ⟨by rw [HD.out]; rfl, HB.out⟩
          · have y16 : ((n : Int) == 16) = false := by rw [beq_eq_false_iff_ne]; omega
            have HU : Hid (idV n = 16384) := by show _ = _; rw [HV.out, if_neg h4, if_neg h8, if_neg h16]
            clear h4 h8 h16
            go_enter Tryd.func42, Tryd.ntmps42
            go_wp2_with fail
            go_ret
            exact ⟨by rw [HD.out, HU.out]; rfl, HB.out⟩
    · have z0 : ((k : Int) != (i : Int)) = true := by rw [bne_iff_ne]; omega
      have HD : Hid (idW n k i = 0) := by show _ = _; unfold idW; rw [if_neg hz]
      clear hz
      go_enter Tryd.func42, Tryd.ntmps42
      go_wp2_with fail
      go_ret
      exact ⟨by rw [HD.out]; rfl, HB.out⟩

end Go.Proofs.YtjbipejpegmmoaaDoor
