/- DERIVED. The walks of the document's Rows, May and weight. -/
import Derived.Test.YtddnnlofdicgkaaDoorFa
namespace Go.Proofs.YtddnnlofdicgkaaDoor
open Go.RowKit

/-- has a kind such rows? -/
def rwB (k : Int) (n : Nat) : Bool := p2 n && decide (n ≤ kL k)
theorem rwB_other {k : Int} (h : k < 0 ∨ 3 < k) (n : Nat) : rwB k n = false := by
  have : kL k = 0 := by unfold kL; rw [if_neg (by omega), if_neg (by omega), if_neg (by omega), if_neg (by omega)]
  unfold rwB p2
  rw [this]
  by_cases e : n ≤ 0
  · have : n = 0 := by omega
    subst this; rfl
  · simp [e]
theorem p2_low {n : Nat} (h : p2 n = true) : 4 ≤ n := by
  simp only [p2, Bool.or_eq_true, beq_iff_eq] at h
  omega

set_option maxRecDepth 100000 in
set_option maxHeartbeats 4000000 in
theorem tkB_rw {k : Int} {C : List Int} (h : rwB k C.length = true) (hM : Mst C 1048576) : tkB (kL k) C = true := by
  simp only [rwB, Bool.and_eq_true, decide_eq_true_eq] at h
  exact tkB_mk (p2_low h.1) h.2 h.1 hM
theorem tkB_rw1 {k : Int} {C : List Int} (h : rwB k C.length = false) : tkB (kL k) C = false := by
  refine tkB_no (fun e => ?_)
  have : rwB k C.length = true := by simp only [rwB, Bool.and_eq_true, decide_eq_true_eq]; exact ⟨e.2.2.1, e.2.1⟩
  rw [h] at this; cases this
theorem tkB_rw2 {k : Int} {C : List Int} (h : ¬ Mst C 1048576) : tkB (kL k) C = false := tkB_no (fun e => h e.2.2.2)

set_option maxRecDepth 100000 in
set_option maxHeartbeats 1000000 in
set_option maxRecDepth 100000 in
set_option maxHeartbeats 2000000 in
theorem weight_any {w : World} {q n k i : Nat} (hq : q < 3) (h0 : 0 < n) (hn : n ≤ 64) (hk : k < n) (hi : i < n) :
    Calls Tryd.prog 58 #[.int .i64 (q : Int), .int .i64 (n : Int), .int .i64 (k : Int), .int .i64 (i : Int)] w fun e w' => e = .returned (.int .i64 (kW (q : Int) n k i)) ∧ Below w.heap.size w w' := by
  have i0 : (0 : Int) ≤ (i : Int) := by omega
  have i1 : (i : Int) ≤ 63 := by omega
  have k1 : (k : Int) ≤ 63 := by omega
  have k2 : (0 : Int) ≤ (k : Int) := by omega
  have n0 : (0 : Int) < (n : Int) := by omega
  have n1 : (n : Int) ≠ 0 := by omega
  have hqs : q = 0 ∨ q = 1 ∨ q = 2 := by omega
  rcases hqs with rfl | rfl | rfl
  · show Calls Tryd.prog 58 #[.int .i64 0, .int .i64 (n : Int), .int .i64 (k : Int), .int .i64 (i : Int)] w fun e w' => e = .returned (.int .i64 (dctW n k i)) ∧ Below w.heap.size w w'
    by_cases hz : k = 0
    · subst hz
      have HD : Hid (dctW n 0 i = cosJ 32) := by show _ = _; rw [cos32]; rfl
      generalize dctW n 0 i = d at *
      go_enter Tryd.func58, Tryd.ntmps58
      go_wp2_with fail
      refine rcos_any.mono ?_
      rintro e w' ⟨rfl, hb⟩
      have HB : Hid _ := hb
      clear hb
      go_wp2_with fail
      go_ret
      exact ⟨by rw [HD.out]; rfl, HB.out⟩
    · have z0 : ((k : Int) == 0) = false := by rw [beq_eq_false_iff_ne]; omega
      have HD : Hid (dctW n k i = cosJ (((2 * i + 1) * k * 64 / n : Nat) : Int)) := by show _ = _; unfold dctW; rw [if_neg hz]
      have p : (2 * i + 1) * k ≤ 127 * 63 := Nat.mul_le_mul (by omega) (by omega)
      have m1 : (2 * (i : Int) + 1) * (k : Int) = (((2 * i + 1) * k : Nat) : Int) := by rw [Int.natCast_mul]; rfl
      have m2 : (0 : Int) ≤ (((2 * i + 1) * k : Nat) : Int) := by omega
      have m3 : (((2 * i + 1) * k : Nat) : Int) ≤ 8001 := by omega
      have m4 : (((2 * i + 1) * k : Nat) : Int) * 64 / (n : Int) = ((((2 * i + 1) * k * 64 / n : Nat)) : Int) := by rw [Int.natCast_ediv, Int.natCast_mul _ 64]; rfl
      generalize dctW n k i = d at *
      generalize ((2 * i + 1) * k * 64 / n : Nat) = qq at *
      generalize (2 * i + 1) * k = m at *
      clear hz p hk hi
      go_enter Tryd.func58, Tryd.ntmps58
      go_wp2_with fail
      refine rcos_any.mono ?_
      rintro e w' ⟨rfl, hb⟩
      have HB : Hid _ := hb
      clear hb
      go_wp2_with fail
      go_ret
      exact ⟨by rw [HD.out]; rfl, HB.out⟩
  · show Calls Tryd.prog 58 #[.int .i64 1, .int .i64 (n : Int), .int .i64 (k : Int), .int .i64 (i : Int)] w fun e w' => e = .returned (.int .i64 (adstW n k i)) ∧ Below w.heap.size w w'
    have HD : Hid (adstW n k i = cosJ (64 - (((2 * i + 1) * (2 * k + 1) * 32 / n : Nat) : Int))) := rfl
    have p : (2 * i + 1) * (2 * k + 1) ≤ 127 * 127 := Nat.mul_le_mul (by omega) (by omega)
    have m1 : (2 * (i : Int) + 1) * (2 * (k : Int) + 1) = (((2 * i + 1) * (2 * k + 1) : Nat) : Int) := by rw [Int.natCast_mul]; rfl
    have m2 : (0 : Int) ≤ (((2 * i + 1) * (2 * k + 1) : Nat) : Int) := by omega
    have m3 : (((2 * i + 1) * (2 * k + 1) : Nat) : Int) ≤ 16129 := by omega
    have m4 : (((2 * i + 1) * (2 * k + 1) : Nat) : Int) * 32 / (n : Int) = ((((2 * i + 1) * (2 * k + 1) * 32 / n : Nat)) : Int) := by rw [Int.natCast_ediv, Int.natCast_mul _ 32]; rfl
    have m5 : (2 * i + 1) * (2 * k + 1) * 32 / n ≤ 16129 * 32 := Nat.le_trans (Nat.div_le_self _ _) (by omega)
    have m6 : ((((2 * i + 1) * (2 * k + 1) * 32 / n : Nat)) : Int) ≤ 516128 := by omega
    have m7 : 0 ≤ ((((2 * i + 1) * (2 * k + 1) * 32 / n : Nat)) : Int) := Int.natCast_nonneg _
    generalize adstW n k i = d at *
    generalize ((2 * i + 1) * (2 * k + 1) * 32 / n : Nat) = qq at *
    generalize (2 * i + 1) * (2 * k + 1) = m at *
    clear p hk hi m5
    go_enter Tryd.func58, Tryd.ntmps58
    go_wp2_with fail
    refine rcos_any.mono ?_
    rintro e w' ⟨rfl, hb⟩
    have HB : Hid _ := hb
    clear hb
    go_wp2_with fail
    go_ret
    exact ⟨by rw [HD.out]; rfl, HB.out⟩
  · show Calls Tryd.prog 58 #[.int .i64 2, .int .i64 (n : Int), .int .i64 (k : Int), .int .i64 (i : Int)] w fun e w' => e = .returned (.int .i64 (idW n k i)) ∧ Below w.heap.size w w'
    have HB : Hid (Below w.heap.size w w) := Below.refl _ _
    by_cases hz : k = i
    · have z0 : ((k : Int) != (i : Int)) = false := by simp [hz]
      have HD : Hid (idW n k i = idV n) := by show _ = _; unfold idW; rw [if_pos hz]
      have HV : Hid (idV n = if n = 4 then 5793 else if n = 8 then 8192 else if n = 16 then 11586 else 16384) := rfl
      clear hz
      by_cases h4 : n = 4
      · subst h4
        go_enter Tryd.func58, Tryd.ntmps58
        go_wp2_with fail
        go_ret
        exact ⟨by rw [HD.out]; rfl, HB.out⟩
      · have y4 : ((n : Int) == 4) = false := by rw [beq_eq_false_iff_ne]; omega
        by_cases h8 : n = 8
        · subst h8
          go_enter Tryd.func58, Tryd.ntmps58
          go_wp2_with fail
          go_ret
          exact ⟨by rw [HD.out]; rfl, HB.out⟩
        · have y8 : ((n : Int) == 8) = false := by rw [beq_eq_false_iff_ne]; omega
          by_cases h16 : n = 16
          · subst h16
            go_enter Tryd.func58, Tryd.ntmps58
            go_wp2_with fail
            go_ret
            exact ⟨by rw [HD.out]; rfl, HB.out⟩
          · have y16 : ((n : Int) == 16) = false := by rw [beq_eq_false_iff_ne]; omega
            have HU : Hid (idV n = 16384) := by show _ = _; rw [HV.out, if_neg h4, if_neg h8, if_neg h16]
            clear h4 h8 h16
            go_enter Tryd.func58, Tryd.ntmps58
            go_wp2_with fail
            go_ret
            exact ⟨by rw [HD.out, HU.out]; rfl, HB.out⟩
    · have z0 : ((k : Int) != (i : Int)) = true := by rw [bne_iff_ne]; omega
      have HD : Hid (idW n k i = 0) := by show _ = _; unfold idW; rw [if_neg hz]
      clear hz
      go_enter Tryd.func58, Tryd.ntmps58
      go_wp2_with fail
      go_ret
      exact ⟨by rw [HD.out]; rfl, HB.out⟩

end Go.Proofs.YtddnnlofdicgkaaDoor
