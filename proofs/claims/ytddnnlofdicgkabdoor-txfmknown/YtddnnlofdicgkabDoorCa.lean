/- DERIVED. The walks of Cos and of what the kinds weigh. -/
import Derived.Test.YtddnnlofdicgkabDoorBb
namespace Go.Proofs.YtddnnlofdicgkabDoor
open Go.RowKit

set_option maxRecDepth 100000 in
set_option maxHeartbeats 1000000 in
theorem cos_any {w : World} {j : Int} (h : Qt w) : Calls Tryd.prog 49 #[.int .i64 j] w fun e w' => e = .returned (.int .i64 (cosJ j)) ∧ w' = w := by
  have hd := and255 j
  have HJ : Hid (cosJ j = cosN (j % 256).toNat) := rfl
  have er : j % 256 = (((j % 256).toNat : Nat) : Int) := by omega
  have hr : (j % 256).toNat < 256 := by omega
  generalize (j % 256).toNat = r at *
  rw [er] at hd
  clear er
  by_cases h1 : r ≤ 128
  · have f1 : ¬ (256 - (r : Int)) < (r : Int) := by omega
    have e1 : min r (256 - r) = r := by omega
    have g0 : 0 ≤ (r : Int) := by omega
    by_cases h2 : r ≤ 64
    · have f2 : ¬ (64 : Int) < (r : Int) := by omega
      have HC : Hid (cosJ j = qv r) := by show _ = _; rw [HJ.out]; unfold cosN; rw [e1, if_neg (by omega)]
      have c0 := h.c r (by omega)
      have g1 : (r : Int) < 65 := by omega
      clear e1
      generalize qv r = q at *
      go_enter Tryd.func49, Tryd.ntmps49
      go_wp2
      go_ret
      exact ⟨by rw [HC.out]; rfl, rfl⟩
    · have f2 : (64 : Int) < (r : Int) := by omega
      have HC : Hid (cosJ j = -qv (128 - r)) := by show _ = _; rw [HJ.out]; unfold cosN; rw [e1, if_pos (by omega)]
      have c0 := h.c (128 - r) (by omega)
      obtain ⟨q0, q1⟩ := qv_le (128 - r) (by omega)
      have k0 : 128 - (r : Int) = ((128 - r : Nat) : Int) := by omega
      have g1 : ((128 - r : Nat) : Int) < 65 := by omega
      have g2 : 0 ≤ ((128 - r : Nat) : Int) := by omega
      clear e1
      generalize qv (128 - r) = q at *
      generalize 128 - r = m at *
      go_enter Tryd.func49, Tryd.ntmps49
      go_wp2
      go_ret
      exact ⟨by rw [HC.out]; rfl, rfl⟩
  · have f1 : (256 - (r : Int)) < (r : Int) := by omega
    have e1 : min r (256 - r) = 256 - r := by omega
    by_cases h2 : 256 - r ≤ 64
    · have f2 : ¬ (64 : Int) < ((256 - r : Nat) : Int) := by omega
      have HC : Hid (cosJ j = qv (256 - r)) := by show _ = _; rw [HJ.out]; unfold cosN; rw [e1, if_neg (by omega)]
      have c0 := h.c (256 - r) (by omega)
      have k0 : 256 - (r : Int) = ((256 - r : Nat) : Int) := by omega
      have g0 : 0 ≤ ((256 - r : Nat) : Int) := by omega
      have g1 : ((256 - r : Nat) : Int) < 65 := by omega
      rw [k0] at f1
      clear e1 h1 h2
      generalize qv (256 - r) = q at *
      generalize 256 - r = m at *
      go_enter Tryd.func49, Tryd.ntmps49
      go_wp2
      go_ret
      exact ⟨by rw [HC.out]; rfl, rfl⟩
    · have f2 : (64 : Int) < ((256 - r : Nat) : Int) := by omega
      have HC : Hid (cosJ j = -qv (128 - (256 - r))) := by show _ = _; rw [HJ.out]; unfold cosN; rw [e1, if_pos (by omega)]
      have c0 := h.c (128 - (256 - r)) (by omega)
      obtain ⟨q0, q1⟩ := qv_le (128 - (256 - r)) (by omega)
      have k0 : 256 - (r : Int) = ((256 - r : Nat) : Int) := by omega
      have k1 : 128 - ((256 - r : Nat) : Int) = ((128 - (256 - r) : Nat) : Int) := by omega
      have g1 : ((128 - (256 - r) : Nat) : Int) < 65 := by omega
      have g2 : 0 ≤ ((128 - (256 - r) : Nat) : Int) := by omega
      rw [k0] at f1
      clear e1 h1 h2
      generalize qv (128 - (256 - r)) = q at *
      generalize 128 - (256 - r) = m at *
      generalize 256 - r = l at *
      go_enter Tryd.func49, Tryd.ntmps49
      go_wp2
      go_ret
      exact ⟨by rw [HC.out]; rfl, rfl⟩

set_option maxRecDepth 100000 in
set_option maxHeartbeats 1000000 in
theorem dct_any {w : World} {n k i : Nat} (h : Qt w) (h0 : 0 < n) (hn : n ≤ 64) (hk : k < n) (hi : i < n) : Calls Tryd.prog 42 #[.int .i64 (n : Int), .int .i64 (k : Int), .int .i64 (i : Int)] w fun e w' => e = .returned (.int .i64 (dctW n k i)) ∧ w' = w := by
  by_cases hz : k = 0
  · subst hz
    have HD : Hid (dctW n 0 i = cosJ 32) := by show _ = _; rw [cos32]; rfl
    generalize dctW n 0 i = d at *
    go_enter Tryd.func42, Tryd.ntmps42
    go_wp2_with (go_at_call 49; refine (cos_any h).mono ?_; rintro e w' ⟨rfl, rfl⟩)
    go_ret
    exact ⟨by rw [HD.out]; rfl, rfl⟩
  · have z0 : ((k : Int) == 0) = false := by rw [beq_eq_false_iff_ne]; omega
    have HD : Hid (dctW n k i = cosJ (((2 * i + 1) * k * 64 / n : Nat) : Int)) := by show _ = _; unfold dctW; rw [if_neg hz]
    have p : (2 * i + 1) * k ≤ 127 * 63 := Nat.mul_le_mul (by omega) (by omega)
    have i0 : (0 : Int) ≤ (i : Int) := by omega
    have i1 : (i : Int) ≤ 63 := by omega
    have k1 : (k : Int) ≤ 63 := by omega
    have k2 : (0 : Int) ≤ (k : Int) := by omega
    have m1 : (2 * (i : Int) + 1) * (k : Int) = (((2 * i + 1) * k : Nat) : Int) := by rw [Int.natCast_mul]; rfl
    have m2 : (0 : Int) ≤ (((2 * i + 1) * k : Nat) : Int) := by omega
    have m3 : (((2 * i + 1) * k : Nat) : Int) ≤ 8001 := by omega
    have n0 : (0 : Int) < (n : Int) := by omega
    have n1 : (n : Int) ≠ 0 := by omega
    have m4 : (((2 * i + 1) * k : Nat) : Int) * 64 / (n : Int) = ((((2 * i + 1) * k * 64 / n : Nat)) : Int) := by rw [Int.natCast_ediv, Int.natCast_mul _ 64]; rfl
    generalize dctW n k i = d at *
    generalize ((2 * i + 1) * k * 64 / n : Nat) = q at *
    generalize (2 * i + 1) * k = m at *
    clear hz p hk hi
    go_enter Tryd.func42, Tryd.ntmps42
    go_wp2_with (go_at_call 49; refine (cos_any h).mono ?_; rintro e w' ⟨rfl, rfl⟩)
    go_ret
    exact ⟨by rw [HD.out]; rfl, rfl⟩

set_option maxRecDepth 100000 in
set_option maxHeartbeats 1000000 in
theorem adst_any {w : World} {n k i : Nat} (h : Qt w) (h0 : 0 < n) (hn : n ≤ 64) (hk : k < n) (hi : i < n) : Calls Tryd.prog 43 #[.int .i64 (n : Int), .int .i64 (k : Int), .int .i64 (i : Int)] w fun e w' => e = .returned (.int .i64 (adstW n k i)) ∧ w' = w := by
  have HD : Hid (adstW n k i = cosJ (64 - (((2 * i + 1) * (2 * k + 1) * 32 / n : Nat) : Int))) := rfl
  have p : (2 * i + 1) * (2 * k + 1) ≤ 127 * 127 := Nat.mul_le_mul (by omega) (by omega)
  have i0 : (0 : Int) ≤ (i : Int) := by omega
  have i1 : (i : Int) ≤ 63 := by omega
  have k1 : (k : Int) ≤ 63 := by omega
  have k2 : (0 : Int) ≤ (k : Int) := by omega
  have m1 : (2 * (i : Int) + 1) * (2 * (k : Int) + 1) = (((2 * i + 1) * (2 * k + 1) : Nat) : Int) := by rw [Int.natCast_mul]; rfl
  have m2 : (0 : Int) ≤ (((2 * i + 1) * (2 * k + 1) : Nat) : Int) := by omega
  have m3 : (((2 * i + 1) * (2 * k + 1) : Nat) : Int) ≤ 16129 := by omega
  have n0 : (0 : Int) < (n : Int) := by omega
  have n1 : (n : Int) ≠ 0 := by omega
  have m4 : (((2 * i + 1) * (2 * k + 1) : Nat) : Int) * 32 / (n : Int) = ((((2 * i + 1) * (2 * k + 1) * 32 / n : Nat)) : Int) := by rw [Int.natCast_ediv, Int.natCast_mul _ 32]; rfl
  have m5 : (2 * i + 1) * (2 * k + 1) * 32 / n ≤ 16129 * 32 := Nat.le_trans (Nat.div_le_self _ _) (by omega)
  have m6 : ((((2 * i + 1) * (2 * k + 1) * 32 / n : Nat)) : Int) ≤ 516128 := by omega
  have m7 : 0 ≤ ((((2 * i + 1) * (2 * k + 1) * 32 / n : Nat)) : Int) := Int.natCast_nonneg _
  generalize adstW n k i = d at *
  generalize ((2 * i + 1) * (2 * k + 1) * 32 / n : Nat) = q at *
  generalize (2 * i + 1) * (2 * k + 1) = m at *
  clear p hk hi m5
  go_enter Tryd.func43, Tryd.ntmps43
  go_wp2_with (go_at_call 49; refine (cos_any h).mono ?_; rintro e w' ⟨rfl, rfl⟩)
  go_ret
  exact ⟨by rw [HD.out]; rfl, rfl⟩

set_option maxRecDepth 100000 in
set_option maxHeartbeats 1000000 in
theorem ident_any {w : World} {n k i : Nat} : Calls Tryd.prog 44 #[.int .i64 (n : Int), .int .i64 (k : Int), .int .i64 (i : Int)] w fun e w' => e = .returned (.int .i64 (idW n k i)) ∧ w' = w := by
  by_cases hz : k = i
  · have z0 : ((k : Int) != (i : Int)) = false := by simp [hz]
    have HD : Hid (idW n k i = idV n) := by show _ = _; unfold idW; rw [if_pos hz]
    have HV : Hid (idV n = if n = 4 then 5793 else if n = 8 then 8192 else if n = 16 then 11586 else 16384) := rfl
    clear hz
    by_cases h4 : n = 4
    · subst h4
      go_enter Tryd.func44, Tryd.ntmps44
      go_wp2
      go_ret
      exact ⟨by rw [HD.out]; rfl, rfl⟩
    · have y4 : ((n : Int) == 4) = false := by rw [beq_eq_false_iff_ne]; omega
      by_cases h8 : n = 8
      · subst h8
        go_enter Tryd.func44, Tryd.ntmps44
        go_wp2
        go_ret
        exact ⟨by rw [HD.out]; rfl, rfl⟩
      · have y8 : ((n : Int) == 8) = false := by rw [beq_eq_false_iff_ne]; omega
        by_cases h16 : n = 16
        · subst h16
          go_enter Tryd.func44, Tryd.ntmps44
          go_wp2
          go_ret
          exact ⟨by rw [HD.out]; rfl, rfl⟩
        · have y16 : ((n : Int) == 16) = false := by rw [beq_eq_false_iff_ne]; omega
          have HU : Hid (idV n = 16384) := by show _ = _; rw [HV.out, if_neg h4, if_neg h8, if_neg h16]
          clear h4 h8 h16
          go_enter Tryd.func44, Tryd.ntmps44
          go_wp2
          go_ret
          exact ⟨by rw [HD.out, HU.out]; rfl, rfl⟩
  · have z0 : ((k : Int) != (i : Int)) = true := by rw [bne_iff_ne]; omega
    have HD : Hid (idW n k i = 0) := by show _ = _; unfold idW; rw [if_neg hz]
    clear hz
    go_enter Tryd.func44, Tryd.ntmps44
    go_wp2
    go_ret
    exact ⟨by rw [HD.out]; rfl, rfl⟩

end Go.Proofs.YtddnnlofdicgkabDoor
