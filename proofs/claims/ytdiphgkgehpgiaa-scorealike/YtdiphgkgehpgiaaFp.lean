/- DERIVED. Plain facts about a ratio. -/
import Derived.Test.YtdiphgkgehpgiaaFo
import Derived.Test.YtdiphgkgehpgiaaPj
namespace Go.Proofs.Ytdiphgkgehpgiaa
open Ieee

/-- the rung of a quotient of two whole numbers -/
def rr (A B : Nat) : Nat := rung ((floatBits .quo .f64 (fi (A : Int)) (fi (B : Int))).getD 0)
theorem rr_zero {A : Nat} (hA0 : A ≠ 0) (hA : A < 2 ^ 53) : floatBits .quo .f64 (fi (A : Int)) (fi ((0 : Nat) : Int)) = some (double.word false inf) := by
  obtain ⟨_, a1, a2⟩ := rnd_whole hA0 hA
  obtain ⟨ak, a3, a4⟩ := pow53 hA0 hA
  rw [quo_bits, read_fi (by omega), read_fi (by omega), a1, rnd_zero, mg_zero]
  simp only [Datum.quotient, if_true, if_neg (show A * 2 ^ (52 - A.log2) ≠ 0 by omega), Bool.xor_self, Option.map_some]
  rfl
theorem rr_some {A B : Nat} (hA0 : A ≠ 0) (hA : A < 2 ^ 53) (hB : B < 2 ^ 53) : floatBits .quo .f64 (fi (A : Int)) (fi (B : Int)) = some (double.word false (rr A B)) ∧ rr A B ≤ inf := by
  by_cases hB0 : B = 0
  · subst hB0
    have := rr_zero hA0 hA
    unfold rr
    rw [this, Option.getD_some, rung_word _ (Nat.le_refl _)]
    exact ⟨rfl, Nat.le_refl _⟩
  · obtain ⟨e, _, _, h⟩ := quo_eq hA0 hA hB0 hB
    unfold rr
    rw [h, Option.getD_some, rung_word _ (Nat.min_le_right _ _)]
    exact ⟨rfl, Nat.min_le_right _ _⟩
theorem rr_inf {A : Nat} (hA0 : A ≠ 0) (hA : A < 2 ^ 53) : rr A 0 = inf := by
  unfold rr
  rw [rr_zero hA0 hA, Option.getD_some, rung_word _ (Nat.le_refl _)]
theorem rr_mono {A B B' : Nat} (hA0 : A ≠ 0) (hA : A < 2 ^ 53) (hB : B < 2 ^ 53) (h : B' ≤ B) : rr A B ≤ rr A B' := by
  by_cases hB0 : B' = 0
  · subst hB0; rw [rr_inf hA0 hA]; exact (rr_some hA0 hA hB).2
  · obtain ⟨e, h1, h2, h3⟩ := quo_eq hA0 hA (B := B) (by omega) hB
    obtain ⟨f, k1, k2, k3⟩ := quo_eq hA0 hA (B := B') hB0 (by omega)
    unfold rr
    rw [h3, k3, Option.getD_some, Option.getD_some, rung_word _ (Nat.min_le_right _ _), rung_word _ (Nat.min_le_right _ _)]
    have := rq_mono (K := 0) (show 0 < B by omega) (show 0 < B' by omega) (Nat.mul_le_mul_left (A * 2 ^ e74) h) h1 h2 k1 k2
    exact Nat.le_min.2 ⟨Nat.le_trans (Nat.min_le_left _ _) this, Nat.min_le_right _ _⟩
theorem rnd_unit {N : Nat} (h0 : N ≠ 0) : rnd N 0 = min (rq (N * 2 ^ e74) 1 (e74 + N.log2) 0) inf := by
  rw [rnd_rq (-1074) (by omega) (Int.le_refl _) h0, show ((0 : Int) - -1074).toNat = e74 from rfl, show ((-1074 : Int) - -1074).toNat = 0 from rfl]
theorem rr_one {A B : Nat} (hA0 : A ≠ 0) (hA : A < 2 ^ 53) (hB0 : B ≠ 0) (h : B ≤ A) : 4607182418800017408 ≤ rr A B ∧ rr A B < inf := by
  obtain ⟨e, h1, h2, h3⟩ := quo_eq hA0 hA (B := B) hB0 (by omega)
  unfold rr
  rw [h3, Option.getD_some, rung_word _ (Nat.min_le_right _ _)]
  constructor
  · have r1 : rnd 1 0 = 4607182418800017408 := by decide +kernel
    rw [← r1, rnd_unit (by omega)]
    have b := rq_bounds (mag := 1) (P := e74) (by omega)
    have := rq_mono (K := 0) (show 0 < 1 by omega) (show 0 < B by omega) (show 1 * 2 ^ e74 * B ≤ A * 2 ^ e74 * 1 by rw [Nat.one_mul, Nat.mul_one, Nat.mul_comm]; exact Nat.mul_le_mul_right _ h) b.1 b.2 h1 h2
    exact Nat.le_min.2 ⟨Nat.le_trans (Nat.min_le_left _ _) this, Nat.min_le_right _ _⟩
  · have hf : rnd A 0 < inf := fi_fin (by omega)
    rw [rnd_unit hA0] at hf
    have b := rq_bounds (mag := A) (P := e74) hA0
    have hBp : 0 < B := by omega
    have := rq_mono (K := 0) hBp (show 0 < 1 by omega) (show A * 2 ^ e74 * 1 ≤ A * 2 ^ e74 * B from Nat.mul_le_mul_left _ hBp) h1 h2 b.1 b.2
    exact Nat.lt_of_le_of_lt (Nat.le_min.2 ⟨Nat.le_trans (Nat.min_le_left _ _) this, Nat.min_le_right _ _⟩) hf
theorem apS_zero {C D : List Nat} : ∀ {k : Nat}, apS C D k = 0 → ∀ j, j < k → C.getD j 0 = D.getD j 0
  | 0, _, j, hj => by omega
  | k + 1, h, j, hj => by
    simp only [apS] at h
    by_cases e : j = k
    · rw [e]; exact sqd_zero (by omega)
    · exact apS_zero (k := k) (by omega) j (by omega)
theorem apS_less {C D E : List Nat} (h : ∀ j, E.getD j 0 = C.getD j 0 ∨ E.getD j 0 = D.getD j 0) : ∀ k, apS E D k ≤ apS C D k
  | 0 => Nat.le_refl _
  | k + 1 => by
    have ih := apS_less h k
    simp only [apS]
    rcases h k with e | e
    · rw [e]; omega
    · rw [e, sqd_self]; omega

end Go.Proofs.Ytdiphgkgehpgiaa
