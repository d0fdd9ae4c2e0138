/- DERIVED. Plain facts: whole numbers below 2 ^ 53 are floats; a quotient of two of them is rounded as the exact one. -/
import Derived.Test.YtdiphgkgehpgiaaFm
namespace Go.Proofs.Ytdiphgkgehpgiaa
open Ieee

theorem pow53 {N : Nat} (h0 : N ≠ 0) (h : N < 2 ^ 53) : N.log2 ≤ 52 ∧ 2 ^ 52 ≤ N * 2 ^ (52 - N.log2) ∧ N * 2 ^ (52 - N.log2) < 2 ^ 53 := by
  obtain ⟨h1, h2⟩ := log2_bounds h0
  have hk : N.log2 ≤ 52 := by
    refine Nat.le_of_not_lt fun hc => ?_
    have : 2 ^ 53 ≤ 2 ^ N.log2 := Nat.pow_le_pow_right (by omega) hc
    omega
  refine ⟨hk, ?_, ?_⟩
  · have := Nat.mul_le_mul_right (2 ^ (52 - N.log2)) h1
    rwa [← Nat.pow_add, show N.log2 + (52 - N.log2) = 52 from by omega] at this
  · have := Nat.mul_lt_mul_of_pos_right h2 (Nat.two_pow_pos (52 - N.log2))
    rwa [← Nat.pow_add, show N.log2 + 1 + (52 - N.log2) = 53 from by omega] at this
theorem rnd_whole {N : Nat} (h0 : N ≠ 0) (h : N < 2 ^ 53) : rnd N 0 = (N.log2 + 1022) * 2 ^ 52 + N * 2 ^ (52 - N.log2) ∧ mg (rnd N 0) = N * 2 ^ (52 - N.log2) ∧ pl (rnd N 0) = N.log2 + 1022 := by
  obtain ⟨hk, h1, h2⟩ := pow53 h0 h
  have e : rnd N 0 = (N.log2 + 1022) * 2 ^ 52 + N * 2 ^ (52 - N.log2) := by
    unfold rnd
    rw [if_neg h0]
    have e3 : max (0 + (N.log2 : Int) - 52) (-1074) = (N.log2 : Int) - 52 := by omega
    rw [e3, show ((N.log2 : Int) - 52 + 1074).toNat = N.log2 + 1022 from by omega, show (0 - ((N.log2 : Int) - 52)).toNat = 52 - N.log2 from by omega, show ((N.log2 : Int) - 52 - 0).toNat = 0 from by omega, Nat.pow_zero, rn_one, Nat.shiftLeft_eq]
    have hle : (N.log2 + 1022) * 2 ^ 52 + N * 2 ^ (52 - N.log2) ≤ 2000 * 2 ^ 52 := by
      generalize N * 2 ^ (52 - N.log2) = M at *
      omega
    have hi : (2000 : Nat) * 2 ^ 52 ≤ inf := by decide +kernel
    exact Nat.min_eq_left (Nat.le_trans hle hi)
  rw [e]
  generalize N * 2 ^ (52 - N.log2) = M at *
  generalize N.log2 = k at *
  refine ⟨rfl, ?_, ?_⟩
  · unfold mg
    rw [if_neg (by omega)]
    omega
  · unfold pl
    omega
def e74 : Nat := 1074
theorem val_whole {N : Nat} (h : N < 2 ^ 53) : val (rnd N 0) = N * 2 ^ e74 := by
  by_cases h0 : N = 0
  · subst h0; rw [rnd_zero, val_zero, Nat.zero_mul]
  · obtain ⟨_, e1, e2⟩ := rnd_whole h0 h
    obtain ⟨hk, _, _⟩ := pow53 h0 h
    unfold val
    rw [e1, e2, Nat.mul_assoc, ← Nat.pow_add, show 52 - N.log2 + (N.log2 + 1022) = e74 from by unfold e74; omega]
/-- a digit that says whether anything is left over rounds as what is left over does -/
theorem rn_sticky {N G T : Nat} (hG : 0 < G) (hT : 0 < T) : rn (2 * (N / G) + (N % G != 0).toNat) (2 * (2 * T)) = rn N (G * (2 * T)) := by
  have e1 : N / (G * (2 * T)) = N / G / (2 * T) := (Nat.div_div_eq_div_mul _ _ _).symm
  have e2 : N % (G * (2 * T)) = N % G + G * (N / G % (2 * T)) := Nat.mod_mul
  have hr := Nat.mod_lt N hG
  generalize hF : N / G = F at *
  generalize hR : N % G = R at *
  have hs : (R != 0).toNat = if R = 0 then 0 else 1 := by by_cases h : R = 0 <;> simp [h]
  rw [hs]
  have e3 : (2 * F + (if R = 0 then 0 else 1)) / (2 * (2 * T)) = F / (2 * T) := by
    rw [← Nat.div_div_eq_div_mul, show (2 * F + (if R = 0 then 0 else 1)) / 2 = F from by split <;> omega]
  have e4 : (2 * F + (if R = 0 then 0 else 1)) % (2 * (2 * T)) = (if R = 0 then 0 else 1) + 2 * (F % (2 * T)) := by
    rw [Nat.mod_mul, show (2 * F + (if R = 0 then 0 else 1)) / 2 = F from by split <;> omega]
    split <;> omega
  unfold rn
  rw [e3, e4, e1, e2]
  generalize F % (2 * T) = f
  generalize F / (2 * T) = q
  have k1 : (2 * (2 * T) < 2 * ((if R = 0 then 0 else 1) + 2 * f)) ↔ (G * (2 * T) < 2 * (R + G * f)) := by
    have a1 : G * (2 * T) = 2 * (G * T) := by ac_rfl
    rw [a1]
    constructor
    · intro h
      rcases Nat.lt_or_ge T f with hl | hl
      · have : G * (T + 1) ≤ G * f := Nat.mul_le_mul_left G hl
        rw [Nat.mul_add] at this
        omega
      · have hTf : f = T := by split at h <;> omega
        have : R ≠ 0 := by intro e; rw [if_pos e] at h; omega
        rw [hTf]
        omega
    · intro h
      rcases Nat.lt_or_ge f T with hl | hl
      · exfalso
        have : G * (f + 1) ≤ G * T := Nat.mul_le_mul_left G hl
        rw [Nat.mul_add] at this
        omega
      · by_cases e : f = T
        · subst e
          have : R ≠ 0 := by intro e; subst e; omega
          rw [if_neg this]; omega
        · split <;> omega
  have k2 : (2 * (2 * T) = 2 * ((if R = 0 then 0 else 1) + 2 * f)) ↔ (G * (2 * T) = 2 * (R + G * f)) := by
    have a1 : G * (2 * T) = 2 * (G * T) := by ac_rfl
    rw [a1]
    constructor
    · intro h
      have e0 : R = 0 := by
        by_cases e : R = 0
        · exact e
        · rw [if_neg e] at h; omega
      rw [if_pos e0] at h
      have : f = T := by omega
      rw [e0, this]; omega
    · intro h
      have hfT : f = T := by
        rcases Nat.lt_trichotomy f T with hl | hl | hl
        · exfalso
          have : G * (f + 1) ≤ G * T := Nat.mul_le_mul_left G hl
          rw [Nat.mul_add] at this
          omega
        · exact hl
        · exfalso
          have : G * (T + 1) ≤ G * f := Nat.mul_le_mul_left G hl
          rw [Nat.mul_add] at this
          omega
      subst hfT
      have : R = 0 := by omega
      rw [if_pos this]; omega
  simp only [k1, k2]

theorem log2_53 {M : Nat} (h1 : 2 ^ 52 ≤ M) (h2 : M < 2 ^ 53) : M.log2 = 52 := (Nat.log2_eq_iff (by omega)).2 ⟨h1, h2⟩
theorem frac54 : double.fractionBits + 2 = 54 := rfl
theorem quo_bits (x y : Nat) : floatBits .quo .f64 x y = ((double.read x).quotient 54 (double.read y)).map double.write := by rw [← frac54]; rfl
theorem quo_datum {m n : Nat} {i j : Int} (hm : m.log2 = 52) (hn : n.log2 = 52) (hn0 : n ≠ 0) : (Datum.number false m i).quotient 54 (.number false n j) = some (.number false (2 * (m * 2 ^ 54 / n) + (m * 2 ^ 54 % n != 0).toNat) (i - j - ((54 : Nat) : Int) - 1)) := by
  simp only [Datum.quotient, if_neg hn0, Bool.xor_self]
  rw [hm, hn, Nat.shiftLeft_eq, Nat.add_sub_cancel]

theorem rn_same {n g m h : Nat} (hg : 0 < g) (hh : 0 < h) (k : n * h = m * g) : rn n g = rn m h := Nat.le_antisymm (rn_mono hg hh (Nat.le_of_eq k)) (rn_mono hh hg (Nat.le_of_eq k.symm))
/-- the digits of a quotient -/
theorem quo_digits {m n F s : Nat} (hm1 : 2 ^ 52 ≤ m) (hm2 : m < 2 ^ 53) (hn1 : 2 ^ 52 ≤ n) (hn2 : n < 2 ^ 53) (hF : F = m * 2 ^ 54 / n) (hs1 : 2 * F ≤ s) (hs2 : s ≤ 2 * F + 1) : 54 ≤ s.log2 ∧ 2 ^ s.log2 * n ≤ m * 2 ^ 55 ∧ m * 2 ^ 55 < 2 ^ (s.log2 + 1) * n := by
  have hn0 : 0 < n := by omega
  have f1 : 2 ^ 53 ≤ F := by rw [hF]; exact (Nat.le_div_iff_mul_le hn0).2 (by omega)
  have hs0 : s ≠ 0 := by omega
  obtain ⟨l1, l2⟩ := log2_bounds hs0
  have l3 : 54 ≤ s.log2 := by
    refine Nat.le_of_not_lt fun hc => ?_
    have : 2 ^ (s.log2 + 1) ≤ 2 ^ 54 := Nat.pow_le_pow_right (by omega) hc
    omega
  have hrem := Nat.div_add_mod (m * 2 ^ 54) n
  have hmod := Nat.mod_lt (m * 2 ^ 54) hn0
  rw [← hF] at hrem
  obtain ⟨L, hL⟩ : ∃ L, s.log2 = L + 1 := ⟨s.log2 - 1, by omega⟩
  rw [hL] at l1 l2 ⊢
  rw [Nat.pow_succ] at l1
  have hp : 2 ^ (L + 1 + 1) = 2 ^ L * 4 := by rw [Nat.pow_succ, Nat.pow_succ]; omega
  rw [hp] at l2 ⊢
  rw [Nat.pow_succ]
  generalize 2 ^ L = T at *
  have k1 : T ≤ F := by omega
  have k2 : F + 1 ≤ 2 * T := by omega
  have k3 : n * T ≤ n * F := Nat.mul_le_mul_left n k1
  have k4 : n * (F + 1) ≤ n * (2 * T) := Nat.mul_le_mul_left n k2
  rw [Nat.mul_add] at k4
  have k5 : n * (2 * T) = 2 * (n * T) := by ac_rfl
  have k6 : T * 2 * n = 2 * (n * T) := by ac_rfl
  have k7 : T * 4 * n = 4 * (n * T) := by ac_rfl
  rw [k5] at k4
  rw [k6, k7]
  refine ⟨by omega, by omega, by omega⟩
theorem quo_rnd {m n i j A B F s k : Nat} (hk : k = 1074) (hm1 : 2 ^ 52 ≤ m) (hm2 : m < 2 ^ 53) (hn1 : 2 ^ 52 ≤ n) (hn2 : n < 2 ^ 53) (hF : F = m * 2 ^ 54 / n) (hs : s = 2 * F + (m * 2 ^ 54 % n != 0).toNat) (hij : j + 55 ≤ i + k) (hA : m * 2 ^ i = A * 2 ^ k) (hB : n * 2 ^ j = B * 2 ^ k) :
    ∃ e, 2 ^ e * B ≤ A * 2 ^ k ∧ A * 2 ^ k < 2 ^ (e + 1) * B ∧ rnd s ((i : Int) - (j : Int) - ((54 : Nat) : Int) - 1) = min (rq (A * 2 ^ k) B e 0) inf := by
  have hst : (m * 2 ^ 54 % n != 0).toNat ≤ 1 := by cases (m * 2 ^ 54 % n != 0) <;> simp
  obtain ⟨l3, d1, d2⟩ := quo_digits hm1 hm2 hn1 hn2 hF (s := s) (by omega) (by omega)
  have hn0 : 0 < n := by omega
  have hB0 : 0 < B := by
    rcases Nat.eq_zero_or_pos B with h | h
    · rw [h, Nat.zero_mul] at hB
      have := Nat.mul_pos hn0 (Nat.two_pow_pos j)
      omega
    · exact h
  have hs0 : s ≠ 0 := by rintro rfl; simp [Nat.log2_zero] at l3
  obtain ⟨P, hP⟩ : ∃ P : Nat, P + 55 + j = i + k := ⟨i + k - j - 55, by omega⟩
  have hpow : 0 < 2 ^ k := Nat.two_pow_pos _
  refine ⟨P + s.log2, ?_, ?_, ?_⟩
  · refine Nat.le_of_mul_le_mul_right ?_ hpow
    rw [Nat.mul_assoc, ← hB, ← hA, show 2 ^ (P + s.log2) * (n * 2 ^ j) = 2 ^ s.log2 * n * (2 ^ P * 2 ^ j) from by rw [Nat.pow_add]; ac_rfl, Nat.mul_assoc m, ← Nat.pow_add 2 i, ← hP, show P + 55 + j = 55 + (P + j) from by omega, Nat.pow_add 2 55, ← Nat.mul_assoc m, ← Nat.pow_add 2 P]
    exact Nat.mul_le_mul_right _ d1
  · refine Nat.lt_of_mul_lt_mul_right (a := 2 ^ k) ?_
    rw [← hA, Nat.mul_assoc, ← Nat.pow_add, ← hP, Nat.mul_assoc (2 ^ (P + s.log2 + 1)), ← hB, show 2 ^ (P + s.log2 + 1) * (n * 2 ^ j) = 2 ^ (s.log2 + 1) * n * (2 ^ P * 2 ^ j) from by rw [show P + s.log2 + 1 = P + (s.log2 + 1) from by omega, Nat.pow_add]; ac_rfl, show P + 55 + j = 55 + (P + j) from by omega, Nat.pow_add 2 55, ← Nat.mul_assoc m, ← Nat.pow_add 2 P]
    exact Nat.mul_lt_mul_of_pos_right d2 (Nat.two_pow_pos _)
  · have hb : (i : Int) - (j : Int) - ((54 : Nat) : Int) - 1 = (P : Int) - 1074 := by omega
    rw [hb, rnd_rq (-1074) (by omega) (Int.le_refl _) hs0, show ((P : Int) - 1074 - -1074).toNat = P from by omega, show ((-1074 : Int) - -1074).toNat = 0 from rfl]
    congr 1
    unfold rq
    rw [Nat.max_eq_left (Nat.zero_le _)]
    congr 1
    obtain ⟨t, ht⟩ : ∃ t, s.log2 = 54 + t := ⟨s.log2 - 54, by omega⟩
    rw [show P + s.log2 - 52 = P + (t + 2) from by omega, Nat.one_mul]
    have q1 : rn (s * 2 ^ P) (2 ^ (P + (t + 2))) = rn s (2 ^ (t + 2)) := by rw [Nat.add_comm P, Nat.pow_add]; exact rn_scale (Nat.two_pow_pos _) (Nat.two_pow_pos _)
    have q2 : rn s (2 ^ (t + 2)) = rn (m * 2 ^ 54) (n * (2 * 2 ^ t)) := by
      have := rn_sticky (N := m * 2 ^ 54) (G := n) (T := 2 ^ t) hn0 (Nat.two_pow_pos _)
      rw [← hF, ← hs] at this
      rw [← this, show 2 ^ (t + 2) = 2 * (2 * 2 ^ t) from by rw [Nat.pow_add]; omega]
    rw [q1, q2]
    refine rn_same (Nat.mul_pos hn0 (Nat.mul_pos (by omega) (Nat.two_pow_pos _))) (Nat.mul_pos hB0 (Nat.two_pow_pos _)) ?_
    refine Nat.eq_of_mul_eq_mul_right hpow ?_
    rw [← hA]
    rw [show m * 2 ^ 54 * (B * 2 ^ (P + (t + 2))) * 2 ^ k = m * 2 ^ 54 * 2 ^ (P + (t + 2)) * (B * 2 ^ k) from by ac_rfl, ← hB]
    rw [show m * 2 ^ 54 * 2 ^ (P + (t + 2)) * (n * 2 ^ j) = m * n * (2 ^ 54 * 2 ^ (P + (t + 2)) * 2 ^ j) from by ac_rfl, show m * 2 ^ i * (n * (2 * 2 ^ t)) * 2 ^ k = m * n * (2 ^ i * 2 ^ k * (2 ^ 1 * 2 ^ t)) from by rw [Nat.pow_one]; ac_rfl, ← Nat.pow_add, ← Nat.pow_add, ← Nat.pow_add, ← Nat.pow_add, ← Nat.pow_add, show 54 + (P + (t + 2)) + j = i + k + (1 + t) from by omega]

/-- the rung of a quotient of two whole numbers -/
theorem quo_eq {A B : Nat} (hA0 : A ≠ 0) (hA : A < 2 ^ 53) (hB0 : B ≠ 0) (hB : B < 2 ^ 53) : ∃ e, 2 ^ e * B ≤ A * 2 ^ e74 ∧ A * 2 ^ e74 < 2 ^ (e + 1) * B ∧ floatBits .quo .f64 (fi (A : Int)) (fi (B : Int)) = some (double.word false (min (rq (A * 2 ^ e74) B e 0) inf)) := by
  obtain ⟨_, a1, a2⟩ := rnd_whole hA0 hA
  obtain ⟨ak, a3, a4⟩ := pow53 hA0 hA
  obtain ⟨_, b1, b2⟩ := rnd_whole hB0 hB
  obtain ⟨bk, b3, b4⟩ := pow53 hB0 hB
  have vA : A * 2 ^ (52 - A.log2) * 2 ^ (A.log2 + 1022) = A * 2 ^ e74 := by have := val_whole hA; unfold val at this; rwa [a1, a2] at this
  have vB : B * 2 ^ (52 - B.log2) * 2 ^ (B.log2 + 1022) = B * 2 ^ e74 := by have := val_whole hB; unfold val at this; rwa [b1, b2] at this
  obtain ⟨e, h1, h2, h3⟩ := quo_rnd (k := e74) (i := A.log2 + 1022) (j := B.log2 + 1022) rfl a3 a4 b3 b4 rfl rfl (by unfold e74; omega) vA vB
  refine ⟨e, h1, h2, ?_⟩
  rw [← h3, quo_bits, read_fi (by omega), read_fi (by omega), a1, a2, b1, b2, quo_datum (log2_53 a3 a4) (log2_53 b3 b4) (by omega), Option.map_some]
  show some (double.nearest _ _ _) = _
  rw [nearest_eq, show -1074 + ((A.log2 + 1022 : Nat) : Int) - (-1074 + ((B.log2 + 1022 : Nat) : Int)) - ((54 : Nat) : Int) - 1 = ((A.log2 + 1022 : Nat) : Int) - ((B.log2 + 1022 : Nat) : Int) - ((54 : Nat) : Int) - 1 from by omega]

end Go.Proofs.Ytdiphgkgehpgiaa
