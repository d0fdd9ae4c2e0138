/- DERIVED. Plain facts: sums of whole numbers are exact; a mean lies in the middle. -/
import Derived.Test.YtdiphgkgehpgiabFo
import Derived.Test.YtdiphgkgehpgiabFi
namespace Go.Proofs.Ytdiphgkgehpgiab
open Ieee

theorem fi_int (n : Int) : fi n = double.word (decide (n < 0)) (rnd n.natAbs 0) := by
  show double.write (.number (decide (n < 0)) n.natAbs 0) = _
  exact nearest_eq _ _ _
theorem rung_int (n : Int) : rung (fi n) = rnd n.natAbs 0 := by rw [fi_int, rung_word _ (rnd_le _ _)]
theorem sgn_int (n : Int) : sgn (fi n) = decide (n < 0) := by rw [fi_int, sgn_word _ (rnd_le _ _)]
theorem read_int {n : Int} (h : n.natAbs < 2 ^ 53) : double.read (fi n) = .number (decide (n < 0)) (mg (rnd n.natAbs 0)) (-1074 + (pl (rnd n.natAbs 0) : Nat)) := by
  rw [read_num (by rw [rung_int]; exact fi_fin (by omega)), rung_int, sgn_int]
theorem signed_int {n : Int} (h : n.natAbs < 2 ^ 53) : signed (decide (n < 0)) (mg (rnd n.natAbs 0)) (pl (rnd n.natAbs 0)) = n * ((2 ^ e74 : Nat) : Int) := by
  rw [signed_eq]
  have e := val_whole h
  unfold val at e
  rw [e]
  by_cases hn : n < 0
  · rw [decide_eq_true hn, if_pos rfl, Int.natCast_mul, show ((n.natAbs : Nat) : Int) = -n from by omega, Int.neg_mul, Int.neg_neg]
  · rw [decide_eq_false hn, if_neg (by simp), Int.natCast_mul, show ((n.natAbs : Nat) : Int) = n from by omega]
theorem natAbs_scale {t n : Int} {p q : Nat} (h : t * (p : Int) = n * (q : Int)) : t.natAbs * p = n.natAbs * q := by
  have := congrArg Int.natAbs h
  rwa [Int.natAbs_mul, Int.natAbs_mul, Int.natAbs_natCast, Int.natAbs_natCast] at this
theorem sign_scale {t n : Int} {p q : Int} (hp : 0 < p) (hq : 0 < q) (h : t * p = n * q) : (t = 0 ↔ n = 0) ∧ (t < 0 ↔ n < 0) := by
  have z1 : t = 0 → n = 0 := fun e => by
    rw [e, Int.zero_mul] at h
    rcases Int.mul_eq_zero.1 h.symm with h | h <;> omega
  have z2 : n = 0 → t = 0 := fun e => by
    rw [e, Int.zero_mul] at h
    rcases Int.mul_eq_zero.1 h with h | h <;> omega
  refine ⟨⟨z1, z2⟩, ?_, ?_⟩
  · intro ht
    have : t * p < 0 := Int.mul_neg_of_neg_of_pos ht hp
    refine Int.not_le.1 fun hn => ?_
    have := Int.mul_nonneg hn (Int.le_of_lt hq)
    omega
  · intro hn
    have : n * q < 0 := Int.mul_neg_of_neg_of_pos hn hq
    refine Int.not_le.1 fun ht => ?_
    have := Int.mul_nonneg ht (Int.le_of_lt hp)
    omega
/-- sums are exact -/
theorem add_int {a b : Int} (ha : a.natAbs < 2 ^ 53) (hb : b.natAbs < 2 ^ 53) : floatBits .add .f64 (fi a) (fi b) = some (fi (a + b)) := by
  show ((double.read (fi a)).sum (double.read (fi b))).map double.write = _
  have sa := signed_int ha
  have sb := signed_int hb
  rw [read_int ha, read_int hb, fi_int]
  simp only [Datum.sum, Option.map_some]
  generalize mg (rnd a.natAbs 0) = m at *
  generalize mg (rnd b.natAbs 0) = n at *
  generalize pl (rnd a.natAbs 0) = i at *
  generalize pl (rnd b.natAbs 0) = j at *
  have t1 : (-1074 + (i : Int) - min (-1074 + (i : Int)) (-1074 + (j : Int))).toNat = i - min i j := by omega
  have t2 : (-1074 + (j : Int) - min (-1074 + (i : Int)) (-1074 + (j : Int))).toNat = j - min i j := by omega
  rw [t1, t2]
  have t3 : (signed (decide (a < 0)) m (i - min i j) + signed (decide (b < 0)) n (j - min i j)) * ((2 ^ min i j : Nat) : Int) = (a + b) * ((2 ^ e74 : Nat) : Int) := by
    rw [Int.add_mul, signed_scale, signed_scale, show i - min i j + min i j = i from by omega, show j - min i j + min i j = j from by omega, sa, sb, Int.add_mul]
  generalize signed (decide (a < 0)) m (i - min i j) + signed (decide (b < 0)) n (j - min i j) = t at *
  have hp : (0 : Int) < ((2 ^ min i j : Nat) : Int) := by have := Nat.two_pow_pos (min i j); omega
  have hq : (0 : Int) < ((2 ^ e74 : Nat) : Int) := by have := Nat.two_pow_pos e74; omega
  obtain ⟨z1, z2⟩ := sign_scale hp hq t3
  have hs : (if t = 0 then (decide (a < 0) && decide (b < 0)) else decide (t < 0)) = decide (a + b < 0) := by
    by_cases h0 : t = 0
    · rw [if_pos h0]
      have := z1.1 h0
      rw [decide_eq_false (show ¬ a + b < 0 by omega)]
      by_cases h1 : a < 0
      · rw [decide_eq_true h1, decide_eq_false (show ¬ b < 0 by omega)]; rfl
      · rw [decide_eq_false h1]; rfl
    · rw [if_neg h0]
      by_cases h1 : t < 0
      · rw [decide_eq_true h1, decide_eq_true (z2.1 h1)]
      · rw [decide_eq_false h1, decide_eq_false (fun k => h1 (z2.2 k))]
  rw [hs]
  show some (double.nearest _ _ _) = _
  rw [nearest_eq]
  congr 2
  refine rnd_same (-1074) (by omega) (by omega) (by omega) ?_
  rw [show (min (-1074 + (i : Int)) (-1074 + (j : Int)) - -1074).toNat = min i j from by omega, show ((0 : Int) - -1074).toNat = e74 from rfl]
  exact natAbs_scale t3

theorem rnd_unit {N : Nat} (h0 : N ≠ 0) : rnd N 0 = min (rq (N * 2 ^ e74) 1 (e74 + N.log2) 0) inf := by
  rw [rnd_rq (-1074) (by omega) (Int.le_refl _) h0, show ((0 : Int) - -1074).toNat = e74 from rfl, show ((-1074 : Int) - -1074).toNat = 0 from rfl]
/-- the rung of a quotient of whole numbers, 0 too -/
def rz (A B : Nat) : Nat := if A = 0 then 0 else rung ((floatBits .quo .f64 (fi (A : Int)) (fi (B : Int))).getD 0)
theorem quo_int {S : Int} {m : Nat} (hS : S.natAbs < 2 ^ 53) (hm0 : m ≠ 0) (hm : m < 2 ^ 53) : floatBits .quo .f64 (fi S) (fi (m : Int)) = some (double.word (decide (S < 0)) (rz S.natAbs m)) ∧ rz S.natAbs m ≤ inf := by
  obtain ⟨_, b1, b2⟩ := rnd_whole hm0 hm
  obtain ⟨bk, b3, b4⟩ := pow53 hm0 hm
  by_cases h0 : S.natAbs = 0
  · have hS0 : S = 0 := by omega
    subst hS0
    unfold rz
    rw [if_pos h0, quo_bits, read_int (by decide), read_fi (by omega), b1]
    have e1 : rnd (Int.natAbs 0) 0 = 0 := rnd_zero _
    have hn0 : m * 2 ^ (52 - m.log2) ≠ 0 := by omega
    rw [e1, mg_zero]
    refine ⟨?_, Nat.zero_le _⟩
    simp only [Datum.quotient, if_neg hn0, Option.map_some, Nat.zero_shiftLeft, Nat.zero_div, Nat.zero_mod]
    show some (double.nearest _ 0 _) = _
    rw [nearest_eq, rnd_zero]
    rfl
  · obtain ⟨e, _, _, h⟩ := quo_eq (A := S.natAbs) (B := m) h0 hS hm0 hm
    unfold rz
    rw [if_neg h0, h, Option.getD_some, rung_word _ (Nat.min_le_right _ _)]
    refine ⟨?_, Nat.min_le_right _ _⟩
    obtain ⟨_, a1, a2⟩ := rnd_whole h0 hS
    obtain ⟨ak, a3, a4⟩ := pow53 h0 hS
    rw [quo_bits, read_fi (by omega), read_fi (by omega), a1, b1, quo_datum (log2_53 a3 a4) (log2_53 b3 b4) (by omega), Option.map_some] at h
    rw [quo_bits, read_int hS, read_fi (by omega), a1, b1]
    have hn0 : m * 2 ^ (52 - m.log2) ≠ 0 := by omega
    have hq : (Datum.number (decide (S < 0)) (S.natAbs * 2 ^ (52 - S.natAbs.log2)) (-1074 + (pl (rnd S.natAbs 0) : Nat))).quotient 54 (.number false (m * 2 ^ (52 - m.log2)) (-1074 + (pl (rnd m 0) : Nat))) = some (.number (decide (S < 0)) (2 * (S.natAbs * 2 ^ (52 - S.natAbs.log2) * 2 ^ 54 / (m * 2 ^ (52 - m.log2))) + (S.natAbs * 2 ^ (52 - S.natAbs.log2) * 2 ^ 54 % (m * 2 ^ (52 - m.log2)) != 0).toNat) (-1074 + (pl (rnd S.natAbs 0) : Nat) - (-1074 + (pl (rnd m 0) : Nat)) - ((54 : Nat) : Int) - 1)) := by
      simp only [Datum.quotient, if_neg hn0, Bool.xor_false]
      rw [log2_53 a3 a4, log2_53 b3 b4, Nat.shiftLeft_eq, Nat.add_sub_cancel]
    rw [hq, Option.map_some]
    have h' := Option.some.inj h
    have h1 : ∀ (s : Bool) (k : Nat) (p : Int), double.write (.number s k p) = double.word s (rnd k p) := fun s k p => nearest_eq s k p
    rw [h1] at h' ⊢
    have h2 := congrArg rung h'
    rw [rung_word _ (rnd_le _ _), rung_word _ (Nat.min_le_right _ _)] at h2
    rw [h2]
theorem rz_ge {A B v : Nat} (hA : A < 2 ^ 53) (hB0 : B ≠ 0) (hB : B < 2 ^ 53) (h : v * B ≤ A) : rnd v 0 ≤ rz A B := by
  by_cases hv : v = 0
  · rw [hv, rnd_zero]; exact Nat.zero_le _
  have hA0 : A ≠ 0 := by
    rintro rfl
    have := Nat.mul_pos (Nat.pos_of_ne_zero hv) (Nat.pos_of_ne_zero hB0)
    omega
  obtain ⟨e, h1, h2, h3⟩ := quo_eq hA0 hA hB0 hB
  unfold rz
  rw [if_neg hA0, h3, Option.getD_some, rung_word _ (Nat.min_le_right _ _), rnd_unit hv]
  have b := rq_bounds (mag := v) (P := e74) hv
  have := rq_mono (K := 0) (show 0 < 1 by omega) (Nat.pos_of_ne_zero hB0) (show v * 2 ^ e74 * B ≤ A * 2 ^ e74 * 1 by rw [Nat.mul_one, Nat.mul_right_comm]; exact Nat.mul_le_mul_right _ h) b.1 b.2 h1 h2
  exact Nat.le_min.2 ⟨Nat.le_trans (Nat.min_le_left _ _) this, Nat.min_le_right _ _⟩
theorem rz_le {A B v : Nat} (hA : A < 2 ^ 53) (hB0 : B ≠ 0) (hB : B < 2 ^ 53) (h : A ≤ v * B) : rz A B ≤ rnd v 0 := by
  by_cases hA0 : A = 0
  · unfold rz; rw [if_pos hA0]; exact Nat.zero_le _
  have hv : v ≠ 0 := by rintro rfl; rw [Nat.zero_mul] at h; omega
  obtain ⟨e, h1, h2, h3⟩ := quo_eq hA0 hA hB0 hB
  unfold rz
  rw [if_neg hA0, h3, Option.getD_some, rung_word _ (Nat.min_le_right _ _), rnd_unit hv]
  have b := rq_bounds (mag := v) (P := e74) hv
  have := rq_mono (K := 0) (Nat.pos_of_ne_zero hB0) (show 0 < 1 by omega) (show A * 2 ^ e74 * 1 ≤ v * 2 ^ e74 * B by rw [Nat.mul_one, Nat.mul_right_comm]; exact Nat.mul_le_mul_right _ h) h1 h2 b.1 b.2
  exact Nat.le_min.2 ⟨Nat.le_trans (Nat.min_le_left _ _) this, Nat.min_le_right _ _⟩
theorem key_sw {s : Bool} {c : Nat} (h : c ≤ inf) : key (double.word s c) = if s then -(c : Int) else (c : Int) := by unfold key; rw [sgn_word _ h, rung_word _ h]
/-- a mean is no less than what all numbers are no less than -/
theorem mean_lo {S v : Int} {m : Nat} (hS : S.natAbs < 2 ^ 53) (hm0 : m ≠ 0) (hm : m < 2 ^ 53) (h : v * (m : Int) ≤ S) : key (fi v) ≤ key (double.word (decide (S < 0)) (rz S.natAbs m)) := by
  obtain ⟨_, hle⟩ := quo_int hS hm0 hm
  rw [fi_int, key_sw (rnd_le _ _), key_sw hle]
  simp only [decide_eq_true_eq]
  have hmp : (0 : Int) < (m : Int) := by omega
  by_cases hs : S < 0
  · rw [if_pos hs]
    have hv : v < 0 := by
      refine Int.not_le.1 fun hv => ?_
      have := Int.mul_nonneg hv (Int.le_of_lt hmp)
      omega
    rw [if_pos hv]
    have := rz_le hS hm0 hm (v := v.natAbs) (by
      have e : (v.natAbs : Int) = -v := by omega
      have : ((v.natAbs * m : Nat) : Int) = -(v * (m : Int)) := by rw [Int.natCast_mul, e, Int.neg_mul]
      omega)
    omega
  · rw [if_neg hs]
    by_cases hv : v < 0
    · rw [if_pos hv]; omega
    · rw [if_neg hv]
      have := rz_ge hS hm0 hm (v := v.natAbs) (by
        have e : (v.natAbs : Int) = v := by omega
        have : ((v.natAbs * m : Nat) : Int) = v * (m : Int) := by rw [Int.natCast_mul, e]
        omega)
      omega
theorem mean_hi {S v : Int} {m : Nat} (hS : S.natAbs < 2 ^ 53) (hm0 : m ≠ 0) (hm : m < 2 ^ 53) (h : S ≤ v * (m : Int)) : key (double.word (decide (S < 0)) (rz S.natAbs m)) ≤ key (fi v) := by
  obtain ⟨_, hle⟩ := quo_int hS hm0 hm
  rw [fi_int, key_sw (rnd_le _ _), key_sw hle]
  simp only [decide_eq_true_eq]
  have hmp : (0 : Int) < (m : Int) := by omega
  by_cases hv : v < 0
  · have hs : S < 0 := by have := Int.mul_neg_of_neg_of_pos hv hmp; omega
    rw [if_pos hs, if_pos hv]
    have := rz_ge hS hm0 hm (v := v.natAbs) (by
      have e : (v.natAbs : Int) = -v := by omega
      have : ((v.natAbs * m : Nat) : Int) = -(v * (m : Int)) := by rw [Int.natCast_mul, e, Int.neg_mul]
      omega)
    omega
  · rw [if_neg hv]
    by_cases hs : S < 0
    · rw [if_pos hs]; omega
    · rw [if_neg hs]
      have := rz_le hS hm0 hm (v := v.natAbs) (by
        have e : (v.natAbs : Int) = v := by omega
        have : ((v.natAbs * m : Nat) : Int) = v * (m : Int) := by rw [Int.natCast_mul, e]
        omega)
      omega

end Go.Proofs.Ytdiphgkgehpgiab
