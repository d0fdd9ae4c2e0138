/- DERIVED. The walks of Same and of both Classes. -/
import Derived.Test.YtdiphgkgehpgiabFc
namespace Go.Proofs.Ytdiphgkgehpgiab
open Go.RowKit Ieee

theorem rung_word (s : Bool) {r : Nat} (h : r ≤ inf) : rung (double.word s r) = r := by
  unfold Format.word rung
  rw [sw_eq]
  have : inf < 9223372036854775808 := by decide +kernel
  cases s
  · simp only [Bool.false_eq_true, if_false]; omega
  · simp only [if_true]; omega
theorem sgn_word (s : Bool) {r : Nat} (h : r ≤ inf) : sgn (double.word s r) = s := by
  unfold Format.word sgn
  rw [sw_eq]
  have : inf < 9223372036854775808 := by decide +kernel
  cases s
  · simp only [Bool.false_eq_true, if_false]; rw [Nat.div_eq_of_lt (by omega)]; rfl
  · simp only [if_true]; rw [show (2 ^ 63 + r) / 9223372036854775808 = 1 from by omega]; rfl
theorem nan_word (s : Bool) {r : Nat} (h : r ≤ inf) : ¬ Nan (double.word s r) := by unfold Nan; rw [rung_word s h]; omega
theorem rung_key {x : Nat} : key x = 0 ↔ rung x = 0 := by unfold key; split <;> omega
theorem feq_zero {x : Nat} : feq x 0 = true ↔ rung x = 0 := by
  unfold feq
  rw [decide_eq_true_eq]
  have h0 : key 0 = 0 := by decide
  have h1 : ¬ Nan 0 := by decide +kernel
  rw [h0, rung_key]
  constructor
  · exact fun h => h.2.2
  · exact fun h => ⟨by unfold Nan; rw [h]; omega, h1, h⟩
theorem quo_zero {s : Nat} (h : rung s = 0) : floatBits .quo .f64 4607182418800017408 s = some (double.word (sgn s) inf) := by
  show ((double.read 4607182418800017408).quotient _ (double.read s)).map double.write = _
  have h0 : 0 < inf := by decide +kernel
  rw [read_num (b := 4607182418800017408) (by decide +kernel), read_num (b := s) (by rw [h]; exact h0), h]
  have e1 : mg 0 = 0 := by decide
  have e2 : mg (rung 4607182418800017408) = 4503599627370496 := by decide +kernel
  have e3 : sgn 4607182418800017408 = false := by decide +kernel
  rw [e1, e2, e3]
  cases sgn s <;> rfl
theorem sub_fin {x : Nat} (h : rung x < inf) : floatBits .sub .f64 x x = some 0 := by
  show ((double.read x).sum (double.read x).opposite).map double.write = _
  rw [read_num h]
  simp only [Datum.opposite, Datum.sum, Option.map_some]
  have e : ∀ u : Nat, signed (sgn x) (mg (rung x)) u + signed (!sgn x) (mg (rung x)) u = 0 := fun u => by
    rw [signed_eq, signed_eq]; cases sgn x <;> simp <;> omega
  rw [e]
  cases sgn x <;> (show some (double.nearest _ 0 _) = _; rw [nearest_eq, rnd_zero]; rfl)
theorem sub_inf {x : Nat} (h : rung x = inf) : floatBits .sub .f64 x x = none := by
  show ((double.read x).sum (double.read x).opposite).map double.write = _
  rw [read_inf h]
  cases sgn x <;> rfl

set_option maxHeartbeats 1000000 in
set_option maxHeartbeats 1000000 in
/-- what Class answers -/
def sNone : ByteArray := ⟨#[110, 111, 110, 101]⟩
def sInf : ByteArray := ⟨#[105, 110, 102]⟩
def sBelow : ByteArray := ⟨#[45, 105, 110, 102]⟩
def sMinus : ByteArray := ⟨#[45, 48]⟩
def sZero : ByteArray := ⟨#[48]⟩
def sNeg : ByteArray := ⟨#[110, 101, 103, 97, 116, 105, 118, 101]⟩
def sLow : ByteArray := ⟨#[108, 111, 119]⟩
def sHigh : ByteArray := ⟨#[104, 105, 103, 104]⟩
def cls (x : Nat) : ByteArray :=
  if Nan x then sNone else if rung x = inf then (if sgn x then sBelow else sInf) else if rung x = 0 then (if sgn x then sMinus else sZero) else if sgn x then sNeg else if rung x < 4607182418800017408 then sLow else sHigh
theorem flt_iff {a b : Nat} (ha : ¬ Nan a) (hb : ¬ Nan b) : flt a b = decide (key a < key b) := by unfold flt; simp only [ha, hb, not_false_eq_true, true_and]
theorem top_ok : ¬ Nan 9218868437227405311 ∧ key 9218868437227405311 = 9218868437227405311 := by decide +kernel
theorem one_ok : ¬ Nan 4607182418800017408 ∧ key 4607182418800017408 = 4607182418800017408 := by decide +kernel
theorem zero_ok : ¬ Nan 0 ∧ key 0 = 0 := by decide +kernel
theorem inf_int : (inf : Int) = 9218868437227405312 := by decide +kernel
theorem inf_pos {x : Nat} (h : ¬ Nan x) : flt 9218868437227405311 x = decide (rung x = inf ∧ sgn x = false) := by
  rw [flt_iff top_ok.1 h, top_ok.2]
  have h' := Nat.le_of_not_lt h
  have := inf_int
  unfold key
  cases e : sgn x
  · simp only [Bool.false_eq_true, if_false, and_true]; rw [Bool.eq_iff_iff]; simp only [decide_eq_true_eq]; omega
  · simp only [if_true]; rw [decide_eq_false (by omega), decide_eq_false (by simp)]
theorem neg_key {x : Nat} (hx : x < 18446744073709551616) : rung (x ^^^ 2 ^ 63) = rung x ∧ sgn (x ^^^ 2 ^ 63) = !sgn x := by
  have h63 : (x ^^^ 2 ^ 63) = if x < 9223372036854775808 then x + 9223372036854775808 else x - 9223372036854775808 := by
    by_cases h : x < 9223372036854775808
    · rw [if_pos h]
      have e : x ||| 2 ^ 63 = x ^^^ 2 ^ 63 := by
        apply Nat.eq_of_testBit_eq
        intro i
        rw [Nat.testBit_or, Nat.testBit_xor, Nat.testBit_two_pow]
        by_cases k : 63 = i
        · subst k; rw [Nat.testBit_lt_two_pow (show x < 2 ^ 63 from h)]; rfl
        · simp [k]
      have e2 := Nat.two_pow_add_eq_or_of_lt (show x < 2 ^ 63 from h) 1
      rw [Nat.mul_one] at e2
      rw [← e, Nat.or_comm, ← e2]
      omega
    · rw [if_neg h]
      obtain ⟨y, rfl⟩ : ∃ y, x = 2 ^ 63 + y := ⟨x - 2 ^ 63, by omega⟩
      have hy : y < 2 ^ 63 := by omega
      have e2 := Nat.two_pow_add_eq_or_of_lt hy 1
      rw [Nat.mul_one] at e2
      apply Nat.eq_of_testBit_eq
      intro i
      rw [show 2 ^ 63 + y - 9223372036854775808 = y from by omega, e2, Nat.testBit_xor, Nat.testBit_or, Nat.testBit_two_pow]
      by_cases k : 63 = i
      · subst k; rw [Nat.testBit_lt_two_pow hy]; rfl
      · simp [k]
  rw [h63]
  unfold rung sgn
  by_cases h : x < 9223372036854775808
  · rw [if_pos h]
    exact ⟨by omega, by rw [show (x + 9223372036854775808) / 9223372036854775808 = 1 from by omega, Nat.div_eq_of_lt h]; rfl⟩
  · rw [if_neg h]
    exact ⟨by omega, by rw [show (x - 9223372036854775808) / 9223372036854775808 = 0 from by omega, show x / 9223372036854775808 = 1 from by omega]; rfl⟩
theorem inf_neg {x : Nat} (hx : x < 18446744073709551616) (h : ¬ Nan x) : flt 9218868437227405311 (x ^^^ 2 ^ 63) = decide (rung x = inf ∧ sgn x = true) := by
  obtain ⟨e1, e2⟩ := neg_key hx
  rw [inf_pos (by unfold Nan; rw [e1]; exact h), e1, e2]
  cases sgn x <;> simp
theorem lt_zero {x : Nat} (h : ¬ Nan x) (h0 : rung x ≠ 0) : flt x 0 = sgn x := by
  rw [flt_iff h zero_ok.1, zero_ok.2]
  unfold key
  cases sgn x
  · simp only [Bool.false_eq_true, if_false]; exact decide_eq_false (by omega)
  · simp only [if_true]; exact decide_eq_true (by omega)
theorem gt_zero {x : Nat} (h : ¬ Nan x) (h0 : rung x ≠ 0) : flt 0 x = !sgn x := by
  rw [flt_iff zero_ok.1 h, zero_ok.2]
  unfold key
  cases sgn x
  · simp only [Bool.false_eq_true, if_false]; exact decide_eq_true (by omega)
  · simp only [if_true]; exact decide_eq_false (by omega)
theorem lt_one {x : Nat} (h : ¬ Nan x) (h0 : sgn x = false) : flt x 4607182418800017408 = decide (rung x < 4607182418800017408) := by
  rw [flt_iff h one_ok.1, one_ok.2]
  unfold key
  rw [h0]
  simp only [Bool.false_eq_true, if_false]
  rw [Bool.eq_iff_iff]; simp only [decide_eq_true_eq]; omega

end Go.Proofs.Ytdiphgkgehpgiab
