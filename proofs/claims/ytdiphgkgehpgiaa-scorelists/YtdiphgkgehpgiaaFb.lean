/- DERIVED. Plain facts about floats: their order is the order of their rungs. -/
import Derived.Test.YtdiphgkgehpgiaaFa
import Derived.Deep.Draws
import Derived.Laws.NewFold
namespace Go.Proofs.Ytdiphgkgehpgiaa
open Ieee

def rung (b : Nat) : Nat := b % 9223372036854775808
def sgn (b : Nat) : Bool := b / 9223372036854775808 % 2 == 1
/-- no number -/
def Nan (b : Nat) : Prop := inf < rung b
instance (b : Nat) : Decidable (Nan b) := inferInstanceAs (Decidable (inf < rung b))
/-- a number's place among all -/
def key (b : Nat) : Int := if sgn b then -(rung b : Int) else (rung b : Int)
/-- the digits and the place of a rung -/
def mg (r : Nat) : Nat := if r < 4503599627370496 then r else 4503599627370496 + r % 4503599627370496
def pl (r : Nat) : Nat := r / 4503599627370496 - 1
def val (r : Nat) : Nat := mg r * 2 ^ pl r
theorem read_num {b : Nat} (h : rung b < inf) : double.read b = .number (sgn b) (mg (rung b)) (-1074 + (pl (rung b) : Nat)) := by
  unfold Format.read
  simp only [inf_eq, lp_eq, bin_eq, sw_eq]
  show (if rung b < 2 ^ 52 then Datum.number (sgn b) (rung b) (-1074) else if rung b < inf then Datum.number (sgn b) (2 ^ 52 + rung b % 2 ^ 52) (-1074 + ((rung b / 2 ^ 52 - 1 : Nat) : Int)) else if rung b = inf then Datum.infinity (sgn b) else Datum.nan (sgn b) (rung b - inf)) = _
  by_cases h1 : rung b < 4503599627370496
  · rw [if_pos (show rung b < 2 ^ 52 from h1)]
    unfold mg pl
    rw [if_pos h1, Nat.div_eq_of_lt h1]; rfl
  · rw [if_neg (show ¬ rung b < 2 ^ 52 from h1), if_pos h]
    unfold mg pl
    rw [if_neg h1]
theorem read_inf {b : Nat} (h : rung b = inf) : double.read b = .infinity (sgn b) := by
  unfold Format.read
  simp only [inf_eq, lp_eq, bin_eq, sw_eq]
  show (if rung b < 2 ^ 52 then Datum.number (sgn b) (rung b) (-1074) else if rung b < inf then Datum.number (sgn b) (2 ^ 52 + rung b % 2 ^ 52) (-1074 + ((rung b / 2 ^ 52 - 1 : Nat) : Int)) else if rung b = inf then Datum.infinity (sgn b) else Datum.nan (sgn b) (rung b - inf)) = _
  rw [h, if_neg (by decide +kernel), if_neg (Nat.lt_irrefl _), if_pos rfl]
theorem read_nan {b : Nat} (h : Nan b) : double.read b = .nan (sgn b) (rung b - inf) := by
  unfold Nan at h
  unfold Format.read
  simp only [inf_eq, lp_eq, bin_eq, sw_eq]
  show (if rung b < 2 ^ 52 then Datum.number (sgn b) (rung b) (-1074) else if rung b < inf then Datum.number (sgn b) (2 ^ 52 + rung b % 2 ^ 52) (-1074 + ((rung b / 2 ^ 52 - 1 : Nat) : Int)) else if rung b = inf then Datum.infinity (sgn b) else Datum.nan (sgn b) (rung b - inf)) = _
  have h1 : (2 ^ 52 : Nat) < inf := by decide +kernel
  rw [if_neg (Nat.not_lt.2 (Nat.le_of_lt (Nat.lt_trans h1 h))), if_neg (Nat.not_lt.2 (Nat.le_of_lt h)), if_neg (fun e => by rw [e] at h; exact Nat.lt_irrefl _ h)]

theorem val_step (r : Nat) : val r < val (r + 1) := by
  unfold val mg pl
  by_cases h1 : r + 1 < 4503599627370496
  · rw [if_pos h1, if_pos (by omega), Nat.div_eq_of_lt h1, Nat.div_eq_of_lt (show r < 4503599627370496 by omega)]; simp
  · by_cases h2 : r + 1 = 4503599627370496
    · obtain rfl : r = 4503599627370495 := by omega
      decide +kernel
    · rw [if_neg h1, if_neg (by omega)]
      by_cases h3 : r % 4503599627370496 = 4503599627370495
      · have e1 : (r + 1) % 4503599627370496 = 0 := by omega
        have e2 : (r + 1) / 4503599627370496 - 1 = (r / 4503599627370496 - 1) + 1 := by omega
        rw [e1, e2, h3, Nat.pow_succ]
        have := Nat.two_pow_pos (r / 4503599627370496 - 1)
        generalize 2 ^ (r / 4503599627370496 - 1) = z at *
        omega
      · have e1 : (r + 1) % 4503599627370496 = r % 4503599627370496 + 1 := by omega
        have e2 : (r + 1) / 4503599627370496 = r / 4503599627370496 := by omega
        rw [e1, e2]
        exact Nat.mul_lt_mul_of_pos_right (by omega) (Nat.two_pow_pos _)
theorem val_lt {r s : Nat} (h : r < s) : val r < val s := by
  obtain ⟨k, rfl⟩ : ∃ k, s = r + 1 + k := ⟨s - (r + 1), by omega⟩
  clear h
  induction k with
  | zero => exact val_step r
  | succ k ih => exact Nat.lt_trans ih (val_step _)
theorem val_le {r s : Nat} (h : r ≤ s) : val r ≤ val s := by
  rcases Nat.lt_or_eq_of_le h with h | rfl
  · exact Nat.le_of_lt (val_lt h)
  · exact Nat.le_refl _
theorem val_zero : val 0 = 0 := by decide
theorem signed_eq (s : Bool) (m up : Nat) : signed s m up = if s then -((m * 2 ^ up : Nat) : Int) else ((m * 2 ^ up : Nat) : Int) := by unfold signed; rw [Nat.shiftLeft_eq]
theorem cmp_scale (x y : Int) {c : Int} (hc : 0 < c) : compare (x * c) (y * c) = compare x y := by
  rcases Int.lt_trichotomy x y with h | h | h
  · rw [Int.compare_eq_lt.2 h, Int.compare_eq_lt.2 (Int.mul_lt_mul_of_pos_right h hc)]
  · subst h; rw [Int.compare_eq_eq.2 rfl, Int.compare_eq_eq.2 rfl]
  · rw [Int.compare_eq_gt.2 h, Int.compare_eq_gt.2 (Int.mul_lt_mul_of_pos_right h hc)]
theorem signed_scale (s : Bool) (m a c : Nat) : signed s m a * ((2 ^ c : Nat) : Int) = signed s m (a + c) := by
  rw [signed_eq, signed_eq, Nat.pow_add]
  cases s
  · simp [Int.natCast_mul, Int.mul_assoc]
  · simp [Int.natCast_mul, Int.neg_mul, Int.mul_assoc]
/-- a rung with a sign, in the least unit -/
def sval (s : Bool) (r : Nat) : Int := if s then -(val r : Int) else (val r : Int)
theorem sval_cmp (s t : Bool) (r q : Nat) : compare (sval s r) (sval t q) = compare (if s then -(r : Int) else (r : Int)) (if t then -(q : Int) else (q : Int)) := by
  have a : ∀ {x y : Nat}, x < y → (val x : Int) < (val y : Int) := fun h => by have := val_lt h; omega
  have z : ∀ {x : Nat}, 0 < x → (0 : Int) < (val x : Int) := fun h => by have := val_lt h; rw [val_zero] at this; omega
  have e : ∀ {x : Nat}, (x : Int) = 0 → (val x : Int) = 0 := fun h => by rw [show _ = 0 from Int.ofNat.inj h, val_zero]; rfl
  unfold sval
  cases s <;> cases t <;> simp only [if_true, if_false, Bool.false_eq_true]
  · rcases Nat.lt_trichotomy r q with h | h | h
    · rw [Int.compare_eq_lt.2 (a h), Int.compare_eq_lt.2 (by omega)]
    · subst h; rw [Int.compare_eq_eq.2 rfl, Int.compare_eq_eq.2 rfl]
    · rw [Int.compare_eq_gt.2 (a h), Int.compare_eq_gt.2 (by omega)]
  · by_cases h : r = 0 ∧ q = 0
    · obtain ⟨rfl, rfl⟩ := h; rw [val_zero]
    · rw [Int.compare_eq_gt.2, Int.compare_eq_gt.2]
      · omega
      · rcases Nat.eq_zero_or_pos r with hr | hr
        · have := z (x := q) (by omega); omega
        · have := z hr; omega
  · by_cases h : r = 0 ∧ q = 0
    · obtain ⟨rfl, rfl⟩ := h; rw [val_zero]
    · rw [Int.compare_eq_lt.2, Int.compare_eq_lt.2]
      · omega
      · rcases Nat.eq_zero_or_pos r with hr | hr
        · have := z (x := q) (by omega); omega
        · have := z hr; omega
  · rcases Nat.lt_trichotomy r q with h | h | h
    · rw [Int.compare_eq_gt.2 (by have := a h; omega), Int.compare_eq_gt.2 (by omega)]
    · subst h; rw [Int.compare_eq_eq.2 rfl, Int.compare_eq_eq.2 rfl]
    · rw [Int.compare_eq_lt.2 (by have := a h; omega), Int.compare_eq_lt.2 (by omega)]
/-- two numbers stand as their keys do -/
theorem order_key {a b : Nat} (ha : ¬ Nan a) (hb : ¬ Nan b) : double.order a b = some (compare (key a) (key b)) := by
  have ha' := Nat.le_of_not_lt ha
  have hb' := Nat.le_of_not_lt hb
  unfold Format.order key
  rcases Nat.lt_or_eq_of_le ha' with h1 | h1
  · rcases Nat.lt_or_eq_of_le hb' with h2 | h2
    · rw [read_num h1, read_num h2, ← sval_cmp]
      simp only [Datum.order]
      congr 1
      have k : ∀ r : Nat, ∀ s : Bool, sval s r = signed s (mg r) (pl r) := fun r s => by rw [signed_eq]; rfl
      rw [k, k]
      generalize pl (rung a) = i
      generalize pl (rung b) = j
      have e1 : (-1074 + (i : Int) - min (-1074 + (i : Int)) (-1074 + (j : Int))).toNat = i - min i j := by omega
      have e2 : (-1074 + (j : Int) - min (-1074 + (i : Int)) (-1074 + (j : Int))).toNat = j - min i j := by omega
      rw [e1, e2, ← cmp_scale _ _ (c := ((2 ^ min i j : Nat) : Int)) (by have := Nat.two_pow_pos (min i j); omega), signed_scale, signed_scale, show i - min i j + min i j = i from by omega, show j - min i j + min i j = j from by omega]
    · rw [read_num h1, read_inf h2]
      simp only [Datum.order]
      congr 1
      rw [h2]
      cases sgn b
      · cases sgn a
        · simp only [if_false, Bool.false_eq_true]; exact (Int.compare_eq_lt.2 (by omega)).symm
        · simp only [if_false, Bool.false_eq_true, if_true]; exact (Int.compare_eq_lt.2 (by omega)).symm
      · cases sgn a
        · simp only [if_false, Bool.false_eq_true, if_true]; exact (Int.compare_eq_gt.2 (by omega)).symm
        · simp only [if_true]; exact (Int.compare_eq_gt.2 (by omega)).symm
  · rcases Nat.lt_or_eq_of_le hb' with h2 | h2
    · rw [read_inf h1, read_num h2]
      simp only [Datum.order]
      congr 1
      rw [h1]
      cases sgn a
      · cases sgn b
        · simp only [if_false, Bool.false_eq_true]; exact (Int.compare_eq_gt.2 (by omega)).symm
        · simp only [if_false, Bool.false_eq_true, if_true]; exact (Int.compare_eq_gt.2 (by omega)).symm
      · cases sgn b
        · simp only [if_false, Bool.false_eq_true, if_true]; exact (Int.compare_eq_lt.2 (by omega)).symm
        · simp only [if_true]; exact (Int.compare_eq_lt.2 (by omega)).symm
    · rw [read_inf h1, read_inf h2]
      simp only [Datum.order]
      congr 1
      rw [h1, h2]
      have h0 : 0 < inf := by decide +kernel
      cases sgn a <;> cases sgn b <;> simp only [if_false, Bool.false_eq_true, if_true, Bool.toNat_true, Bool.toNat_false]
      · exact (Int.compare_eq_eq.2 rfl).symm
      · exact (Int.compare_eq_gt.2 (by omega)).symm
      · exact (Int.compare_eq_lt.2 (by omega)).symm
      · exact (Int.compare_eq_eq.2 rfl).symm
theorem order_nan_l {a : Nat} (b : Nat) (h : Nan a) : double.order a b = none := by unfold Format.order; rw [read_nan h]; rfl
theorem order_nan_r (a : Nat) {b : Nat} (h : Nan b) : double.order a b = none := by unfold Format.order; rw [read_nan h]; cases double.read a <;> rfl

/-- the six comparisons -/
def flt (a b : Nat) : Bool := decide (¬ Nan a ∧ ¬ Nan b ∧ key a < key b)
def feq (a b : Nat) : Bool := decide (¬ Nan a ∧ ¬ Nan b ∧ key a = key b)
def fle (a b : Nat) : Bool := decide (¬ Nan a ∧ ¬ Nan b ∧ key a ≤ key b)
theorem order_cases (a b : Nat) : (Nan a ∨ Nan b) ∧ double.order a b = none ∨ ¬ Nan a ∧ ¬ Nan b ∧ double.order a b = some (compare (key a) (key b)) := by
  by_cases ha : Nan a
  · exact Or.inl ⟨Or.inl ha, order_nan_l b ha⟩
  · by_cases hb : Nan b
    · exact Or.inl ⟨Or.inr hb, order_nan_r a hb⟩
    · exact Or.inr ⟨ha, hb, order_key ha hb⟩
theorem ord_lt (a b : Nat) : (double.order a b == some .lt) = flt a b := by
  rcases order_cases a b with ⟨h, e⟩ | ⟨h1, h2, e⟩
  · rw [e]; unfold flt; rw [decide_eq_false (by rintro ⟨x, y, _⟩; rcases h with h | h <;> contradiction)]; rfl
  · rw [e]; unfold flt; simp only [h1, h2, not_false_eq_true, true_and]
    rcases Int.lt_trichotomy (key a) (key b) with k | k | k
    · rw [Int.compare_eq_lt.2 k, decide_eq_true k]; rfl
    · rw [Int.compare_eq_eq.2 k, decide_eq_false (by omega)]; rfl
    · rw [Int.compare_eq_gt.2 k, decide_eq_false (by omega)]; rfl
theorem ord_gt (a b : Nat) : (double.order a b == some .gt) = flt b a := by
  rcases order_cases a b with ⟨h, e⟩ | ⟨h1, h2, e⟩
  · rw [e]; unfold flt; rw [decide_eq_false (by rintro ⟨x, y, _⟩; rcases h with h | h <;> contradiction)]; rfl
  · rw [e]; unfold flt; simp only [h1, h2, not_false_eq_true, true_and]
    rcases Int.lt_trichotomy (key a) (key b) with k | k | k
    · rw [Int.compare_eq_lt.2 k, decide_eq_false (by omega)]; rfl
    · rw [Int.compare_eq_eq.2 k, decide_eq_false (by omega)]; rfl
    · rw [Int.compare_eq_gt.2 k, decide_eq_true k]; rfl
theorem ord_eq (a b : Nat) : (double.order a b == some .eq) = feq a b := by
  rcases order_cases a b with ⟨h, e⟩ | ⟨h1, h2, e⟩
  · rw [e]; unfold feq; rw [decide_eq_false (by rintro ⟨x, y, _⟩; rcases h with h | h <;> contradiction)]; rfl
  · rw [e]; unfold feq; simp only [h1, h2, not_false_eq_true, true_and]
    rcases Int.lt_trichotomy (key a) (key b) with k | k | k
    · rw [Int.compare_eq_lt.2 k, decide_eq_false (by omega)]; rfl
    · rw [Int.compare_eq_eq.2 k, decide_eq_true k]; rfl
    · rw [Int.compare_eq_gt.2 k, decide_eq_false (by omega)]; rfl
theorem ord_ne (a b : Nat) : (double.order a b != some .eq) = !feq a b := by rw [← ord_eq]; rfl
theorem lt_or_eq (a b : Nat) : (flt a b || feq a b) = fle a b := by
  unfold flt feq fle
  by_cases h : ¬ Nan a ∧ ¬ Nan b
  · obtain ⟨h1, h2⟩ := h
    simp only [h1, h2, not_false_eq_true, true_and]
    rcases Int.lt_trichotomy (key a) (key b) with k | k | k
    · rw [decide_eq_true k, decide_eq_true (show key a ≤ key b by omega)]; rfl
    · rw [decide_eq_true k, decide_eq_true (show key a ≤ key b by omega)]; simp
    · rw [decide_eq_false (show ¬ key a < key b by omega), decide_eq_false (show ¬ key a = key b by omega), decide_eq_false (show ¬ key a ≤ key b by omega)]; rfl
  · rw [decide_eq_false (fun k => h ⟨k.1, k.2.1⟩), decide_eq_false (fun k => h ⟨k.1, k.2.1⟩), decide_eq_false (fun k => h ⟨k.1, k.2.1⟩)]; rfl
theorem feq_comm (a b : Nat) : feq a b = feq b a := by unfold feq; rw [Bool.eq_iff_iff]; simp only [decide_eq_true_eq]; constructor <;> (rintro ⟨x, y, z⟩; exact ⟨y, x, z.symm⟩)
theorem ord_le (a b : Nat) : (double.order a b == some .lt || double.order a b == some .eq) = fle a b := by rw [ord_lt, ord_eq, lt_or_eq]
theorem ord_ge (a b : Nat) : (double.order a b == some .gt || double.order a b == some .eq) = fle b a := by rw [ord_gt, ord_eq, feq_comm, lt_or_eq]
theorem feq_self {a : Nat} (h : ¬ Nan a) : feq a a = true := decide_eq_true ⟨h, h, rfl⟩
theorem feq_nan {a : Nat} (b : Nat) (h : Nan a) : feq a b = false := decide_eq_false (fun k => k.1 h)

/-- what an operation answers: its rounded answer, or, where it has none, some number that is none -/
def Is (o : Option Nat) (r : Nat) : Prop := match o with | some s => r = s | none => Nan r
def fo (op : BinOp) (x y : Nat) (w : World) : Nat := (floatBits op .f64 x y).getD ((Question.nanBits .f64 x y).cut (w.tape w.drawn (.nanBits .f64 x y)))
def fk (op : BinOp) (x y : Nat) : Nat := if (floatBits op .f64 x y).isSome then 0 else 1
theorem nan_cut (t x y : Nat) : Nan ((Question.nanBits .f64 x y).cut t) := by
  simp only [Question.cut, Nan, rung, inf]
  have := Nat.mod_lt (t / 2) (show 0 < 2 ^ 52 - 1 by decide)
  generalize t / 2 % (2 ^ 52 - 1) = z at *
  rcases Nat.mod_two_eq_zero_or_one t with h | h <;> rw [h] <;> omega
theorem fo_is (op : BinOp) (x y : Nat) (w : World) : Is (floatBits op .f64 x y) (fo op x y w) := by
  unfold Is fo
  cases floatBits op .f64 x y with
  | some s => rfl
  | none => exact nan_cut _ x y
theorem run_float {P : Program} (w : World) (op : BinOp) (h : op = .add ∨ op = .sub ∨ op = .mul ∨ op = .quo) (t : TypeId) (x y : Nat) : (binOp op t (.float .f64 x) (.float .f64 y)).run P w = .ok (.float .f64 (fo op x y w)) (w.drewN (fk op x y)) := by
  have k : ∀ o : Option Nat, (match o with | some r => pure (Value.float .f64 r) | none => do pure (Value.float .f64 (← choose (.nanBits .f64 x y))) : Sem Value).run P w = .ok (.float .f64 (o.getD ((Question.nanBits .f64 x y).cut (w.tape w.drawn (.nanBits .f64 x y))))) (w.drewN (if o.isSome then 0 else 1)) := by
    intro o
    cases o with
    | some r => rfl
    | none => simp [Question.forced]; rfl
  unfold fo fk
  rcases h with rfl | rfl | rfl | rfl <;> exact k _
end Go.Proofs.Ytdiphgkgehpgiaa
