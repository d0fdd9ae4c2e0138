/- DERIVED. Plain facts about rounding to floats: of no program in particular. -/
import Derived.Laws.FloatArith
namespace Go.Proofs.Ytdiphgkgehpgiaa
open Ieee

/-- n over g, rounded to the nearest, between two to the even one -/
def rn (n g : Nat) : Nat := n / g + if g < 2 * (n % g) ∨ (g = 2 * (n % g) ∧ n / g % 2 = 1) then 1 else 0
theorem rn_ge (n g : Nat) : n / g ≤ rn n g := by unfold rn; omega
theorem rn_le (n g : Nat) : rn n g ≤ n / g + 1 := by unfold rn; split <;> omega
theorem rn_mono {n g m h : Nat} (hg : 0 < g) (hh : 0 < h) (k : n * h ≤ m * g) : rn n g ≤ rn m h := by
  have e1 := Nat.div_add_mod n g
  have e2 := Nat.div_add_mod m h
  have l1 := Nat.mod_lt n hg
  have l2 := Nat.mod_lt m hh
  rcases Nat.lt_trichotomy (n / g) (m / h) with hl | hl | hl
  · have := rn_le n g
    have := rn_ge m h
    omega
  · unfold rn
    rw [hl] at e1 ⊢
    generalize m / h = q at *
    generalize n % g = r at *
    generalize m % h = s at *
    have k2 : r * h ≤ s * g := by
      rw [← e1, ← e2, Nat.add_mul, Nat.add_mul, show g * q * h = h * q * g from by ac_rfl] at k
      omega
    by_cases c1 : g < 2 * r ∨ (g = 2 * r ∧ q % 2 = 1)
    · rw [if_pos c1, if_pos]
      · exact Nat.le_refl _
      rcases c1 with c | ⟨c, o⟩
      · left
        refine Nat.lt_of_not_le fun hn => ?_
        have a1 : g * h < 2 * r * h := Nat.mul_lt_mul_of_pos_right c hh
        have a2 : 2 * s * g ≤ h * g := Nat.mul_le_mul_right g hn
        rw [Nat.mul_assoc] at a1 a2
        rw [Nat.mul_comm h g] at a2
        omega
      · rcases Nat.lt_trichotomy h (2 * s) with d | d | d
        · exact Or.inl d
        · exact Or.inr ⟨d, o⟩
        · exfalso
          have a1 : 2 * s * g < h * g := Nat.mul_lt_mul_of_pos_right d hg
          have a2 : g * h = 2 * (r * h) := by rw [c, Nat.mul_assoc]
          rw [Nat.mul_assoc, Nat.mul_comm h g, a2] at a1
          omega
    · rw [if_neg c1]; omega
  · exfalso
    have a1 : m < h * (m / h + 1) := by rw [Nat.mul_add]; omega
    have a2 : g * (m / h + 1) ≤ n := Nat.le_trans (Nat.mul_le_mul_left g hl) (by omega)
    have a3 : m * g < h * (m / h + 1) * g := Nat.mul_lt_mul_of_pos_right a1 hg
    have a4 : g * (m / h + 1) * h ≤ n * h := Nat.mul_le_mul_right h a2
    rw [show g * (m / h + 1) * h = h * (m / h + 1) * g from by ac_rfl] at a4
    omega
theorem rn_scale {n g c : Nat} (hg : 0 < g) (hc : 0 < c) : rn (n * c) (g * c) = rn n g :=
  Nat.le_antisymm (rn_mono (Nat.mul_pos hg hc) hg (by rw [show n * c * g = n * (g * c) from by ac_rfl]; exact Nat.le_refl _)) (rn_mono hg (Nat.mul_pos hg hc) (by rw [show n * c * g = n * (g * c) from by ac_rfl]; exact Nat.le_refl _))
theorem rn_one (n : Nat) : rn n 1 = n := by unfold rn; rw [Nat.div_one, Nat.mod_one, if_neg (by omega)]; rfl
theorem rn_mul {n c : Nat} (hc : 0 < c) : rn (n * c) c = n := by
  have := rn_scale (n := n) (g := 1) (c := c) (by omega) hc
  rwa [Nat.one_mul, rn_one] at this
theorem rn_small {n g : Nat} (h : 2 * n < g) : rn n g = 0 := by
  unfold rn
  rw [Nat.div_eq_of_lt (by omega), Nat.mod_eq_of_lt (by omega), if_neg (by omega)]

theorem cut_eq (neg : Bool) (n drop : Nat) : Toward.even.cut neg n drop = rn n (2 ^ drop) := by
  have key : ∀ g : Nat, n / g + (decide (g < 2 * (n % g)) || (g == 2 * (n % g) && n / g % 2 == 1)).toNat = rn n g := by
    intro g
    unfold rn
    by_cases c1 : g < 2 * (n % g)
    · simp [c1]
    · by_cases c2 : g = 2 * (n % g)
      · by_cases c3 : n / g % 2 = 1
        · rw [if_pos (Or.inr ⟨c2, c3⟩)]; simp [← c2, c3]
        · rw [if_neg (by omega)]; simp [← c2, c3]
      · rw [if_neg (by omega)]; simp [c1, c2]
  unfold Toward.cut
  simp only [Nat.one_shiftLeft]
  by_cases h : drop ≤ n.log2 + 2
  · rw [Nat.min_eq_left h]; exact key _
  · rw [Nat.min_eq_right (by omega)]
    refine (key _).trans ?_
    have h1 : n < 2 ^ (n.log2 + 1) := Nat.lt_log2_self
    have h2 : 2 ^ (n.log2 + 2) = 2 * 2 ^ (n.log2 + 1) := by rw [Nat.pow_succ]; omega
    have h3 : 2 ^ (n.log2 + 2) ≤ 2 ^ drop := Nat.pow_le_pow_right (by omega) (by omega)
    rw [rn_small (by omega), rn_small (by omega)]

/-- a number n / g that lies between 2 ^ e and 2 ^ (e + 1), as the rung of 53 digits; K: the place of the last digit that is kept at least -/
def rq (n g e K : Nat) : Nat := (max (e - 52) K - K) * 2 ^ 52 + rn n (g * 2 ^ max (e - 52) K)
theorem rq_mono {n g m h e f K : Nat} (hg : 0 < g) (hh : 0 < h) (k : n * h ≤ m * g) (a1 : 2 ^ e * g ≤ n) (a2 : n < 2 ^ (e + 1) * g) (b1 : 2 ^ f * h ≤ m) (b2 : m < 2 ^ (f + 1) * h) : rq n g e K ≤ rq m h f K := by
  unfold rq
  have hx : e ≤ max (e - 52) K + 52 := by omega
  have hx' : K < max (e - 52) K → e = max (e - 52) K + 52 := by omega
  have hy : f ≤ max (f - 52) K + 52 := by omega
  have hy' : K < max (f - 52) K → f = max (f - 52) K + 52 := by omega
  have hxK : K ≤ max (e - 52) K := by omega
  have hyK : K ≤ max (f - 52) K := by omega
  generalize max (e - 52) K = x at *
  generalize max (f - 52) K = y at *
  rcases Nat.lt_trichotomy x y with hl | hl | hl
  · have c1 : n / (g * 2 ^ x) < 2 ^ 53 := by
      refine (Nat.div_lt_iff_lt_mul (Nat.mul_pos hg (Nat.two_pow_pos _))).2 (Nat.lt_of_lt_of_le a2 ?_)
      rw [show 2 ^ 53 * (g * 2 ^ x) = 2 ^ (x + 53) * g from by rw [Nat.pow_add]; ac_rfl]
      exact Nat.mul_le_mul_right g (Nat.pow_le_pow_right (by omega) (by omega))
    have c2 : 2 ^ 52 ≤ m / (h * 2 ^ y) := by
      refine (Nat.le_div_iff_mul_le (Nat.mul_pos hh (Nat.two_pow_pos _))).2 (Nat.le_trans ?_ b1)
      rw [hy' (by omega), show 2 ^ 52 * (h * 2 ^ y) = 2 ^ (y + 52) * h from by rw [Nat.pow_add]; ac_rfl]
      exact Nat.le_refl _
    have c3 := rn_le n (g * 2 ^ x)
    have c4 := rn_ge m (h * 2 ^ y)
    omega
  · subst hl
    refine Nat.add_le_add_left (rn_mono (Nat.mul_pos hg (Nat.two_pow_pos _)) (Nat.mul_pos hh (Nat.two_pow_pos _)) ?_) _
    rw [← Nat.mul_assoc, ← Nat.mul_assoc]
    exact Nat.mul_le_mul_right _ k
  · exfalso
    have c1 : 2 ^ (f + 1) ≤ 2 ^ e := Nat.pow_le_pow_right (by omega) (by have := hx' (by omega); omega)
    have c2 : m < 2 ^ e * h := Nat.lt_of_lt_of_le b2 (Nat.mul_le_mul_right h c1)
    have c3 : m * g < 2 ^ e * h * g := Nat.mul_lt_mul_of_pos_right c2 hg
    have c4 : 2 ^ e * g * h ≤ n * h := Nat.mul_le_mul_right h a1
    rw [show 2 ^ e * g * h = 2 ^ e * h * g from by ac_rfl] at c4
    omega
theorem rq_same {n g m h e f K : Nat} (hg : 0 < g) (hh : 0 < h) (k : n * h = m * g) (a1 : 2 ^ e * g ≤ n) (a2 : n < 2 ^ (e + 1) * g) (b1 : 2 ^ f * h ≤ m) (b2 : m < 2 ^ (f + 1) * h) : rq n g e K = rq m h f K :=
  Nat.le_antisymm (rq_mono hg hh (Nat.le_of_eq k) a1 a2 b1 b2) (rq_mono hh hg (Nat.le_of_eq k.symm) b1 b2 a1 a2)

/-- the rung of infinity -/
def inf : Nat := 9218868437227405312
theorem inf_eq : double.infRung = inf := by decide +kernel
theorem lp_eq : double.leastPlace = -1074 := by decide +kernel
theorem bin_eq : double.binade = 2 ^ 52 := by decide +kernel
theorem sw_eq : double.signWeight = 2 ^ 63 := by decide +kernel
/-- the rung that is nearest to mag * 2 ^ place -/
def rnd (mag : Nat) (place : Int) : Nat :=
  if mag = 0 then 0 else min ((max (place + mag.log2 - 52) (-1074) + 1074).toNat * 2 ^ 52 + rn (mag <<< (place - max (place + mag.log2 - 52) (-1074)).toNat) (2 ^ (max (place + mag.log2 - 52) (-1074) - place).toNat)) inf
theorem nearest_eq (neg : Bool) (mag : Nat) (place : Int) : double.nearest neg mag place = double.word neg (rnd mag place) := by
  unfold Format.nearest rnd
  by_cases h : mag = 0
  · simp [h]
  · rw [if_neg h, if_neg h]
    simp only [cut_eq, inf_eq, lp_eq, bin_eq]
    rfl
theorem rnd_zero (place : Int) : rnd 0 place = 0 := by simp [rnd]
theorem rnd_le (mag : Nat) (place : Int) : rnd mag place ≤ inf := by
  unfold rnd
  split
  · exact Nat.zero_le _
  · exact Nat.min_le_right _ _
theorem log2_bounds {m : Nat} (h : m ≠ 0) : 2 ^ m.log2 ≤ m ∧ m < 2 ^ (m.log2 + 1) := ⟨Nat.log2_self_le h, Nat.lt_log2_self⟩
theorem rnd_rq {mag : Nat} {place : Int} (b : Int) (h1 : b ≤ place) (h2 : b ≤ -1074) (h0 : mag ≠ 0) : rnd mag place = min (rq (mag * 2 ^ (place - b).toNat) 1 ((place - b).toNat + mag.log2) (-1074 - b).toNat) inf := by
  obtain ⟨P, rfl⟩ : ∃ P : Nat, place = b + P := ⟨(place - b).toNat, by omega⟩
  obtain ⟨K, hK⟩ : ∃ K : Nat, b = -1074 - K := ⟨(-1074 - b).toNat, by omega⟩
  subst hK
  unfold rnd rq
  rw [if_neg h0]
  have e1 : (-1074 - (K : Int) + (P : Int) - (-1074 - (K : Int))).toNat = P := by omega
  have e2 : (-1074 - (-1074 - (K : Int))).toNat = K := by omega
  rw [e1, e2]
  generalize hx : max (P + mag.log2 - 52) K = x
  have e3 : max (-1074 - (K : Int) + (P : Int) + (mag.log2 : Int) - 52) (-1074) = (x : Int) - 1074 - K := by omega
  rw [e3]
  have e4 : ((x : Int) - 1074 - (K : Int) + 1074).toNat = x - K := by omega
  have e5 : (-1074 - (K : Int) + (P : Int) - ((x : Int) - 1074 - (K : Int))).toNat = P - x := by omega
  have e6 : ((x : Int) - 1074 - (K : Int) - (-1074 - (K : Int) + (P : Int))).toNat = x - P := by omega
  rw [e4, e5, e6, Nat.shiftLeft_eq, Nat.one_mul]
  congr 2
  by_cases hp : P ≤ x
  · rw [show P - x = 0 from by omega, Nat.pow_zero, Nat.mul_one]
    have := rn_scale (n := mag) (g := 2 ^ (x - P)) (c := 2 ^ P) (Nat.two_pow_pos _) (Nat.two_pow_pos _)
    rw [← Nat.pow_add, show x - P + P = x from by omega] at this
    exact this.symm
  · rw [show x - P = 0 from by omega, Nat.pow_zero, rn_one]
    have := rn_mul (n := mag * 2 ^ (P - x)) (c := 2 ^ x) (Nat.two_pow_pos _)
    rw [Nat.mul_assoc, ← Nat.pow_add, show P - x + x = P from by omega] at this
    exact this.symm
theorem rq_bounds {mag P : Nat} (h0 : mag ≠ 0) : 2 ^ (P + mag.log2) * 1 ≤ mag * 2 ^ P ∧ mag * 2 ^ P < 2 ^ (P + mag.log2 + 1) * 1 := by
  obtain ⟨h1, h2⟩ := log2_bounds h0
  rw [Nat.mul_one, Nat.mul_one]
  constructor
  · rw [Nat.pow_add, Nat.mul_comm]; exact Nat.mul_le_mul_right _ h1
  · rw [Nat.add_assoc, Nat.pow_add, Nat.mul_comm (2 ^ P)]; exact Nat.mul_lt_mul_of_pos_right h2 (Nat.two_pow_pos _)
/-- rounding never turns an order about -/
theorem rnd_mono {m n : Nat} {p q : Int} (b : Int) (h1 : b ≤ p) (h2 : b ≤ q) (h3 : b ≤ -1074) (h : m * 2 ^ (p - b).toNat ≤ n * 2 ^ (q - b).toNat) : rnd m p ≤ rnd n q := by
  by_cases hm : m = 0
  · subst hm; rw [rnd_zero]; exact Nat.zero_le _
  have hn : n ≠ 0 := by
    rintro rfl
    have := Nat.mul_pos (Nat.pos_of_ne_zero hm) (Nat.two_pow_pos (p - b).toNat)
    omega
  rw [rnd_rq b h1 h3 hm, rnd_rq b h2 h3 hn]
  have a := rq_bounds (P := (p - b).toNat) hm
  have c := rq_bounds (P := (q - b).toNat) hn
  have := rq_mono (K := (-1074 - b).toNat) (by omega) (by omega) (by rw [Nat.mul_one, Nat.mul_one]; exact h) a.1 a.2 c.1 c.2
  exact Nat.le_min.2 ⟨Nat.le_trans (Nat.min_le_left _ _) this, Nat.min_le_right _ _⟩
theorem rnd_same {m n : Nat} {p q : Int} (b : Int) (h1 : b ≤ p) (h2 : b ≤ q) (h3 : b ≤ -1074) (h : m * 2 ^ (p - b).toNat = n * 2 ^ (q - b).toNat) : rnd m p = rnd n q :=
  Nat.le_antisymm (rnd_mono b h1 h2 h3 (Nat.le_of_eq h)) (rnd_mono b h2 h1 h3 (Nat.le_of_eq h.symm))

end Go.Proofs.Ytdiphgkgehpgiaa
