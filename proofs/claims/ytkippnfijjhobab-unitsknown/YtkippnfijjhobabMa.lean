/- DERIVED. Plain mathematics of layer 1: the bits of bytes and the numbers that they make. No program is named here. -/
import Derived.Laws.BitsLemmas
import Derived.Laws.Bits64
namespace Go.Proofs.Ytkippnfijjhobab

/-- the bit at a place, the highest one of each byte first -/
def bitAt (zs : List Nat) (i : Nat) : Nat := zs.getD (i / 8) 0 / 2 ^ (7 - i % 8) % 2
/-- the number of n bits from a place on -/
def num (zs : List Nat) (p : Nat) : Nat → Nat
  | 0 => 0
  | n + 1 => 2 * num zs p n + bitAt zs (p + n)
/-- the number of k bytes from s on, the highest first -/
def acc (zs : List Nat) (s : Nat) : Nat → Nat
  | 0 => 0
  | k + 1 => acc zs s k * 256 + zs.getD (s + k) 0

theorem bitAt_lt (zs : List Nat) (i : Nat) : bitAt zs i < 2 := Nat.mod_lt _ (by omega)
theorem num_lt (zs : List Nat) (p n : Nat) : num zs p n < 2 ^ n := by
  induction n with
  | zero => simp [num]
  | succ n ih => have := bitAt_lt zs (p + n); rw [num, Nat.pow_succ]; omega
theorem num_add (zs : List Nat) (p a b : Nat) : num zs p (a + b) = num zs p a * 2 ^ b + num zs (p + a) b := by
  induction b with
  | zero => simp [num]
  | succ b ih =>
    rw [← Nat.add_assoc, num, ih, num, Nat.pow_succ, Nat.add_assoc p a b, Nat.mul_add, ← Nat.mul_assoc, Nat.mul_comm 2 (num zs p a), Nat.mul_assoc, Nat.mul_comm 2 (2 ^ b)]
    omega
theorem num_byte (zs : List Nat) (s : Nat) (h : zs.getD s 0 < 256) : num zs (8 * s) 8 = zs.getD s 0 := by
  have e : ∀ j, j < 8 → bitAt zs (8 * s + j) = zs.getD s 0 / 2 ^ (7 - j) % 2 := by
    intro j hj
    unfold bitAt
    rw [show (8 * s + j) / 8 = s from by omega, show (8 * s + j) % 8 = j from by omega]
  simp only [num, e 0 (by omega), e 1 (by omega), e 2 (by omega), e 3 (by omega), e 4 (by omega), e 5 (by omega), e 6 (by omega), e 7 (by omega)]
  simp only [Nat.reduceSub, Nat.reducePow]
  omega
theorem acc_num (zs : List Nat) (hz : ∀ i, zs.getD i 0 < 256) (s k : Nat) : acc zs s k = num zs (8 * s) (8 * k) := by
  induction k with
  | zero => simp [acc, num]
  | succ k ih =>
    rw [acc, ih, show 8 * (k + 1) = 8 * k + 8 from by omega, num_add, show 8 * s + 8 * k = 8 * (s + k) from by omega, num_byte _ _ (hz _)]
theorem acc_lt (zs : List Nat) (hz : ∀ i, zs.getD i 0 < 256) (s k : Nat) : acc zs s k < 2 ^ (8 * k) := by rw [acc_num zs hz]; exact num_lt _ _ _
theorem num_cut (zs : List Nat) (s o n t m : Nat) (h : 8 * m = o + n + t) : num zs (8 * s) (8 * m) / 2 ^ t % 2 ^ n = num zs (8 * s + o) n := by
  have h1 := num_lt zs (8 * s + (o + n)) t
  have h2 := num_lt zs (8 * s + o) n
  rw [h, num_add, Nat.mul_comm, Nat.mul_add_div (Nat.two_pow_pos t), Nat.div_eq_of_lt h1, Nat.add_zero, num_add, Nat.mul_comm, Nat.mul_add_mod, Nat.mod_eq_of_lt h2]
/-- what 'look' reckons is the number of the bits -/
theorem look_num (zs : List Nat) (hz : ∀ i, zs.getD i 0 < 256) (p n : Nat) : acc zs (p / 8) ((p + n + 7) / 8 - p / 8) / 2 ^ ((p + n + 7) / 8 * 8 - (p + n)) % 2 ^ n = num zs p n := by
  rw [acc_num zs hz, num_cut zs (p / 8) (p % 8) n ((p + n + 7) / 8 * 8 - (p + n)) ((p + n + 7) / 8 - p / 8) (by omega), show 8 * (p / 8) + p % 8 = p from by omega]

theorem wraps_u64_63 (n : Int) (h₀ : 0 ≤ n) (h₁ : n < 2 ^ 63) : IntKind.u64.wrap n = n := by rw [IntKind.wrap_u64]; omega
/-- the step of 'look': a byte more -/
theorem look_step (a b : Nat) (ha : a < 4294967296) (hb : b < 256) : bits .or .u64 (IntKind.u64.wrap ((a : Int) * 256)) (IntKind.u64.wrap (b : Int)) = ((a * 256 + b : Nat) : Int) := by
  rw [wraps_u64_63 _ (by omega) (by omega), wraps_u64_63 _ (by omega) (by omega), bits_join .u64 63 (by decide) wraps_u64_63 8 _ _ (by omega) (by omega) (by omega) (by omega) (by omega) (by omega)]
  omega
theorem look_end (a t n : Nat) (ha : a < 2 ^ 40) (hn : n ≤ 32) : bits .and .u64 ((a : Int) / 2 ^ t) (IntKind.u64.wrap (IntKind.u64.wrap (2 ^ n) - 1)) % 4294967296 = ((a / 2 ^ t % 2 ^ n : Nat) : Int) := by
  have h1 : (2 : Nat) ^ n ≤ 2 ^ 32 := Nat.pow_le_pow_right (by omega) hn
  have h0 : 0 < (2 : Nat) ^ n := Nat.two_pow_pos n
  have e : (2 : Int) ^ n = ((2 ^ n : Nat) : Int) := by simp
  have et : (2 : Int) ^ t = ((2 ^ t : Nat) : Int) := by simp
  have hd : a / 2 ^ t ≤ a := Nat.div_le_self _ _
  have hm : a / 2 ^ t % 2 ^ n < 2 ^ n := Nat.mod_lt _ h0
  rw [et, ← Int.natCast_ediv]
  generalize a / 2 ^ t = q at *
  rw [wraps_u64_63 (2 ^ n) (by rw [e]; omega) (by rw [e]; omega), wraps_u64_63 (2 ^ n - 1) (by rw [e]; omega) (by rw [e]; omega)]
  rw [bits_mask .u64 63 (by decide) wraps_u64_63 n (by omega) _ (by omega) (by omega), e]
  omega

theorem num_one (zs : List Nat) (q : Nat) : num zs q 1 = bitAt zs q := by simp [num]

/-- noughts from a place on: at most f more, at most L in all -/
def zrs (zs : List Nat) (p L : Nat) : Nat → Nat → Nat
  | 0, k => k
  | f + 1, k => if k < L ∧ bitAt zs (p + k) = 0 then zrs zs p L f (k + 1) else k
theorem zrs_spec (zs : List Nat) (p L : Nat) : ∀ f k, k ≤ L → k ≤ zrs zs p L f k ∧ zrs zs p L f k ≤ k + f ∧ zrs zs p L f k ≤ L ∧ (∀ j, k ≤ j → j < zrs zs p L f k → bitAt zs (p + j) = 0) ∧ (zrs zs p L f k = k + f ∨ zrs zs p L f k = L ∨ bitAt zs (p + zrs zs p L f k) = 1) := by
  intro f
  induction f with
  | zero => intro k hk; exact ⟨Nat.le_refl _, Nat.le_refl _, hk, fun j a b => by simp [zrs] at b; omega, Or.inl rfl⟩
  | succ f ih =>
    intro k hk
    rw [zrs]
    by_cases h : k < L ∧ bitAt zs (p + k) = 0
    · rw [if_pos h]
      obtain ⟨a, b, c, d, e⟩ := ih (k + 1) (by omega)
      refine ⟨by omega, by omega, c, fun j h1 h2 => ?_, by rcases e with e | e | e <;> simp [e] <;> omega⟩
      by_cases hj : j = k
      · rw [hj]; exact h.2
      · exact d j (by omega) h2
    · rw [if_neg h]
      have := bitAt_lt zs (p + k)
      refine ⟨Nat.le_refl _, by omega, hk, fun j a b => by omega, ?_⟩
      by_cases hl : k = L
      · exact Or.inr (Or.inl hl)
      · right; right; omega

end Go.Proofs.Ytkippnfijjhobab
