/- DERIVED. Plain mathematics of layer 1: what was written is read. -/
import Derived.Test.YtkippnfijjhobabLwB
namespace Go.Proofs.Ytkippnfijjhobab

/-- t bits that make V are the first of T bits that make X -/
def Pre (t V T X : Nat) : Prop := t ≤ T ∧ X / 2 ^ (T - t) = V
theorem Pre.refl (t V : Nat) : Pre t V t V := ⟨Nat.le_refl _, by simp⟩
theorem Pre.trans {t V u U T X : Nat} (h : Pre t V u U) (k : Pre u U T X) : Pre t V T X := by
  refine ⟨Nat.le_trans h.1 k.1, ?_⟩
  rw [show T - t = (T - u) + (u - t) from by have := h.1; have := k.1; omega, Nat.pow_add, ← Nat.div_div_eq_div_mul, k.2, h.2]
theorem Pre.app (t V n v : Nat) (hv : v < 2 ^ n) : Pre t V (t + n) (V * 2 ^ n + v) := by
  refine ⟨by omega, ?_⟩
  rw [Nat.add_sub_cancel_left, Nat.mul_comm, Nat.mul_add_div (Nat.two_pow_pos n), Nat.div_eq_of_lt hv, Nat.add_zero]

/-- the bits of the bytes are those of the number -/
theorem Wv.num {zs : List Nat} {T X : Nat} (h : Wv zs T X) (p n : Nat) (hpn : p + n ≤ T) : num zs p n = X / 2 ^ (T - p - n) % 2 ^ n := by
  have hl := h.len
  have h1 := num_cut zs 0 p n (8 * zs.length - p - n) zs.length (by omega)
  rw [← acc_num zs h.byt, h.val, Nat.mul_zero, Nat.zero_add] at h1
  rw [← h1]
  rw [show 8 * zs.length - p - n = (8 * zs.length - T) + (T - p - n) from by omega, Nat.pow_add, ← Nat.div_div_eq_div_mul, Nat.mul_div_cancel _ (Nat.two_pow_pos _)]
theorem Wv.pre {zs : List Nat} {T X t V : Nat} (h : Wv zs T X) (hp : Pre t V T X) (p n : Nat) (hpn : p + n ≤ t) : Go.Proofs.Ytkippnfijjhobab.num zs p n = V / 2 ^ (t - p - n) % 2 ^ n := by
  have h1 := hp.1
  rw [h.num p n (by omega), ← hp.2, Nat.div_div_eq_div_mul, ← Nat.pow_add]
  congr 3
  omega
/-- behind the last bit there are noughts -/
theorem Wv.tail {zs : List Nat} {T X : Nat} (h : Wv zs T X) : Go.Proofs.Ytkippnfijjhobab.num zs T (8 * zs.length - T) = 0 := by
  have hl := h.len
  have h1 := num_cut zs 0 T (8 * zs.length - T) 0 zs.length (by omega)
  rw [← acc_num zs h.byt, h.val, Nat.mul_zero, Nat.zero_add] at h1
  rw [← h1]
  simp
theorem low_bits (V n v : Nat) (hv : v < 2 ^ n) : (V * 2 ^ n + v) % 2 ^ n = v := by
  rw [Nat.mul_comm, Nat.mul_add_mod, Nat.mod_eq_of_lt hv]

/-- a reader of zs that stands at t: what the call wrote is what it reads -/
def Reads (zs : List Nat) (t : Nat) (k n : Int) (v t' : Nat) : Prop := (rdOne zs t k n).2 = (0, t') ∧ (bring5 k < 4 → (rdOne zs t k n).1 = v)

theorem back_fixed {zs : List Nat} {T X t V v : Nat} {n : Int} {t' V' : Nat} (h : Wv zs T X) (hw : wFixed t V v n = (0, t', V')) (hp : Pre t' V' T X) : Pre t V t' V' ∧ rFixed zs t n = (v, 0, t') := by
  unfold wFixed at hw
  split at hw
  · simp at hw
  · rename_i hc
    have h0 : 0 ≤ n := by omega
    obtain ⟨m, rfl⟩ := Int.eq_ofNat_of_zero_le h0
    simp only [Int.toNat_natCast, Prod.mk.injEq, true_and] at hw
    obtain ⟨rfl, rfl⟩ := hw
    simp only [Int.toNat_natCast, not_or, Decidable.not_not] at hc
    have hlt : v < 2 ^ m := by rcases Nat.div_eq_zero_iff.1 hc.2.2 with e | e; have := Nat.two_pow_pos m; omega; exact e
    refine ⟨Pre.app t V m v hlt, ?_⟩
    have hl := h.len
    have hT := hp.1
    unfold rFixed
    rw [if_neg (by omega), if_neg (by simp only [Int.toNat_natCast]; omega)]
    simp only [Int.toNat_natCast]
    rw [h.pre hp t m (Nat.le_refl _), show t + m - t - m = 0 from by omega, Nat.pow_zero, Nat.div_one, low_bits V m v hlt]

theorem sgn_back (v : Nat) (hv : v < 4294967296) : ((sgn v) % 4294967296).toNat = v := by unfold sgn; omega

theorem back_signed {zs : List Nat} {T X t V : Nat} {v n : Int} {t' V' : Nat} (h : Wv zs T X) (hw : wSigned t V v n = (0, t', V')) (hp : Pre t' V' T X) : Pre t V t' V' ∧ rSigned zs t n = (v, 0, t') := by
  unfold wSigned at hw
  split at hw
  · simp at hw
  · rename_i hc
    have h0 : 0 ≤ n := by omega
    obtain ⟨m, rfl⟩ := Int.eq_ofNat_of_zero_le h0
    simp only [Int.toNat_natCast, Prod.mk.injEq, true_and] at hw
    simp only [Int.toNat_natCast, not_or, Decidable.not_not] at hc
    have hlt : v.natAbs < 2 ^ m := by rcases Nat.div_eq_zero_iff.1 hc.2.2 with e | e; have := Nat.two_pow_pos m; omega; exact e
    generalize hs : (if v < 0 then 1 else 0) = s at hw
    have hs2 : s < 2 ^ 1 := by rw [← hs]; split <;> omega
    obtain ⟨rfl, rfl⟩ := hw
    have hpr : Pre t V (t + 1 + m) ((V * 2 ^ 1 + s) * 2 ^ m + v.natAbs) := (Pre.app t V 1 s hs2).trans (Pre.app (t + 1) (V * 2 ^ 1 + s) m v.natAbs hlt)
    refine ⟨hpr, ?_⟩
    have hl := h.len
    have hT := hp.1
    have e1 : num zs t 1 = s := by
      rw [h.pre ((Pre.app (t + 1) (V * 2 ^ 1 + s) m v.natAbs hlt).trans hp) t 1 (Nat.le_refl _), show t + 1 - t - 1 = 0 from by omega, Nat.pow_zero, Nat.div_one, low_bits V 1 s hs2]
    have e2 : num zs (t + 1) m = v.natAbs := by
      rw [h.pre hp (t + 1) m (Nat.le_refl _), show t + 1 + m - (t + 1) - m = 0 from by omega, Nat.pow_zero, Nat.div_one, low_bits _ m v.natAbs hlt]
    unfold rSigned
    rw [if_neg (by omega), if_neg (by simp only [Int.toNat_natCast]; omega)]
    simp only [Int.toNat_natCast]
    rw [e1, e2]
    by_cases hv : v < 0
    · rw [if_pos hv] at hs
      rw [if_pos hs.symm, if_neg (by omega)]
      simp only [Prod.mk.injEq, true_and]
      omega
    · rw [if_neg hv] at hs
      rw [if_neg (by omega)]
      simp only [Prod.mk.injEq, true_and]
      omega

theorem uvK_of {zs : List Nat} {t k : Nat} (hk : k ≤ 31) (hL : k < 8 * zs.length - t) (h0 : ∀ j, j < k → bitAt zs (t + j) = 0) (h1 : bitAt zs (t + k) = 1) : uvK zs t = k := by
  obtain ⟨_, hb, hc, hd, he⟩ := zrs_spec zs t (8 * zs.length - t) 32 0 (Nat.zero_le _)
  change uvK zs t ≤ _ at hb
  change uvK zs t ≤ _ at hc
  change uvK zs t = _ ∨ uvK zs t = _ ∨ bitAt zs (t + uvK zs t) = 1 at he
  change ∀ j, 0 ≤ j → j < uvK zs t → bitAt zs (t + j) = 0 at hd
  generalize uvK zs t = K at *
  rcases Nat.lt_trichotomy K k with hlt | heq | hgt
  · have := h0 K hlt
    omega
  · exact heq
  · have := hd k (by omega) hgt
    omega

theorem back_uvlc {zs : List Nat} {T X t V v : Nat} {t' V' : Nat} (hv : v < 4294967296) (h : Wv zs T X) (hw : wUvlc t V v = (0, t', V')) (hp : Pre t' V' T X) : Pre t V t' V' ∧ rUvlc zs t = (v, 0, t') := by
  unfold wUvlc at hw
  split at hw
  · simp at hw
  · rename_i hc
    obtain ⟨a1, a2, a3, a4⟩ := len_bounds (v + 1) (by omega) (by omega)
    generalize Lib.bitLen (v + 1) = k at *
    obtain ⟨m, rfl⟩ : ∃ m, k = m + 1 := ⟨k - 1, by omega⟩
    simp only [Nat.add_sub_cancel, Prod.mk.injEq, true_and] at hw a2
    obtain ⟨rfl, rfl⟩ := hw
    have p1 : Pre t V (t + m) (V * 2 ^ m + 0) := Pre.app t V m 0 (Nat.two_pow_pos m)
    have p2 : Pre (t + m) (V * 2 ^ m + 0) (t + m + (m + 1)) ((V * 2 ^ m + 0) * 2 ^ (m + 1) + (v + 1)) := Pre.app _ _ _ _ a3
    refine ⟨p1.trans p2, ?_⟩
    have hl := h.len
    have hT := hp.1
    have z0 : num zs t m = 0 := by
      rw [h.pre (p2.trans hp) t m (Nat.le_refl _), show t + m - t - m = 0 from by omega, Nat.pow_zero, Nat.div_one, low_bits V m 0 (Nat.two_pow_pos m)]
    have z1 : num zs (t + m) (m + 1) = v + 1 := by
      rw [h.pre hp (t + m) (m + 1) (Nat.le_refl _), show t + m + (m + 1) - (t + m) - (m + 1) = 0 from by omega, Nat.pow_zero, Nat.div_one, low_bits _ (m + 1) (v + 1) a3]
    have zb : ∀ j, j < m → bitAt zs (t + j) = 0 := by
      intro j hj
      have e := num_add zs t j (m - j)
      rw [show j + (m - j) = m from by omega, z0] at e
      have e2 := num_add zs (t + j) 1 (m - j - 1)
      rw [show 1 + (m - j - 1) = m - j from by omega, num_one] at e2
      have hz : num zs (t + j) (m - j) = 0 := by omega
      rw [hz] at e2
      have hpos := Nat.two_pow_pos (m - j - 1)
      rcases Nat.eq_zero_or_pos (bitAt zs (t + j)) with e3 | e3
      · exact e3
      · have : 1 * 2 ^ (m - j - 1) ≤ bitAt zs (t + j) * 2 ^ (m - j - 1) := Nat.mul_le_mul_right _ e3
        omega
    have ob : bitAt zs (t + m) = 1 := by
      have e2 := num_add zs (t + m) 1 m
      rw [show 1 + m = m + 1 from by omega, num_one, z1] at e2
      have hlt := num_lt zs (t + m + 1) m
      have hb := bitAt_lt zs (t + m)
      rcases Nat.eq_zero_or_pos (bitAt zs (t + m)) with e3 | e3
      · rw [e3] at e2; omega
      · omega
    have hK := uvK_of (zs := zs) (t := t) (k := m) (by omega) (by omega) zb ob
    unfold rUvlc
    rw [hK, if_neg (by omega), if_neg (by omega), if_neg (by omega), z1]
    simp only [Nat.add_sub_cancel, Prod.mk.injEq, true_and]
    omega

theorem back_lebGo {zs : List Nat} {T X : Nat} (h : Wv zs T X) (s p : Nat) : ∀ f i t V v a t' V', lebGo f t V v = (t', V') → i + f = 4 → t = 8 * (s + i) → v < 16 * 128 ^ f → (0 < i → v ≠ 0) → Pre t' V' T X →
    Pre t V t' V' ∧ rLebFrom zs s p (f + 1) i a = (a + v * 2 ^ (7 * i), 0, t') := by
  intro f
  induction f with
  | zero =>
    intro i t V v a t' V' hg hi ht hv hnz hp
    obtain rfl : i = 4 := by omega
    simp only [lebGo, Prod.mk.injEq] at hg
    obtain ⟨rfl, rfl⟩ := hg
    have hl := h.len
    have hT := hp.1
    simp at hv
    have pa : Pre t V (t + 8) (V * 2 ^ 8 + v) := Pre.app t V 8 v (by omega)
    have hb : zs.getD (s + 4) 0 = v := by
      rw [← num_byte zs (s + 4) (h.byt _), ← ht, h.pre hp t 8 (Nat.le_refl _), show t + 8 - t - 8 = 0 from by omega, Nat.pow_zero, Nat.div_one]
      exact low_bits V 8 v (by omega)
    refine ⟨pa, ?_⟩
    rw [rLebFrom, hb, if_neg (by omega), if_neg (by omega), if_pos (by omega)]
    simp only [Prod.mk.injEq, true_and]
    rw [Nat.mod_eq_of_lt (by omega)]
    omega
  | succ f ih =>
    intro i t V v a t' V' hg hi ht hv hnz hp
    have hl := h.len
    rw [lebGo] at hg
    by_cases hlt : v < 128
    · rw [if_pos hlt] at hg
      simp only [Prod.mk.injEq] at hg
      obtain ⟨rfl, rfl⟩ := hg
      have hT := hp.1
      have pa : Pre t V (t + 8) (V * 2 ^ 8 + v) := Pre.app t V 8 v (by omega)
      have hb : zs.getD (s + i) 0 = v := by
        rw [← num_byte zs (s + i) (h.byt _), ← ht, h.pre hp t 8 (Nat.le_refl _), show t + 8 - t - 8 = 0 from by omega, Nat.pow_zero, Nat.div_one]
        exact low_bits V 8 v (by omega)
      refine ⟨pa, ?_⟩
      rw [rLebFrom, hb, if_neg (by omega), if_neg (by omega), if_pos hlt]
      simp only [Prod.mk.injEq, true_and]
      rw [Nat.mod_eq_of_lt hlt]
      omega
    · rw [if_neg hlt] at hg
      have hv2 : v / 128 < 16 * 128 ^ f := by rw [Nat.pow_succ] at hv; omega
      obtain ⟨q1, q2⟩ := ih (i + 1) (t + 8) (V * 256 + (v % 128 + 128)) (v / 128) (a + v % 128 * 2 ^ (7 * i)) t' V' hg (by omega) (by omega) hv2 (by omega) hp
      have pa : Pre t V (t + 8) (V * 2 ^ 8 + (v % 128 + 128)) := Pre.app t V 8 _ (by omega)
      have hp8 := q1.trans hp
      have hT := hp8.1
      have hb : zs.getD (s + i) 0 = v % 128 + 128 := by
        rw [← num_byte zs (s + i) (h.byt _), ← ht, h.pre hp8 t 8 (Nat.le_refl _), show t + 8 - t - 8 = 0 from by omega, Nat.pow_zero, Nat.div_one]
        exact low_bits V 8 (v % 128 + 128) (by omega)
      refine ⟨pa.trans q1, ?_⟩
      rw [rLebFrom, hb, if_neg (by omega), if_neg (by omega), if_neg (by omega), show (v % 128 + 128) % 128 = v % 128 from by omega, q2]
      simp only [Prod.mk.injEq, and_true]
      have e : 2 ^ (7 * (i + 1)) = 128 * 2 ^ (7 * i) := by rw [show 7 * (i + 1) = 7 + 7 * i from by omega, Nat.pow_add]
      have hd : v = v % 128 + 128 * (v / 128) := by omega
      rw [e, Nat.add_assoc, ← Nat.mul_assoc, ← Nat.add_mul]
      congr 2
      omega

theorem back_leb {zs : List Nat} {T X t V v : Nat} {t' V' : Nat} (hv : v < 4294967296) (h : Wv zs T X) (hw : wLeb t V v = (0, t', V')) (hp : Pre t' V' T X) : Pre t V t' V' ∧ rLeb zs t = (v, 0, t') := by
  unfold wLeb at hw
  split at hw
  · rename_i h8
    simp only [Prod.mk.injEq, true_and] at hw
    obtain ⟨q1, q2⟩ := back_lebGo h (t / 8) t 4 0 t V v 0 t' V' (by rw [← hw.1, ← hw.2]) rfl (by omega) (by omega) (by omega) hp
    refine ⟨q1, ?_⟩
    unfold rLeb
    rw [if_pos h8, q2]
    simp
  · simp at hw

theorem back_align {zs : List Nat} {T X t V : Nat} (h : Wv zs T X) (hp : Pre (wAlign t V).1 (wAlign t V).2 T X) : Pre t V (wAlign t V).1 (wAlign t V).2 ∧ rAlign zs t = (0, (wAlign t V).1) := by
  unfold wAlign at *
  simp only at *
  have hpr : Pre t V (8 * ((t + 7) / 8)) (V * 2 ^ (8 * ((t + 7) / 8) - t)) := by
    have := Pre.app t V (8 * ((t + 7) / 8) - t) 0 (Nat.two_pow_pos _)
    rw [Nat.add_zero, show t + (8 * ((t + 7) / 8) - t) = 8 * ((t + 7) / 8) from by omega] at this
    exact this
  refine ⟨hpr, ?_⟩
  unfold rAlign
  rw [show (t + 7) / 8 * 8 = 8 * ((t + 7) / 8) from by omega]
  rw [if_pos ?_]
  rw [h.pre hp t _ (by omega), show 8 * ((t + 7) / 8) - t - (8 * ((t + 7) / 8) - t) = 0 from by omega, Nat.pow_zero, Nat.div_one, Nat.mul_mod_left]

/-- what a call has written the same call reads -/
theorem back_one {zs : List Nat} {T X t V v : Nat} {k n : Int} {t' V' : Nat} (hv : v < 4294967296) (h : Wv zs T X) (hw : wrOne t V k n v = (0, t', V')) (hp : Pre t' V' T X) : Pre t V t' V' ∧ Reads zs t k n v t' := by
  unfold wrOne at hw
  have hlt := bring5_lt k
  obtain hc | hc | hc | hc | hc : bring5 k = 0 ∨ bring5 k = 1 ∨ bring5 k = 2 ∨ bring5 k = 3 ∨ bring5 k = 4 := by omega
  · rw [hc] at hw
    obtain ⟨q1, q2⟩ := back_fixed h hw hp
    refine ⟨q1, ?_, ?_⟩ <;> unfold rdOne <;> rw [hc] <;> simp [q2]
  · rw [hc] at hw
    obtain ⟨q1, q2⟩ := back_signed h hw hp
    refine ⟨q1, ?_, ?_⟩ <;> unfold rdOne <;> rw [hc] <;> simp [q2, sgn_back v hv]
  · rw [hc] at hw
    obtain ⟨q1, q2⟩ := back_uvlc hv h hw hp
    refine ⟨q1, ?_, ?_⟩ <;> unfold rdOne <;> rw [hc] <;> simp [q2]
  · rw [hc] at hw
    obtain ⟨q1, q2⟩ := back_leb hv h hw hp
    refine ⟨q1, ?_, ?_⟩ <;> unfold rdOne <;> rw [hc] <;> simp [q2]
  · rw [hc] at hw
    simp only [Prod.mk.injEq, true_and] at hw
    obtain ⟨rfl, rfl⟩ := hw
    obtain ⟨q1, q2⟩ := back_align h hp
    refine ⟨q1, ?_, ?_⟩
    · unfold rdOne; rw [hc]; simp [q2]
    · intro hh; omega

end Go.Proofs.Ytkippnfijjhobab
