/- DERIVED. Plain mathematics of layer 1: the bytes of what was written, as one number. No program is named here. -/
import Derived.Test.YtkippnfijjhobabMa
namespace Go.Proofs.Ytkippnfijjhobab

/-- the bytes ys are t bits that make the number V, and then noughts -/
structure Wv (ys : List Nat) (t V : Nat) : Prop where
  byt : ∀ i, ys.getD i 0 < 256
  len : ys.length = (t + 7) / 8
  val : acc ys 0 ys.length = V * 2 ^ (8 * ys.length - t)
  vlt : V < 2 ^ t

theorem acc_append (ys zs : List Nat) (k : Nat) (h : k ≤ ys.length) : acc (ys ++ zs) 0 k = acc ys 0 k := by
  induction k with
  | zero => rfl
  | succ k ih =>
    rw [acc, acc, ih (by omega)]
    simp [List.getD_eq_getElem?_getD, List.getElem?_append_left (show k < ys.length by omega)]
theorem acc_set (ys : List Nat) (i b k : Nat) (h : k ≤ i) : acc (ys.set i b) 0 k = acc ys 0 k := by
  induction k with
  | zero => rfl
  | succ k ih =>
    rw [acc, acc, ih (by omega)]
    simp [List.getD_eq_getElem?_getD, List.getElem?_set_ne (show i ≠ k by omega)]
/-- a byte 0 more, at a byte's beginning -/
theorem Wv.more {ys : List Nat} {t V : Nat} (h : Wv ys t V) (h8 : t % 8 = 0) : acc (ys ++ [0]) 0 (ys.length + 1) = V * 2 ^ 8 ∧ 8 * ys.length = t := by
  have hl := h.len
  have e : 8 * ys.length - t = 0 := by omega
  have hv := h.val
  rw [e] at hv
  refine ⟨?_, by omega⟩
  rw [acc, acc_append _ _ _ (Nat.le_refl _), hv]
  simp
/-- the last byte, when it has room for k bits more: it is a multiple of 2^f, and so a part goes in below -/
theorem last_room (L S b f : Nat) (hb : b < 256) (hf : f ≤ 8) (h : S * 256 + b = L * 2 ^ f) : b % 2 ^ f = 0 := by
  have h1 : (2 : Nat) ^ 8 = 2 ^ f * 2 ^ (8 - f) := by rw [← Nat.pow_add]; congr 1; omega
  have h2 : b = L * 2 ^ f - S * 256 := by omega
  have h3 : S * 256 = (S * 2 ^ (8 - f)) * 2 ^ f := by
    rw [show (256 : Nat) = 2 ^ 8 from by decide, h1, Nat.mul_comm (2 ^ f), Nat.mul_assoc]
  rw [h2, h3, ← Nat.mul_sub_right_distrib]
  exact Nat.mul_mod_left _ _
/-- a step of 'put': the last byte takes the part of k bits, f' are still free -/
theorem Wv.step {ys : List Nat} {t V f' k part last : Nat} (hb : ∀ i, ys.getD i 0 < 256) (hL : 0 < ys.length) (hlast : ys.getD (ys.length - 1) 0 = last) (hft : t + k + f' = 8 * ys.length) (hf8 : f' < 8)
    (hval : acc ys 0 ys.length = V * 2 ^ (f' + k)) (hV : V < 2 ^ t) (hp : part < 2 ^ k) (hs : last + part * 2 ^ f' < 256) :
    Wv (ys.set (ys.length - 1) (last + part * 2 ^ f')) (t + k) (V * 2 ^ k + part) := by
  obtain ⟨m, hm⟩ : ∃ m, ys.length = m + 1 := ⟨ys.length - 1, by omega⟩
  refine ⟨?_, ?_, ?_, ?_⟩
  · intro i
    by_cases hi : i = ys.length - 1
    · subst hi; simp [List.getD_eq_getElem?_getD, hm]; simpa using hs
    · simp [List.getD_eq_getElem?_getD, List.getElem?_set_ne (show ys.length - 1 ≠ i by omega)]
      simpa [List.getD_eq_getElem?_getD] using hb i
  · simp; omega
  · rw [List.length_set, hm, acc, acc_set _ _ _ _ (by omega)]
    rw [hm, acc] at hval
    have e1 : (ys.set (m + 1 - 1) (last + part * 2 ^ f')).getD (0 + m) 0 = last + part * 2 ^ f' := by simp [List.getD_eq_getElem?_getD, hm]
    have e2 : ys.getD (0 + m) 0 = last := by rw [← hlast, hm]; simp
    rw [e1]
    rw [e2] at hval
    rw [show 8 * (m + 1) - (t + k) = f' from by omega, ← Nat.add_assoc, hval, Nat.pow_add, Nat.add_mul, Nat.mul_assoc, Nat.mul_comm (2 ^ k)]
  · rw [Nat.pow_add]
    have : V * 2 ^ k + 2 ^ k ≤ 2 ^ t * 2 ^ k := by rw [← Nat.succ_mul]; exact Nat.mul_le_mul_right _ hV
    omega
theorem wraps_u32 (n : Int) (h₀ : 0 ≤ n) (h₁ : n < 2 ^ 32) : IntKind.u32.wrap n = n := by rw [IntKind.wrap_u32]; omega
/-- the byte that 'put' stores -/
theorem put_byte (last a k f' : Nat) (hl : last < 256) (ha : a < 4294967296) (hkf : k + f' ≤ 8) (hm : last % 2 ^ (k + f') = 0) :
    bits .or .u8 (last : Int) (bits .and .u32 (a : Int) ((2 ^ k - 1) % 4294967296) * 2 ^ f' % 256) = ((last + a % 2 ^ k * 2 ^ f' : Nat) : Int) := by
  have h0 : 0 < (2 : Nat) ^ k := Nat.two_pow_pos k
  have h1 : (2 : Nat) ^ k ≤ 2 ^ 8 := Nat.pow_le_pow_right (by omega) (by omega)
  have e : (2 : Int) ^ k = ((2 ^ k : Nat) : Int) := by simp
  have ef : (2 : Int) ^ f' = ((2 ^ f' : Nat) : Int) := by simp
  have e1 : ((2 : Int) ^ k - 1) % 4294967296 = 2 ^ k - 1 := by rw [e]; omega
  have hp : a % 2 ^ k < 2 ^ k := Nat.mod_lt _ h0
  have hpf : a % 2 ^ k * 2 ^ f' < 2 ^ (k + f') := by
    rw [Nat.pow_add]; exact Nat.mul_lt_mul_of_pos_right hp (Nat.two_pow_pos f')
  have h8 : (2 : Nat) ^ (k + f') ≤ 2 ^ 8 := Nat.pow_le_pow_right (by omega) hkf
  rw [e1, bits_mask .u32 32 (by decide) wraps_u32 k (by omega) _ (by omega) (by omega), e, ← Int.natCast_emod, ef, ← Int.natCast_mul]
  generalize a % 2 ^ k * 2 ^ f' = p at *
  have ei : (2 : Int) ^ (k + f') = ((2 ^ (k + f') : Nat) : Int) := by simp
  rw [show ((p : Nat) : Int) % 256 = (p : Int) from by omega]
  rw [bits_join .u8 8 (by decide) wraps_u8 (k + f') _ _ (by omega) (by rw [ei]; exact_mod_cast hm) (by omega) (by omega) (by rw [ei]; exact_mod_cast hpf) (by omega)]
  omega
theorem put_byte0 (last v s k : Nat) (hl : last < 256) (ha : v < 4294967296) (hk : k ≤ 8) (hm : last % 2 ^ (k + (k - k)) = 0) :
    bits .or .u8 (last : Int) (bits .and .u32 ((v : Int) / 2 ^ s) ((2 ^ k - 1) % 4294967296) % 256) = ((last + v / 2 ^ s % 2 ^ k * 2 ^ (k - k) : Nat) : Int) := by
  have hd : v / 2 ^ s ≤ v := Nat.div_le_self _ _
  have := put_byte last (v / 2 ^ s) k (k - k) hl (by omega) (by omega) hm
  rw [← this, Nat.sub_self]
  simp
/-- the byte stays a byte -/
theorem put_small (last p k f' : Nat) (hl : last < 256) (hkf : k + f' ≤ 8) (hm : last % 2 ^ (k + f') = 0) (hp : p < 2 ^ k) : last + p * 2 ^ f' < 256 := by
  have h1 : p * 2 ^ f' < 2 ^ (k + f') := by rw [Nat.pow_add]; exact Nat.mul_lt_mul_of_pos_right hp (Nat.two_pow_pos f')
  have h2 : (256 : Nat) = 2 ^ (k + f') * 2 ^ (8 - (k + f')) := by rw [← Nat.pow_add, show k + f' + (8 - (k + f')) = 8 from by omega]
  obtain ⟨c, hc⟩ : ∃ c, last = 2 ^ (k + f') * c := ⟨last / 2 ^ (k + f'), by have := Nat.div_add_mod last (2 ^ (k + f')); omega⟩
  have h3 : c < 2 ^ (8 - (k + f')) := by
    rw [hc, h2] at hl
    exact Nat.lt_of_mul_lt_mul_left hl
  have h4 : 2 ^ (k + f') * c + 2 ^ (k + f') ≤ 2 ^ (k + f') * 2 ^ (8 - (k + f')) := by rw [← Nat.mul_succ]; exact Nat.mul_le_mul_left _ h3
  omega
theorem put_value (V v n m k : Nat) (hm : m ≤ n) (hk : k ≤ m) : V * 2 ^ (n - (m - k)) + v / 2 ^ (m - k) = (V * 2 ^ (n - m) + v / 2 ^ m) * 2 ^ k + v / 2 ^ (m - k) % 2 ^ k := by
  have e1 : (2 : Nat) ^ m = 2 ^ (m - k) * 2 ^ k := by rw [← Nat.pow_add]; congr 1; omega
  have e2 : (2 : Nat) ^ (n - (m - k)) = 2 ^ (n - m) * 2 ^ k := by rw [← Nat.pow_add]; congr 1; omega
  rw [e1, e2, ← Nat.div_div_eq_div_mul, Nat.add_mul, Nat.mul_assoc, Nat.add_assoc, Nat.mul_comm (v / 2 ^ (m - k) / 2 ^ k), Nat.div_add_mod]

theorem put_book {zr : List Nat} {q last f t1 V1 k : Nat} (a : Nat) (hb : ∀ i, zr.getD i 0 < 256) (hq : zr.length = q + 1) (hlast : zr.getD q 0 = last) (hval : acc zr 0 zr.length = V1 * 2 ^ f) (hft : t1 + f = 8 * (q + 1)) (hV : V1 < 2 ^ t1)
    (hf8 : f ≤ 8) (hk1 : 1 ≤ k) (hk : k ≤ f) : last % 2 ^ (k + (f - k)) = 0 ∧ Wv (zr.set q (last + a % 2 ^ k * 2 ^ (f - k))) (t1 + k) (V1 * 2 ^ k + a % 2 ^ k) := by
  have hl : last < 256 := by rw [← hlast]; exact hb q
  have h1 : last % 2 ^ (k + (f - k)) = 0 := by
    rw [show k + (f - k) = f from by omega]
    rw [hq, acc, Nat.zero_add, hlast] at hval
    exact last_room V1 (acc zr 0 q) last f hl hf8 hval
  refine ⟨h1, ?_⟩
  have hp : a % 2 ^ k < 2 ^ k := Nat.mod_lt _ (Nat.two_pow_pos k)
  have := Wv.step (ys := zr) (t := t1) (V := V1) (f' := f - k) (k := k) (part := a % 2 ^ k) (last := last) hb (by omega) (by rw [hq]; exact hlast) (by omega) (by omega) (by rw [hval]; congr 2; omega) hV hp (put_small last _ k (f - k) hl (by omega) h1 hp)
  rw [hq] at this
  exact this
theorem put_turn {zr : List Nat} {t V v n m k : Nat} (hm : m ≤ n) (hk : k ≤ m) (h : Wv zr (t + (n - m) + k) ((V * 2 ^ (n - m) + v / 2 ^ m) * 2 ^ k + v / 2 ^ (m - k) % 2 ^ k)) : Wv zr (t + (n - (m - k))) (V * 2 ^ (n - (m - k)) + v / 2 ^ (m - k)) := by
  rw [put_value V v n m k hm hk, show t + (n - (m - k)) = t + (n - m) + k from by omega]
  exact h

theorem wv_nil : Wv [] 0 0 := ⟨by simp, by simp, by simp [acc], by simp⟩

end Go.Proofs.Ytkippnfijjhobab
