/- DERIVED. Plain mathematics of layer 1: there is one way to write a number. -/
import Derived.Test.YtkippnfijjhobabMc
namespace Go.Proofs.Ytkippnfijjhobab

theorem once_fixed {zs : List Nat} {p val p' : Nat} {n : Int} (h : rFixed zs p n = (val, 0, p')) : wFixed p (num zs 0 p) val n = (0, p', num zs 0 p') ∧ val < 4294967296 := by
  unfold rFixed at h
  split at h
  · simp at h
  · rename_i hc
    split at h
    · simp at h
    · obtain ⟨m, rfl⟩ := Int.eq_ofNat_of_zero_le (show 0 ≤ n by omega)
      simp only [Int.toNat_natCast, Prod.mk.injEq, true_and] at h
      obtain ⟨rfl, rfl⟩ := h
      have hlt := num_lt zs p m
      have h32 : (2 : Nat) ^ m ≤ 2 ^ 32 := Nat.pow_le_pow_right (by omega) (by omega)
      refine ⟨?_, by omega⟩
      unfold wFixed
      rw [if_neg ?_]
      · simp only [Int.toNat_natCast]; rw [num_add zs 0 p m, Nat.zero_add]
      · simp only [Int.toNat_natCast, not_or, Decidable.not_not]
        exact ⟨by omega, by omega, Nat.div_eq_of_lt hlt⟩

theorem sgn_of (x : Int) (h1 : -2147483648 ≤ x) (h2 : x ≤ 2147483647) : sgn (x % 4294967296).toNat = x := by unfold sgn; omega

theorem once_signed {zs : List Nat} {p p' : Nat} {x n : Int} (h : rSigned zs p n = (x, 0, p')) : wSigned p (num zs 0 p) x n = (0, p', num zs 0 p') ∧ -2147483648 ≤ x ∧ x ≤ 2147483647 := by
  unfold rSigned at h
  split at h
  · simp at h
  · rename_i hc
    split at h
    · simp at h
    · obtain ⟨m, rfl⟩ := Int.eq_ofNat_of_zero_le (show 0 ≤ n by omega)
      simp only [Int.toNat_natCast] at h
      have hlt := num_lt zs (p + 1) m
      have h31 : (2 : Nat) ^ m ≤ 2 ^ 31 := Nat.pow_le_pow_right (by omega) (by omega)
      have hb := num_lt zs p 1
      have key : ∀ s : Nat, num zs p 1 = s → (num zs 0 p * 2 ^ 1 + s) * 2 ^ m + num zs (p + 1) m = num zs 0 (p + 1 + m) := by
        intro s hs
        rw [num_add zs 0 (p + 1) m, num_add zs 0 p 1, Nat.zero_add, Nat.zero_add, hs]
      have fin : ∀ (s : Nat) (y : Int), y.natAbs = num zs (p + 1) m → (if y < 0 then 1 else 0) = s → num zs p 1 = s → wSigned p (num zs 0 p) y m = (0, p + m + 1, num zs 0 (p + m + 1)) := by
        intro s y hy hsy hs
        unfold wSigned
        rw [if_neg ?_]
        · simp only [Int.toNat_natCast]
          rw [hsy, hy, key s hs, show p + 1 + m = p + m + 1 from by omega]
        · simp only [Int.toNat_natCast, not_or, Decidable.not_not]
          exact ⟨by omega, by omega, by rw [hy]; exact Nat.div_eq_of_lt hlt⟩
      split at h
      · rename_i hs
        split at h
        · simp at h
        · rename_i hz
          simp only [Prod.mk.injEq, true_and] at h
          obtain ⟨rfl, rfl⟩ := h
          exact ⟨fin 1 _ (by omega) (if_pos (by omega)) hs, by omega, by omega⟩
      · rename_i hs
        simp only [Prod.mk.injEq, true_and] at h
        obtain ⟨rfl, rfl⟩ := h
        exact ⟨fin 0 _ (by omega) (if_neg (by omega)) (by omega), by omega, by omega⟩

theorem bitLen_of (x K : Nat) (hx : x < 4294967296) (h1 : 2 ^ K ≤ x) (h2 : x < 2 ^ (K + 1)) : Lib.bitLen x = K + 1 := by
  have hp := Nat.two_pow_pos K
  obtain ⟨a1, a2, a3, _⟩ := len_bounds x hx (by omega)
  have h3 : K < Lib.bitLen x := by
    rcases Nat.lt_or_ge K (Lib.bitLen x) with h | h
    · exact h
    · have := Nat.pow_le_pow_right (show 0 < 2 by omega) h; omega
  have h4 : Lib.bitLen x - 1 < K + 1 := by
    rcases Nat.lt_or_ge (Lib.bitLen x - 1) (K + 1) with h | h
    · exact h
    · have := Nat.pow_le_pow_right (show 0 < 2 by omega) h; omega
  omega

theorem num_zeros {zs : List Nat} {p : Nat} : ∀ K, (∀ j, j < K → bitAt zs (p + j) = 0) → num zs p K = 0 := by
  intro K
  induction K with
  | zero => intro _; rfl
  | succ K ih => intro h; rw [num, ih (fun j hj => h j (by omega)), h K (by omega)]

theorem once_uvlc {zs : List Nat} {p val p' : Nat} (h : rUvlc zs p = (val, 0, p')) : wUvlc p (num zs 0 p) val = (0, p', num zs 0 p') ∧ val < 4294967296 := by
  obtain ⟨_, hb, hc, hd, he⟩ := zrs_spec zs p (8 * zs.length - p) 32 0 (Nat.zero_le _)
  change uvK zs p ≤ _ at hb
  change uvK zs p ≤ _ at hc
  change uvK zs p = _ ∨ uvK zs p = _ ∨ bitAt zs (p + uvK zs p) = 1 at he
  change ∀ j, 0 ≤ j → j < uvK zs p → bitAt zs (p + j) = 0 at hd
  unfold rUvlc at h
  generalize uvK zs p = K at *
  split at h
  · simp at h
  · split at h
    · simp at h
    · split at h
      · simp at h
      · simp only [Prod.mk.injEq, true_and] at h
        obtain ⟨rfl, rfl⟩ := h
        have hbit : bitAt zs (p + K) = 1 := by omega
        have hz := num_zeros (zs := zs) (p := p) K (fun j hj => hd j (by omega) hj)
        have e2 := num_add zs (p + K) 1 K
        rw [show 1 + K = K + 1 from by omega, num_one, hbit, Nat.one_mul] at e2
        have hlt := num_lt zs (p + K) (K + 1)
        have hge : 2 ^ K ≤ num zs (p + K) (K + 1) := by omega
        have hpos := Nat.two_pow_pos K
        have h32 : (2 : Nat) ^ (K + 1) ≤ 2 ^ 32 := Nat.pow_le_pow_right (by omega) (by omega)
        have hl := bitLen_of (num zs (p + K) (K + 1)) K (by omega) hge hlt
        refine ⟨?_, by omega⟩
        unfold wUvlc
        rw [if_neg (by omega), show num zs (p + K) (K + 1) - 1 + 1 = num zs (p + K) (K + 1) from by omega, hl, Nat.add_sub_cancel]
        have e3 := num_add zs 0 (p + K) (K + 1)
        rw [num_add zs 0 p K, Nat.zero_add, Nat.zero_add, hz] at e3
        rw [← e3, show p + 2 * K + 1 = p + K + (K + 1) from by omega]

theorem once_lebFrom {zs : List Nat} (hz : ∀ i, zs.getD i 0 < 256) (s p0 : Nat) : ∀ f i a a' p', rLebFrom zs s p0 (f + 1) i a = (a', 0, p') → i + f = 4 →
    ∃ v, a' = a + v * 2 ^ (7 * i) ∧ lebGo f (8 * (s + i)) (num zs 0 (8 * (s + i))) v = (p', num zs 0 p') ∧ (0 < i → v ≠ 0) ∧ v < 16 * 128 ^ f := by
  intro f
  induction f with
  | zero =>
    intro i a a' p' h hi
    obtain rfl : i = 4 := by omega
    rw [rLebFrom] at h
    have hb := hz (s + 4)
    have nb := num_byte zs (s + 4) hb
    have na := num_add zs 0 (8 * (s + 4)) 8
    rw [Nat.zero_add, nb] at na
    generalize zs.getD (s + 4) 0 = b at *
    split at h
    · simp at h
    · split at h
      · simp at h
      · rename_i hbad
        rw [if_pos (by omega)] at h
        simp only [Prod.mk.injEq, true_and] at h
        obtain ⟨rfl, rfl⟩ := h
        refine ⟨b, by rw [Nat.mod_eq_of_lt (by omega)], ?_, by omega, by omega⟩
        rw [lebGo, show 8 * (s + 4 + 1) = 8 * (s + 4) + 8 from by omega, na]
  | succ f ih =>
    intro i a a' p' h hi
    rw [rLebFrom] at h
    have hb := hz (s + i)
    have nb := num_byte zs (s + i) hb
    have na := num_add zs 0 (8 * (s + i)) 8
    rw [Nat.zero_add, nb] at na
    generalize zs.getD (s + i) 0 = b at *
    have hpw : 128 ≤ 16 * 128 ^ (f + 1) := by have := Nat.pow_le_pow_right (show 0 < 128 by omega) (show 1 ≤ f + 1 by omega); omega
    split at h
    · simp at h
    · split at h
      · simp at h
      · rename_i hbad
        by_cases hlt : b < 128
        · rw [if_pos hlt] at h
          simp only [Prod.mk.injEq, true_and] at h
          obtain ⟨rfl, rfl⟩ := h
          refine ⟨b, by rw [Nat.mod_eq_of_lt hlt], ?_, by omega, by omega⟩
          rw [lebGo, if_pos hlt, show 8 * (s + i + 1) = 8 * (s + i) + 8 from by omega, na]
        · rw [if_neg hlt] at h
          obtain ⟨v, h1, h2, h3, h4⟩ := ih (i + 1) _ a' p' h (by omega)
          have hv := h3 (by omega)
          have e : 2 ^ (7 * (i + 1)) = 128 * 2 ^ (7 * i) := by rw [show 7 * (i + 1) = 7 + 7 * i from by omega, Nat.pow_add]
          refine ⟨b % 128 + 128 * v, ?_, ?_, by omega, by rw [Nat.pow_succ]; omega⟩
          · rw [h1, e, Nat.add_mul, Nat.add_assoc, ← Nat.mul_assoc, Nat.mul_comm v 128]
          · rw [lebGo, if_neg (by omega), show (b % 128 + 128 * v) % 128 + 128 = b from by omega, show (b % 128 + 128 * v) / 128 = v from by omega]
            rw [show 8 * (s + (i + 1)) = 8 * (s + i) + 8 from by omega, na] at h2
            exact h2

theorem once_leb {zs : List Nat} (hz : ∀ i, zs.getD i 0 < 256) {p val p' : Nat} (h : rLeb zs p = (val, 0, p')) : wLeb p (num zs 0 p) val = (0, p', num zs 0 p') ∧ val < 4294967296 := by
  unfold rLeb at h
  split at h
  · rename_i h8
    obtain ⟨v, h1, h2, _, h4⟩ := once_lebFrom hz (p / 8) p 4 0 0 val p' h rfl
    rw [show 8 * (p / 8 + 0) = p from by omega] at h2
    simp at h1
    subst h1
    refine ⟨?_, by omega⟩
    unfold wLeb
    rw [if_pos h8, h2]
  · simp at h

/-- what a call has read, written by the same call, is just the bits that were read -/
theorem once_one {zs : List Nat} (hz : ∀ i, zs.getD i 0 < 256) {p val p' : Nat} {k n : Int} (h : rdOne zs p k n = (val, 0, p')) : wrOne p (num zs 0 p) k n val = (0, p', num zs 0 p') ∧ val < 4294967296 := by
  unfold rdOne at h
  unfold wrOne
  have hlt := bring5_lt k
  obtain hc | hc | hc | hc | hc : bring5 k = 0 ∨ bring5 k = 1 ∨ bring5 k = 2 ∨ bring5 k = 3 ∨ bring5 k = 4 := by omega
  · rw [hc] at h ⊢
    exact once_fixed h
  · rw [hc] at h ⊢
    simp only [Prod.mk.injEq] at h
    obtain ⟨h1, h2, h3⟩ := h
    obtain ⟨q1, q2, q3⟩ := once_signed (x := (rSigned zs p n).1) (p' := p') (n := n) (zs := zs) (p := p) (by rw [← h3, ← h2])
    refine ⟨?_, by omega⟩
    simp only
    rw [← h1, sgn_of _ q2 q3]
    exact q1
  · rw [hc] at h ⊢
    exact once_uvlc h
  · rw [hc] at h ⊢
    exact once_leb hz h
  · rw [hc] at h ⊢
    simp only [Prod.mk.injEq] at h ⊢
    obtain ⟨rfl, h2, rfl⟩ := h
    refine ⟨?_, by omega⟩
    unfold rAlign at h2 ⊢
    split at h2
    · rename_i hg
      rw [if_pos hg]
      unfold wAlign
      have e := num_add zs 0 p ((p + 7) / 8 * 8 - p)
      rw [Nat.zero_add, hg, Nat.add_zero, show p + ((p + 7) / 8 * 8 - p) = (p + 7) / 8 * 8 from by omega] at e
      rw [e, show 8 * ((p + 7) / 8) = (p + 7) / 8 * 8 from by omega]
      simp
    · simp at h2

/-- the bytes that were written are those that were read, the last one cut -/
theorem once_byte {zs ys : List Nat} (hz : ∀ i, zs.getD i 0 < 256) {p i : Nat} (h : Wv ys p (num zs 0 p)) (hi : i < ys.length) :
    (8 ≤ p - 8 * i → ys.getD i 0 = zs.getD i 0) ∧ (p - 8 * i < 8 → ys.getD i 0 = zs.getD i 0 / 2 ^ (8 - (p - 8 * i)) * 2 ^ (8 - (p - 8 * i))) := by
  have hl := h.len
  constructor
  · intro h8
    rw [← num_byte ys i (h.byt i), h.num (8 * i) 8 (by omega), ← num_byte zs i (hz i)]
    have e := num_add zs 0 (8 * i + 8) (p - 8 * i - 8)
    rw [show 8 * i + 8 + (p - 8 * i - 8) = p from by omega] at e
    rw [e, Nat.mul_comm, Nat.mul_add_div (Nat.two_pow_pos _), Nat.div_eq_of_lt (num_lt _ _ _), Nat.add_zero, num_add zs 0 (8 * i) 8, Nat.zero_add, Nat.mul_comm, Nat.mul_add_mod, Nat.mod_eq_of_lt (num_lt _ _ _)]
  · intro h8
    obtain ⟨m, hm⟩ : ∃ m, m = p - 8 * i := ⟨_, rfl⟩
    have hm1 : 1 ≤ m := by omega
    rw [← hm]
    have hlen : ys.length = i + 1 := by omega
    have hv := h.val
    rw [hlen, acc, show 8 * (i + 1) - p = 8 - m from by omega, Nat.zero_add] at hv
    have e := num_add zs 0 (8 * i) m
    rw [show 8 * i + m = p from by omega, Nat.zero_add] at e
    have e8 := num_add zs (8 * i) m (8 - m)
    rw [show m + (8 - m) = 8 from by omega, num_byte zs i (hz i)] at e8
    have hq := num_lt zs (8 * i + m) (8 - m)
    have hpw : 2 ^ m * 2 ^ (8 - m) = 256 := by rw [← Nat.pow_add, show m + (8 - m) = 8 from by omega]
    rw [e8, Nat.mul_comm (num zs (8 * i) m), Nat.mul_add_div (Nat.two_pow_pos _), Nat.div_eq_of_lt hq, Nat.add_zero]
    rw [e, Nat.add_mul, Nat.mul_assoc, hpw] at hv
    have hb := h.byt i
    have hs : num zs (8 * i) m * 2 ^ (8 - m) < 256 := by
      rw [← hpw]; exact Nat.mul_lt_mul_of_pos_right (num_lt _ _ _) (Nat.two_pow_pos _)
    generalize num zs (8 * i) m * 2 ^ (8 - m) = A at *
    generalize num zs 0 (8 * i) = B at *
    generalize acc ys 0 i = C at *
    omega

end Go.Proofs.Ytkippnfijjhobab
