/- DERIVED. The walk of (*bits.Reader).Leb over a reader in memory. -/
import Derived.Test.YtkippnfijjhobabRdF
namespace Go.Proofs.Ytkippnfijjhobab
open Go.RowKit

theorem u8_andNot128 : ∀ b : Nat, b < 256 → bits .andNot .u8 (b : Int) 128 = ((b % 128 : Nat) : Int) := by decide +kernel
theorem u8_and128 : ∀ b : Nat, b < 256 → (bits .and .u8 (b : Int) 128 == 0) = decide (b < 128) := by decide +kernel

theorem wraps_u32 (n : Int) (h₀ : 0 ≤ n) (h₁ : n < 2 ^ 32) : IntKind.u32.wrap n = n := by rw [IntKind.wrap_u32]; omega
theorem leb_or (V d t : Nat) (hV : V < 2 ^ t) (hd : d * 2 ^ t < 2 ^ 32) (ht : t ≤ 32) : bits .or .u32 (V : Int) ((d * 2 ^ t : Nat) : Int) = ((V + d * 2 ^ t : Nat) : Int) := by
  have h1 : V < 2 ^ 32 := Nat.lt_of_lt_of_le hV (Nat.pow_le_pow_right (by omega) ht)
  rw [(bits_nat .u32 32 (by decide) wraps_u32 V (d * 2 ^ t) h1 hd).2, Nat.or_comm, Nat.mul_comm, ← Nat.two_pow_add_eq_or_of_lt hV, Nat.add_comm]
theorem leb_or_i (V b i : Nat) (hV : V < 2 ^ (7 * i)) (hi : i < 4) : bits .or .u32 (V : Int) ((b : Int) % 128 * 2 ^ (7 * i) % 4294967296) = ((V + b % 128 * 2 ^ (7 * i) : Nat) : Int) := by
  have h2 : (2 : Nat) ^ (7 * i) ≤ 2 ^ 21 := Nat.pow_le_pow_right (by omega) (by omega)
  have h3 : b % 128 * 2 ^ (7 * i) ≤ 127 * 2 ^ 21 := Nat.mul_le_mul (by omega) h2
  rw [← leb_or V (b % 128) (7 * i) hV (by omega) (by omega)]
  congr 1
  have e : (b : Int) % 128 * 2 ^ (7 * i) = ((b % 128 * 2 ^ (7 * i) : Nat) : Int) := by simp
  rw [e]
  omega
theorem leb_or_4 (V b : Nat) (hV : V < 2 ^ (7 * 4)) (hb : b ≤ 15) : bits .or .u32 (V : Int) ((b : Int) % 128 * 268435456) = ((V + b % 128 * 2 ^ (7 * 4) : Nat) : Int) := by
  rw [← leb_or V (b % 128) (7 * 4) hV (by omega) (by omega)]
  congr 1
theorem leb_or_0 (V b : Nat) (hV : V < 2 ^ (7 * 0)) : bits .or .u32 (V : Int) ((b : Int) % 128) = ((V + b % 128 * 2 ^ (7 * 0) : Nat) : Int) := by
  rw [← leb_or V (b % 128) (7 * 0) hV (by omega) (by omega)]
  congr 1
  simp
theorem leb_grows (V b i : Nat) (hV : V < 2 ^ (7 * i)) : V + b % 128 * 2 ^ (7 * i) < 2 ^ (7 * (i + 1)) := by
  rw [show 7 * (i + 1) = 7 * i + 7 from by omega, Nat.pow_add]
  have : b % 128 * 2 ^ (7 * i) ≤ 127 * 2 ^ (7 * i) := Nat.mul_le_mul_right _ (by omega)
  omega

def rLebFrom (zs : List Nat) (s p : Nat) : Nat → Nat → Nat → Nat × Nat × Nat
  | 0, _, _ => (0, 4, p)
  | f + 1, i, v =>
    if zs.length ≤ s + i then (0, 3, p)
    else if (i = 4 ∧ 15 < zs.getD (s + i) 0) ∨ (0 < i ∧ zs.getD (s + i) 0 = 0) then (0, 4, p)
    else if zs.getD (s + i) 0 < 128 then (v + zs.getD (s + i) 0 % 128 * 2 ^ (7 * i), 0, 8 * (s + i + 1))
    else rLebFrom zs s p f (i + 1) (v + zs.getD (s + i) 0 % 128 * 2 ^ (7 * i))
def rLeb (zs : List Nat) (p : Nat) : Nat × Nat × Nat := if p % 8 = 0 then rLebFrom zs (p / 8) p 5 0 0 else (0, 2, p)

set_option maxHeartbeats 1000000 in
theorem leb_rd {r : Nat} {v : Value} {zs : List Nat} {p : Nat} {w : World} (h : Rd w r v zs p) :
    Calls Try.prog 22 #[.pointer (some ⟨r, 0, none⟩)] w fun e w' => e = .returned (.tuple #[.int .u32 (rLeb zs p).1, .int .i64 (rLeb zs p).2.1]) ∧ Rd w' r v zs (rLeb zs p).2.2 ∧ Kp r w w' := by
  have hlen := h.len
  have hbnd := h.bnd
  have hm := h.made
  have hp := h.place
  have ht := h.thaw
  by_cases h8 : p % 8 = 0
  · rw [rLeb, if_pos h8]
    generalize hR : rLebFrom zs (p / 8) p 5 0 0 = R
    have HR : Hid (rLebFrom zs (p / 8) p 5 0 0 = R) := hR
    clear hR
    obtain ⟨a, c, rfl⟩ := h.sl
    have hd := h.data
    go_enter Try.func22, Try.ntmps22
    go_wp2_with fail
    refine (rnone_made _ _ hm).mono ?_; rintro e w' ⟨rfl, rfl⟩
    go_wp2_with fail
    go_loop [4, 5] (fun x y => ∃ i V : Nat, i ≤ 4 ∧ V < 2 ^ (7 * i) ∧ x = .int .u32 V ∧ y = .int .i64 i ∧ Hid (rLebFrom zs (p / 8) p (5 - i) i V = R)) (fun _ y => 5 - (intOf y).toNat)
    case atStart => exact ⟨0, 0, by omega, by omega, rfl, rfl, HR⟩
    case round =>
      obtain ⟨i, V, hi, hV, rfl, rfl, HI⟩ := hrel
      have e5 : 5 - i = (4 - i) + 1 := by omega
      by_cases hl : zs.length ≤ p / 8 + i
      · have hRR : R = (0, 3, p) := by have := HI.out; rw [e5, rLebFrom, if_pos hl] at this; exact this.symm
        subst hRR
        go_wp2_with fail
        go_ret2
        exact ⟨rfl, h, Kp.refl _ _⟩
      · rcases h.cells with ⟨hz0, _⟩ | ⟨g, cc, hg1, hg2, hg3, hg4, hg5⟩
        · rw [hz0] at hl; simp at hl
        · obtain ⟨rfl, rfl⟩ : a = some ⟨g, 0, none⟩ ∧ c = cc := by simp at hg4; exact hg4
          have hc1 := hg5 (p / 8 + i) (by omega)
          have hb := h.byt (p / 8 + i)
          have HI2 := HI.out
          rw [e5, rLebFrom, if_neg hl] at HI2
          generalize zs.getD (p / 8 + i) 0 = b at *
          have HJ : Hid _ := HI2
          have h128 := u8_and128 b hb
          have HN := u8_andNot128 b hb
          clear HI2 HI hg5 HR
          by_cases hi4 : i = 4
          · subst hi4
            by_cases h15 : 15 < b
            · have hRR : R = (0, 4, p) := by have := HJ.out; rw [if_pos (Or.inl ⟨rfl, h15⟩)] at this; exact this.symm
              subst hRR
              go_wp2_with fail
              go_ret2
              exact ⟨rfl, h, Kp.refl _ _⟩
            · by_cases hb0 : b = 0
              · have hRR : R = (0, 4, p) := by have := HJ.out; rw [if_pos (Or.inr ⟨by omega, hb0⟩)] at this; exact this.symm
                subst hRR
                go_wp2_with fail
                go_ret2
                exact ⟨rfl, h, Kp.refl _ _⟩
              · have hb0' : ((b : Int) == 0) = false := by simp; omega
                have hlo : b < 128 := by omega
                have hRR : R = (V + b % 128 * 2 ^ (7 * 4), 0, 8 * (p / 8 + 4 + 1)) := by have := HJ.out; rw [if_neg (by omega), if_pos hlo] at this; exact this.symm
                subst hRR
                have h128' : (bits .and .u8 (b : Int) 128 == 0) = true := by rw [h128]; simp [hlo]
                go_wp2_with fail
                go_ret2
                exact ⟨ret_two (leb_or_4 V b hV (by omega)) rfl, h.put (by omega) (by omega), Kp.set _ _ _ _⟩
          · have hi4' : ((i : Int) == 4) = false := by simp; omega
            by_cases hi0 : i = 0
            · subst hi0
              rw [Nat.add_zero] at hc1 hl
              by_cases hlo : b < 128
              · have hRR : R = (V + b % 128 * 2 ^ (7 * 0), 0, 8 * (p / 8 + 0 + 1)) := by have := HJ.out; rw [if_neg (by omega), if_pos hlo] at this; exact this.symm
                subst hRR
                have h128' : (bits .and .u8 (b : Int) 128 == 0) = true := by rw [h128]; simp [hlo]
                go_wp2_with fail
                go_ret2
                exact ⟨ret_two (by rw [leb_or_0 V b hV]; simp) rfl, h.put (by omega) (by omega), Kp.set _ _ _ _⟩
              · have hRR := HJ.out
                rw [if_neg (by omega), if_neg hlo] at hRR
                have HRR : Hid _ := hRR
                have h128' : (bits .and .u8 (b : Int) 128 == 0) = false := by rw [h128]; simp; omega
                clear hRR
                go_wp2_with fail
                go_round
                case rel => exact ⟨1, V + b % 128 * 2 ^ (7 * 0), by omega, leb_grows V b 0 hV, by rw [leb_or_0 V b hV], rfl, HRR⟩
                case measure => simp [intOf]
            · have hi0' : 0 < i := by omega
              by_cases hb0 : b = 0
              · have hRR : R = (0, 4, p) := by have := HJ.out; rw [if_pos (Or.inr ⟨hi0', hb0⟩)] at this; exact this.symm
                subst hRR
                go_wp2_with fail
                go_ret2
                exact ⟨rfl, h, Kp.refl _ _⟩
              · have hb0' : ((b : Int) == 0) = false := by simp; omega
                by_cases hlo : b < 128
                · have hRR : R = (V + b % 128 * 2 ^ (7 * i), 0, 8 * (p / 8 + i + 1)) := by have := HJ.out; rw [if_neg (by omega), if_pos hlo] at this; exact this.symm
                  subst hRR
                  have h128' : (bits .and .u8 (b : Int) 128 == 0) = true := by rw [h128]; simp [hlo]
                  go_wp2_with fail
                  go_ret2
                  exact ⟨ret_two (leb_or_i V b i hV (by omega)) rfl, h.put (by omega) (by omega), Kp.set _ _ _ _⟩
                · have hRR := HJ.out
                  rw [if_neg (by omega), if_neg hlo] at hRR
                  have HRR : Hid _ := hRR
                  have h128' : (bits .and .u8 (b : Int) 128 == 0) = false := by rw [h128]; simp; omega
                  clear hRR
                  go_wp2_with fail
                  go_round
                  case rel => exact ⟨i + 1, V + b % 128 * 2 ^ (7 * i), by omega, leb_grows V b i hV, by rw [leb_or_i V b i hV (by omega)], by go_num, by rw [show 5 - (i + 1) = 4 - i from by omega]; exact HRR⟩
                  case measure => simp [intOf]; omega
  · rw [rLeb, if_neg h8]
    go_enter Try.func22, Try.ntmps22
    go_wp2_with fail
    refine (rnone_made _ _ hm).mono ?_; rintro e w' ⟨rfl, rfl⟩
    go_wp2_with fail
    go_ret2
    exact ⟨rfl, h, Kp.refl _ _⟩

end Go.Proofs.Ytkippnfijjhobab
