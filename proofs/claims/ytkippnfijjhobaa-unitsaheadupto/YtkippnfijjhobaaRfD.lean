/- DERIVED. The walk of the document's own reader: Leb. -/
import Derived.Test.YtkippnfijjhobaaRfA
namespace Go.Proofs.Ytkippnfijjhobaa
open Go.RowKit

theorem Rf.byte {w : World} {x g c : Nat} {zs : List Nat} {p : Nat} (h : Rf w x g c zs p) (s : Nat) (hs : s < zs.length) (b : Nat) (hb : zs.getD s 0 = b) :
    Calls Try.prog 47 #[.pointer (some ⟨x, 0, none⟩), .int .i64 (8 * s : Nat), .int .i64 8] w fun e w' => e = .returned (.int .u64 (b : Nat)) ∧ w' = w := by
  have := number_rf h (8 * s) 8 (by omega) (by omega)
  rw [num_byte zs s (h.byt s), hb] at this
  exact this

set_option maxHeartbeats 2000000 in
set_option maxRecDepth 100000 in
theorem leb_rf {w : World} {x g c : Nat} {zs : List Nat} {p : Nat} (h : Rf w x g c zs p) :
    Calls Try.prog 36 #[.pointer (some ⟨x, 0, none⟩)] w fun e w' => e = .returned (.tuple #[.int .u32 (rLeb zs p).1, .int .i64 (rLeb zs p).2.1]) ∧ Rf w' x g c zs (rLeb zs p).2.2 ∧ Kp x w w' := by
  have hlen := h.len
  have hbnd := h.bnd
  have hp := h.place
  have ht := h.thaw
  have hd := h.data
  by_cases h8 : p % 8 = 0
  · rw [rLeb, if_pos h8]
    obtain ⟨s, rfl⟩ : ∃ s, p = 8 * s := ⟨p / 8, by omega⟩
    rw [show 8 * s / 8 = s from by omega]
    have h8I : ((8 * s : Nat) : Int) % 8 = 0 := by omega
    generalize hR : rLebFrom zs s (8 * s) 5 0 0 = R
    have HR : Hid (rLebFrom zs s (8 * s) 5 0 0 = R) := hR
    clear hR
    have HB : Hid (∀ t b, t < zs.length → zs.getD t 0 = b → Calls Try.prog 47 #[.pointer (some ⟨x, 0, none⟩), .int .i64 (8 * t : Nat), .int .i64 8] w fun e w' => e = .returned (.int .u64 (b : Nat)) ∧ w' = w) := fun t b h1 h2 => h.byte t h1 b h2
    go_enter Try.func36, Try.ntmps36
    go_wp2_with fail
    go_loop [4, 5, 6] (fun u o y => ∃ i V : Nat, i ≤ 4 ∧ V < 2 ^ (7 * i) ∧ u = .int .u64 V ∧ o = .int .u64 ((2 ^ (7 * i) : Nat) : Int) ∧ y = .int .i64 i ∧ Hid (rLebFrom zs s (8 * s) (5 - i) i V = R)) (fun _ _ y => 5 - (intOf y).toNat)
    case atStart => exact ⟨0, 0, by omega, by omega, rfl, rfl, rfl, HR⟩
    case round =>
      obtain ⟨i, V, hi, hV, rfl, rfl, rfl, HI⟩ := hrel
      obtain rfl | rfl | rfl | rfl | rfl : i = 0 ∨ i = 1 ∨ i = 2 ∨ i = 3 ∨ i = 4 := by omega
      · have hV' : V < 1 := hV
        rw [show (((2 ^ (7 * 0) : Nat) : Int)) = (1 : Int) from rfl, show ((0 : Nat) : Int) = (0 : Int) from rfl]
        have HI2 : rLebFrom zs s (8 * s) (4 + 1) 0 V = R := HI.out
        rw [rLebFrom] at HI2
        clear hV HI HR
        by_cases hl : zs.length ≤ s + 0
        · rw [if_pos hl] at HI2
          subst HI2
          go_wp2_with fail
          go_ret2
          exact ⟨ret_two rfl rfl, h, Kp.refl _ _⟩
        · rw [if_neg hl] at HI2
          have hb := h.byt (s + 0)
          have HC := HB.out (s + 0) _ (by omega) rfl
          generalize zs.getD (s + 0) 0 = b at *
          have HCC : Hid _ := HC
          clear HC
          rw [if_neg (by omega)] at HI2
          have hmb : b % 128 < 128 := Nat.mod_lt _ (by omega)
          by_cases hlo : b < 128
          · rw [if_pos hlo] at HI2
            subst HI2
            go_wp2_with fail
            refine Calls.mono HCC.out ?_; rintro e w2 ⟨rfl, rfl⟩
            go_wp2_with fail
            go_ret2
            exact ⟨ret_two (by simp only <;> omega) rfl, h.put (by omega) (by omega), Kp.set _ _ _ _⟩
          · rw [if_neg hlo] at HI2
            have HJ : Hid _ := HI2
            clear HI2
            go_wp2_with fail
            refine Calls.mono HCC.out ?_; rintro e w2 ⟨rfl, rfl⟩
            go_wp2_with fail
            go_round
            case rel => exact ⟨1, V + b % 128 * 2 ^ (7 * 0), by omega, by simp only [Nat.reduceMul, Nat.reducePow]; omega, int_eq (by simp only [Nat.reduceMul, Nat.reducePow]; omega), int_eq (by simp only [Nat.reduceMul, Nat.reducePow]; omega), by go_num, HJ⟩
            case measure => simp [intOf]
      · have hV' : V < 128 := hV
        rw [show (((2 ^ (7 * 1) : Nat) : Int)) = (128 : Int) from rfl, show ((1 : Nat) : Int) = (1 : Int) from rfl]
        have HI2 : rLebFrom zs s (8 * s) (3 + 1) 1 V = R := HI.out
        rw [rLebFrom] at HI2
        clear hV HI HR
        by_cases hl : zs.length ≤ s + 1
        · rw [if_pos hl] at HI2
          subst HI2
          go_wp2_with fail
          go_ret2
          exact ⟨ret_two rfl rfl, h, Kp.refl _ _⟩
        · rw [if_neg hl] at HI2
          have hb := h.byt (s + 1)
          have HC := HB.out (s + 1) _ (by omega) rfl
          generalize zs.getD (s + 1) 0 = b at *
          have HCC : Hid _ := HC
          clear HC
          by_cases hb0 : b = 0
          · rw [if_pos (Or.inr ⟨by omega, hb0⟩)] at HI2
            subst HI2
            go_wp2_with fail
            rw [show (8 * (s : Int)) + 8 = ((8 * (s + 1) : Nat) : Int) from by omega]
            refine Calls.mono HCC.out ?_; rintro e w2 ⟨rfl, rfl⟩
            go_wp2_with fail
            go_ret2
            exact ⟨ret_two rfl rfl, h, Kp.refl _ _⟩
          have hb0I : ((b : Int) == 0) = false := by simp; omega
          rw [if_neg (by omega)] at HI2
          have hmb : b % 128 < 128 := Nat.mod_lt _ (by omega)
          by_cases hlo : b < 128
          · rw [if_pos hlo] at HI2
            subst HI2
            go_wp2_with fail
            rw [show (8 * (s : Int)) + 8 = ((8 * (s + 1) : Nat) : Int) from by omega]
            refine Calls.mono HCC.out ?_; rintro e w2 ⟨rfl, rfl⟩
            go_wp2_with fail
            go_ret2
            exact ⟨ret_two (by simp only <;> omega) rfl, h.put (by omega) (by omega), Kp.set _ _ _ _⟩
          · rw [if_neg hlo] at HI2
            have HJ : Hid _ := HI2
            clear HI2
            go_wp2_with fail
            rw [show (8 * (s : Int)) + 8 = ((8 * (s + 1) : Nat) : Int) from by omega]
            refine Calls.mono HCC.out ?_; rintro e w2 ⟨rfl, rfl⟩
            go_wp2_with fail
            go_round
            case rel => exact ⟨2, V + b % 128 * 2 ^ (7 * 1), by omega, by simp only [Nat.reduceMul, Nat.reducePow]; omega, int_eq (by simp only [Nat.reduceMul, Nat.reducePow]; omega), int_eq (by simp only [Nat.reduceMul, Nat.reducePow]; omega), by go_num, HJ⟩
            case measure => simp [intOf]
      · have hV' : V < 16384 := hV
        rw [show (((2 ^ (7 * 2) : Nat) : Int)) = (16384 : Int) from rfl, show ((2 : Nat) : Int) = (2 : Int) from rfl]
        have HI2 : rLebFrom zs s (8 * s) (2 + 1) 2 V = R := HI.out
        rw [rLebFrom] at HI2
        clear hV HI HR
        by_cases hl : zs.length ≤ s + 2
        · rw [if_pos hl] at HI2
          subst HI2
          go_wp2_with fail
          go_ret2
          exact ⟨ret_two rfl rfl, h, Kp.refl _ _⟩
        · rw [if_neg hl] at HI2
          have hb := h.byt (s + 2)
          have HC := HB.out (s + 2) _ (by omega) rfl
          generalize zs.getD (s + 2) 0 = b at *
          have HCC : Hid _ := HC
          clear HC
          by_cases hb0 : b = 0
          · rw [if_pos (Or.inr ⟨by omega, hb0⟩)] at HI2
            subst HI2
            go_wp2_with fail
            rw [show (8 * (s : Int)) + 16 = ((8 * (s + 2) : Nat) : Int) from by omega]
            refine Calls.mono HCC.out ?_; rintro e w2 ⟨rfl, rfl⟩
            go_wp2_with fail
            go_ret2
            exact ⟨ret_two rfl rfl, h, Kp.refl _ _⟩
          have hb0I : ((b : Int) == 0) = false := by simp; omega
          rw [if_neg (by omega)] at HI2
          have hmb : b % 128 < 128 := Nat.mod_lt _ (by omega)
          by_cases hlo : b < 128
          · rw [if_pos hlo] at HI2
            subst HI2
            go_wp2_with fail
            rw [show (8 * (s : Int)) + 16 = ((8 * (s + 2) : Nat) : Int) from by omega]
            refine Calls.mono HCC.out ?_; rintro e w2 ⟨rfl, rfl⟩
            go_wp2_with fail
            go_ret2
            exact ⟨ret_two (by simp only <;> omega) rfl, h.put (by omega) (by omega), Kp.set _ _ _ _⟩
          · rw [if_neg hlo] at HI2
            have HJ : Hid _ := HI2
            clear HI2
            go_wp2_with fail
            rw [show (8 * (s : Int)) + 16 = ((8 * (s + 2) : Nat) : Int) from by omega]
            refine Calls.mono HCC.out ?_; rintro e w2 ⟨rfl, rfl⟩
            go_wp2_with fail
            go_round
            case rel => exact ⟨3, V + b % 128 * 2 ^ (7 * 2), by omega, by simp only [Nat.reduceMul, Nat.reducePow]; omega, int_eq (by simp only [Nat.reduceMul, Nat.reducePow]; omega), int_eq (by simp only [Nat.reduceMul, Nat.reducePow]; omega), by go_num, HJ⟩
            case measure => simp [intOf]
      · have hV' : V < 2097152 := hV
        rw [show (((2 ^ (7 * 3) : Nat) : Int)) = (2097152 : Int) from rfl, show ((3 : Nat) : Int) = (3 : Int) from rfl]
        have HI2 : rLebFrom zs s (8 * s) (1 + 1) 3 V = R := HI.out
        rw [rLebFrom] at HI2
        clear hV HI HR
        by_cases hl : zs.length ≤ s + 3
        · rw [if_pos hl] at HI2
          subst HI2
          go_wp2_with fail
          go_ret2
          exact ⟨ret_two rfl rfl, h, Kp.refl _ _⟩
        · rw [if_neg hl] at HI2
          have hb := h.byt (s + 3)
          have HC := HB.out (s + 3) _ (by omega) rfl
          generalize zs.getD (s + 3) 0 = b at *
          have HCC : Hid _ := HC
          clear HC
          by_cases hb0 : b = 0
          · rw [if_pos (Or.inr ⟨by omega, hb0⟩)] at HI2
            subst HI2
            go_wp2_with fail
            rw [show (8 * (s : Int)) + 24 = ((8 * (s + 3) : Nat) : Int) from by omega]
            refine Calls.mono HCC.out ?_; rintro e w2 ⟨rfl, rfl⟩
            go_wp2_with fail
            go_ret2
            exact ⟨ret_two rfl rfl, h, Kp.refl _ _⟩
          have hb0I : ((b : Int) == 0) = false := by simp; omega
          rw [if_neg (by omega)] at HI2
          have hmb : b % 128 < 128 := Nat.mod_lt _ (by omega)
          by_cases hlo : b < 128
          · rw [if_pos hlo] at HI2
            subst HI2
            go_wp2_with fail
            rw [show (8 * (s : Int)) + 24 = ((8 * (s + 3) : Nat) : Int) from by omega]
            refine Calls.mono HCC.out ?_; rintro e w2 ⟨rfl, rfl⟩
            go_wp2_with fail
            go_ret2
            exact ⟨ret_two (by simp only <;> omega) rfl, h.put (by omega) (by omega), Kp.set _ _ _ _⟩
          · rw [if_neg hlo] at HI2
            have HJ : Hid _ := HI2
            clear HI2
            go_wp2_with fail
            rw [show (8 * (s : Int)) + 24 = ((8 * (s + 3) : Nat) : Int) from by omega]
            refine Calls.mono HCC.out ?_; rintro e w2 ⟨rfl, rfl⟩
            go_wp2_with fail
            go_round
            case rel => exact ⟨4, V + b % 128 * 2 ^ (7 * 3), by omega, by simp only [Nat.reduceMul, Nat.reducePow]; omega, int_eq (by simp only [Nat.reduceMul, Nat.reducePow]; omega), int_eq (by simp only [Nat.reduceMul, Nat.reducePow]; omega), by go_num, HJ⟩
            case measure => simp [intOf]
      · have hV' : V < 268435456 := hV
        rw [show (((2 ^ (7 * 4) : Nat) : Int)) = (268435456 : Int) from rfl, show ((4 : Nat) : Int) = (4 : Int) from rfl]
        have HI2 : rLebFrom zs s (8 * s) (0 + 1) 4 V = R := HI.out
        rw [rLebFrom] at HI2
        clear hV HI HR
        by_cases hl : zs.length ≤ s + 4
        · rw [if_pos hl] at HI2
          subst HI2
          go_wp2_with fail
          go_ret2
          exact ⟨ret_two rfl rfl, h, Kp.refl _ _⟩
        · rw [if_neg hl] at HI2
          have hb := h.byt (s + 4)
          have HC := HB.out (s + 4) _ (by omega) rfl
          generalize zs.getD (s + 4) 0 = b at *
          have HCC : Hid _ := HC
          clear HC
          by_cases h15 : 15 < b
          · rw [if_pos (Or.inl ⟨rfl, h15⟩)] at HI2
            subst HI2
            go_wp2_with fail
            rw [show (8 * (s : Int)) + 32 = ((8 * (s + 4) : Nat) : Int) from by omega]
            refine Calls.mono HCC.out ?_; rintro e w2 ⟨rfl, rfl⟩
            go_wp2_with fail
            go_ret2
            exact ⟨ret_two rfl rfl, h, Kp.refl _ _⟩
          have h15I : decide ((15 : Int) < (b : Int)) = false := decide_eq_false (by omega)
          by_cases hb0 : b = 0
          · rw [if_pos (Or.inr ⟨by omega, hb0⟩)] at HI2
            subst HI2
            go_wp2_with fail
            rw [show (8 * (s : Int)) + 32 = ((8 * (s + 4) : Nat) : Int) from by omega]
            refine Calls.mono HCC.out ?_; rintro e w2 ⟨rfl, rfl⟩
            go_wp2_with fail
            go_ret2
            exact ⟨ret_two rfl rfl, h, Kp.refl _ _⟩
          have hb0I : ((b : Int) == 0) = false := by simp; omega
          rw [if_neg (by omega)] at HI2
          have hmb : b % 128 < 128 := Nat.mod_lt _ (by omega)
          have hlo : b < 128 := by omega
          rw [if_pos hlo] at HI2
          subst HI2
          go_wp2_with fail
          rw [show (8 * (s : Int)) + 32 = ((8 * (s + 4) : Nat) : Int) from by omega]
          refine Calls.mono HCC.out ?_; rintro e w2 ⟨rfl, rfl⟩
          go_wp2_with fail
          go_ret2
          exact ⟨ret_two (by simp only <;> omega) rfl, h.put (by omega) (by omega), Kp.set _ _ _ _⟩
  · rw [rLeb, if_neg h8]
    go_enter Try.func36, Try.ntmps36
    go_wp2_with fail
    go_ret2
    exact ⟨ret_two rfl rfl, h, Kp.refl _ _⟩

end Go.Proofs.Ytkippnfijjhobaa
