/- DERIVED. The walk of (*bits.Reader).Uvlc over a reader in memory. -/
import Derived.Test.YtiheldakkpbkgaaRdE
namespace Go.Proofs.Ytiheldakkpbkgaa
open Go.RowKit

def uvK (zs : List Nat) (p : Nat) : Nat := zrs zs p (8 * zs.length - p) 32 0
def rUvlc (zs : List Nat) (p : Nat) : Nat × Nat × Nat :=
  if uvK zs p = 32 then (0, 4, p) else if uvK zs p = 8 * zs.length - p then (0, 3, p) else if 8 * zs.length - p < 2 * uvK zs p + 1 then (0, 3, p)
  else (num zs (p + uvK zs p) (uvK zs p + 1) - 1, 0, p + 2 * uvK zs p + 1)

set_option maxHeartbeats 1000000 in
theorem uvlc_rd {r : Nat} {v : Value} {zs : List Nat} {p : Nat} {w : World} (h : Rd w r v zs p) :
    Calls Try.prog 39 #[.pointer (some ⟨r, 0, none⟩)] w fun e w' => e = .returned (.tuple #[.int .u32 (rUvlc zs p).1, .int .i64 (rUvlc zs p).2.1]) ∧ Rd w' r v zs (rUvlc zs p).2.2 ∧ Kp r w w' := by
  have hlen := h.len
  have hbnd := h.bnd
  have hm := h.made
  obtain ⟨ha, hb, hc, hd, he⟩ := zrs_spec zs p (8 * zs.length - p) 32 0 (Nat.zero_le _)
  rw [rUvlc]
  change _ ≤ uvK zs p at ha
  change uvK zs p ≤ _ at hb
  change uvK zs p ≤ _ at hc
  change uvK zs p = _ ∨ uvK zs p = _ ∨ bitAt zs (p + uvK zs p) = 1 at he
  change ∀ j, 0 ≤ j → j < uvK zs p → bitAt zs (p + j) = 0 at hd
  generalize uvK zs p = K at *
  obtain ⟨L, hL⟩ : ∃ L, L = 8 * zs.length - p := ⟨_, rfl⟩
  rw [← hL] at hc he ⊢
  have HD : Hid (∀ j, 0 ≤ j → j < K → bitAt zs (p + j) = 0) := hd
  have HE : Hid (K = 0 + 32 ∨ K = L ∨ bitAt zs (p + K) = 1) := he
  have HL : Hid (L = 8 * zs.length - p) := hL
  have hLb : L ≤ 1125899906842624 := by omega
  clear hd he hL
  go_enter Try.func39, Try.ntmps39
  go_wp2_with fail
  go_step3
  go_wp2_with fail
  refine (rnone_made _ _ hm).mono ?_; rintro e w' ⟨rfl, rfl⟩
  go_wp2_with fail
  go_step3
  go_wp2_with fail
  go_loopw [4] (fun z wr => ∃ k : Nat, k ≤ K ∧ z = .int .i64 k ∧ Rd wr r v zs p ∧ Kp r w' wr) (fun z _ => K - (intOf z).toNat)
  case atStart => exact ⟨0, Nat.zero_le _, rfl, h, Kp.refl _ _⟩
  case round =>
    obtain ⟨k, hk, rfl, hr, hkp⟩ := hrel
    have HK : Hid (Kp r w' wr) := hkp
    clear hkp
    by_cases h31 : 31 < k
    · have hK32 : K = 32 := by omega
      go_wp2_with fail
      rw [Exit.noGoto_ret]
      go_ret2
      exact ⟨ret_two (by rw [if_pos hK32]; try rfl) (by rw [if_pos hK32]; try rfl), by rw [if_pos hK32]; exact hr, HK.out⟩
    · go_wp2_with fail
      refine (left_rd hr).mono ?_; rintro e w1 ⟨rfl, hr1, hk1⟩
      rw [← HL.out]
      have HK1 : Hid (Kp r wr w1) := hk1
      clear hk1
      have hp1 := hr1.place
      by_cases hkL : L ≤ k
      · have hKL : K = L := by omega
        have hK31 : ¬ K = 32 := by omega
        go_wp2_with fail
        rw [Exit.noGoto_ret]
        go_ret2
        exact ⟨ret_two (by rw [if_neg hK31, if_pos hKL]; try rfl) (by rw [if_neg hK31, if_pos hKL]; try rfl), by rw [if_neg hK31, if_pos hKL]; exact hr1, HK.out.trans HK1.out⟩
      · have hbl := bitAt_lt zs (p + k)
        have hn1 := num_one zs (p + k)
        by_cases hbit : bitAt zs (p + k) = 0
        · have hkK : k < K := by
            rcases HE.out with e | e | e
            · omega
            · omega
            · by_cases e2 : k = K
              · rw [e2] at hbit; omega
              · omega
          go_wp2_with fail
          refine (look_rd hr1 (p + k) 1 (by omega) (by have := HL.out; omega)).mono ?_; rintro e w2 ⟨rfl, rfl⟩
          rw [hn1, hbit]
          go_wp2_with fail
          go_roundw
          case rel => exact ⟨k + 1, by omega, by go_num, hr1, HK.out.trans HK1.out⟩
          case measure => simp [intOf]; omega
        · have hb1 : bitAt zs (p + k) = 1 := by omega
          have hkK : k = K := by
            by_cases e2 : k < K
            · have := HD.out k (by omega) e2; omega
            · omega
          have hK31 : ¬ K = 32 := by omega
          have hKL : ¬ K = L := by omega
          subst hkK
          go_wp2_with fail
          refine (look_rd hr1 (p + k) 1 (by omega) (by have := HL.out; omega)).mono ?_; rintro e w2 ⟨rfl, rfl⟩
          rw [hn1, hb1]
          go_wp2_with fail
          refine (left_rd hr1).mono ?_; rintro e w3 ⟨rfl, hr3, hk3⟩
          rw [← HL.out]
          have HK3 : Hid (Kp r _ w3) := hk3
          clear hk3
          have hp3 := hr3.place
          have ht3 := hr3.thaw
          by_cases hs : L < 2 * k + 1
          · go_wp2_with fail
            rw [Exit.noGoto_ret]
            go_ret2
            exact ⟨ret_two (by rw [if_neg hK31, if_neg hKL, if_pos hs]; try rfl) (by rw [if_neg hK31, if_neg hKL, if_pos hs]; try rfl), by rw [if_neg hK31, if_neg hKL, if_pos hs]; exact hr3, (HK.out.trans HK1.out).trans HK3.out⟩
          · have hge : 1 ≤ num zs (p + k) (k + 1) := by
              have e1 := num_add zs (p + k) 1 k
              rw [hn1, hb1, Nat.one_mul, Nat.add_comm 1 k] at e1
              have := Nat.two_pow_pos k
              omega
            have hlt : num zs (p + k) (k + 1) < 4294967296 := Nat.lt_of_lt_of_le (num_lt _ _ _) (show 2 ^ (k + 1) ≤ 2 ^ 32 from Nat.pow_le_pow_right (by omega) (by omega))
            go_wp2_with fail
            refine (look_rd hr3 (p + k) (k + 1) (by omega) (by have := HL.out; omega)).mono ?_; rintro e w4 ⟨rfl, rfl⟩
            go_wp2_with fail
            rw [Exit.noGoto_ret]
            go_ret2
            exact ⟨ret_two (by rw [if_neg hK31, if_neg hKL, if_neg hs]; omega) (by rw [if_neg hK31, if_neg hKL, if_neg hs]; rfl), by rw [if_neg hK31, if_neg hKL, if_neg hs]; exact hr3.put (q := p + 2 * k + 1) (by omega) (by have := HL.out; omega), ((HK.out.trans HK1.out).trans HK3.out).trans (Kp.set _ _ _ _)⟩

end Go.Proofs.Ytiheldakkpbkgaa
