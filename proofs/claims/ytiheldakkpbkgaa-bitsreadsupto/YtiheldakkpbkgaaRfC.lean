/- DERIVED. The walk of the document's own reader: Uvlc. -/
import Derived.Test.YtiheldakkpbkgaaRfA
namespace Go.Proofs.Ytiheldakkpbkgaa
open Go.RowKit

set_option maxHeartbeats 2000000 in
theorem uvlc_rf {w : World} {x g c : Nat} {zs : List Nat} {p : Nat} (h : Rf w x g c zs p) :
    Calls Try.prog 46 #[.pointer (some ⟨x, 0, none⟩)] w fun e w' => e = .returned (.tuple #[.int .u32 (rUvlc zs p).1, .int .i64 (rUvlc zs p).2.1]) ∧ Rf w' x g c zs (rUvlc zs p).2.2 ∧ Kp x w w' := by
  have hlen := h.len
  have hbnd := h.bnd
  have hcap := h.cap
  obtain ⟨ha, hb, hc, hd, he⟩ := zrs_spec zs p (8 * zs.length - p) 32 0 (Nat.zero_le _)
  rw [rUvlc]
  change _ ≤ uvK zs p at ha
  change uvK zs p ≤ _ at hb
  change uvK zs p ≤ _ at hc
  change uvK zs p = _ ∨ uvK zs p = _ ∨ bitAt zs (p + uvK zs p) = 1 at he
  change ∀ j, 0 ≤ j → j < uvK zs p → bitAt zs (p + j) = 0 at hd
  generalize uvK zs p = K at *
  obtain ⟨L, hL⟩ : ∃ L, L = 8 * zs.length - p := ⟨_, rfl⟩
  rw [← hL] at hc he ⊢
  have HD : Hid (∀ j, 0 ≤ j → j < K → bitAt zs (p + j) = 0) := hd
  have HE : Hid (K = 0 + 32 ∨ K = L ∨ bitAt zs (p + K) = 1) := he
  have HL : Hid (L = 8 * zs.length - p) := hL
  have hLb : L ≤ 1125899906842624 := by omega
  clear hd he hL
  go_enter Try.func46, Try.ntmps46
  go_wp2_with fail
  go_loopw [4] (fun z wr => ∃ k : Nat, k ≤ K ∧ z = .int .i64 k ∧ Rf wr x g c zs p ∧ Kp x w wr) (fun z _ => K - (intOf z).toNat)
  case atStart => exact ⟨0, Nat.zero_le _, rfl, h, Kp.refl _ _⟩
  case round =>
    obtain ⟨k, hk, rfl, hr, hkp⟩ := hrel
    have HK : Hid (Kp x w wr) := hkp
    clear hkp
    have HLF : Hid (∀ w2 : World, Rf w2 x g c zs p → Calls Try.prog 15 #[.pointer (some ⟨x, 0, none⟩)] w2 fun e w' => e = .returned (.int .i64 (L : Nat)) ∧ ∃ k, w' = w2.drewN k) := fun w2 h2 => by rw [HL.out]; exact left_rfq h2
    have hd1 := hr.data
    have hp1 := hr.place
    by_cases hkK : k < K
    · have hb0 : bitAt zs (p + k) = 0 := HD.out k (by omega) hkK
      have hc1 := hr.cells (p + k) (by have := HL.out; omega)
      rw [hb0] at hc1
      have hkL : (k : Int) < (L : Int) := by omega
      have hk32 : (k : Int) < 32 := by omega
      have hpk : p + k < 8 * zs.length := by have := HL.out; omega
      go_wp2_with fail
      go_quiet ((go_at_call 15; exact Calls.quiet_of (HLF.out _ (hr.same rfl))))
      go_wp2_with fail
      go_roundw
      case rel => exact ⟨k + 1, by omega, by go_num, hr.same rfl, HK.out.trans (Kp.drewN _ _ _)⟩
      case measure => simp [intOf]; omega
    · obtain rfl : k = K := by omega
      by_cases h32 : k = 32
      · have hg : decide ((k : Int) < 32) = false := decide_eq_false (by omega)
        go_wp2_with fail
        go_quiet ((go_at_call 15; exact Calls.quiet_of (HLF.out _ (hr.same rfl))))
        go_wp2_with fail
        go_ret2
        exact ⟨ret_two (by (try rw [if_pos h32]); try rfl) (by (try rw [if_pos h32]); try rfl), by (try rw [if_pos h32]); exact hr.same rfl, HK.out.trans (Kp.drewN _ _ _)⟩
      · have hk32 : (k : Int) < 32 := by omega
        have hk32b : ((k : Int) == 32) = false := by simp; omega
        by_cases hkL : k = L
        · have hg : decide (k < L) = false := decide_eq_false (by omega)
          have hgt : ((k : Int) == (L : Int)) = true := by simp; omega
          have HKL : Hid (k = L) := hkL
          clear hkL
          go_wp2_with fail
          go_quiet ((go_at_call 15; exact Calls.quiet_of (HLF.out _ (hr.same rfl))))
          go_wp2_with fail
          refine (HLF.out (wr.drewN nq) (hr.same rfl)).mono ?_; rintro e w3 ⟨rfl, n3, rfl⟩
          go_wp2_with fail
          go_ret2
          have hkL := HKL.out
          exact ⟨ret_two (by (try rw [if_neg h32, if_pos hkL]); try rfl) (by (try rw [if_neg h32, if_pos hkL]); try rfl), by (try rw [if_neg h32, if_pos hkL]); exact hr.same rfl, HK.out.trans (Kp.drewN _ _ _)⟩
        · have hb1 : bitAt zs (p + k) = 1 := by rcases HE.out with e | e | e; (omega); (omega); (exact e)
          have hc1 := hr.cells (p + k) (by have := HL.out; omega)
          rw [hb1] at hc1
          have hkLI : (k : Int) < (L : Int) := by omega
          have hpk : p + k < 8 * zs.length := by have := HL.out; omega
          have hgt : ((k : Int) == (L : Int)) = false := by simp; omega
          have HR : Hid (Rf wr x g c zs p) := hr
          go_wp2_with fail
          go_quiet ((go_at_call 15; exact Calls.quiet_of (HLF.out _ (HR.out.same rfl))))
          go_wp2_with fail
          refine (HLF.out (wr.drewN nq) (HR.out.same rfl)).mono ?_; rintro e w3 ⟨rfl, n3, rfl⟩
          go_wp2_with fail
          refine (HLF.out (wr.drewN (nq + n3)) (HR.out.same rfl)).mono ?_; rintro e w4 ⟨rfl, n4, rfl⟩
          by_cases hs : L < 2 * k + 1
          · go_wp2_with fail
            go_ret2
            exact ⟨ret_two (by (try rw [if_neg h32, if_neg hkL, if_pos hs]); try rfl) (by (try rw [if_neg h32, if_neg hkL, if_pos hs]); try rfl), by (try rw [if_neg h32, if_neg hkL, if_pos hs]); exact HR.out.same rfl, HK.out.trans (Kp.drewN _ _ _)⟩
          · have hge : 1 ≤ num zs (p + k) (k + 1) := by
              have e1 := num_add zs (p + k) 1 k
              rw [num_one, hb1, Nat.one_mul, Nat.add_comm 1 k] at e1
              have := Nat.two_pow_pos k
              omega
            have hlt : num zs (p + k) (k + 1) < 4294967296 := Nat.lt_of_lt_of_le (num_lt _ _ _) (show 2 ^ (k + 1) ≤ 2 ^ 32 from Nat.pow_le_pow_right (by omega) (by omega))
            obtain ⟨w5, hw5⟩ : ∃ w5, w5 = (wr.drewN (nq + n3)).drewN n4 := ⟨_, rfl⟩
            have hr5 : Rf w5 x g c zs p := HR.out.same (by rw [hw5]; rfl)
            have hk5 : Kp x wr w5 := by rw [hw5]; exact (Kp.drewN _ _ _).trans (Kp.drewN _ _ _)
            have HK5 : Hid (Kp x wr w5) := hk5
            rw [← hw5]
            clear hw5 hk5 hd1 hp1 hr
            have hp5 := hr5.place
            have ht5 := hr5.thaw
            go_wp2_with fail
            refine (number_rf hr5 (p + k) (k + 1) (by omega) (by have := HL.out; omega)).mono ?_; rintro e w6 ⟨rfl, rfl⟩
            go_wp2_with fail
            go_ret2
            exact ⟨ret_two (by (try rw [if_neg h32, if_neg hkL, if_neg hs]); omega) (by (try rw [if_neg h32, if_neg hkL, if_neg hs]); rfl), by (try rw [if_neg h32, if_neg hkL, if_neg hs]); exact hr5.put (q := p + 2 * k + 1) (by omega) (by have := HL.out; omega), (HK.out.trans HK5.out).trans (Kp.set _ _ _ _)⟩

end Go.Proofs.Ytiheldakkpbkgaa
