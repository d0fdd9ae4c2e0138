/- DERIVED. The walks of (*bits.Reader) Left, Fixed, Signed and Align over a reader in memory. -/
import Derived.Test.YtiheldakkpbkgaaRdC
namespace Go.Proofs.Ytiheldakkpbkgaa
open Go.RowKit

theorem left_rd {r : Nat} {v : Value} {zs : List Nat} {p : Nat} {w : World} (h : Rd w r v zs p) :
    Calls Try.prog 14 #[.pointer (some ⟨r, 0, none⟩)] w fun e w' => e = .returned (.int .i64 (8 * zs.length - p : Nat)) ∧ Rd w' r v zs p ∧ Kp r w w' := by
  obtain ⟨a, c, rfl⟩ := h.sl
  refine (rleft_any r a zs.length c p w h.made h.data h.place h.len h.bnd).mono ?_
  rintro e w' ⟨rfl, k, rfl⟩
  exact ⟨rfl, h.same rfl, Kp.drewN _ _ _⟩

def rFixed (zs : List Nat) (p : Nat) (n : Int) : Nat × Nat × Nat :=
  if n < 0 ∨ 32 < n then (0, 2, p) else if 8 * zs.length - p < n.toNat then (0, 3, p) else (num zs p n.toNat, 0, p + n.toNat)

set_option maxHeartbeats 400000 in
theorem fixed_rd {r : Nat} {v : Value} {zs : List Nat} {p : Nat} {w : World} (h : Rd w r v zs p) (n : Int) :
    Calls Try.prog 37 #[.pointer (some ⟨r, 0, none⟩), .int .i64 n] w fun e w' => e = .returned (.tuple #[.int .u32 (rFixed zs p n).1, .int .i64 (rFixed zs p n).2.1]) ∧ Rd w' r v zs (rFixed zs p n).2.2 ∧ Kp r w w' := by
  by_cases h1 : n < 0 ∨ 32 < n
  · rw [show rFixed zs p n = (0, 2, p) from if_pos h1]
    by_cases h2 : n < 0
    all_goals
      go_enter Try.func37, Try.ntmps37
      go_wp2_with (first | (go_at_call 49; refine (rnone_made _ _ h.made).mono ?_; rintro e w' ⟨rfl, rfl⟩))
      go_ret2
      exact ⟨rfl, h, Kp.refl _ _⟩
  · have h3 : 0 ≤ n := by omega
    have h4 : n ≤ 32 := by omega
    obtain ⟨m, rfl⟩ := Int.eq_ofNat_of_zero_le h3
    have hlen := h.len
    have hbnd := h.bnd
    by_cases h5 : 8 * zs.length - p < m
    · rw [show rFixed zs p m = (0, 3, p) from by rw [rFixed, if_neg h1, if_pos (by simpa using h5)]]
      go_enter Try.func37, Try.ntmps37
      go_wp2_with (first | (go_at_call 49; refine (rnone_made _ _ h.made).mono ?_; rintro e w' ⟨rfl, rfl⟩) | (go_at_call 14; refine (left_rd h).mono ?_; rintro e w1 ⟨rfl, hr1, hk1⟩))
      go_ret2
      exact ⟨rfl, hr1, hk1⟩
    · rw [show rFixed zs p m = (num zs p m, 0, p + m) from by rw [rFixed, if_neg h1, if_neg (by simpa using h5)]; rfl]
      go_enter Try.func37, Try.ntmps37
      go_wp2_with (first | (go_at_call 49; refine (rnone_made _ _ h.made).mono ?_; rintro e w' ⟨rfl, rfl⟩) | (go_at_call 14; refine (left_rd h).mono ?_; rintro e w1 ⟨rfl, hr1, hk1⟩; have hp1 := hr1.place; have ht1 := hr1.thaw) | (go_at_call 54; refine (look_rd hr1 p m (by omega) (by omega)).mono ?_; rintro e w' ⟨rfl, rfl⟩))
      go_ret2
      exact ⟨rfl, hr1.set (by omega), hk1.trans (Kp.set _ _ _ _)⟩

end Go.Proofs.Ytiheldakkpbkgaa
