/- DERIVED. The walks of (*bits.Reader) Signed and Align over a reader in memory. -/
import Derived.Test.YtiheldakkpbkgaaRdD
namespace Go.Proofs.Ytiheldakkpbkgaa
open Go.RowKit

theorem Rd.put {w : World} {r : Nat} {v : Value} {zs : List Nat} {p : Nat} (h : Rd w r v zs p) {q : Nat} {x : Int} (hx : x = (q : Int)) (hq : q ≤ 8 * zs.length) : Rd (w.setCell ⟨r, 2, none⟩ (.int .i64 x)) r v zs q := by
  subst hx; exact h.set hq
theorem ret_two {k l : IntKind} {a b c d : Int} (h : a = b) (h' : c = d) : Ending.returned (.tuple #[.int k a, .int l c]) = .returned (.tuple #[.int k b, .int l d]) := by rw [h, h']

def rSigned (zs : List Nat) (p : Nat) (n : Int) : Int × Nat × Nat :=
  if n < 1 ∨ 31 < n then (0, 2, p) else if 8 * zs.length - p < n.toNat + 1 then (0, 3, p)
  else if num zs p 1 = 1 then (if num zs (p + 1) n.toNat = 0 then (0, 4, p) else (-(num zs (p + 1) n.toNat : Int), 0, p + n.toNat + 1))
  else ((num zs (p + 1) n.toNat : Int), 0, p + n.toNat + 1)

set_option maxHeartbeats 400000 in
theorem signed_rd {r : Nat} {v : Value} {zs : List Nat} {p : Nat} {w : World} (h : Rd w r v zs p) (n : Int) :
    Calls Try.prog 38 #[.pointer (some ⟨r, 0, none⟩), .int .i64 n] w fun e w' => e = .returned (.tuple #[.int .i32 (rSigned zs p n).1, .int .i64 (rSigned zs p n).2.1]) ∧ Rd w' r v zs (rSigned zs p n).2.2 ∧ Kp r w w' := by
  by_cases h1 : n < 1 ∨ 31 < n
  · rw [show rSigned zs p n = (0, 2, p) from if_pos h1]
    by_cases h2 : n < 1
    all_goals
      go_enter Try.func38, Try.ntmps38
      go_wp2_with (first | (go_at_call 49; refine (rnone_made _ _ h.made).mono ?_; rintro e w' ⟨rfl, rfl⟩))
      go_ret2
      exact ⟨rfl, h, Kp.refl _ _⟩
  · have h3 : 0 ≤ n := by omega
    have h4 : n ≤ 31 := by omega
    have h41 : 1 ≤ n := by omega
    obtain ⟨m, rfl⟩ := Int.eq_ofNat_of_zero_le h3
    have hlen := h.len
    have hbnd := h.bnd
    by_cases h5 : 8 * zs.length - p < m + 1
    · rw [show rSigned zs p m = (0, 3, p) from by rw [rSigned, if_neg h1, if_pos (by simpa using h5)]]
      go_enter Try.func38, Try.ntmps38
      go_wp2_with (first | (go_at_call 49; refine (rnone_made _ _ h.made).mono ?_; rintro e w' ⟨rfl, rfl⟩) | (go_at_call 14; refine (left_rd h).mono ?_; rintro e w1 ⟨rfl, hr1, hk1⟩))
      go_ret2
      exact ⟨rfl, hr1, hk1⟩
    · have hlt : num zs (p + 1) m < 2147483648 := Nat.lt_of_lt_of_le (num_lt _ _ _) (show 2 ^ m ≤ 2 ^ 31 from Nat.pow_le_pow_right (by omega) (by omega))
      have e0 : rSigned zs p m = if num zs p 1 = 1 then (if num zs (p + 1) m = 0 then (0, 4, p) else (-(num zs (p + 1) m : Int), 0, p + m + 1)) else ((num zs (p + 1) m : Int), 0, p + m + 1) := by
        rw [rSigned, if_neg h1, if_neg (by simpa using h5)]; rfl
      rw [e0]
      clear e0
      have hn1 := num_lt zs p 1
      by_cases hs : num zs p 1 = 1
      · rw [if_pos hs]
        by_cases hzz : num zs (p + 1) m = 0
        · rw [if_pos hzz]
          go_enter Try.func38, Try.ntmps38
          go_wp2_with fail
          refine (rnone_made _ _ h.made).mono ?_; rintro e w' ⟨rfl, rfl⟩
          go_wp2_with fail
          refine (left_rd h).mono ?_; rintro e w1 ⟨rfl, hr1, hk1⟩; have hp1 := hr1.place; have ht1 := hr1.thaw
          go_wp2_with fail
          refine (look_rd hr1 p 1 (by omega) (by omega)).mono ?_; rintro e w' ⟨rfl, rfl⟩
          go_wp2_with fail
          refine (look_rd hr1 (p + 1) m (by omega) (by omega)).mono ?_; rintro e w' ⟨rfl, rfl⟩
          go_wp2_with fail
          go_ret2
          exact ⟨ret_two rfl rfl, hr1, hk1⟩
        · rw [if_neg hzz]
          go_enter Try.func38, Try.ntmps38
          go_wp2_with fail
          refine (rnone_made _ _ h.made).mono ?_; rintro e w' ⟨rfl, rfl⟩
          go_wp2_with fail
          refine (left_rd h).mono ?_; rintro e w1 ⟨rfl, hr1, hk1⟩; have hp1 := hr1.place; have ht1 := hr1.thaw
          go_wp2_with fail
          refine (look_rd hr1 p 1 (by omega) (by omega)).mono ?_; rintro e w' ⟨rfl, rfl⟩
          go_wp2_with fail
          refine (look_rd hr1 (p + 1) m (by omega) (by omega)).mono ?_; rintro e w' ⟨rfl, rfl⟩
          go_wp2_with fail
          go_ret2
          exact ⟨ret_two rfl rfl, hr1.put (by omega) (by omega), hk1.trans (Kp.set _ _ _ _)⟩
      · rw [if_neg hs]
        go_enter Try.func38, Try.ntmps38
        go_wp2_with fail
        refine (rnone_made _ _ h.made).mono ?_; rintro e w' ⟨rfl, rfl⟩
        go_wp2_with fail
        refine (left_rd h).mono ?_; rintro e w1 ⟨rfl, hr1, hk1⟩; have hp1 := hr1.place; have ht1 := hr1.thaw
        go_wp2_with fail
        refine (look_rd hr1 p 1 (by omega) (by omega)).mono ?_; rintro e w' ⟨rfl, rfl⟩
        go_wp2_with fail
        refine (look_rd hr1 (p + 1) m (by omega) (by omega)).mono ?_; rintro e w' ⟨rfl, rfl⟩
        go_wp2_with fail
        go_ret2
        exact ⟨ret_two rfl rfl, hr1.put (by omega) (by omega), hk1.trans (Kp.set _ _ _ _)⟩

def rAlign (zs : List Nat) (p : Nat) : Nat × Nat :=
  if num zs p ((p + 7) / 8 * 8 - p) = 0 then (0, (p + 7) / 8 * 8) else (4, p)

set_option maxHeartbeats 400000 in
theorem align_rd {r : Nat} {v : Value} {zs : List Nat} {p : Nat} {w : World} (h : Rd w r v zs p) :
    Calls Try.prog 31 #[.pointer (some ⟨r, 0, none⟩)] w fun e w' => e = .returned (.int .i64 (rAlign zs p).1) ∧ Rd w' r v zs (rAlign zs p).2 ∧ Kp r w w' := by
  have hlen := h.len
  have hbnd := h.bnd
  have hp := h.place
  have ht := h.thaw
  obtain ⟨gap, hgap⟩ : ∃ gap, gap = (p + 7) / 8 * 8 - p := ⟨_, rfl⟩
  have hg7 : gap ≤ 7 := by omega
  have hgb : p + gap ≤ 8 * zs.length := by omega
  rw [rAlign, ← hgap, show (p + 7) / 8 * 8 = p + gap from by omega]
  have HG : Hid (gap = (p + 7) / 8 * 8 - p) := hgap
  clear hgap
  by_cases h0 : num zs p gap = 0
  · rw [if_pos h0]
    go_enter Try.func31, Try.ntmps31
    go_wp2_with fail
    refine (rnone_made _ _ h.made).mono ?_; rintro e w' ⟨rfl, rfl⟩
    go_wp2_with fail
    go_quiet ((go_at_call 50; exact Calls.quiet_of_same (rnext_any _ p _ hp (by omega))))
    go_wp2_with fail
    rw [show (((p : Int) + 7) / 8 * 8 - (p : Int)) = ((gap : Nat) : Int) from by have := HG.out; omega]
    refine (look_rd (h.same (w' := w'.drewN nq) rfl) p gap (by omega) hgb).mono ?_; rintro e w2 ⟨rfl, rfl⟩
    go_wp2_with fail
    go_ret
    exact ⟨ret_int rfl, (h.same (w' := w'.drewN nq) rfl).put (by omega) (by omega), (Kp.drewN _ _ _).trans (Kp.set _ _ _ _)⟩
  · rw [if_neg h0]
    go_enter Try.func31, Try.ntmps31
    go_wp2_with fail
    refine (rnone_made _ _ h.made).mono ?_; rintro e w' ⟨rfl, rfl⟩
    go_wp2_with fail
    go_quiet ((go_at_call 50; exact Calls.quiet_of_same (rnext_any _ p _ hp (by omega))))
    go_wp2_with fail
    rw [show (((p : Int) + 7) / 8 * 8 - (p : Int)) = ((gap : Nat) : Int) from by have := HG.out; omega]
    refine (look_rd (h.same (w' := w'.drewN nq) rfl) p gap (by omega) hgb).mono ?_; rintro e w2 ⟨rfl, rfl⟩
    go_wp2_with fail
    go_ret
    exact ⟨ret_int rfl, h.same (w' := w'.drewN nq) rfl, Kp.drewN _ _ _⟩

end Go.Proofs.Ytiheldakkpbkgaa
