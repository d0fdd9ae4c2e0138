/- DERIVED. The walks of between, scaled, lines, the methods of line, row, empty. -/
import Derived.Test.YtddnnlofdicgkabDoorHb
import Derived.Test.YtddnnlofdicgkabDoorCg
namespace Go.Proofs.YtddnnlofdicgkabDoor
open Go.RowKit

/-- a block's value -/
def bv (n : Nat) (g L c : Nat) : Value := .agg #[.int .i64 (n : Int), .slice (some ⟨g, 0, none⟩) L c]

set_option maxRecDepth 100000 in
theorem between_any {w : World} {n : Nat} {s : Value} {v : Int} (h : Lo v) (hs : ∃ a l c, s = .slice a l c) : Calls Tryd.prog 30 #[.agg #[.int .i64 (n : Int), s], .int .i64 v] w fun e w' => e = .returned (.int .i64 (btw n v)) ∧ Below w.heap.size w w' := by
  obtain ⟨sa, sl, sc, rfl⟩ := hs
  have HB : Hid (Below w.heap.size w (w.alloc (.cells #[.int .i64 (n : Int), .slice sa sl sc] 38))) := from_alloc _ _
  by_cases h4 : n = 4
  · subst h4
    have HE : Hid (btw 4 v = clp v) := rfl
    go_enter Tryd.func30, Tryd.ntmps30
    go_wp2_with (first | (go_at_call 36; refine (round1 h).mono ?_; rintro e w' ⟨rfl, rfl⟩) | (go_at_call 26; refine clipped_any.mono ?_; rintro e w' ⟨rfl, rfl⟩))
    go_ret
    exact ⟨by rw [HE.out]; rfl, HB.out⟩
  · have z4 : ((n : Int) == 4) = false := by rw [beq_eq_false_iff_ne]; omega
    by_cases h8 : n = 8
    · subst h8
      have HE : Hid (btw 8 v = clp ((v + 1) / 2)) := rfl
      go_enter Tryd.func30, Tryd.ntmps30
      go_wp2_with (first | (go_at_call 36; refine (round1 h).mono ?_; rintro e w' ⟨rfl, rfl⟩) | (go_at_call 26; refine clipped_any.mono ?_; rintro e w' ⟨rfl, rfl⟩))
      go_ret
      exact ⟨by rw [HE.out]; rfl, HB.out⟩
    · have z8 : ((n : Int) == 8) = false := by rw [beq_eq_false_iff_ne]; omega
      have HE : Hid (btw n v = clp ((v + 2) / 4)) := by show _ = _; unfold btw; rw [if_neg h4, if_neg h8]
      clear h4 h8
      go_enter Tryd.func30, Tryd.ntmps30
      go_wp2_with (first | (go_at_call 36; refine (round2 h).mono ?_; rintro e w' ⟨rfl, rfl⟩) | (go_at_call 26; refine clipped_any.mono ?_; rintro e w' ⟨rfl, rfl⟩))
      go_ret
      exact ⟨by rw [HE.out]; rfl, HB.out⟩

set_option maxRecDepth 100000 in
theorem scaled_any {w : World} {n : Nat} {s : Value} {v : Int} (h : Lo v) (hs : ∃ a l c, s = .slice a l c) : Calls Tryd.prog 33 #[.agg #[.int .i64 (n : Int), s], .int .i64 v] w fun e w' => e = .returned (.int .i64 (sca n v)) ∧ Below w.heap.size w w' := by
  obtain ⟨sa, sl, sc, rfl⟩ := hs
  have HB : Hid (Below w.heap.size w (w.alloc (.cells #[.int .i64 (n : Int), .slice sa sl sc] 38))) := from_alloc _ _
  have l0 := h.1
  have l1 := h.2
  have HH : Hid (Lo v) := h
  clear h
  by_cases h4 : n = 4
  · subst h4
    have HE : Hid (sca 4 v = clp (4 * v)) := rfl
    go_enter Tryd.func33, Tryd.ntmps33
    go_wp2_with (first | (go_at_call 26; refine clipped_any.mono ?_; rintro e w' ⟨rfl, rfl⟩))
    go_ret
    exact ⟨by rw [HE.out]; rfl, HB.out⟩
  · have z4 : ((n : Int) == 4) = false := by rw [beq_eq_false_iff_ne]; omega
    by_cases h8 : n = 8
    · subst h8
      have HE : Hid (sca 8 v = clp (2 * v)) := rfl
      go_enter Tryd.func33, Tryd.ntmps33
      go_wp2_with (first | (go_at_call 26; refine clipped_any.mono ?_; rintro e w' ⟨rfl, rfl⟩))
      go_ret
      exact ⟨by rw [HE.out]; rfl, HB.out⟩
    · have z8 : ((n : Int) == 8) = false := by rw [beq_eq_false_iff_ne]; omega
      by_cases h16 : n = 16
      · subst h16
        have HE : Hid (sca 16 v = clp v) := rfl
        go_enter Tryd.func33, Tryd.ntmps33
        go_wp2_with (first | (go_at_call 26; refine clipped_any.mono ?_; rintro e w' ⟨rfl, rfl⟩))
        go_ret
        exact ⟨by rw [HE.out]; rfl, HB.out⟩
      · have z16 : ((n : Int) == 16) = false := by rw [beq_eq_false_iff_ne]; omega
        by_cases h32 : n = 32
        · subst h32
          have HE : Hid (sca 32 v = clp ((v + 2) / 4)) := rfl
          go_enter Tryd.func33, Tryd.ntmps33
          go_wp2_with (first | (go_at_call 36; refine (round2 HH.out).mono ?_; rintro e w' ⟨rfl, rfl⟩) | (go_at_call 26; refine clipped_any.mono ?_; rintro e w' ⟨rfl, rfl⟩))
          go_ret
          exact ⟨by rw [HE.out]; rfl, HB.out⟩
        · have z32 : ((n : Int) == 32) = false := by rw [beq_eq_false_iff_ne]; omega
          have HE : Hid (sca n v = clp ((v + 8) / 16)) := by show _ = _; unfold sca; rw [if_neg h4, if_neg h8, if_neg h16, if_neg h32]
          clear h4 h8 h16 h32
          go_enter Tryd.func33, Tryd.ntmps33
          go_wp2_with (first | (go_at_call 36; refine (round4 HH.out).mono ?_; rintro e w' ⟨rfl, rfl⟩) | (go_at_call 26; refine clipped_any.mono ?_; rintro e w' ⟨rfl, rfl⟩))
          go_ret
          exact ⟨by rw [HE.out]; rfl, HB.out⟩

set_option maxRecDepth 100000 in
theorem lines_any {w : World} {k : Nat} (hk : k < 10) : Calls Tryd.prog 24 #[.int .i64 (k : Int)] w fun e w' => e = .returned (.tuple #[.int .i64 (kR k : Nat), .int .i64 (kC k : Nat)]) ∧ w' = w := by
  by_cases h : k = 9
  · subst h
    go_enter Tryd.func24, Tryd.ntmps24
    go_wp2
    go_ret2
    exact ⟨rfl, rfl⟩
  · have z : ((k : Int) == 9) = false := by rw [beq_eq_false_iff_ne]; omega
    have HR : Hid (((kR k : Nat) : Int) = (k : Int) % 3) := by show _ = _; unfold kR; rw [if_neg h]; rfl
    have HC : Hid (((kC k : Nat) : Int) = (k : Int) / 3) := by show _ = _; unfold kC; rw [if_neg h]; rfl
    have k0 : (0 : Int) ≤ (k : Int) := by omega
    have k1 : (k : Int) < 10 := by omega
    clear h hk
    go_enter Tryd.func24, Tryd.ntmps24
    go_wp2
    go_ret2
    exact ⟨ret_two HR.out.symm HC.out.symm, rfl⟩

theorem linv_any {w : World} {a : Option Addr} {c : Nat} {k : Int} {C : List Int} (hq : Qt w) (hs : Si w a C) (hm : tkB (kL k) C = true) :
    Calls Tryd.prog 28 #[.int .i64 k, .slice a C.length c] w fun e w' => N1 w w' e (invR k C) := by
  have HC : Hid (Calls Tryd.prog 35 #[.int .i64 k, .slice a C.length c] w fun e w' => N2 w w' e (invR k C)) := inv_yes hq hs hm
  clear hq hs hm
  go_enter Tryd.func28, Tryd.ntmps28
  go_wp2_with (go_at_call 35; refine HC.out.mono ?_; rintro e w1 ⟨g, rfl, hg, hr, hb⟩)
  go_ret
  exact ⟨g, rfl, hg, hr, hb⟩
theorem lfwd_any {w : World} {a : Option Addr} {c : Nat} {k : Int} {C : List Int} (hq : Qt w) (hs : Si w a C) (hm : tkB (kL k) C = true) :
    Calls Tryd.prog 32 #[.int .i64 k, .slice a C.length c] w fun e w' => N1 w w' e (fwdR k C) := by
  have HC : Hid (Calls Tryd.prog 37 #[.int .i64 k, .slice a C.length c] w fun e w' => N2 w w' e (fwdR k C)) := fwd_yes hq hs hm
  clear hq hs hm
  go_enter Tryd.func32, Tryd.ntmps32
  go_wp2_with (go_at_call 37; refine HC.out.mono ?_; rintro e w1 ⟨g, rfl, hg, hr, hb⟩)
  go_ret
  exact ⟨g, rfl, hg, hr, hb⟩

set_option maxRecDepth 100000 in
theorem row_any {w : World} {n g y L : Nat} (hL : L = n * n) (hn : n ≤ 64) (hy : y < n) :
    Calls Tryd.prog 23 #[.agg #[.int .i64 (n : Int), .slice (some ⟨g, 0, none⟩) L L], .int .i64 (y : Int)] w fun e w' => e = .returned (.slice (some ⟨g, y * n, none⟩) n (L - y * n)) ∧ Below w.heap.size w w' := by
  have HB : Hid (Below w.heap.size w (w.alloc (.cells #[.int .i64 (n : Int), .slice (some ⟨g, 0, none⟩) L L] 38))) := from_alloc _ _
  have h1 := ix_le (n := n) hy
  have h2 : n * n ≤ 64 * 64 := Nat.mul_le_mul hn hn
  have e1 : (y : Int) * (n : Int) = ((y * n : Nat) : Int) := by rw [Int.natCast_mul]
  have e2 : ((y : Int) + 1) * (n : Int) = ((y * n + n : Nat) : Int) := by rw [Int.add_mul, Int.one_mul, e1]; rfl
  have hp : Hid (y * n = y * n) := rfl
  rw [← hL] at h1 h2
  have y1 : (y : Int) < 64 := by omega
  generalize y * n = p at *
  have e3 : ((p + n : Nat) : Int) = (p : Int) + (n : Int) := by omega
  rw [e3] at e2
  have b0 : (0 : Int) ≤ (p : Int) := by omega
  have b1 : (p : Int) + (n : Int) ≤ (L : Int) := by omega
  have b2 : (L : Int) ≤ 4096 := by omega
  have b3 : (0 : Int) ≤ (n : Int) := by omega
  have b4 : (p : Int) ≤ (p : Int) + (n : Int) := by omega
  have b5 : ¬ p = L := by omega
  clear hL h1 h2 hp e3 hy
  go_enter Tryd.func23, Tryd.ntmps23
  go_wp2_with fail
  go_ret
  exact ⟨by simp, HB.out⟩

end Go.Proofs.YtddnnlofdicgkabDoor
