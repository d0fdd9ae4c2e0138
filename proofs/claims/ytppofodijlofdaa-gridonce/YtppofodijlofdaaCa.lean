/- DERIVED. Small functions of the program: whole multiples, sides, whether a grid is one, whether a place is in its tile. -/
import Derived.Test.YtppofodijlofdaaBb
namespace Go.Proofs.Ytppofodijlofdaa
open Go.RowKit

theorem tmod_yes {n d : Int} (h : n % d = 0) : n.tmod d = 0 := Int.dvd_iff_tmod_eq_zero.1 (Int.dvd_iff_emod_eq_zero.2 h)
theorem tmod_no {n d : Int} (h : ¬ n % d = 0) : (n.tmod d == 0) = false := by
  rw [beq_eq_false_iff_ne]
  exact fun e => h (Int.dvd_iff_emod_eq_zero.1 (Int.dvd_iff_tmod_eq_zero.2 e))
theorem tmod_no' {n d : Int} (h : ¬ n % d = 0) : (n.tmod d != 0) = true := by
  rw [bne_iff_ne]
  exact fun e => h (Int.dvd_iff_emod_eq_zero.1 (Int.dvd_iff_tmod_eq_zero.2 e))
set_option maxRecDepth 100000 in
theorem isMultiple_any {w : World} {n d a b : Int} (hd : d ≠ 0) : Calls Try.prog 37 #[.int .i64 n, .int .i64 d, .int .i64 a, .int .i64 b] w fun e w' => e = .returned (.bool (im n d a b)) ∧ w = w' := by
  by_cases h1 : a ≤ n
  · by_cases h2 : n ≤ b
    · by_cases h3 : n % d = 0
      · have h4 := tmod_yes h3
        rw [show im n d a b = true from decide_eq_true ⟨h1, h2, h3⟩]
        clear h3
        go_enter Try.func37, Try.ntmps37
        go_wp2_with fail
        go_ret
        exact ⟨rfl, rfl⟩
      · have h4 := tmod_no h3
        rw [show im n d a b = false from decide_eq_false (fun q => h3 q.2.2)]
        clear h3
        go_enter Try.func37, Try.ntmps37
        go_wp2_with fail
        go_ret
        exact ⟨rfl, rfl⟩
    · rw [show im n d a b = false from decide_eq_false (fun q => h2 q.2.1)]
      go_enter Try.func37, Try.ntmps37
      go_wp2_with fail
      go_ret
      exact ⟨rfl, rfl⟩
  · rw [show im n d a b = false from decide_eq_false (fun q => h1 q.1)]
    go_enter Try.func37, Try.ntmps37
    go_wp2_with fail
    go_ret
    exact ⟨rfl, rfl⟩
set_option maxRecDepth 100000 in
theorem mayReach_any {w : World} {a n : Int} : Calls Try.prog 23 #[.int .i64 a, .int .i64 n] w fun e w' => e = .returned (.bool (mr a n)) ∧ w = w' := by
  have H1 : Hid (∀ u, Calls Try.prog 37 #[.int .i64 a, .int .i64 64, .int .i64 0, .int .i64 192] u fun e w' => e = .returned (.bool (im a 64 0 192)) ∧ u = w') := fun u => isMultiple_any (by omega)
  have H2 : Hid (∀ u, Calls Try.prog 37 #[.int .i64 n, .int .i64 8, .int .i64 8, .int .i64 256] u fun e w' => e = .returned (.bool (im n 8 8 256)) ∧ u = w') := fun u => isMultiple_any (by omega)
  unfold mr
  cases e1 : im a 64 0 192
  · rw [e1] at H1
    go_enter Try.func23, Try.ntmps23
    go_wp2_with (first | ((with_reducible refine (H1.out _).mono ?_); rintro e w5 ⟨rfl, rfl⟩) | ((with_reducible refine (H2.out _).mono ?_); rintro e w5 ⟨rfl, rfl⟩))
    go_ret
    exact ⟨rfl, rfl⟩
  · rw [e1] at H1
    cases e2 : im n 8 8 256
    · rw [e2] at H2
      go_enter Try.func23, Try.ntmps23
      go_wp2_with (first | ((with_reducible refine (H1.out _).mono ?_); rintro e w5 ⟨rfl, rfl⟩) | ((with_reducible refine (H2.out _).mono ?_); rintro e w5 ⟨rfl, rfl⟩))
      go_ret
      exact ⟨rfl, rfl⟩
    · rw [e2] at H2
      have h1 := im_of e1
      have h2 := im_of e2
      obtain ⟨h1a, h1b, -⟩ := h1
      obtain ⟨h2a, h2b, -⟩ := h2
      clear e1 e2
      go_enter Try.func23, Try.ntmps23
      go_wp2_with (first | ((with_reducible refine (H1.out _).mono ?_); rintro e w5 ⟨rfl, rfl⟩) | ((with_reducible refine (H2.out _).mono ?_); rintro e w5 ⟨rfl, rfl⟩))
      go_ret
      exact ⟨rfl, rfl⟩
set_option maxRecDepth 100000 in
theorem isSide_any {w : World} {n : Int} : Calls Try.prog 45 #[.int .i64 n] w fun e w' => e = .returned (.bool (sdB n)) ∧ w = w' := by
  by_cases h : n = 8 ∨ n = 16 ∨ n = 32 ∨ n = 64
  · rcases h with rfl | rfl | rfl | rfl
    all_goals
      go_enter Try.func45, Try.ntmps45
      go_wp2_with fail
      go_ret
      exact ⟨rfl, rfl⟩
  · rw [show sdB n = false from decide_eq_false h]
    have h0 : (n == 8) = false := by rw [beq_eq_false_iff_ne]; omega
    have h1 : (n == 16) = false := by rw [beq_eq_false_iff_ne]; omega
    have h2 : (n == 32) = false := by rw [beq_eq_false_iff_ne]; omega
    have h3 : (n == 64) = false := by rw [beq_eq_false_iff_ne]; omega
    clear h
    go_enter Try.func45, Try.ntmps45
    go_wp2_with fail
    go_ret
    exact ⟨rfl, rfl⟩
set_option maxRecDepth 100000 in
theorem side_any {w : World} {n : Int} : Calls Try.prog 27 #[.int .i64 n] w fun e w' => e = .returned (.bool (sdB n)) ∧ w = w' := by
  by_cases h : n = 8 ∨ n = 16 ∨ n = 32 ∨ n = 64
  · rcases h with rfl | rfl | rfl | rfl
    all_goals
      go_enter Try.func27, Try.ntmps27
      go_wp2_with fail
      go_ret
      exact ⟨rfl, rfl⟩
  · rw [show sdB n = false from decide_eq_false h]
    have h0 : (n == 8) = false := by rw [beq_eq_false_iff_ne]; omega
    have h1 : (n == 16) = false := by rw [beq_eq_false_iff_ne]; omega
    have h2 : (n == 32) = false := by rw [beq_eq_false_iff_ne]; omega
    have h3 : (n == 64) = false := by rw [beq_eq_false_iff_ne]; omega
    clear h
    go_enter Try.func27, Try.ntmps27
    go_wp2_with fail
    go_ret
    exact ⟨rfl, rfl⟩
/-- the four numbers of a tile -/
structure Cl4 (w : World) (b : Nat) (r : Rc) : Prop where
  c0 : w.cell? ⟨b, 0, none⟩ = some (.int .i64 r.1)
  c1 : w.cell? ⟨b, 1, none⟩ = some (.int .i64 r.2.1)
  c2 : w.cell? ⟨b, 2, none⟩ = some (.int .i64 r.2.2.1)
  c3 : w.cell? ⟨b, 3, none⟩ = some (.int .i64 r.2.2.2)
theorem Cl4.lt {w : World} {b : Nat} {r : Rc} (h : Cl4 w b r) : b < w.heap.size := World.block_lt_of_cell? w _ h.c0
theorem Cl4.carry {w w' : World} {b : Nat} {r : Rc} (h : Cl4 w b r) (hb : w'.heap[b]? = w.heap[b]?) : Cl4 w' b r :=
  ⟨by rw [World.cell?_of_block (by exact hb)]; exact h.c0, by rw [World.cell?_of_block (by exact hb)]; exact h.c1, by rw [World.cell?_of_block (by exact hb)]; exact h.c2, by rw [World.cell?_of_block (by exact hb)]; exact h.c3⟩
theorem Cl4.drewN {w : World} {b : Nat} {r : Rc} (h : Cl4 w b r) (n : Nat) : Cl4 (w.drewN n) b r := h.carry rfl
theorem Cl4.drew {w : World} {b : Nat} {r : Rc} (h : Cl4 w b r) : Cl4 w.drew b r := h.carry rfl
set_option maxRecDepth 100000 in
set_option maxHeartbeats 1000000 in
theorem has_any {w : World} {p : Nat} {T : Rc} {X Y : Int} (hc : Cl4 w p T) (ht : TOk T) : Calls Try.prog 46 #[.pointer (some ⟨p, 0, none⟩), .int .i64 X, .int .i64 Y] w fun e w' => e = .returned (.bool (hasT T X Y)) ∧ Below w.heap.size w w' := by
  obtain ⟨d0, d1, d2, d3⟩ := hc
  obtain ⟨t0, t1⟩ := ht
  obtain ⟨_, _, -, _, _, -, _⟩ := mr_of t0
  obtain ⟨_, _, -, _, _, -, _⟩ := mr_of t1
  clear t0 t1
  obtain ⟨x0, y0, w0, h0⟩ := T
  simp only at *
  by_cases h1 : x0 ≤ X
  · by_cases h2 : X < x0 + w0
    · by_cases h3 : y0 ≤ Y
      · rw [show hasT (x0, y0, w0, h0) X Y = decide (Y < y0 + h0) from by unfold hasT; rw [decide_eq_decide]; exact ⟨fun q => q.2.2.2, fun q => ⟨h1, h2, h3, q⟩⟩]
        go_enter Try.func46, Try.ntmps46
        go_wp2_with fail
        go_quiet (fail)
        go_wp2_with fail
        go_ret
        exact ⟨rfl, below_drewN (Below.refl _ _) _⟩
      · rw [show hasT (x0, y0, w0, h0) X Y = false from decide_eq_false (fun q => h3 q.2.2.1)]
        have h3' : decide (y0 ≤ Y) = false := decide_eq_false h3
        clear h3
        go_enter Try.func46, Try.ntmps46
        go_wp2_with fail
        go_quiet (fail)
        go_wp2_with fail
        go_ret
        exact ⟨rfl, below_drewN (Below.refl _ _) _⟩
    · rw [show hasT (x0, y0, w0, h0) X Y = false from decide_eq_false (fun q => h2 q.2.1)]
      have h2' : decide (X < x0 + w0) = false := decide_eq_false h2
      clear h2
      go_enter Try.func46, Try.ntmps46
      go_wp2_with fail
      go_quiet (fail)
      go_wp2_with fail
      go_ret
      exact ⟨rfl, below_drewN (Below.refl _ _) _⟩
  · rw [show hasT (x0, y0, w0, h0) X Y = false from decide_eq_false (fun q => h1 q.1)]
    have h1' : decide (x0 ≤ X) = false := decide_eq_false h1
    clear h1
    go_enter Try.func46, Try.ntmps46
    go_wp2_with fail
    go_quiet (fail)
    go_wp2_with fail
    go_ret
    exact ⟨rfl, below_drewN (Below.refl _ _) _⟩
end Go.Proofs.Ytppofodijlofdaa
