/- DERIVED. The walks of the document's asked, Base, More. -/
import Derived.Test.YtoddkhaaacpelaaDoorNb
namespace Go.Proofs.YtoddkhaaacpelaaDoor
open Go.RowKit

set_option maxRecDepth 100000 in
set_option maxHeartbeats 1000000 in
theorem asked_yes {w : World} {a : Option Addr} {cp q n p : Nat} {z : Int} (hz : Sz z n) (hq : q = n * n) (hp : p < q) :
    Calls Tryd.prog 16 #[.slice a q cp, .int .i64 z, .int .i64 (p : Int)] w fun e w' => e = .returned (.bool true) ∧ w = w' := by
  have HS : Hid (Sz z n) := hz
  have n0 : (4 : Int) ≤ (n : Int) := by have := hz.sd.lo; omega
  have n1 : (n : Int) ≤ 32 := by have := hz.sd.hi; omega
  have eq : (n : Int) * (n : Int) = (q : Int) := by rw [hq]; simp
  have q0 : (q : Int) ≤ 1024 := by have := hz.sd.sq; omega
  have qq : ((q : Int) == (q : Int)) = true := by simp
  have p0 : (0 : Int) ≤ (p : Int) := by omega
  have p1 : (p : Int) < (q : Int) := by omega
  clear hz hq hp
  go_enter Tryd.func16, Tryd.ntmps16
  go_wp2_with fail
  refine (side_yes HS.out).mono ?_
  rintro e w' ⟨rfl, rfl⟩
  go_wp2_with fail
  go_ret
  exact ⟨rfl, rfl⟩

set_option maxRecDepth 100000 in
set_option maxHeartbeats 1000000 in
theorem asked_no {w : World} {a : Option Addr} {cp len : Nat} {z p : Int} (hl : len ≤ 140737488355328) (h : ¬ Ask z len p) :
    Calls Tryd.prog 16 #[.slice a len cp, .int .i64 z, .int .i64 p] w fun e w' => e = .returned (.bool false) ∧ w = w' := by
  rcases size_any z with ⟨n, hz⟩ | hz
  · have HS : Hid (Sz z n) := hz
    have n0 : (4 : Int) ≤ (n : Int) := by have := hz.sd.lo; omega
    have n1 : (n : Int) ≤ 32 := by have := hz.sd.hi; omega
    obtain ⟨q, hqn, eq, q0, q1⟩ := sq_name hz.sd
    by_cases hlen : len = q
    · subst hlen
      have qq : ((len : Int) == (len : Int)) = true := by simp
      by_cases hp : p < 0
      · have hp1 : ¬ 0 ≤ p := by omega
        clear h hqn hz
        go_enter Tryd.func16, Tryd.ntmps16
        go_wp2_with fail
        refine (side_yes HS.out).mono ?_
        rintro e w' ⟨rfl, rfl⟩
        go_wp2_with fail
        go_ret
        exact ⟨rfl, rfl⟩
      · have hp1 : 0 ≤ p := by omega
        have hp2 : ¬ p < (len : Int) := by
          intro e
          exact absurd ⟨n, hz, hqn, by omega, by rw [← hqn]; omega⟩ h
        have hp3 : decide (p < (len : Int)) = false := by rw [decide_eq_false_iff_not]; exact hp2
        clear h hqn hz
        go_enter Tryd.func16, Tryd.ntmps16
        go_wp2_with fail
        refine (side_yes HS.out).mono ?_
        rintro e w' ⟨rfl, rfl⟩
        go_wp2_with fail
        go_ret
        exact ⟨rfl, rfl⟩
    · have qq : ((len : Int) == (q : Int)) = false := by rw [beq_eq_false_iff_ne]; omega
      clear h hqn hz hlen
      go_enter Tryd.func16, Tryd.ntmps16
      go_wp2_with fail
      refine (side_yes HS.out).mono ?_
      rintro e w' ⟨rfl, rfl⟩
      go_wp2_with fail
      go_ret
      exact ⟨rfl, rfl⟩
  · have HS : Hid (Nz z) := hz
    clear h hz
    go_enter Tryd.func16, Tryd.ntmps16
    go_wp2_with fail
    refine (side_no HS.out).mono ?_
    rintro e w' ⟨rfl, rfl⟩
    go_wp2_with fail
    go_ret
    exact ⟨rfl, rfl⟩

set_option maxRecDepth 100000 in
set_option maxHeartbeats 1000000 in
theorem rbase_yes {w : World} {a : Option Addr} {cp q n p : Nat} {L : List Int} {z : Int} (hz : Sz z n) (hs : Si w a L) (hl : L.length = q) (hq : q = n * n) (hp : p < q) :
    Calls Tryd.prog 8 #[.slice a q cp, .int .i64 z, .int .i64 (p : Int)] w fun e w' => e = .returned (.tuple #[.int .i64 (bas L n p), .int .i64 0]) ∧ ∃ k, w' = w.drewN k := by
  have HS : Hid (Sz z n) := hz
  have HP : Hid (q = n * n ∧ p < q) := ⟨hq, hp⟩
  have n0 : (4 : Int) ≤ (n : Int) := by have := hz.sd.lo; omega
  have n1 : (n : Int) ≤ 32 := by have := hz.sd.hi; omega
  obtain ⟨r, c, hr, hc, hr1, hc1, hdv, hmd, hdt, hmt⟩ := rc_of (n := n) (a := p) (by omega) (by omega)
  have HA : Hid (∀ k, Si (w.drewN k) a L) := fun k => by
    rcases hs with h | ⟨b, o, h1, h2, h3⟩
    · exact Or.inl h
    · exact Or.inr ⟨b, o, h1, h2, h3⟩
  have HL : Hid (L.length = q ∧ q = n * n) := ⟨hl, hq⟩
  have HC : Hid (bas L n p = ctx 4 (sml L n p 3 5)) := rfl
  have hsum := sml_five L n p 3
  rw [hr1, hc1] at hsum
  obtain ⟨x1, ex1, fx1⟩ : ∃ x : Nat, r + 1 = x ∧ (r : Int) + 1 = (x : Int) := ⟨_, rfl, by omega⟩
  obtain ⟨y1, ey1, fy1⟩ : ∃ x : Nat, c + 1 = x ∧ (c : Int) + 1 = (x : Int) := ⟨_, rfl, by omega⟩
  obtain ⟨x2, ex2, fx2⟩ : ∃ x : Nat, r + 2 = x ∧ (r : Int) + 2 = (x : Int) := ⟨_, rfl, by omega⟩
  obtain ⟨y2, ey2, fy2⟩ : ∃ x : Nat, c + 2 = x ∧ (c : Int) + 2 = (x : Int) := ⟨_, rfl, by omega⟩
  rw [ex1, ey1, ex2, ey2] at hsum
  have lx1 : x1 ≤ 40 := by omega
  have ly1 : y1 ≤ 40 := by omega
  have lx2 : x2 ≤ 40 := by omega
  have ly2 : y2 ≤ 40 := by omega
  have a0 := som_lo (L := L) (n := n) (r := r) (c := y1) (m := 3) (by omega)
  have b0 := som_hi (L := L) (n := n) (r := r) (c := y1) (m := 3) (by omega)
  have a1 := som_lo (L := L) (n := n) (r := x1) (c := c) (m := 3) (by omega)
  have b1 := som_hi (L := L) (n := n) (r := x1) (c := c) (m := 3) (by omega)
  have a2 := som_lo (L := L) (n := n) (r := x1) (c := y1) (m := 3) (by omega)
  have b2 := som_hi (L := L) (n := n) (r := x1) (c := y1) (m := 3) (by omega)
  have a3 := som_lo (L := L) (n := n) (r := r) (c := y2) (m := 3) (by omega)
  have b3 := som_hi (L := L) (n := n) (r := r) (c := y2) (m := 3) (by omega)
  have a4 := som_lo (L := L) (n := n) (r := x2) (c := c) (m := 3) (by omega)
  have b4 := som_hi (L := L) (n := n) (r := x2) (c := c) (m := 3) (by omega)
  have hsum2 : sml L n p 3 5 = som L n r y1 3 + som L n x1 c 3 + som L n x1 y1 3 + som L n r y2 3 + som L n x2 c 3 := hsum
  have s0 := sml_lo (L := L) (n := n) (a := p) (m := 3) (by omega) 5
  obtain ⟨s, hs1⟩ : ∃ s, sml L n p 3 5 = s := ⟨_, rfl⟩
  rw [hs1] at hsum2 s0 HC
  have hsm := hsum2.symm
  have s9 : s ≤ 80 := by omega
  clear hsum2
  obtain ⟨t, ht, ht', t0, t1, hct⟩ := half_ctx (M := 4) s0
  have nz : (n : Int) ≠ 0 := by omega
  have nn : (0 : Int) < (n : Int) := by omega
  clear hz hs hl hq hp hr1 hc1 hsum hs1
  rcases hct with ⟨h1, h2⟩ | ⟨h1, h2⟩
  all_goals
    have HE : Hid (bas L n p = _) := HC.out.trans h2
    clear h2
    go_enter Tryd.func8, Tryd.ntmps8
    go_wp2_with fail
    refine (asked_yes HS.out HP.out.1 HP.out.2).mono ?_
    rintro e w1 ⟨rfl, rfl⟩
    go_wp2_with fail
    refine (side_yes HS.out).mono ?_
    rintro e w1 ⟨rfl, rfl⟩
    go_wp2_with fail
    go_quiet (fail)
    go_wp2_with (first | (go_at_call 18; with_reducible refine (some_any (r := r) (c := y1) (HA.out _) HL.out.1 HL.out.2 (by omega) (by omega) (by omega) (by omega)).mono ?_; rintro e w5 ⟨rfl, rfl⟩) | (go_at_call 18; with_reducible refine (some_any (r := x1) (c := c) (HA.out _) HL.out.1 HL.out.2 (by omega) (by omega) (by omega) (by omega)).mono ?_; rintro e w6 ⟨rfl, rfl⟩) | (go_at_call 18; with_reducible refine (some_any (r := x1) (c := y1) (HA.out _) HL.out.1 HL.out.2 (by omega) (by omega) (by omega) (by omega)).mono ?_; rintro e w7 ⟨rfl, rfl⟩) | (go_at_call 18; with_reducible refine (some_any (r := r) (c := y2) (HA.out _) HL.out.1 HL.out.2 (by omega) (by omega) (by omega) (by omega)).mono ?_; rintro e w8 ⟨rfl, rfl⟩) | (go_at_call 18; with_reducible refine (some_any (r := x2) (c := c) (HA.out _) HL.out.1 HL.out.2 (by omega) (by omega) (by omega) (by omega)).mono ?_; rintro e w9 ⟨rfl, rfl⟩))
    go_returns
    exact ⟨by rw [HE.out]; rfl, nq, rfl⟩

set_option maxRecDepth 100000 in
set_option maxHeartbeats 1000000 in
theorem rmore_yes {w : World} {a : Option Addr} {cp q n p : Nat} {L : List Int} {z : Int} (hz : Sz z n) (hs : Si w a L) (hl : L.length = q) (hq : q = n * n) (hp : p < q) :
    Calls Tryd.prog 10 #[.slice a q cp, .int .i64 z, .int .i64 (p : Int)] w fun e w' => e = .returned (.tuple #[.int .i64 (mor L n p), .int .i64 0]) ∧ ∃ k, w' = w.drewN k := by
  have HS : Hid (Sz z n) := hz
  have HP : Hid (q = n * n ∧ p < q) := ⟨hq, hp⟩
  have n0 : (4 : Int) ≤ (n : Int) := by have := hz.sd.lo; omega
  have n1 : (n : Int) ≤ 32 := by have := hz.sd.hi; omega
  obtain ⟨r, c, hr, hc, hr1, hc1, hdv, hmd, hdt, hmt⟩ := rc_of (n := n) (a := p) (by omega) (by omega)
  have HA : Hid (∀ k, Si (w.drewN k) a L) := fun k => by
    rcases hs with h | ⟨b, o, h1, h2, h3⟩
    · exact Or.inl h
    · exact Or.inr ⟨b, o, h1, h2, h3⟩
  have HL : Hid (L.length = q ∧ q = n * n) := ⟨hl, hq⟩
  have HC : Hid (mor L n p = ctx 6 (sml L n p 15 3)) := rfl
  have hsum := sml_three L n p 15
  rw [hr1, hc1] at hsum
  obtain ⟨x1, ex1, fx1⟩ : ∃ x : Nat, r + 1 = x ∧ (r : Int) + 1 = (x : Int) := ⟨_, rfl, by omega⟩
  obtain ⟨y1, ey1, fy1⟩ : ∃ x : Nat, c + 1 = x ∧ (c : Int) + 1 = (x : Int) := ⟨_, rfl, by omega⟩
  obtain ⟨x2, ex2, fx2⟩ : ∃ x : Nat, r + 2 = x ∧ (r : Int) + 2 = (x : Int) := ⟨_, rfl, by omega⟩
  obtain ⟨y2, ey2, fy2⟩ : ∃ x : Nat, c + 2 = x ∧ (c : Int) + 2 = (x : Int) := ⟨_, rfl, by omega⟩
  rw [ex1, ey1] at hsum
  have lx1 : x1 ≤ 40 := by omega
  have ly1 : y1 ≤ 40 := by omega
  have lx2 : x2 ≤ 40 := by omega
  have ly2 : y2 ≤ 40 := by omega
  have a0 := som_lo (L := L) (n := n) (r := r) (c := y1) (m := 15) (by omega)
  have b0 := som_hi (L := L) (n := n) (r := r) (c := y1) (m := 15) (by omega)
  have a1 := som_lo (L := L) (n := n) (r := x1) (c := c) (m := 15) (by omega)
  have b1 := som_hi (L := L) (n := n) (r := x1) (c := c) (m := 15) (by omega)
  have a2 := som_lo (L := L) (n := n) (r := x1) (c := y1) (m := 15) (by omega)
  have b2 := som_hi (L := L) (n := n) (r := x1) (c := y1) (m := 15) (by omega)
  have hsum2 : sml L n p 15 3 = som L n r y1 15 + som L n x1 c 15 + som L n x1 y1 15 := hsum
  have s0 := sml_lo (L := L) (n := n) (a := p) (m := 15) (by omega) 3
  obtain ⟨s, hs1⟩ : ∃ s, sml L n p 15 3 = s := ⟨_, rfl⟩
  rw [hs1] at hsum2 s0 HC
  have hsm := hsum2.symm
  have s9 : s ≤ 80 := by omega
  clear hsum2
  obtain ⟨t, ht, ht', t0, t1, hct⟩ := half_ctx (M := 6) s0
  have nz : (n : Int) ≠ 0 := by omega
  have nn : (0 : Int) < (n : Int) := by omega
  clear hz hs hl hq hp hr1 hc1 hsum hs1
  rcases hct with ⟨h1, h2⟩ | ⟨h1, h2⟩
  all_goals
    have HE : Hid (mor L n p = _) := HC.out.trans h2
    clear h2
    go_enter Tryd.func10, Tryd.ntmps10
    go_wp2_with fail
    refine (asked_yes HS.out HP.out.1 HP.out.2).mono ?_
    rintro e w1 ⟨rfl, rfl⟩
    go_wp2_with fail
    refine (side_yes HS.out).mono ?_
    rintro e w1 ⟨rfl, rfl⟩
    go_wp2_with fail
    go_quiet (fail)
    go_wp2_with (first | (go_at_call 18; with_reducible refine (some_any (r := r) (c := y1) (HA.out _) HL.out.1 HL.out.2 (by omega) (by omega) (by omega) (by omega)).mono ?_; rintro e w5 ⟨rfl, rfl⟩) | (go_at_call 18; with_reducible refine (some_any (r := x1) (c := c) (HA.out _) HL.out.1 HL.out.2 (by omega) (by omega) (by omega) (by omega)).mono ?_; rintro e w6 ⟨rfl, rfl⟩) | (go_at_call 18; with_reducible refine (some_any (r := x1) (c := y1) (HA.out _) HL.out.1 HL.out.2 (by omega) (by omega) (by omega) (by omega)).mono ?_; rintro e w7 ⟨rfl, rfl⟩))
    go_returns
    exact ⟨by rw [HE.out]; rfl, nq, rfl⟩

theorem rbase_no {w : World} {a : Option Addr} {cp len : Nat} {z p : Int} (hl : len ≤ 140737488355328) (h : ¬ Ask z len p) :
    Calls Tryd.prog 8 #[.slice a len cp, .int .i64 z, .int .i64 p] w fun e w' => e = .returned (.tuple #[.int .i64 0, .int .i64 2]) ∧ w = w' := by
  have HA : Hid (¬ Ask z len p) := h
  clear h
  go_enter Tryd.func8, Tryd.ntmps8
  go_wp2_with fail
  refine (asked_no hl HA.out).mono ?_
  rintro e w' ⟨rfl, rfl⟩
  go_wp2_with fail
  go_returns
  exact ⟨rfl, rfl⟩

theorem rmore_no {w : World} {a : Option Addr} {cp len : Nat} {z p : Int} (hl : len ≤ 140737488355328) (h : ¬ Ask z len p) :
    Calls Tryd.prog 10 #[.slice a len cp, .int .i64 z, .int .i64 p] w fun e w' => e = .returned (.tuple #[.int .i64 0, .int .i64 2]) ∧ w = w' := by
  have HA : Hid (¬ Ask z len p) := h
  clear h
  go_enter Tryd.func10, Tryd.ntmps10
  go_wp2_with fail
  refine (asked_no hl HA.out).mono ?_
  rintro e w' ⟨rfl, rfl⟩
  go_wp2_with fail
  go_returns
  exact ⟨rfl, rfl⟩

/-- one answer of both Bases, of both Mores -/
theorem base_both {L : List Int} {q : Nat} {z p : Int} (hl : L.length = q) (hq : q ≤ 140737488355328) : ∃ x e : Int, (∀ (w : World) (a : Option Addr) (cp : Nat), Nt w → Si w a L → Calls Tryd.prog 7 #[.slice a q cp, .int .i64 z, .int .i64 p] w fun en w' => en = .returned (.tuple #[.int .i64 x, .int .i64 e]) ∧ ∃ k, w' = w.drewN k) ∧
    (∀ (w : World) (a : Option Addr) (cp : Nat), Si w a L → Calls Tryd.prog 8 #[.slice a q cp, .int .i64 z, .int .i64 p] w fun en w' => en = .returned (.tuple #[.int .i64 x, .int .i64 e]) ∧ ∃ k, w' = w.drewN k) := by
  by_cases h : Ask z q p
  · obtain ⟨n, hz, hqn, p0, p1⟩ := h
    obtain ⟨r, rfl⟩ : ∃ r : Nat, p = (r : Int) := ⟨p.toNat, by omega⟩
    exact ⟨_, _, fun w a cp hN hs => base_yes hN hz hs hl hqn (by omega), fun w a cp hs => rbase_yes hz hs hl hqn (by omega)⟩
  · refine ⟨0, 2, fun w a cp hN hs => (base_no hq h).mono ?_, fun w a cp hs => (rbase_no hq h).mono ?_⟩
    · rintro e w' ⟨rfl, rfl⟩; exact ⟨rfl, 0, rfl⟩
    · rintro e w' ⟨rfl, rfl⟩; exact ⟨rfl, 0, rfl⟩
theorem more_both {L : List Int} {q : Nat} {z p : Int} (hl : L.length = q) (hq : q ≤ 140737488355328) : ∃ x e : Int, (∀ (w : World) (a : Option Addr) (cp : Nat), Nt w → Si w a L → Calls Tryd.prog 9 #[.slice a q cp, .int .i64 z, .int .i64 p] w fun en w' => en = .returned (.tuple #[.int .i64 x, .int .i64 e]) ∧ ∃ k, w' = w.drewN k) ∧
    (∀ (w : World) (a : Option Addr) (cp : Nat), Si w a L → Calls Tryd.prog 10 #[.slice a q cp, .int .i64 z, .int .i64 p] w fun en w' => en = .returned (.tuple #[.int .i64 x, .int .i64 e]) ∧ ∃ k, w' = w.drewN k) := by
  by_cases h : Ask z q p
  · obtain ⟨n, hz, hqn, p0, p1⟩ := h
    obtain ⟨r, rfl⟩ : ∃ r : Nat, p = (r : Int) := ⟨p.toNat, by omega⟩
    exact ⟨_, _, fun w a cp hN hs => more_yes hN hz hs hl hqn (by omega), fun w a cp hs => rmore_yes hz hs hl hqn (by omega)⟩
  · refine ⟨0, 2, fun w a cp hN hs => (more_no hq h).mono ?_, fun w a cp hs => (rmore_no hq h).mono ?_⟩
    · rintro e w' ⟨rfl, rfl⟩; exact ⟨rfl, 0, rfl⟩
    · rintro e w' ⟨rfl, rfl⟩; exact ⟨rfl, 0, rfl⟩

end Go.Proofs.YtoddkhaaacpelaaDoor
