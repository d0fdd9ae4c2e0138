/- DERIVED. The walks of around, Base, More. -/
import Derived.Test.YtoddkhaaacpelaaDoorNa
import Derived.Deep.LoopGhost
namespace Go.Proofs.YtoddkhaaacpelaaDoor
open Go.RowKit

/-- a place by its row and column -/
theorem rc_of {n a : Nat} (h0 : 0 < n) (h : a < n * n) : ∃ r c, r < n ∧ c < n ∧ a / n = r ∧ a % n = c ∧ (a : Int) / (n : Int) = (r : Int) ∧ (a : Int) % (n : Int) = (c : Int) ∧ (a : Int).tdiv (n : Int) = (r : Int) ∧ (a : Int).tmod (n : Int) = (c : Int) := by
  refine ⟨a / n, a % n, (Nat.div_lt_iff_lt_mul h0).2 h, Nat.mod_lt _ h0, rfl, rfl, by simp, by simp, ?_, ?_⟩
  · rw [Int.tdiv_eq_ediv_of_nonneg (by omega)]; simp
  · rw [Int.tmod_eq_emod_of_nonneg (by omega)]; simp
theorem dn_le (k : Nat) : dn k ≤ 2 := by unfold dn; split <;> omega
theorem rt_le (k : Nat) : rt k ≤ 2 := by unfold rt; split <;> omega

/-- the loop over the neighbours -/
structure Ar (w : World) (L : List Int) (n p many : Nat) (m : Int) (s i : Value) (wr : World) : Prop where
  ex : ∃ (k j : Nat), k ≤ many ∧ i = .int .i64 k ∧ s = .int .i64 (sml L n p m k) ∧ wr = w.drewN j

set_option maxRecDepth 100000 in
set_option maxHeartbeats 1000000 in
theorem around_yes {w : World} {a : Option Addr} {cp q n p many : Nat} {L : List Int} {z m : Int} (hN : Nt w) (hz : Sz z n) (hs : Si w a L) (hl : L.length = q) (hq : q = n * n) (hp : p < q) (hk : many ≤ 5) (h0 : 0 ≤ m) (h1 : m ≤ 15) :
    Calls Tryd.prog 15 #[.slice a q cp, .int .i64 z, .int .i64 (p : Int), .int .i64 (many : Int), .int .i64 m] w fun e w' => e = .returned (.tuple #[.int .i64 (sml L n p m many), .int .i64 0]) ∧ ∃ k, w' = w.drewN k := by
  have HS : Hid (Sz z n) := hz
  have n0 : (4 : Int) ≤ (n : Int) := by have := hz.sd.lo; omega
  have n1 : (n : Int) ≤ 32 := by have := hz.sd.hi; omega
  have eq : (n : Int) * (n : Int) = (q : Int) := by rw [hq]; simp
  have q0 : (q : Int) ≤ 1024 := by have := hz.sd.sq; omega
  have qq : ((q : Int) != (q : Int)) = false := by simp
  have p0 : ¬ (p : Int) < 0 := by omega
  have p1 : ¬ (q : Int) ≤ (p : Int) := by omega
  have p2 : decide ((p : Int) < 0) = false := by rw [decide_eq_false_iff_not]; omega
  have p3 : decide (q ≤ p) = false := by rw [decide_eq_false_iff_not]; omega
  have p4 : decide ((q : Int) ≤ (p : Int)) = false := by rw [decide_eq_false_iff_not]; omega
  obtain ⟨b, o, rfl, hcell⟩ := hs.at (by omega)
  obtain ⟨r, c, hr, hc, hr1, hc1, hdv, hmd, hdt, hmt⟩ := rc_of (n := n) (a := p) (by omega) (by omega)
  have HL : Hid (∀ k j, j < q → (w.drewN k).cell? ⟨b, o + j, none⟩ = some (.int .i64 (L.getD j 0))) := fun k j hj => hcell j (by omega)
  have HNt : Hid (∀ k, Nt (w.drewN k)) := fun k => ⟨hN.low, hN.d, hN.r⟩
  have HQ : Hid (q = n * n) := hq
  have HM : Hid (∀ i, sml L n p m (i + 1) = sml L n p m i + som L n (r + dn i) (c + rt i) m) := fun i => by rw [sml, hr1, hc1]
  have HB : Hid (∀ i : Nat, 0 ≤ sml L n p m i ∧ sml L n p m i ≤ 15 * (i : Int)) := fun i => ⟨sml_lo h0 i, sml_hi h0 h1 i⟩
  clear hN hz hs hl hq hp hcell hr1 hc1
  have nz : (n : Int) ≠ 0 := by omega
  have nn : (0 : Int) < (n : Int) := by omega
  go_enter Tryd.func15, Tryd.ntmps15
  go_wp2_with fail
  refine (sideOf_yes HS.out).mono ?_
  rintro e w' ⟨rfl, rfl⟩
  go_wp2_with fail
  go_loopw [14, 44] (fun s i wr => Ar w L n p many m s i wr) (fun _ i _ => many - (intOf i).toNat)
  case atStart => exact ⟨⟨0, 0, by omega, rfl, rfl, rfl⟩⟩
  case round =>
    obtain ⟨k, j, hkm, rfl, rfl, hwr⟩ := hrel
    have k0 : (0 : Int) ≤ (k : Int) := by omega
    by_cases hlt : k < many
    · have k1 : (k : Int) < (many : Int) := by omega
      have k2 : (k : Int) < 5 := by omega
      have hd := (HNt.out j).d k (by omega)
      have he := (HNt.out j).r k (by omega)
      rw [← hwr] at hd he
      have HM1 := HM.out k
      obtain ⟨b1, b2⟩ := HB.out k
      have HLw : Hid (∀ j, j < q → wr.cell? ⟨b, o + j, none⟩ = some (.int .i64 (L.getD j 0))) := fun i hi => by rw [hwr]; exact HL.out j i hi
      have HW : Hid (wr = w.drewN j) := hwr
      have d2 := dn_le k
      have t2 := rt_le k
      clear hwr
      generalize sml L n p m k = s at *
      obtain ⟨s', HS'⟩ : ∃ s', s' = sml L n p m (k + 1) := ⟨_, rfl⟩
      rw [← HS'] at HM1
      generalize dn k = D at *
      generalize rt k = R at *
      have wr1 : IntKind.i64.wrap ((r : Int) + (D : Int)) = (r : Int) + (D : Int) := by rw [IntKind.wrap_i64]; omega
      have wc1 : IntKind.i64.wrap ((c : Int) + (R : Int)) = (c : Int) + (R : Int) := by rw [IntKind.wrap_i64]; omega
      have HX : Hid (∀ nq, Ar w L n p many m (.int .i64 s') (.int .i64 ((k : Int) + 1)) (wr.drewN nq)) := fun nq => ⟨⟨k + 1, j + nq, by omega, by go_num, by rw [HS'], by rw [HW.out]; exact drewN_drewN _ _ _⟩⟩
      obtain ⟨x, hx⟩ : ∃ x : Nat, x = r + D := ⟨_, rfl⟩
      obtain ⟨y, hy⟩ : ∃ y : Nat, y = c + R := ⟨_, rfl⟩
      have ex : (r : Int) + (D : Int) = (x : Int) := by omega
      have ey : (c : Int) + (R : Int) = (y : Int) := by omega
      rw [← hx, ← hy] at HM1
      have x5 : (x : Int) ≤ 40 := by omega
      have y5 : (y : Int) ≤ 40 := by omega
      have wx : IntKind.i64.wrap (x : Int) = (x : Int) := by rw [IntKind.wrap_i64]; omega
      have wy : IntKind.i64.wrap (y : Int) = (y : Int) := by rw [IntKind.wrap_i64]; omega
      by_cases hin : x < n ∧ y < n
      · have x1 : (x : Int) < (n : Int) := by omega
        have y1 : (y : Int) < (n : Int) := by omega
        obtain ⟨f, hf⟩ : ∃ f : Nat, f = x * n := ⟨_, rfl⟩
        have ef : (x : Int) * (n : Int) = (f : Int) := by rw [hf]; simp
        have hlt2 := rc_lt hin.1 hin.2
        have hq := HQ.out
        have f2 : (f : Int) ≤ 1024 := by omega
        obtain ⟨u, hu⟩ : ∃ u : Nat, u = f + y := ⟨_, rfl⟩
        have eu : (f : Int) + (y : Int) = (u : Int) := by omega
        have u0 : (0 : Int) ≤ (u : Int) := by omega
        have u1 : (u : Int) < (q : Int) := by omega
        have hv := HLw.out u (by omega)
        rw [som_in hin.1 hin.2, ← hf, ← hu] at HM1
        generalize L.getD u 0 = v at *
        have a1 := amt_lo (v := v) h0
        have a2 := amt_hi (v := v) (m := m)
        have HM2 : Hid (s' = s + amt v m) := HM1
        clear hin hf hu hlt2 hq HM1 hx hy HLw HM HB hr hc
        go_wp2_with fail
        go_quiet (fail)
        go_wp2_with (go_at_call 24; refine (amount_any h0 h1).mono ?_; rintro e w' ⟨rfl, rfl⟩)
        go_roundw
        case rel => (have h := HX.out nq; rw [HM2.out] at h; exact h)
        case measure => simp [intOf]; omega
      · have HM2 : Hid (s' = s) := by show _ = _; rw [HM1, som_out hin, Int.add_zero]
        by_cases x1 : (x : Int) < (n : Int)
        · have y1 : ¬ (y : Int) < (n : Int) := by omega
          have y2 : decide (y < n) = false := by rw [decide_eq_false_iff_not]; omega
          have y3 : decide ((y : Int) < (n : Int)) = false := by rw [decide_eq_false_iff_not]; omega
          have x2 : x < n := by omega
          clear hin HM1 hx hy HLw HM HB hr hc
          go_wp2_with fail
          go_quiet (fail)
          go_wp2_with fail
          go_roundw
          case rel => (have h := HX.out nq; rw [HM2.out] at h; exact h)
          case measure => simp [intOf]; omega
        · have x2 : decide (x < n) = false := by rw [decide_eq_false_iff_not]; omega
          have x3 : decide ((x : Int) < (n : Int)) = false := by rw [decide_eq_false_iff_not]; omega
          clear hin HM1 hx hy HLw HM HB hr hc
          go_wp2_with fail
          go_quiet (fail)
          go_wp2_with fail
          go_roundw
          case rel => (have h := HX.out nq; rw [HM2.out] at h; exact h)
          case measure => simp [intOf]; omega
    · obtain rfl : k = many := by omega
      have HW : Hid (wr = w.drewN j) := hwr
      clear hwr
      go_wp2_with fail
      go_returns
      exact ⟨rfl, j, HW.out⟩

/-- may a place be asked for? -/
def Ask (z : Int) (len : Nat) (p : Int) : Prop := ∃ n : Nat, Sz z n ∧ len = n * n ∧ 0 ≤ p ∧ p < ((n * n : Nat) : Int)
theorem sz_uniq {z : Int} {n n' : Nat} (h : Sz z n) (h' : Sz z n') : n = n' := by
  rcases h with ⟨h1, h2⟩ | ⟨h1, h2⟩ | ⟨h1, h2⟩ | ⟨h1, h2⟩ | ⟨h1, h2⟩ <;> rcases h' with ⟨k1, k2⟩ | ⟨k1, k2⟩ | ⟨k1, k2⟩ | ⟨k1, k2⟩ | ⟨k1, k2⟩ <;> omega

set_option maxRecDepth 100000 in
set_option maxHeartbeats 1000000 in
theorem around_no {w : World} {a : Option Addr} {cp len many : Nat} {z p m : Int} (hl : len ≤ 140737488355328) (h : ¬ Ask z len p) :
    Calls Tryd.prog 15 #[.slice a len cp, .int .i64 z, .int .i64 p, .int .i64 (many : Int), .int .i64 m] w fun e w' => e = .returned (.tuple #[.int .i64 0, .int .i64 2]) ∧ w = w' := by
  rcases size_any z with ⟨n, hz⟩ | hz
  · have HS : Hid (Sz z n) := hz
    have n0 : (4 : Int) ≤ (n : Int) := by have := hz.sd.lo; omega
    have n1 : (n : Int) ≤ 32 := by have := hz.sd.hi; omega
    obtain ⟨q, hqn, eq, q0, q1⟩ := sq_name hz.sd
    by_cases hlen : len = q
    · subst hlen
      have qq : ((len : Int) != (len : Int)) = false := by simp
      by_cases hp : p < 0
      · clear h hqn hz
        go_enter Tryd.func15, Tryd.ntmps15
        go_wp2_with fail
        refine (sideOf_yes HS.out).mono ?_
        rintro e w' ⟨rfl, rfl⟩
        go_wp2_with fail
        go_returns
        exact ⟨rfl, rfl⟩
      · have hp2 : (len : Int) ≤ p := by
          by_cases e : (len : Int) ≤ p
          · exact e
          · exact absurd ⟨n, hz, hqn, by omega, by rw [← hqn]; omega⟩ h
        clear h hqn hz
        go_enter Tryd.func15, Tryd.ntmps15
        go_wp2_with fail
        refine (sideOf_yes HS.out).mono ?_
        rintro e w' ⟨rfl, rfl⟩
        go_wp2_with fail
        go_returns
        exact ⟨rfl, rfl⟩
    · have qq : ((len : Int) != (q : Int)) = true := by rw [bne_iff_ne]; omega
      clear h hqn hz hlen
      go_enter Tryd.func15, Tryd.ntmps15
      go_wp2_with fail
      refine (sideOf_yes HS.out).mono ?_
      rintro e w' ⟨rfl, rfl⟩
      go_wp2_with fail
      go_returns
      exact ⟨rfl, rfl⟩
  · have HS : Hid (Nz z) := hz
    clear h hz
    go_enter Tryd.func15, Tryd.ntmps15
    go_wp2_with fail
    refine (sideOf_no HS.out).mono ?_
    rintro e w' ⟨rfl, rfl⟩
    go_wp2_with fail
    go_returns
    exact ⟨rfl, rfl⟩

theorem half_ctx {M s : Int} (h0 : 0 ≤ s) : ∃ t, (s + 1) / 2 = t ∧ (s + 1).tdiv 2 = t ∧ 0 ≤ t ∧ t ≤ s + 1 ∧ (t < M ∧ ctx M s = t ∨ ¬ t < M ∧ ctx M s = M) := by
  refine ⟨(s + 1) / 2, rfl, Int.tdiv_eq_ediv_of_nonneg (by omega), by omega, by omega, ?_⟩
  by_cases h : (s + 1) / 2 < M
  · exact Or.inl ⟨h, by rw [ctx, if_pos h]⟩
  · exact Or.inr ⟨h, by rw [ctx, if_neg h]⟩

set_option maxRecDepth 100000 in
set_option maxHeartbeats 1000000 in
theorem base_yes {w : World} {a : Option Addr} {cp q n p : Nat} {L : List Int} {z : Int} (hN : Nt w) (hz : Sz z n) (hs : Si w a L) (hl : L.length = q) (hq : q = n * n) (hp : p < q) :
    Calls Tryd.prog 7 #[.slice a q cp, .int .i64 z, .int .i64 (p : Int)] w fun e w' => e = .returned (.tuple #[.int .i64 (bas L n p), .int .i64 0]) ∧ ∃ k, w' = w.drewN k := by
  have HA : Hid (Nt w ∧ Sz z n ∧ Si w a L ∧ L.length = q ∧ q = n * n ∧ p < q) := ⟨hN, hz, hs, hl, hq, hp⟩
  have s0 := sml_lo (L := L) (n := n) (a := p) (m := 3) (by omega) 5
  have s1 := sml_hi (L := L) (n := n) (a := p) (m := 3) (by omega) (by omega) 5
  have HC : Hid (bas L n p = ctx 4 (sml L n p 3 5)) := rfl
  obtain ⟨s, hs1⟩ : ∃ s, sml L n p 3 5 = s := ⟨_, rfl⟩
  rw [hs1] at s0 s1 HC
  obtain ⟨t, ht, ht', t0, t1, hc⟩ := half_ctx (M := 4) s0
  have HS1 : Hid (sml L n p 3 5 = s) := hs1
  clear hN hz hs hl hq hp hs1
  rcases hc  with ⟨h1, h2⟩ | ⟨h1, h2⟩
  all_goals
    have HE : Hid (bas L n p = _) := HC.out.trans h2
    clear h2
    go_enter Tryd.func7, Tryd.ntmps7
    go_wp2_with fail
    refine (around_yes (many := 5) (m := 3) HA.out.1 HA.out.2.1 HA.out.2.2.1 HA.out.2.2.2.1 HA.out.2.2.2.2.1 HA.out.2.2.2.2.2 (by omega) (by omega) (by omega)).mono ?_
    rintro e w' ⟨rfl, k, rfl⟩
    rw [HS1.out]
    go_wp2_with fail
    go_returns
    exact ⟨by rw [HE.out]; rfl, k, rfl⟩
theorem base_no {w : World} {a : Option Addr} {cp len : Nat} {z p : Int} (hl : len ≤ 140737488355328) (h : ¬ Ask z len p) :
    Calls Tryd.prog 7 #[.slice a len cp, .int .i64 z, .int .i64 p] w fun e w' => e = .returned (.tuple #[.int .i64 0, .int .i64 2]) ∧ w = w' := by
  have HA : Hid (¬ Ask z len p) := h
  clear h
  go_enter Tryd.func7, Tryd.ntmps7
  go_wp2_with fail
  refine (around_no (many := 5) (m := 3) hl HA.out).mono ?_
  rintro e w' ⟨rfl, rfl⟩
  go_wp2_with fail
  go_returns
  exact ⟨rfl, rfl⟩

set_option maxRecDepth 100000 in
set_option maxHeartbeats 1000000 in
theorem more_yes {w : World} {a : Option Addr} {cp q n p : Nat} {L : List Int} {z : Int} (hN : Nt w) (hz : Sz z n) (hs : Si w a L) (hl : L.length = q) (hq : q = n * n) (hp : p < q) :
    Calls Tryd.prog 9 #[.slice a q cp, .int .i64 z, .int .i64 (p : Int)] w fun e w' => e = .returned (.tuple #[.int .i64 (mor L n p), .int .i64 0]) ∧ ∃ k, w' = w.drewN k := by
  have HA : Hid (Nt w ∧ Sz z n ∧ Si w a L ∧ L.length = q ∧ q = n * n ∧ p < q) := ⟨hN, hz, hs, hl, hq, hp⟩
  have s0 := sml_lo (L := L) (n := n) (a := p) (m := 15) (by omega) 3
  have s1 := sml_hi (L := L) (n := n) (a := p) (m := 15) (by omega) (by omega) 3
  have HC : Hid (mor L n p = ctx 6 (sml L n p 15 3)) := rfl
  obtain ⟨s, hs1⟩ : ∃ s, sml L n p 15 3 = s := ⟨_, rfl⟩
  rw [hs1] at s0 s1 HC
  obtain ⟨t, ht, ht', t0, t1, hc⟩ := half_ctx (M := 6) s0
  have HS1 : Hid (sml L n p 15 3 = s) := hs1
  clear hN hz hs hl hq hp hs1
  rcases hc  with ⟨h1, h2⟩ | ⟨h1, h2⟩
  all_goals
    have HE : Hid (mor L n p = _) := HC.out.trans h2
    clear h2
    go_enter Tryd.func9, Tryd.ntmps9
    go_wp2_with fail
    refine (around_yes (many := 3) (m := 15) HA.out.1 HA.out.2.1 HA.out.2.2.1 HA.out.2.2.2.1 HA.out.2.2.2.2.1 HA.out.2.2.2.2.2 (by omega) (by omega) (by omega)).mono ?_
    rintro e w' ⟨rfl, k, rfl⟩
    rw [HS1.out]
    go_wp2_with fail
    go_returns
    exact ⟨by rw [HE.out]; rfl, k, rfl⟩
theorem more_no {w : World} {a : Option Addr} {cp len : Nat} {z p : Int} (hl : len ≤ 140737488355328) (h : ¬ Ask z len p) :
    Calls Tryd.prog 9 #[.slice a len cp, .int .i64 z, .int .i64 p] w fun e w' => e = .returned (.tuple #[.int .i64 0, .int .i64 2]) ∧ w = w' := by
  have HA : Hid (¬ Ask z len p) := h
  clear h
  go_enter Tryd.func9, Tryd.ntmps9
  go_wp2_with fail
  refine (around_no (many := 3) (m := 15) hl HA.out).mono ?_
  rintro e w' ⟨rfl, rfl⟩
  go_wp2_with fail
  go_returns
  exact ⟨rfl, rfl⟩

end Go.Proofs.YtoddkhaaacpelaaDoor
