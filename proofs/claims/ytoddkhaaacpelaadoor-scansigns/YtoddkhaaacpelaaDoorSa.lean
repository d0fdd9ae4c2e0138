/- DERIVED. The walk of ScanSigns. -/
import Derived.Test.YtoddkhaaacpelaaDoorNd
import Derived.Deep.DeepCutAuto
namespace Go.Proofs.YtoddkhaaacpelaaDoor
open Go.RowKit

/-- the size that a number tells -/
theorem which_size (a : Int) : ∃ k : Nat, a % 5 = (k : Int) ∧ k < 5 ∧ ∃ (z : Int) (n : Nat), (4 : Int) * 2 ^ k = z ∧ Sz z n ∧ (z ≤ 32 ∧ z = (n : Int) ∨ ¬ z ≤ 32 ∧ n = 32) ∧ z ≤ 64 := by
  have a0 := Int.emod_nonneg a (b := 5) (by omega)
  have a1 := Int.emod_lt_of_pos a (b := 5) (by omega)
  refine ⟨(a % 5).toNat, by omega, by omega, ?_⟩
  have : (a % 5).toNat = 0 ∨ (a % 5).toNat = 1 ∨ (a % 5).toNat = 2 ∨ (a % 5).toNat = 3 ∨ (a % 5).toNat = 4 := by omega
  rcases this with e | e | e | e | e <;> rw [e]
  · exact ⟨4, 4, rfl, Or.inl ⟨rfl, rfl⟩, Or.inl ⟨by omega, rfl⟩, by omega⟩
  · exact ⟨8, 8, rfl, Or.inr (Or.inl ⟨rfl, rfl⟩), Or.inl ⟨by omega, rfl⟩, by omega⟩
  · exact ⟨16, 16, rfl, Or.inr (Or.inr (Or.inl ⟨rfl, rfl⟩)), Or.inl ⟨by omega, rfl⟩, by omega⟩
  · exact ⟨32, 32, rfl, Or.inr (Or.inr (Or.inr (Or.inl ⟨rfl, rfl⟩))), Or.inl ⟨by omega, rfl⟩, by omega⟩
  · exact ⟨64, 32, rfl, Or.inr (Or.inr (Or.inr (Or.inr ⟨rfl, rfl⟩))), Or.inr ⟨by omega, rfl⟩, by omega⟩
theorem rep_get (q j : Nat) : (List.replicate q (0 : Int)).getD j 0 = 0 := by
  rw [List.getD_eq_getElem?_getD, List.getElem?_replicate]
  split <;> rfl
/-- the levels, and the others, ahead of index i -/
structure Ab (w : World) (n q p : Nat) (a : Option Addr) (L : List Int) (ga gb i : Nat) (wr : World) : Prop where
  ne : ga ≠ gb
  lowa : w.heap.size ≤ ga
  lowb : w.heap.size ≤ gb
  rows : ∃ A B, Ri 3 wr ga A ∧ Ri 3 wr gb B ∧ A.length = q ∧ B.length = q ∧ (∀ j, -20 ≤ A.getD j 0 ∧ A.getD j 0 ≤ 20) ∧ (∀ j, i ≤ j → A.getD j 0 = 0) ∧ (∀ j, j < i → p / n + p % n < j / n + j % n → B.getD j 0 = -(A.getD j 0))
  sl : Si wr a L
  nt : Nt wr
  bel : Below w.heap.size w wr
/-- the same behind the first store: a's level is v -/
structure Ac (w : World) (n q p : Nat) (a : Option Addr) (L : List Int) (ga gb i : Nat) (v : Int) (wr : World) : Prop where
  ne : ga ≠ gb
  lowa : w.heap.size ≤ ga
  lowb : w.heap.size ≤ gb
  rows : ∃ A B, Ri 3 wr ga A ∧ Ri 3 wr gb B ∧ A.length = q ∧ B.length = q ∧ (∀ j, -20 ≤ A.getD j 0 ∧ A.getD j 0 ≤ 20) ∧ (∀ j, i + 1 ≤ j → A.getD j 0 = 0) ∧ A.getD i 0 = v ∧ (∀ j, j < i → p / n + p % n < j / n + j % n → B.getD j 0 = -(A.getD j 0))
  sl : Si wr a L
  nt : Nt wr
  bel : Below w.heap.size w wr
/-- the new rows lie behind all that was there -/
theorem si_new {w wr : World} {a : Option Addr} {C : List Int} {g j : Nat} (h0 : Si w a C) (hb : Below w.heap.size w wr) (hg : w.heap.size ≤ g) (v : Value) : Si (wr.setCell ⟨g, j, none⟩ v) a C := h0.to (below_set hb hg v)
theorem nt_new {w wr : World} {g j : Nat} (h0 : Nt w) (hb : Below w.heap.size w wr) (hg : w.heap.size ≤ g) (v : Value) : Nt (wr.setCell ⟨g, j, none⟩ v) := h0.to (below_set hb hg v)
theorem Ab.still {w : World} {n q p : Nat} {a : Option Addr} {L : List Int} {ga gb i : Nat} {wr : World} (h : Ab w n q p a L ga gb i wr) : Ac w n q p a L ga gb i 0 wr := by
  obtain ⟨A, B, h1, h2, h3, h4, h5, h6, h7⟩ := h.rows
  exact { ne := h.ne, lowa := h.lowa, lowb := h.lowb, rows := ⟨A, B, h1, h2, h3, h4, h5, fun j hj => h6 j (by omega), h6 i (by omega), h7⟩, sl := h.sl, nt := h.nt, bel := h.bel }
theorem Ab.put {w : World} {n q p : Nat} {a : Option Addr} {L : List Int} {ga gb i : Nat} {wr : World} (h : Ab w n q p a L ga gb i wr) (hs : Si w a L) (hn : Nt w) (hi : i < q) (v : Int) (v0 : -20 ≤ v) (v1 : v ≤ 20) : Ac w n q p a L ga gb i v (wr.setCell ⟨ga, i, none⟩ (.int .i64 v)) := by
  obtain ⟨A, B, h1, h2, h3, h4, h5, h6, h7⟩ := h.rows
  have hg := fun j => getD_set A i j v (by omega)
  exact { ne := h.ne, lowa := h.lowa, lowb := h.lowb, sl := si_new hs h.bel h.lowa _, nt := nt_new hn h.bel h.lowa _, bel := below_set h.bel h.lowa _, rows := ⟨A.set i v, B, h1.set i v, h2.far (Ne.symm h.ne) _, by simp [h3], h4, fun j => by rw [hg]; split; exact ⟨v0, v1⟩; exact h5 j, fun j hj => by rw [hg, if_neg (by omega)]; exact h6 j (by omega), by rw [hg, if_pos rfl], fun j hj hs => by rw [hg, if_neg (by omega)]; exact h7 j hj hs⟩ }
theorem Ac.put {w : World} {n q p : Nat} {a : Option Addr} {L : List Int} {ga gb i : Nat} {v : Int} {wr : World} (h : Ac w n q p a L ga gb i v wr) (hs : Si w a L) (hn : Nt w) (hi : i < q) : Ab w n q p a L ga gb (i + 1) (wr.setCell ⟨gb, i, none⟩ (.int .i64 (-v))) := by
  obtain ⟨A, B, h1, h2, h3, h4, h5, h6, h8, h7⟩ := h.rows
  have hg := fun j => getD_set B i j (-v) (by omega)
  exact { ne := h.ne, lowa := h.lowa, lowb := h.lowb, sl := si_new hs h.bel h.lowb _, nt := nt_new hn h.bel h.lowb _, bel := below_set h.bel h.lowb _, rows := ⟨A, B.set i (-v), h1.far h.ne _, h2.set i (-v), h3, by simp [h4], h5, h6, fun j hj hs => by
      rw [hg]
      by_cases e : i = j
      · rw [if_pos e, ← e, h8]
      · rw [if_neg e]; exact h7 j (by omega) hs⟩ }
theorem Ab.over {w : World} {n q p : Nat} {a : Option Addr} {L : List Int} {ga gb i : Nat} {wr : World} (h : Ab w n q p a L ga gb (i + 1) wr) (hs : Si w a L) (hn : Nt w) (hi : i < q) (hl : i / n + i % n ≤ p / n + p % n) (x : Int) : Ab w n q p a L ga gb (i + 1) (wr.setCell ⟨gb, i, none⟩ (.int .i64 x)) := by
  obtain ⟨A, B, h1, h2, h3, h4, h5, h6, h7⟩ := h.rows
  have hg := fun j => getD_set B i j x (by omega)
  exact { ne := h.ne, lowa := h.lowa, lowb := h.lowb, sl := si_new hs h.bel h.lowb _, nt := nt_new hn h.bel h.lowb _, bel := below_set h.bel h.lowb _, rows := ⟨A, B.set i x, h1.far h.ne _, h2.set i x, h3, by simp [h4], h5, h6, fun j hj hs => by
      rw [hg, if_neg (by intro e; subst e; omega)]; exact h7 j hj hs⟩ }
theorem Ab.to {w : World} {n q p : Nat} {a : Option Addr} {L : List Int} {ga gb i : Nat} {wr wr' : World} (h : Ab w n q p a L ga gb i wr) (hb : Below wr.heap.size wr wr') : Ab w n q p a L ga gb i wr' := by
  obtain ⟨A, B, h1, h2, h3, h4, h5, h6, h7⟩ := h.rows
  exact { ne := h.ne, lowa := h.lowa, lowb := h.lowb, rows := ⟨A, B, h1.to hb, h2.to hb, h3, h4, h5, h6, h7⟩, sl := h.sl.to hb, nt := h.nt.to hb, bel := below_to h.bel hb }
theorem Ab.drewN {w : World} {n q p : Nat} {a : Option Addr} {L : List Int} {ga gb i : Nat} {wr : World} (h : Ab w n q p a L ga gb i wr) (k : Nat) : Ab w n q p a L ga gb i (wr.drewN k) := h.to (below_drewN (Below.refl _ _) k)
/-- the cells that a round reads and writes -/
theorem Ab.cells {w : World} {n q p : Nat} {a : Option Addr} {L : List Int} {ga gb i : Nat} {wr : World} (h : Ab w n q p a L ga gb i wr) (j : Nat) (hj : j < q) : (∃ x, wr.cell? ⟨ga, j, none⟩ = some (.int .i64 x) ∧ -20 ≤ x ∧ x ≤ 20) ∧ (∃ y, wr.cell? ⟨gb, j, none⟩ = some (.int .i64 y)) ∧ wr.frozen? ⟨ga, j, none⟩ = false ∧ wr.frozen? ⟨gb, j, none⟩ = false := by
  obtain ⟨A, B, h1, h2, h3, h4, h5, h6, h7⟩ := h.rows
  exact ⟨⟨_, h1.cell j (by omega), h5 j⟩, ⟨_, h2.cell j (by omega)⟩, h1.thaw j, h2.thaw j⟩
theorem Ac.cells {w : World} {n q p : Nat} {a : Option Addr} {L : List Int} {ga gb i : Nat} {v : Int} {wr : World} (h : Ac w n q p a L ga gb i v wr) (hi : i < q) : wr.cell? ⟨ga, i, none⟩ = some (.int .i64 v) ∧ (∃ y, wr.cell? ⟨gb, i, none⟩ = some (.int .i64 y)) ∧ wr.frozen? ⟨gb, i, none⟩ = false := by
  obtain ⟨A, B, h1, h2, h3, h4, h5, h6, h8, h7⟩ := h.rows
  exact ⟨by rw [h1.cell i (by omega), h8], ⟨_, h2.cell i (by omega)⟩, h2.thaw i⟩
/-- what the contexts are at the end -/
theorem Ab.ends {w : World} {n q p : Nat} {a : Option Addr} {L : List Int} {ga gb : Nat} {wr : World} (h : Ab w n q p a L ga gb q wr) (hq : q = n * n) (h0 : 0 < n) : ∃ A B : List Int, A.length = q ∧ B.length = q ∧ Si wr (some ⟨ga, 0, none⟩) A ∧ Si wr (some ⟨gb, 0, none⟩) B ∧ bas B n p = bas A n p ∧ mor B n p = mor A n p := by
  obtain ⟨A, B, h1, h2, h3, h4, h5, h6, h7⟩ := h.rows
  have hk : ∀ r c, r < n → c < n → p / n + p % n < r + c → B.getD (r * n + c) 0 = -(A.getD (r * n + c) 0) := fun r c hr hc hs => by
    have e1 : (r * n + c) / n = r := by rw [Nat.mul_comm, Nat.mul_add_div (by omega), Nat.div_eq_of_lt hc, Nat.add_zero]
    have e2 : (r * n + c) % n = c := by rw [Nat.mul_comm, Nat.mul_add_mod, Nat.mod_eq_of_lt hc]
    exact h7 _ (by rw [hq]; exact rc_lt hr hc) (by rw [e1, e2]; exact hs)
  exact ⟨A, B, h3, h4, h1.si, h2.si, by rw [bas, bas, sml_signs h0 hk 3 5 (by omega)], by rw [mor, mor, sml_signs h0 hk 15 3 (by omega)]⟩

set_option maxRecDepth 100000 in
set_option maxHeartbeats 2000000 in
theorem signs_walk {w : World} {a : Option Addr} {cp : Nat} {L : List Int} {z0 p0 : Int} (hN : Nt w) (hs : Si w a L) (hl : L.length ≤ 17592186043904) : Calls Tryd.prog 4 #[.int .i64 z0, .slice a L.length cp, .int .i64 p0] w fun e w' => e = .returned (.bool true) ∧ Below w.heap.size w w' := by
  obtain ⟨k, ek, hk, z, n, ez, hsz, hzn, hz64⟩ := which_size z0
  have HS : Hid (Sz z n) := hsz
  have HD : Hid (Sd n) := hsz.sd
  have n0 : (4 : Int) ≤ (n : Int) := by have := hsz.sd.lo; omega
  have n1 : (n : Int) ≤ 32 := by have := hsz.sd.hi; omega
  obtain ⟨q, hqn, hq, q0, q1⟩ := sq_name hsz.sd
  have HQ : Hid (q = n * n) := hqn
  have HN : Hid (Nt w) := hN
  have HL : Hid (Si w a L) := hs
  have zz : (0 : Int) ≤ z := by rcases hsz with h | h | h | h | h <;> omega
  have k0 : (0 : Int) ≤ (k : Int) := by omega
  have k1 : (k : Int) < 64 := by omega
  have hmk := fun u => mk_ints (n := q) (by omega) u
  have u0 := Int.emod_nonneg p0 (b := (q : Int)) (by omega)
  have u1 := Int.emod_lt_of_pos p0 (b := (q : Int)) (by omega)
  obtain ⟨p, ep⟩ : ∃ p : Nat, p0 % (q : Int) = (p : Int) := ⟨(p0 % (q : Int)).toNat, by omega⟩
  rw [ep] at u0 u1
  clear hsz hqn hN hs
  go_enter Tryd.func4, Tryd.ntmps4
  go_wp2_with fail
  refine awake_any.mono ?_
  rintro e w1 ⟨rfl, H1⟩
  go_wp2_with fail
  refine (bring_any (by omega) (by omega)).mono ?_
  rintro e w2 ⟨rfl, rfl⟩
  go_upto_region 4 with fail
  go_cut [8] (fun s8 wx => s8 = .int .i64 (n : Int) ∧ w1 = wx)
  case first =>
    rcases hzn with ⟨hz1, hz2⟩ | ⟨hz1, hz2⟩
    · go_wp2_with fail
      go_meet
      exact ⟨rfl, rfl⟩
    · go_wp2_with fail
      go_meet
      exact ⟨by rw [hz2]; rfl, rfl⟩
  obtain ⟨rfl, rfl⟩ := hcut
  clear hzn
  go_wp2_with fail
  refine (bring_any (by omega) (by omega)).mono ?_
  rintro e w2 ⟨rfl, rfl⟩
  generalize hlen : L.length = len at *
  have HLn : Hid (L.length = len) := hlen
  clear hlen
  have HW : Hid (Ab w n q p a L w1.heap.size (w1.heap.size + 1) 0 ((w1.alloc (.cells (madeCells #[.int .i64 0] q) 3)).alloc (.cells (madeCells #[.int .i64 0] q) 3))) :=
    { ne := by omega, lowa := H1.out.size, lowb := by have := H1.out.size; omega,
      rows := ⟨_, _, (Ri.made 3 w1 q rfl).to (from_alloc _ _), Ri.made 3 _ q (by simp), by simp, by simp, fun j => by rw [rep_get]; omega, fun j _ => rep_get q j, fun j hj => by omega⟩,
      sl := HL.out.to (to_alloc (to_alloc H1.out _) _), nt := HN.out.to (to_alloc (to_alloc H1.out _) _), bel := to_alloc (to_alloc H1.out _) _ }
  go_wp2_with fail
  clear hmk
  generalize hga : w1.heap.size = ga at *
  generalize hgb : ga + 1 = gb at *
  generalize hW3 : World.alloc _ _ = w3 at *
  clear hW3
  clear hga hgb H1
  go_loopw [11] (fun i wr => ∃ j : Nat, j ≤ q ∧ i = .int .i64 j ∧ Ab w n q p a L ga gb j wr) (fun i _ => q - (intOf i).toNat)
  case atStart => exact ⟨0, by omega, rfl, HW.out⟩
  case round =>
    clear HW
    obtain ⟨i, hi, rfl, hw⟩ := hrel
    have HW : Hid (Ab w n q p a L ga gb i wr) := hw
    clear hw
    have i0 : (0 : Int) ≤ (i : Int) := by omega
    by_cases hlt : i < q
    · have i1 : (i : Int) < (q : Int) := by omega
      obtain ⟨r, c, hr, hc, hr1, hc1, hdv, hmd, hdt, hmt⟩ := rc_of (n := n) (a := i) (by omega) (by rw [← HQ.out]; exact hlt)
      obtain ⟨r', c', hr', hc', hr1', hc1', hdv', hmd', hdt', hmt'⟩ := rc_of (n := n) (a := p) (by omega) (by rw [← HQ.out]; omega)
      have nz : (n : Int) ≠ 0 := by omega
      have nn : (0 : Int) < (n : Int) := by omega
      have wr1 : IntKind.i64.wrap ((r : Int) + (c : Int)) = (r : Int) + (c : Int) := by rw [IntKind.wrap_i64]; omega
      have wr2 : IntKind.i64.wrap ((r' : Int) + (c' : Int)) = (r' : Int) + (c' : Int) := by rw [IntKind.wrap_i64]; omega
      have HRC : Hid (i / n + i % n = r + c ∧ p / n + p % n = r' + c') := ⟨by rw [hr1, hc1], by rw [hr1', hc1']⟩
      clear hr1 hc1 hr1' hc1'
      by_cases hsl : i < len
      · have s1 : (i : Int) < (len : Int) := by omega
        obtain ⟨b, o, rfl, hcell⟩ := HW.out.sl.at (by have := HLn.out; omega)
        have hci := hcell i (by have := HLn.out; omega)
        have m0 := Int.emod_nonneg (L.getD i 0) (b := 41) (by omega)
        have m1 := Int.emod_lt_of_pos (L.getD i 0) (b := 41) (by omega)
        obtain ⟨⟨x, d1, _, _⟩, _, d3, _⟩ := HW.out.cells i hlt
        have HC2 : Hid (Ac w n q p (some ⟨b, o, none⟩) L ga gb i (L.getD i 0 % 41 - 20) (wr.setCell ⟨ga, i, none⟩ (.int .i64 (L.getD i 0 % 41 - 20)))) := HW.out.put HL.out HN.out hlt _ (by omega) (by omega)
        generalize L.getD i 0 = g at *
        clear hcell HW
        go_upto_region 13 with (go_at_call 13; refine (bring_any (by omega) (by omega)).mono ?_; rintro e w9 ⟨rfl, rfl⟩)
        generalize wr.setCell ⟨ga, i, none⟩ (.int .i64 (g % 41 - 20)) = v2 at *
        have vb0 : -20 ≤ g % 41 - 20 := by omega
        have vb1 : g % 41 - 20 ≤ 20 := by omega
        generalize g % 41 - 20 = vv at *
        clear d1 d3 hci m0 m1
        obtain ⟨c1, ⟨y, c2⟩, c3⟩ := HC2.out.cells hlt
        have HB3 : Hid (Ab w n q p (some ⟨b, o, none⟩) L ga gb (i + 1) (v2.setCell ⟨gb, i, none⟩ (.int .i64 (-vv)))) := HC2.out.put HL.out HN.out hlt
        clear HC2
        go_upto_region 14 with fail
        generalize v2.setCell ⟨gb, i, none⟩ (.int .i64 (-vv)) = v3 at *
        clear c1 c2 c3
        obtain ⟨⟨x2, e1, e1a, e1b⟩, ⟨y2, e2⟩, _, e3⟩ := HB3.out.cells i hlt
        by_cases hle : r + c ≤ r' + c'
        · have l1 : (r : Int) + (c : Int) ≤ (r' : Int) + (c' : Int) := by omega
          have HB4 : Hid (∀ N x, Ab w n q p (some ⟨b, o, none⟩) L ga gb (i + 1) ((v3.drewN N).setCell ⟨gb, i, none⟩ (.int .i64 x))) := fun N x => (HB3.out.drewN N).over HL.out HN.out hlt (by rw [HRC.out.1, HRC.out.2]; exact hle) x
          go_quiet (fail)
          go_wp2_with fail
          go_roundw
          case rel => exact ⟨i + 1, by omega, by go_num, HB4.out _ _⟩
          case measure => simp [intOf]; omega
        · have l1 : ¬ (r : Int) + (c : Int) ≤ (r' : Int) + (c' : Int) := by omega
          have l2 : decide ((r : Int) + (c : Int) ≤ (r' : Int) + (c' : Int)) = false := by rw [decide_eq_false_iff_not]; omega
          go_quiet (fail)
          go_wp2_with fail
          go_roundw
          case rel => exact ⟨i + 1, by omega, by go_num, HB3.out.drewN _⟩
          case measure => simp [intOf]; omega
      · have s1 : ¬ (i : Int) < (len : Int) := by omega
        have s2 : decide (i < len) = false := by rw [decide_eq_false_iff_not]; omega
        have HC1 : Ac w n q p a L ga gb i 0 wr := HW.out.still
        obtain ⟨vv, hvv⟩ : ∃ vv : Int, vv = 0 := ⟨_, rfl⟩
        rw [← hvv] at HC1
        have HC2 : Hid (Ac w n q p a L ga gb i vv wr) := HC1
        have vb0 : -20 ≤ vv := by omega
        have vb1 : vv ≤ 20 := by omega
        clear HW HC1 hvv
        go_upto_region 13 with fail
        generalize wr = v2 at *
        obtain ⟨c1, ⟨y, c2⟩, c3⟩ := HC2.out.cells hlt
        have HB3 : Hid (Ab w n q p a L ga gb (i + 1) (v2.setCell ⟨gb, i, none⟩ (.int .i64 (-vv)))) := HC2.out.put HL.out HN.out hlt
        clear HC2
        go_upto_region 14 with fail
        generalize v2.setCell ⟨gb, i, none⟩ (.int .i64 (-vv)) = v3 at *
        clear c1 c2 c3
        obtain ⟨⟨x2, e1, e1a, e1b⟩, ⟨y2, e2⟩, _, e3⟩ := HB3.out.cells i hlt
        by_cases hle : r + c ≤ r' + c'
        · have l1 : (r : Int) + (c : Int) ≤ (r' : Int) + (c' : Int) := by omega
          have HB4 : Hid (∀ N x, Ab w n q p a L ga gb (i + 1) ((v3.drewN N).setCell ⟨gb, i, none⟩ (.int .i64 x))) := fun N x => (HB3.out.drewN N).over HL.out HN.out hlt (by rw [HRC.out.1, HRC.out.2]; exact hle) x
          go_quiet (fail)
          go_wp2_with fail
          go_roundw
          case rel => exact ⟨i + 1, by omega, by go_num, HB4.out _ _⟩
          case measure => simp [intOf]; omega
        · have l1 : ¬ (r : Int) + (c : Int) ≤ (r' : Int) + (c' : Int) := by omega
          have l2 : decide ((r : Int) + (c : Int) ≤ (r' : Int) + (c' : Int)) = false := by rw [decide_eq_false_iff_not]; omega
          go_quiet (fail)
          go_wp2_with fail
          go_roundw
          case rel => exact ⟨i + 1, by omega, by go_num, HB3.out.drewN _⟩
          case measure => simp [intOf]; omega
    · obtain rfl : i = q := by omega
      obtain ⟨A, B, la, lb, sa, sb, hb, hm⟩ := HW.out.ends HQ.out (by omega)
      have HA : Hid (Si wr (some ⟨ga, 0, none⟩) A ∧ Si wr (some ⟨gb, 0, none⟩) B) := ⟨sa, sb⟩
      have HLa : Hid (A.length = i ∧ B.length = i ∧ p < i) := ⟨la, lb, by omega⟩
      have HBe : Hid (Below w.heap.size w wr ∧ Nt wr) := ⟨HW.out.bel, HW.out.nt⟩
      have HEb : Hid (bas B n p = bas A n p) := hb
      have HEm : Hid (mor B n p = mor A n p) := hm
      have b0 : 0 ≤ bas A n p := ctx_lo (by omega) (sml_lo (by omega) _)
      have b1 : bas A n p ≤ 4 := ctx_hi
      have m0 : 0 ≤ mor A n p := ctx_lo (by omega) (sml_lo (by omega) _)
      have m1 : mor A n p ≤ 6 := ctx_hi
      clear sa sb hb hm la lb HW
      go_wp2_with fail
      refine (base_yes HBe.out.2 HS.out HA.out.1 HLa.out.1 HQ.out HLa.out.2.2).mono ?_
      rintro e w4 ⟨rfl, N1, rfl⟩
      have H4 : Hid (Below wr.heap.size wr (wr.drewN N1)) := below_drewN (Below.refl _ _) _
      generalize wr.drewN N1 = v4 at *
      go_wp2_with fail
      refine (base_yes (HBe.out.2.to H4.out) HS.out (HA.out.2.to H4.out) HLa.out.2.1 HQ.out HLa.out.2.2).mono ?_
      rintro e w5 ⟨rfl, N2, rfl⟩
      rw [HEb.out]
      have H5 : Hid (Below wr.heap.size wr (v4.drewN N2)) := below_drewN H4.out _
      generalize v4.drewN N2 = v5 at *
      go_wp2_with fail
      refine (more_yes (HBe.out.2.to H5.out) HS.out (HA.out.1.to H5.out) HLa.out.1 HQ.out HLa.out.2.2).mono ?_
      rintro e w6 ⟨rfl, N3, rfl⟩
      have H6 : Hid (Below wr.heap.size wr (v5.drewN N3)) := below_drewN H5.out _
      generalize v5.drewN N3 = v6 at *
      go_wp2_with fail
      refine (more_yes (HBe.out.2.to H6.out) HS.out (HA.out.2.to H6.out) HLa.out.2.1 HQ.out HLa.out.2.2).mono ?_
      rintro e w7 ⟨rfl, N4, rfl⟩
      rw [HEm.out]
      have H7 : Hid (Below wr.heap.size wr (v6.drewN N4)) := below_drewN H6.out _
      generalize v6.drewN N4 = v7 at *
      have tb : (bas A n p == bas A n p) = true := by simp
      have tm : (mor A n p == mor A n p) = true := by simp
      generalize bas A n p = X at *
      generalize mor A n p = Y at *
      go_wp2_with fail
      go_ret
      exact ⟨rfl, below_to HBe.out.1 H7.out⟩

end Go.Proofs.YtoddkhaaacpelaaDoor
