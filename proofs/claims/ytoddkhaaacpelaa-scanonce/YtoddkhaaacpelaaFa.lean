/- DERIVED. The walk of ScanOnce. -/
import Derived.Test.YtoddkhaaacpelaaCd
import Derived.Deep.DeepCutAuto
import Derived.Test.YtoddkhaaacpelaaLx
namespace Go.Proofs.Ytoddkhaaacpelaa
open Go.RowKit Go.BigFrame

/-- ahead of index i: when has its numbers of the places that came, l is the order -/
structure Wi (w : World) (n m g5 g7 i : Nat) (wr : World) : Prop where
  ne : g5 ≠ g7
  low : w.heap.size ≤ g7
  l : ∀ j, j < m → wr.cell? ⟨g5, j, none⟩ = some (.int .i64 ((ord n).getD j 0))
  row : ∃ D, Ri 3 wr g7 D ∧ D.length = m ∧ ∀ r c, r < n → c < n → D.getD (r * n + c) 0 = if pos n (r * n + c) < i then (pos n (r * n + c) : Int) + 1 else 0
  bel : Below w.heap.size w wr
theorem Wi.step {w : World} {n m g5 g7 i : Nat} {wr : World} (h : Wi w n m g5 g7 i wr) (hm : m = n * n) (hs : Sd n) (hi : i < m) :
    ∃ x : Nat, x < m ∧ (ord n).getD i 0 = (x : Int) ∧ wr.cell? ⟨g7, x, none⟩ = some (.int .i64 0) ∧ wr.frozen? ⟨g7, x, none⟩ = false ∧ Wi w n m g5 g7 (i + 1) (wr.setCell ⟨g7, x, none⟩ (.int .i64 ((i : Int) + 1))) := by
  obtain ⟨r, c, hr, hc, ho, hp⟩ := ord_at hs (i := i) (by omega)
  obtain ⟨D, hD, hl, hv⟩ := h.row
  have hx : r * n + c < m := by rw [hm]; exact rc_lt hr hc
  have hv0 := hv r c hr hc
  rw [hp, if_neg (by omega)] at hv0
  refine ⟨r * n + c, hx, ho, ?_, hD.thaw _, ?_⟩
  · rw [hD.cell _ (by omega), hv0]
  · refine { ne := h.ne, low := h.low, l := fun j hj => by rw [World.cell?_setCell_other _ _ _ _ (by simp [Ne.symm h.ne])]; exact h.l j hj, row := ⟨D.set (r * n + c) ((i : Int) + 1), hD.set _ _, by simp [hl], fun r' c' hr' hc' => ?_⟩, bel := below_set h.bel h.low _ }
    rw [getD_set D _ _ _ (by omega)]
    by_cases e : r * n + c = r' * n + c'
    · rw [if_pos e, ← e, hp, if_pos (by omega)]
    · have e2 : pos n (r' * n + c') ≠ i := fun e3 => e (pos_inj hr hc hr' hc' (by omega))
      rw [if_neg e, hv r' c' hr' hc']
      by_cases e4 : pos n (r' * n + c') < i
      · rw [if_pos e4, if_pos (by omega)]
      · rw [if_neg e4, if_neg (by omega)]
/-- at the end of the first loop -/
theorem Wi.all {w : World} {n m g5 g7 : Nat} {wr : World} (h : Wi w n m g5 g7 m wr) (hm : m = n * n) (hs : Sd n) : ∃ V : Nat → Nat → Int, (∀ r c, r < n → c < n → wr.cell? ⟨g7, r * n + c, none⟩ = some (.int .i64 (V r c))) ∧ (∀ r c r' c', r < n → c < n → c' < n → r + c < r' + c' → ¬ V r' c' < V r c) := by
  obtain ⟨D, hD, hl, hv⟩ := h.row
  refine ⟨fun r c => (pos n (r * n + c) : Int) + 1, fun r c hr hc => ?_, fun r c r' c' hr hc hc' e => ?_⟩
  · have hx := rc_lt hr hc
    rw [hD.cell _ (by omega), hv r c hr hc, if_pos (by rw [pos_rc hc, hm]; exact pos_lt hs hr hc)]
  · have := pos_rise hr hc hc' e
    show ¬ ((pos n (r' * n + c') : Int) + 1 < (pos n (r * n + c) : Int) + 1)
    omega
theorem rep_get (q j : Nat) : (List.replicate q (0 : Int)).getD j 0 = 0 := by
  rw [List.getD_eq_getElem?_getD, List.getElem?_replicate]
  split <;> rfl
/-- a place by its row and column -/
theorem rc_of {n a : Nat} (h0 : 0 < n) (h : a < n * n) : ∃ r c, r < n ∧ c < n ∧ a = r * n + c ∧ (a : Int) / (n : Int) = (r : Int) ∧ (a : Int) % (n : Int) = (c : Int) := by
  refine ⟨a / n, a % n, (Nat.div_lt_iff_lt_mul h0).2 h, Nat.mod_lt _ h0, ?_, by simp, by simp⟩
  rw [Nat.mul_comm]; exact (Nat.div_add_mod a n).symm
/-- the size that a number tells -/
theorem which_size (a : Int) : ∃ k : Nat, a % 5 = (k : Int) ∧ k < 5 ∧ ∃ (z : Int) (n : Nat), (4 : Int) * 2 ^ k = z ∧ Sz z n ∧ (z ≤ 32 ∧ z = (n : Int) ∨ ¬ z ≤ 32 ∧ n = 32) ∧ z ≤ 64 := by
  have a0 := Int.emod_nonneg a (b := 5) (by omega)
  have a1 := Int.emod_lt_of_pos a (b := 5) (by omega)
  refine ⟨(a % 5).toNat, by omega, by omega, ?_⟩
  have : (a % 5).toNat = 0 ∨ (a % 5).toNat = 1 ∨ (a % 5).toNat = 2 ∨ (a % 5).toNat = 3 ∨ (a % 5).toNat = 4 := by omega
  rcases this with e | e | e | e | e <;> rw [e]
  · exact ⟨4, 4, rfl, Or.inl ⟨rfl, rfl⟩, Or.inl ⟨by omega, rfl⟩, by omega⟩
  · exact ⟨8, 8, rfl, Or.inr (Or.inl ⟨rfl, rfl⟩), Or.inl ⟨by omega, rfl⟩, by omega⟩
  · exact ⟨16, 16, rfl, Or.inr (Or.inr (Or.inl ⟨rfl, rfl⟩)), Or.inl ⟨by omega, rfl⟩, by omega⟩
  · exact ⟨32, 32, rfl, Or.inr (Or.inr (Or.inr (Or.inl ⟨rfl, rfl⟩))), Or.inl ⟨by omega, rfl⟩, by omega⟩
  · exact ⟨64, 32, rfl, Or.inr (Or.inr (Or.inr (Or.inr ⟨rfl, rfl⟩))), Or.inr ⟨by omega, rfl⟩, by omega⟩

set_option maxRecDepth 100000 in
set_option maxHeartbeats 8000000 in
theorem once_walk {w : World} {a : Int} : Calls Try.prog 4 #[.int .i64 a] w fun e w' => e = .returned (.bool true) ∧ Below w.heap.size w w' := by
  obtain ⟨k, ek, hk, z, n, ez, hsz, hzn, hz64⟩ := which_size a
  have HS : Hid (Sz z n) := hsz
  have HD : Hid (Sd n) := hsz.sd
  have n0 : (4 : Int) ≤ (n : Int) := by have := hsz.sd.lo; omega
  have n1 : (n : Int) ≤ 32 := by have := hsz.sd.hi; omega
  obtain ⟨q, hqn, hq, q0, q1⟩ := sq_name hsz.sd
  have HQ : Hid (q = n * n) := hqn
  have z0 : (0 : Int) ≤ z := by rcases hsz with h | h | h | h | h <;> omega
  have k0 : (0 : Int) ≤ (k : Int) := by omega
  have k1 : (k : Int) < 64 := by omega
  have qq : ((q : Int) != (q : Int)) = false := by simp
  have hmk := fun u => mk_ints (n := q) (by omega) u
  clear hsz hqn
  go_enter Try.func4, Try.ntmps4
  go_wp2_with fail
  refine awake_any.mono ?_
  rintro e w1 ⟨rfl, H1⟩
  go_wp2_with fail
  refine (bring_any (by omega) (by omega)).mono ?_
  rintro e w2 ⟨rfl, rfl⟩
  go_upto_region 4 with fail
  go_cut [4] (fun s4 wx => s4 = .int .i64 (n : Int) ∧ w1 = wx)
  case first =>
    rcases hzn with ⟨hz1, hz2⟩ | ⟨hz1, hz2⟩
    · go_wp2_with fail
      go_meet
      exact ⟨rfl, rfl⟩
    · go_wp2_with fail
      go_meet
      exact ⟨by rw [hz2]; rfl, rfl⟩
  obtain ⟨rfl, rfl⟩ := hcut
  clear hzn
  go_wp2_with fail
  refine (order_yes HS.out).mono ?_
  rintro e w2 ⟨g5, c5, rfl, ho, hb⟩
  rw [← HQ.out] at ho ⊢
  have HO : Hid (Oi w2 w1.heap.size (some ⟨g5, 0, none⟩) q c5 (ord n)) := ho
  have H2 : Hid (Below w.heap.size w w2) := below_to H1.out hb
  have HW : Hid (Wi w n q g5 w2.heap.size 0 (w2.alloc (.cells (madeCells #[.int .i64 0] q) 3))) :=
    { ne := by have := ho.lt; omega, low := H2.out.size,
      l := fun j hj => by rw [newCell (from_alloc w2 _) _ _ ho.lt.2]; exact ho.cellAt j hj,
      row := ⟨_, Ri.made 3 w2 q rfl, by simp, fun r c hr hc => by rw [rep_get, if_neg (by omega)]⟩, bel := to_alloc H2.out _ }
  have g5l := ho.lt
  clear ho hb H1
  go_wp2_with fail
  clear hmk
  generalize hg7 : w2.heap.size = g7 at *
  generalize hW3 : World.alloc _ _ = w3 at *
  clear hW3 hg7 g5l HO
  go_loopw [8] (fun i wr => ∃ j : Nat, j ≤ q ∧ i = .int .i64 j ∧ Wi w n q g5 g7 j wr) (fun i _ => q - (intOf i).toNat)
  case atStart => exact ⟨0, by omega, rfl, HW.out⟩
  case round =>
    clear HW
    obtain ⟨i, hi, rfl, hw⟩ := hrel
    have i0 : (0 : Int) ≤ (i : Int) := by omega
    by_cases hlt : i < q
    · have i1 : (i : Int) < (q : Int) := by omega
      obtain ⟨x, hx, hox, hcx, hfx, hnx⟩ := hw.step HQ.out HD.out hlt
      have hl := hw.l i hlt
      rw [hox] at hl
      have x0 : (0 : Int) ≤ (x : Int) := by omega
      have x1 : (x : Int) < (q : Int) := by omega
      have HN : Hid _ := hnx
      clear hw hnx hox
      go_wp2_with fail
      go_roundw
      case rel => exact ⟨i + 1, by omega, by go_num, HN.out⟩
      case measure => simp [intOf]; omega
    · obtain rfl : i = q := by omega
      obtain ⟨V, hV, hR⟩ := hw.all HQ.out HD.out
      have HV : Hid (∀ mm r c, r < n → c < n → (wr.drewN mm).cell? ⟨g7, r * n + c, none⟩ = some (.int .i64 (V r c))) := fun mm r c hr hc => hV r c hr hc
      have HR : Hid (∀ r c r' c', r < n → c < n → c' < n → r + c < r' + c' → ¬ V r' c' < V r c) := hR
      have HB : Hid (Below w.heap.size w wr) := hw.bel
      clear hw hV hR
      generalize i = q at *
      generalize wr = v1 at *
      go_wp2_with fail
      go_loopw [9] (fun s9 wx => ∃ (j mm : Nat), j ≤ q ∧ s9 = .int .i64 j ∧ wx = v1.drewN mm) (fun s9 _ => q - (intOf s9).toNat)
      case atStart => exact ⟨0, 0, by omega, rfl, rfl⟩
      case round =>
        obtain ⟨j, mm, hj, rfl, hwx⟩ := hrel
        have j0 : (0 : Int) ≤ (j : Int) := by omega
        by_cases hlt : j < q
        · have j1 : (j : Int) < (q : Int) := by omega
          obtain ⟨r, c, hr, hc, hjrc, hdv, hmd⟩ := rc_of (n := n) (a := j) (by omega) (by rw [← HQ.out]; exact hlt)
          have HX : Hid (∀ nq, ∃ (j' mm' : Nat), j' ≤ q ∧ Value.int .i64 ((j : Int) + 1) = .int .i64 (j' : Int) ∧ wr.drewN nq = v1.drewN mm') := fun nq => ⟨j + 1, mm + nq, by omega, by go_num, by rw [hwx]; exact drewN_drewN _ _ _⟩
          have HXb : Hid (∀ (N b : Nat), b = j + 1 → ∃ (j' mm' : Nat), j' ≤ q ∧ Value.int .i64 (b : Int) = .int .i64 (j' : Int) ∧ wr.drewN N = v1.drewN mm') := fun N b hb => ⟨j + 1, mm + N, by omega, by rw [hb], by rw [hwx]; exact drewN_drewN _ _ _⟩
          have HV2 : Hid (∀ r c, r < n → c < n → wr.cell? ⟨g7, r * n + c, none⟩ = some (.int .i64 (V r c))) := fun r c hr hc => by rw [hwx]; exact HV.out mm r c hr hc
          have d0 : wr.cell? ⟨g7, j, none⟩ = some (.int .i64 (V r c)) := by rw [hjrc]; exact HV2.out r c hr hc
          clear hwx HV
          have r0 : (0 : Int) ≤ (r : Int) := by omega
          have r1 : (r : Int) < (n : Int) := by omega
          have c0 : (0 : Int) ≤ (c : Int) := by omega
          have c1 : (c : Int) < (n : Int) := by omega
          have nz : (n : Int) ≠ 0 := by omega
          have hdt : (j : Int).tdiv (n : Int) = (r : Int) := by rw [Int.tdiv_eq_ediv_of_nonneg (by omega)]; exact hdv
          have hmt : (j : Int).tmod (n : Int) = (c : Int) := by rw [Int.tmod_eq_emod_of_nonneg (by omega)]; exact hmd
          have nn : (0 : Int) < (n : Int) := by omega
          have wc1 : IntKind.i64.wrap ((c : Int) + 1) = (c : Int) + 1 := by rw [IntKind.wrap_i64]; omega
          have wc2 : IntKind.i64.wrap ((c : Int) + 2) = (c : Int) + 2 := by rw [IntKind.wrap_i64]; omega
          have wr1 : IntKind.i64.wrap ((r : Int) + 1) = (r : Int) + 1 := by rw [IntKind.wrap_i64]; omega
          have wr2 : IntKind.i64.wrap ((r : Int) + 2) = (r : Int) + 2 := by rw [IntKind.wrap_i64]; omega
          have wn2 : IntKind.i64.wrap (2 * (n : Int)) = 2 * (n : Int) := by rw [IntKind.wrap_i64]; omega
          have wbb : ∀ b : Nat, b ≤ 4096 → IntKind.i64.wrap (b : Int) = (b : Int) := fun b hb => by rw [IntKind.wrap_i64]; omega
          have WB : Hid _ := wbb
          clear wbb
          by_cases hcs : c + 1 < n
          · by_cases hcs2 : c + 2 < n
            · by_cases hrs : r + 1 < n
              · by_cases hrs2 : r + 2 < n
                · as_aux_lemma =>
                    have u1 : (c : Int) + 1 < (n : Int) := by omega
                    obtain ⟨b1, hb1⟩ : ∃ b : Nat, b = j + 1 := ⟨_, rfl⟩
                    have HB1 : Hid (b1 = j + 1) := hb1
                    have e1 : (j : Int) + 1 = (b1 : Int) := by omega
                    have d1 : wr.cell? ⟨g7, b1, none⟩ = some (.int .i64 (V r (c + 1))) := by rw [hb1, show j + 1 = r * n + (c + 1) by rw [hjrc]; omega]; exact HV2.out r (c + 1) (by omega) (by omega)
                    have f1 : b1 < q := by rw [HQ.out, hb1, show j + 1 = r * n + (c + 1) by rw [hjrc]; omega]; exact rc_lt (by omega) (by omega)
                    have wb1 := WB.out b1 (by omega)
                    have g1 : (0 : Int) ≤ (b1 : Int) := by omega
                    have h1 : (b1 : Int) < (q : Int) := by omega
                    have l1 := HR.out r c r (c + 1) hr hc (by omega) (by omega)
                    have u2 : (c : Int) + 2 < (n : Int) := by omega
                    obtain ⟨b2, hb2⟩ : ∃ b : Nat, b = j + 2 := ⟨_, rfl⟩
                    have e2 : (j : Int) + 2 = (b2 : Int) := by omega
                    have d2 : wr.cell? ⟨g7, b2, none⟩ = some (.int .i64 (V r (c + 2))) := by rw [hb2, show j + 2 = r * n + (c + 2) by rw [hjrc]; omega]; exact HV2.out r (c + 2) (by omega) (by omega)
                    have f2 : b2 < q := by rw [HQ.out, hb2, show j + 2 = r * n + (c + 2) by rw [hjrc]; omega]; exact rc_lt (by omega) (by omega)
                    have wb2 := WB.out b2 (by omega)
                    have g2 : (0 : Int) ≤ (b2 : Int) := by omega
                    have h2 : (b2 : Int) < (q : Int) := by omega
                    have l2 := HR.out r c r (c + 2) hr hc (by omega) (by omega)
                    have u3 : (r : Int) + 1 < (n : Int) := by omega
                    obtain ⟨b3, hb3⟩ : ∃ b : Nat, b = j + n := ⟨_, rfl⟩
                    have e3 : (j : Int) + (n : Int) = (b3 : Int) := by omega
                    have d3 : wr.cell? ⟨g7, b3, none⟩ = some (.int .i64 (V (r + 1) c)) := by rw [hb3, show j + n = (r + 1) * n + c by rw [hjrc, Nat.add_mul]; omega]; exact HV2.out (r + 1) c (by omega) (by omega)
                    have f3 : b3 < q := by rw [HQ.out, hb3, show j + n = (r + 1) * n + c by rw [hjrc, Nat.add_mul]; omega]; exact rc_lt (by omega) (by omega)
                    have wb3 := WB.out b3 (by omega)
                    have g3 : (0 : Int) ≤ (b3 : Int) := by omega
                    have h3 : (b3 : Int) < (q : Int) := by omega
                    have l3 := HR.out r c (r + 1) c hr hc (by omega) (by omega)
                    have u4 : (r : Int) + 2 < (n : Int) := by omega
                    obtain ⟨b4, hb4⟩ : ∃ b : Nat, b = j + 2 * n := ⟨_, rfl⟩
                    have e4 : (j : Int) + 2 * (n : Int) = (b4 : Int) := by omega
                    have d4 : wr.cell? ⟨g7, b4, none⟩ = some (.int .i64 (V (r + 2) c)) := by rw [hb4, show j + 2 * n = (r + 2) * n + c by rw [hjrc, Nat.add_mul]; omega]; exact HV2.out (r + 2) c (by omega) (by omega)
                    have f4 : b4 < q := by rw [HQ.out, hb4, show j + 2 * n = (r + 2) * n + c by rw [hjrc, Nat.add_mul]; omega]; exact rc_lt (by omega) (by omega)
                    have wb4 := WB.out b4 (by omega)
                    have g4 : (0 : Int) ≤ (b4 : Int) := by omega
                    have h4 : (b4 : Int) < (q : Int) := by omega
                    have l4 := HR.out r c (r + 2) c hr hc (by omega) (by omega)
                    obtain ⟨b5, hb5⟩ : ∃ b : Nat, b = j + n + 1 := ⟨_, rfl⟩
                    have e5 : (b3 : Int) + 1 = (b5 : Int) := by omega
                    have d5 : wr.cell? ⟨g7, b5, none⟩ = some (.int .i64 (V (r + 1) (c + 1))) := by rw [hb5, show j + n + 1 = (r + 1) * n + (c + 1) by rw [hjrc, Nat.add_mul]; omega]; exact HV2.out (r + 1) (c + 1) (by omega) (by omega)
                    have f5 : b5 < q := by rw [HQ.out, hb5, show j + n + 1 = (r + 1) * n + (c + 1) by rw [hjrc, Nat.add_mul]; omega]; exact rc_lt (by omega) (by omega)
                    have wb5 := WB.out b5 (by omega)
                    have g5 : (0 : Int) ≤ (b5 : Int) := by omega
                    have h5 : (b5 : Int) < (q : Int) := by omega
                    have l5 := HR.out r c (r + 1) (c + 1) hr hc (by omega) (by omega)
                    generalize V r (c + 1) = x1 at *
                    generalize V r (c + 2) = x2 at *
                    generalize V (r + 1) c = x3 at *
                    generalize V (r + 2) c = x4 at *
                    generalize V (r + 1) (c + 1) = x5 at *
                    generalize V r c = x0 at *
                    clear hjrc hb1 f1 hb2 f2 hb3 f3 hb4 f4 hb5 f5
                    go_wp2_with fail
                    go_quiet (fail)
                    go_wp2_with fail
                    have m1 : decide (x1 < x0) = false := by rw [decide_eq_false_iff_not]; omega
                    have m2 : decide (x2 < x0) = false := by rw [decide_eq_false_iff_not]; omega
                    have m3 : decide (x3 < x0) = false := by rw [decide_eq_false_iff_not]; omega
                    have m4 : decide (x4 < x0) = false := by rw [decide_eq_false_iff_not]; omega
                    have m5 : decide (x5 < x0) = false := by rw [decide_eq_false_iff_not]; omega
                    refine wp_region_quiet_pairs (by kernel_rfl) (by kernel_rfl) (by kernel_rfl) (by kernel_rfl) ?_
                    repeat (go_big_quiet_step (fail))
                    refine wpQuiet_nil ?_
                    intro _ hw'
                    obtain ⟨nq, hw''⟩ := hw'
                    subst hw''
                    go_wp2_with fail
                    go_roundw
                    case rel => exact HXb.out _ b1 HB1.out
                    case measure => simp [intOf]; omega
                · as_aux_lemma =>
                    have u1 : (c : Int) + 1 < (n : Int) := by omega
                    obtain ⟨b1, hb1⟩ : ∃ b : Nat, b = j + 1 := ⟨_, rfl⟩
                    have HB1 : Hid (b1 = j + 1) := hb1
                    have e1 : (j : Int) + 1 = (b1 : Int) := by omega
                    have d1 : wr.cell? ⟨g7, b1, none⟩ = some (.int .i64 (V r (c + 1))) := by rw [hb1, show j + 1 = r * n + (c + 1) by rw [hjrc]; omega]; exact HV2.out r (c + 1) (by omega) (by omega)
                    have f1 : b1 < q := by rw [HQ.out, hb1, show j + 1 = r * n + (c + 1) by rw [hjrc]; omega]; exact rc_lt (by omega) (by omega)
                    have wb1 := WB.out b1 (by omega)
                    have g1 : (0 : Int) ≤ (b1 : Int) := by omega
                    have h1 : (b1 : Int) < (q : Int) := by omega
                    have l1 := HR.out r c r (c + 1) hr hc (by omega) (by omega)
                    have u2 : (c : Int) + 2 < (n : Int) := by omega
                    obtain ⟨b2, hb2⟩ : ∃ b : Nat, b = j + 2 := ⟨_, rfl⟩
                    have e2 : (j : Int) + 2 = (b2 : Int) := by omega
                    have d2 : wr.cell? ⟨g7, b2, none⟩ = some (.int .i64 (V r (c + 2))) := by rw [hb2, show j + 2 = r * n + (c + 2) by rw [hjrc]; omega]; exact HV2.out r (c + 2) (by omega) (by omega)
                    have f2 : b2 < q := by rw [HQ.out, hb2, show j + 2 = r * n + (c + 2) by rw [hjrc]; omega]; exact rc_lt (by omega) (by omega)
                    have wb2 := WB.out b2 (by omega)
                    have g2 : (0 : Int) ≤ (b2 : Int) := by omega
                    have h2 : (b2 : Int) < (q : Int) := by omega
                    have l2 := HR.out r c r (c + 2) hr hc (by omega) (by omega)
                    have u3 : (r : Int) + 1 < (n : Int) := by omega
                    obtain ⟨b3, hb3⟩ : ∃ b : Nat, b = j + n := ⟨_, rfl⟩
                    have e3 : (j : Int) + (n : Int) = (b3 : Int) := by omega
                    have d3 : wr.cell? ⟨g7, b3, none⟩ = some (.int .i64 (V (r + 1) c)) := by rw [hb3, show j + n = (r + 1) * n + c by rw [hjrc, Nat.add_mul]; omega]; exact HV2.out (r + 1) c (by omega) (by omega)
                    have f3 : b3 < q := by rw [HQ.out, hb3, show j + n = (r + 1) * n + c by rw [hjrc, Nat.add_mul]; omega]; exact rc_lt (by omega) (by omega)
                    have wb3 := WB.out b3 (by omega)
                    have g3 : (0 : Int) ≤ (b3 : Int) := by omega
                    have h3 : (b3 : Int) < (q : Int) := by omega
                    have l3 := HR.out r c (r + 1) c hr hc (by omega) (by omega)
                    have u4 : ¬ (r : Int) + 2 < (n : Int) := by omega
                    obtain ⟨b5, hb5⟩ : ∃ b : Nat, b = j + n + 1 := ⟨_, rfl⟩
                    have e5 : (b3 : Int) + 1 = (b5 : Int) := by omega
                    have d5 : wr.cell? ⟨g7, b5, none⟩ = some (.int .i64 (V (r + 1) (c + 1))) := by rw [hb5, show j + n + 1 = (r + 1) * n + (c + 1) by rw [hjrc, Nat.add_mul]; omega]; exact HV2.out (r + 1) (c + 1) (by omega) (by omega)
                    have f5 : b5 < q := by rw [HQ.out, hb5, show j + n + 1 = (r + 1) * n + (c + 1) by rw [hjrc, Nat.add_mul]; omega]; exact rc_lt (by omega) (by omega)
                    have wb5 := WB.out b5 (by omega)
                    have g5 : (0 : Int) ≤ (b5 : Int) := by omega
                    have h5 : (b5 : Int) < (q : Int) := by omega
                    have l5 := HR.out r c (r + 1) (c + 1) hr hc (by omega) (by omega)
                    generalize V r (c + 1) = x1 at *
                    generalize V r (c + 2) = x2 at *
                    generalize V (r + 1) c = x3 at *
                    generalize V (r + 1) (c + 1) = x5 at *
                    generalize V r c = x0 at *
                    clear hjrc hb1 f1 hb2 f2 hb3 f3 hb5 f5
                    go_wp2_with fail
                    go_quiet (fail)
                    go_wp2_with fail
                    have m1 : decide (x1 < x0) = false := by rw [decide_eq_false_iff_not]; omega
                    have m2 : decide (x2 < x0) = false := by rw [decide_eq_false_iff_not]; omega
                    have m3 : decide (x3 < x0) = false := by rw [decide_eq_false_iff_not]; omega
                    have m5 : decide (x5 < x0) = false := by rw [decide_eq_false_iff_not]; omega
                    have o4 : decide ((r : Int) + 2 < (n : Int)) = false := by rw [decide_eq_false_iff_not]; omega
                    have oo4 : decide (r + 2 < n) = false := by rw [decide_eq_false_iff_not]; omega
                    refine wp_region_quiet_pairs (by kernel_rfl) (by kernel_rfl) (by kernel_rfl) (by kernel_rfl) ?_
                    repeat (go_big_quiet_step (fail))
                    refine wpQuiet_nil ?_
                    intro _ hw'
                    obtain ⟨nq, hw''⟩ := hw'
                    subst hw''
                    go_wp2_with fail
                    go_roundw
                    case rel => exact HXb.out _ b1 HB1.out
                    case measure => simp [intOf]; omega
              · as_aux_lemma =>
                  have u1 : (c : Int) + 1 < (n : Int) := by omega
                  obtain ⟨b1, hb1⟩ : ∃ b : Nat, b = j + 1 := ⟨_, rfl⟩
                  have HB1 : Hid (b1 = j + 1) := hb1
                  have e1 : (j : Int) + 1 = (b1 : Int) := by omega
                  have d1 : wr.cell? ⟨g7, b1, none⟩ = some (.int .i64 (V r (c + 1))) := by rw [hb1, show j + 1 = r * n + (c + 1) by rw [hjrc]; omega]; exact HV2.out r (c + 1) (by omega) (by omega)
                  have f1 : b1 < q := by rw [HQ.out, hb1, show j + 1 = r * n + (c + 1) by rw [hjrc]; omega]; exact rc_lt (by omega) (by omega)
                  have wb1 := WB.out b1 (by omega)
                  have g1 : (0 : Int) ≤ (b1 : Int) := by omega
                  have h1 : (b1 : Int) < (q : Int) := by omega
                  have l1 := HR.out r c r (c + 1) hr hc (by omega) (by omega)
                  have u2 : (c : Int) + 2 < (n : Int) := by omega
                  obtain ⟨b2, hb2⟩ : ∃ b : Nat, b = j + 2 := ⟨_, rfl⟩
                  have e2 : (j : Int) + 2 = (b2 : Int) := by omega
                  have d2 : wr.cell? ⟨g7, b2, none⟩ = some (.int .i64 (V r (c + 2))) := by rw [hb2, show j + 2 = r * n + (c + 2) by rw [hjrc]; omega]; exact HV2.out r (c + 2) (by omega) (by omega)
                  have f2 : b2 < q := by rw [HQ.out, hb2, show j + 2 = r * n + (c + 2) by rw [hjrc]; omega]; exact rc_lt (by omega) (by omega)
                  have wb2 := WB.out b2 (by omega)
                  have g2 : (0 : Int) ≤ (b2 : Int) := by omega
                  have h2 : (b2 : Int) < (q : Int) := by omega
                  have l2 := HR.out r c r (c + 2) hr hc (by omega) (by omega)
                  have u3 : ¬ (r : Int) + 1 < (n : Int) := by omega
                  have u4 : ¬ (r : Int) + 2 < (n : Int) := by omega
                  generalize V r (c + 1) = x1 at *
                  generalize V r (c + 2) = x2 at *
                  generalize V r c = x0 at *
                  clear hjrc hb1 f1 hb2 f2
                  go_wp2_with fail
                  go_quiet (fail)
                  go_wp2_with fail
                  have m1 : decide (x1 < x0) = false := by rw [decide_eq_false_iff_not]; omega
                  have m2 : decide (x2 < x0) = false := by rw [decide_eq_false_iff_not]; omega
                  have o3 : decide ((r : Int) + 1 < (n : Int)) = false := by rw [decide_eq_false_iff_not]; omega
                  have oo3 : decide (r + 1 < n) = false := by rw [decide_eq_false_iff_not]; omega
                  have o4 : decide ((r : Int) + 2 < (n : Int)) = false := by rw [decide_eq_false_iff_not]; omega
                  have oo4 : decide (r + 2 < n) = false := by rw [decide_eq_false_iff_not]; omega
                  refine wp_region_quiet_pairs (by kernel_rfl) (by kernel_rfl) (by kernel_rfl) (by kernel_rfl) ?_
                  repeat (go_big_quiet_step (fail))
                  refine wpQuiet_nil ?_
                  intro _ hw'
                  obtain ⟨nq, hw''⟩ := hw'
                  subst hw''
                  go_wp2_with fail
                  go_roundw
                  case rel => exact HXb.out _ b1 HB1.out
                  case measure => simp [intOf]; omega
            · by_cases hrs : r + 1 < n
              · by_cases hrs2 : r + 2 < n
                · as_aux_lemma =>
                    have u1 : (c : Int) + 1 < (n : Int) := by omega
                    obtain ⟨b1, hb1⟩ : ∃ b : Nat, b = j + 1 := ⟨_, rfl⟩
                    have HB1 : Hid (b1 = j + 1) := hb1
                    have e1 : (j : Int) + 1 = (b1 : Int) := by omega
                    have d1 : wr.cell? ⟨g7, b1, none⟩ = some (.int .i64 (V r (c + 1))) := by rw [hb1, show j + 1 = r * n + (c + 1) by rw [hjrc]; omega]; exact HV2.out r (c + 1) (by omega) (by omega)
                    have f1 : b1 < q := by rw [HQ.out, hb1, show j + 1 = r * n + (c + 1) by rw [hjrc]; omega]; exact rc_lt (by omega) (by omega)
                    have wb1 := WB.out b1 (by omega)
                    have g1 : (0 : Int) ≤ (b1 : Int) := by omega
                    have h1 : (b1 : Int) < (q : Int) := by omega
                    have l1 := HR.out r c r (c + 1) hr hc (by omega) (by omega)
                    have u2 : ¬ (c : Int) + 2 < (n : Int) := by omega
                    have u3 : (r : Int) + 1 < (n : Int) := by omega
                    obtain ⟨b3, hb3⟩ : ∃ b : Nat, b = j + n := ⟨_, rfl⟩
                    have e3 : (j : Int) + (n : Int) = (b3 : Int) := by omega
                    have d3 : wr.cell? ⟨g7, b3, none⟩ = some (.int .i64 (V (r + 1) c)) := by rw [hb3, show j + n = (r + 1) * n + c by rw [hjrc, Nat.add_mul]; omega]; exact HV2.out (r + 1) c (by omega) (by omega)
                    have f3 : b3 < q := by rw [HQ.out, hb3, show j + n = (r + 1) * n + c by rw [hjrc, Nat.add_mul]; omega]; exact rc_lt (by omega) (by omega)
                    have wb3 := WB.out b3 (by omega)
                    have g3 : (0 : Int) ≤ (b3 : Int) := by omega
                    have h3 : (b3 : Int) < (q : Int) := by omega
                    have l3 := HR.out r c (r + 1) c hr hc (by omega) (by omega)
                    have u4 : (r : Int) + 2 < (n : Int) := by omega
                    obtain ⟨b4, hb4⟩ : ∃ b : Nat, b = j + 2 * n := ⟨_, rfl⟩
                    have e4 : (j : Int) + 2 * (n : Int) = (b4 : Int) := by omega
                    have d4 : wr.cell? ⟨g7, b4, none⟩ = some (.int .i64 (V (r + 2) c)) := by rw [hb4, show j + 2 * n = (r + 2) * n + c by rw [hjrc, Nat.add_mul]; omega]; exact HV2.out (r + 2) c (by omega) (by omega)
                    have f4 : b4 < q := by rw [HQ.out, hb4, show j + 2 * n = (r + 2) * n + c by rw [hjrc, Nat.add_mul]; omega]; exact rc_lt (by omega) (by omega)
                    have wb4 := WB.out b4 (by omega)
                    have g4 : (0 : Int) ≤ (b4 : Int) := by omega
                    have h4 : (b4 : Int) < (q : Int) := by omega
                    have l4 := HR.out r c (r + 2) c hr hc (by omega) (by omega)
                    obtain ⟨b5, hb5⟩ : ∃ b : Nat, b = j + n + 1 := ⟨_, rfl⟩
                    have e5 : (b3 : Int) + 1 = (b5 : Int) := by omega
                    have d5 : wr.cell? ⟨g7, b5, none⟩ = some (.int .i64 (V (r + 1) (c + 1))) := by rw [hb5, show j + n + 1 = (r + 1) * n + (c + 1) by rw [hjrc, Nat.add_mul]; omega]; exact HV2.out (r + 1) (c + 1) (by omega) (by omega)
                    have f5 : b5 < q := by rw [HQ.out, hb5, show j + n + 1 = (r + 1) * n + (c + 1) by rw [hjrc, Nat.add_mul]; omega]; exact rc_lt (by omega) (by omega)
                    have wb5 := WB.out b5 (by omega)
                    have g5 : (0 : Int) ≤ (b5 : Int) := by omega
                    have h5 : (b5 : Int) < (q : Int) := by omega
                    have l5 := HR.out r c (r + 1) (c + 1) hr hc (by omega) (by omega)
                    generalize V r (c + 1) = x1 at *
                    generalize V (r + 1) c = x3 at *
                    generalize V (r + 2) c = x4 at *
                    generalize V (r + 1) (c + 1) = x5 at *
                    generalize V r c = x0 at *
                    clear hjrc hb1 f1 hb3 f3 hb4 f4 hb5 f5
                    go_wp2_with fail
                    go_quiet (fail)
                    go_wp2_with fail
                    have m1 : decide (x1 < x0) = false := by rw [decide_eq_false_iff_not]; omega
                    have m3 : decide (x3 < x0) = false := by rw [decide_eq_false_iff_not]; omega
                    have m4 : decide (x4 < x0) = false := by rw [decide_eq_false_iff_not]; omega
                    have m5 : decide (x5 < x0) = false := by rw [decide_eq_false_iff_not]; omega
                    have o2 : decide ((c : Int) + 2 < (n : Int)) = false := by rw [decide_eq_false_iff_not]; omega
                    have oo2 : decide (c + 2 < n) = false := by rw [decide_eq_false_iff_not]; omega
                    refine wp_region_quiet_pairs (by kernel_rfl) (by kernel_rfl) (by kernel_rfl) (by kernel_rfl) ?_
                    repeat (go_big_quiet_step (fail))
                    refine wpQuiet_nil ?_
                    intro _ hw'
                    obtain ⟨nq, hw''⟩ := hw'
                    subst hw''
                    go_wp2_with fail
                    go_roundw
                    case rel => exact HXb.out _ b1 HB1.out
                    case measure => simp [intOf]; omega
                · as_aux_lemma =>
                    have u1 : (c : Int) + 1 < (n : Int) := by omega
                    obtain ⟨b1, hb1⟩ : ∃ b : Nat, b = j + 1 := ⟨_, rfl⟩
                    have HB1 : Hid (b1 = j + 1) := hb1
                    have e1 : (j : Int) + 1 = (b1 : Int) := by omega
                    have d1 : wr.cell? ⟨g7, b1, none⟩ = some (.int .i64 (V r (c + 1))) := by rw [hb1, show j + 1 = r * n + (c + 1) by rw [hjrc]; omega]; exact HV2.out r (c + 1) (by omega) (by omega)
                    have f1 : b1 < q := by rw [HQ.out, hb1, show j + 1 = r * n + (c + 1) by rw [hjrc]; omega]; exact rc_lt (by omega) (by omega)
                    have wb1 := WB.out b1 (by omega)
                    have g1 : (0 : Int) ≤ (b1 : Int) := by omega
                    have h1 : (b1 : Int) < (q : Int) := by omega
                    have l1 := HR.out r c r (c + 1) hr hc (by omega) (by omega)
                    have u2 : ¬ (c : Int) + 2 < (n : Int) := by omega
                    have u3 : (r : Int) + 1 < (n : Int) := by omega
                    obtain ⟨b3, hb3⟩ : ∃ b : Nat, b = j + n := ⟨_, rfl⟩
                    have e3 : (j : Int) + (n : Int) = (b3 : Int) := by omega
                    have d3 : wr.cell? ⟨g7, b3, none⟩ = some (.int .i64 (V (r + 1) c)) := by rw [hb3, show j + n = (r + 1) * n + c by rw [hjrc, Nat.add_mul]; omega]; exact HV2.out (r + 1) c (by omega) (by omega)
                    have f3 : b3 < q := by rw [HQ.out, hb3, show j + n = (r + 1) * n + c by rw [hjrc, Nat.add_mul]; omega]; exact rc_lt (by omega) (by omega)
                    have wb3 := WB.out b3 (by omega)
                    have g3 : (0 : Int) ≤ (b3 : Int) := by omega
                    have h3 : (b3 : Int) < (q : Int) := by omega
                    have l3 := HR.out r c (r + 1) c hr hc (by omega) (by omega)
                    have u4 : ¬ (r : Int) + 2 < (n : Int) := by omega
                    obtain ⟨b5, hb5⟩ : ∃ b : Nat, b = j + n + 1 := ⟨_, rfl⟩
                    have e5 : (b3 : Int) + 1 = (b5 : Int) := by omega
                    have d5 : wr.cell? ⟨g7, b5, none⟩ = some (.int .i64 (V (r + 1) (c + 1))) := by rw [hb5, show j + n + 1 = (r + 1) * n + (c + 1) by rw [hjrc, Nat.add_mul]; omega]; exact HV2.out (r + 1) (c + 1) (by omega) (by omega)
                    have f5 : b5 < q := by rw [HQ.out, hb5, show j + n + 1 = (r + 1) * n + (c + 1) by rw [hjrc, Nat.add_mul]; omega]; exact rc_lt (by omega) (by omega)
                    have wb5 := WB.out b5 (by omega)
                    have g5 : (0 : Int) ≤ (b5 : Int) := by omega
                    have h5 : (b5 : Int) < (q : Int) := by omega
                    have l5 := HR.out r c (r + 1) (c + 1) hr hc (by omega) (by omega)
                    generalize V r (c + 1) = x1 at *
                    generalize V (r + 1) c = x3 at *
                    generalize V (r + 1) (c + 1) = x5 at *
                    generalize V r c = x0 at *
                    clear hjrc hb1 f1 hb3 f3 hb5 f5
                    go_wp2_with fail
                    go_quiet (fail)
                    go_wp2_with fail
                    have m1 : decide (x1 < x0) = false := by rw [decide_eq_false_iff_not]; omega
                    have m3 : decide (x3 < x0) = false := by rw [decide_eq_false_iff_not]; omega
                    have m5 : decide (x5 < x0) = false := by rw [decide_eq_false_iff_not]; omega
                    have o2 : decide ((c : Int) + 2 < (n : Int)) = false := by rw [decide_eq_false_iff_not]; omega
                    have oo2 : decide (c + 2 < n) = false := by rw [decide_eq_false_iff_not]; omega
                    have o4 : decide ((r : Int) + 2 < (n : Int)) = false := by rw [decide_eq_false_iff_not]; omega
                    have oo4 : decide (r + 2 < n) = false := by rw [decide_eq_false_iff_not]; omega
                    refine wp_region_quiet_pairs (by kernel_rfl) (by kernel_rfl) (by kernel_rfl) (by kernel_rfl) ?_
                    repeat (go_big_quiet_step (fail))
                    refine wpQuiet_nil ?_
                    intro _ hw'
                    obtain ⟨nq, hw''⟩ := hw'
                    subst hw''
                    go_wp2_with fail
                    go_roundw
                    case rel => exact HXb.out _ b1 HB1.out
                    case measure => simp [intOf]; omega
              · as_aux_lemma =>
                  have u1 : (c : Int) + 1 < (n : Int) := by omega
                  obtain ⟨b1, hb1⟩ : ∃ b : Nat, b = j + 1 := ⟨_, rfl⟩
                  have HB1 : Hid (b1 = j + 1) := hb1
                  have e1 : (j : Int) + 1 = (b1 : Int) := by omega
                  have d1 : wr.cell? ⟨g7, b1, none⟩ = some (.int .i64 (V r (c + 1))) := by rw [hb1, show j + 1 = r * n + (c + 1) by rw [hjrc]; omega]; exact HV2.out r (c + 1) (by omega) (by omega)
                  have f1 : b1 < q := by rw [HQ.out, hb1, show j + 1 = r * n + (c + 1) by rw [hjrc]; omega]; exact rc_lt (by omega) (by omega)
                  have wb1 := WB.out b1 (by omega)
                  have g1 : (0 : Int) ≤ (b1 : Int) := by omega
                  have h1 : (b1 : Int) < (q : Int) := by omega
                  have l1 := HR.out r c r (c + 1) hr hc (by omega) (by omega)
                  have u2 : ¬ (c : Int) + 2 < (n : Int) := by omega
                  have u3 : ¬ (r : Int) + 1 < (n : Int) := by omega
                  have u4 : ¬ (r : Int) + 2 < (n : Int) := by omega
                  generalize V r (c + 1) = x1 at *
                  generalize V r c = x0 at *
                  clear hjrc hb1 f1
                  go_wp2_with fail
                  go_quiet (fail)
                  go_wp2_with fail
                  have m1 : decide (x1 < x0) = false := by rw [decide_eq_false_iff_not]; omega
                  have o2 : decide ((c : Int) + 2 < (n : Int)) = false := by rw [decide_eq_false_iff_not]; omega
                  have oo2 : decide (c + 2 < n) = false := by rw [decide_eq_false_iff_not]; omega
                  have o3 : decide ((r : Int) + 1 < (n : Int)) = false := by rw [decide_eq_false_iff_not]; omega
                  have oo3 : decide (r + 1 < n) = false := by rw [decide_eq_false_iff_not]; omega
                  have o4 : decide ((r : Int) + 2 < (n : Int)) = false := by rw [decide_eq_false_iff_not]; omega
                  have oo4 : decide (r + 2 < n) = false := by rw [decide_eq_false_iff_not]; omega
                  refine wp_region_quiet_pairs (by kernel_rfl) (by kernel_rfl) (by kernel_rfl) (by kernel_rfl) ?_
                  repeat (go_big_quiet_step (fail))
                  refine wpQuiet_nil ?_
                  intro _ hw'
                  obtain ⟨nq, hw''⟩ := hw'
                  subst hw''
                  go_wp2_with fail
                  go_roundw
                  case rel => exact HXb.out _ b1 HB1.out
                  case measure => simp [intOf]; omega
          · by_cases hrs : r + 1 < n
            · by_cases hrs2 : r + 2 < n
              · as_aux_lemma =>
                  have u1 : ¬ (c : Int) + 1 < (n : Int) := by omega
                  have u2 : ¬ (c : Int) + 2 < (n : Int) := by omega
                  have u3 : (r : Int) + 1 < (n : Int) := by omega
                  obtain ⟨b3, hb3⟩ : ∃ b : Nat, b = j + n := ⟨_, rfl⟩
                  have e3 : (j : Int) + (n : Int) = (b3 : Int) := by omega
                  have d3 : wr.cell? ⟨g7, b3, none⟩ = some (.int .i64 (V (r + 1) c)) := by rw [hb3, show j + n = (r + 1) * n + c by rw [hjrc, Nat.add_mul]; omega]; exact HV2.out (r + 1) c (by omega) (by omega)
                  have f3 : b3 < q := by rw [HQ.out, hb3, show j + n = (r + 1) * n + c by rw [hjrc, Nat.add_mul]; omega]; exact rc_lt (by omega) (by omega)
                  have wb3 := WB.out b3 (by omega)
                  have g3 : (0 : Int) ≤ (b3 : Int) := by omega
                  have h3 : (b3 : Int) < (q : Int) := by omega
                  have l3 := HR.out r c (r + 1) c hr hc (by omega) (by omega)
                  have u4 : (r : Int) + 2 < (n : Int) := by omega
                  obtain ⟨b4, hb4⟩ : ∃ b : Nat, b = j + 2 * n := ⟨_, rfl⟩
                  have e4 : (j : Int) + 2 * (n : Int) = (b4 : Int) := by omega
                  have d4 : wr.cell? ⟨g7, b4, none⟩ = some (.int .i64 (V (r + 2) c)) := by rw [hb4, show j + 2 * n = (r + 2) * n + c by rw [hjrc, Nat.add_mul]; omega]; exact HV2.out (r + 2) c (by omega) (by omega)
                  have f4 : b4 < q := by rw [HQ.out, hb4, show j + 2 * n = (r + 2) * n + c by rw [hjrc, Nat.add_mul]; omega]; exact rc_lt (by omega) (by omega)
                  have wb4 := WB.out b4 (by omega)
                  have g4 : (0 : Int) ≤ (b4 : Int) := by omega
                  have h4 : (b4 : Int) < (q : Int) := by omega
                  have l4 := HR.out r c (r + 2) c hr hc (by omega) (by omega)
                  generalize V (r + 1) c = x3 at *
                  generalize V (r + 2) c = x4 at *
                  generalize V r c = x0 at *
                  clear hjrc hb3 f3 hb4 f4
                  go_wp2_with fail
                  go_quiet (fail)
                  go_wp2_with fail
                  have m3 : decide (x3 < x0) = false := by rw [decide_eq_false_iff_not]; omega
                  have m4 : decide (x4 < x0) = false := by rw [decide_eq_false_iff_not]; omega
                  have o1 : decide ((c : Int) + 1 < (n : Int)) = false := by rw [decide_eq_false_iff_not]; omega
                  have oo1 : decide (c + 1 < n) = false := by rw [decide_eq_false_iff_not]; omega
                  have o2 : decide ((c : Int) + 2 < (n : Int)) = false := by rw [decide_eq_false_iff_not]; omega
                  have oo2 : decide (c + 2 < n) = false := by rw [decide_eq_false_iff_not]; omega
                  refine wp_region_quiet_pairs (by kernel_rfl) (by kernel_rfl) (by kernel_rfl) (by kernel_rfl) ?_
                  repeat (go_big_quiet_step (fail))
                  refine wpQuiet_nil ?_
                  intro _ hw'
                  obtain ⟨nq, hw''⟩ := hw'
                  subst hw''
                  go_wp2_with fail
                  go_roundw
                  case rel => exact HX.out _
                  case measure => simp [intOf]; omega
              · as_aux_lemma =>
                  have u1 : ¬ (c : Int) + 1 < (n : Int) := by omega
                  have u2 : ¬ (c : Int) + 2 < (n : Int) := by omega
                  have u3 : (r : Int) + 1 < (n : Int) := by omega
                  obtain ⟨b3, hb3⟩ : ∃ b : Nat, b = j + n := ⟨_, rfl⟩
                  have e3 : (j : Int) + (n : Int) = (b3 : Int) := by omega
                  have d3 : wr.cell? ⟨g7, b3, none⟩ = some (.int .i64 (V (r + 1) c)) := by rw [hb3, show j + n = (r + 1) * n + c by rw [hjrc, Nat.add_mul]; omega]; exact HV2.out (r + 1) c (by omega) (by omega)
                  have f3 : b3 < q := by rw [HQ.out, hb3, show j + n = (r + 1) * n + c by rw [hjrc, Nat.add_mul]; omega]; exact rc_lt (by omega) (by omega)
                  have wb3 := WB.out b3 (by omega)
                  have g3 : (0 : Int) ≤ (b3 : Int) := by omega
                  have h3 : (b3 : Int) < (q : Int) := by omega
                  have l3 := HR.out r c (r + 1) c hr hc (by omega) (by omega)
                  have u4 : ¬ (r : Int) + 2 < (n : Int) := by omega
                  generalize V (r + 1) c = x3 at *
                  generalize V r c = x0 at *
                  clear hjrc hb3 f3
                  go_wp2_with fail
                  go_quiet (fail)
                  go_wp2_with fail
                  have m3 : decide (x3 < x0) = false := by rw [decide_eq_false_iff_not]; omega
                  have o1 : decide ((c : Int) + 1 < (n : Int)) = false := by rw [decide_eq_false_iff_not]; omega
                  have oo1 : decide (c + 1 < n) = false := by rw [decide_eq_false_iff_not]; omega
                  have o2 : decide ((c : Int) + 2 < (n : Int)) = false := by rw [decide_eq_false_iff_not]; omega
                  have oo2 : decide (c + 2 < n) = false := by rw [decide_eq_false_iff_not]; omega
                  have o4 : decide ((r : Int) + 2 < (n : Int)) = false := by rw [decide_eq_false_iff_not]; omega
                  have oo4 : decide (r + 2 < n) = false := by rw [decide_eq_false_iff_not]; omega
                  refine wp_region_quiet_pairs (by kernel_rfl) (by kernel_rfl) (by kernel_rfl) (by kernel_rfl) ?_
                  repeat (go_big_quiet_step (fail))
                  refine wpQuiet_nil ?_
                  intro _ hw'
                  obtain ⟨nq, hw''⟩ := hw'
                  subst hw''
                  go_wp2_with fail
                  go_roundw
                  case rel => exact HX.out _
                  case measure => simp [intOf]; omega
            · as_aux_lemma =>
                have u1 : ¬ (c : Int) + 1 < (n : Int) := by omega
                have u2 : ¬ (c : Int) + 2 < (n : Int) := by omega
                have u3 : ¬ (r : Int) + 1 < (n : Int) := by omega
                have u4 : ¬ (r : Int) + 2 < (n : Int) := by omega
                generalize V r c = x0 at *
                clear hjrc 
                go_wp2_with fail
                go_quiet (fail)
                go_wp2_with fail
                have o1 : decide ((c : Int) + 1 < (n : Int)) = false := by rw [decide_eq_false_iff_not]; omega
                have oo1 : decide (c + 1 < n) = false := by rw [decide_eq_false_iff_not]; omega
                have o2 : decide ((c : Int) + 2 < (n : Int)) = false := by rw [decide_eq_false_iff_not]; omega
                have oo2 : decide (c + 2 < n) = false := by rw [decide_eq_false_iff_not]; omega
                have o3 : decide ((r : Int) + 1 < (n : Int)) = false := by rw [decide_eq_false_iff_not]; omega
                have oo3 : decide (r + 1 < n) = false := by rw [decide_eq_false_iff_not]; omega
                have o4 : decide ((r : Int) + 2 < (n : Int)) = false := by rw [decide_eq_false_iff_not]; omega
                have oo4 : decide (r + 2 < n) = false := by rw [decide_eq_false_iff_not]; omega
                refine wp_region_quiet_pairs (by kernel_rfl) (by kernel_rfl) (by kernel_rfl) (by kernel_rfl) ?_
                repeat (go_big_quiet_step (fail))
                refine wpQuiet_nil ?_
                intro _ hw'
                obtain ⟨nq, hw''⟩ := hw'
                subst hw''
                go_wp2_with fail
                go_roundw
                case rel => exact HX.out _
                case measure => simp [intOf]; omega
        · go_wp2_with fail
          go_ret
          exact ⟨rfl, below_drewN HB.out _⟩

end Go.Proofs.Ytoddkhaaacpelaa
