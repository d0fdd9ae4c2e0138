/- DERIVED. The walk of CoefsBack. -/
import Derived.Test.YtkmnpechhdendaaDoorYq
namespace Go.Proofs.YtkmnpechhdendaaDoor
open Go.RowKit L3

set_option maxRecDepth 100000 in
set_option maxHeartbeats 4000000 in
theorem back_core (hcl : CodeLaw) {W : World} (hsh : Sh W) (hnt : L10.Nt W) {ad : Bool} {a1 : Option Addr} {cap1 N0 N : Nat} {L : List Dd} (hN0 : N0 = L.length) (hN : N = min L.length 6) (hcap : L.length ≤ cap1) (hd : DoAt W a1 L) : Calls Tryd.prog 3 #[.slice a1 N0 cap1, .bool ad] W fun e w' => e = .returned (.bool true) ∧ Below W.heap.size W w' := by
  have HCL : Hid CodeLaw := hcl
  have HSh : Hid (∀ u, Below W.heap.size W u → Sh u ∧ L10.Nt u) := fun u hu => ⟨hsh.to hu, hnt.to hu⟩
  have HW2 : Hid (1 < W.heap.size) := hnt.low
  have HAw : Hid (Calls Tryd.prog 6 #[] W fun e w' => e = .returned (.bool true) ∧ Below W.heap.size W w') := awake_ok hcl hsh hnt
  have HN6 : Hid (N ≤ 6 ∧ N ≤ L.length) := ⟨by omega, by omega⟩
  have HDd : Hid (∀ i, i < N → ∃ b o, a1 = some ⟨b, o, none⟩ ∧ ∀ u, Below W.heap.size W u → u.cell? ⟨b, o + i * 4, none⟩ = some (.int .i64 (L.getD i dd0).a) ∧ u.cell? ⟨b, o + i * 4 + 1, none⟩ = some (.int .i64 (L.getD i dd0).b) ∧ u.cell? ⟨b, o + i * 4 + 2, none⟩ = some (.int .i64 (L.getD i dd0).c) ∧ u.cell? ⟨b, o + i * 4 + 3, none⟩ = some (.slice (L.getD i dd0).la (L.getD i dd0).L.length (L.getD i dd0).lc) ∧ L10.Si u (L.getD i dd0).la (L.getD i dd0).L) := fun i hi => by
    rcases hd with e | ⟨b, o, rfl, hbl, hcell⟩
    · rw [e] at hN; simp at hN; omega
    · refine ⟨b, o, rfl, fun u hu => ?_⟩
      obtain ⟨d0, d1, d2, d3, d4, _⟩ := hcell i (by omega)
      rw [addr_add] at d0 d1 d2 d3
      rw [← Nat.add_assoc] at d1 d2 d3
      exact ⟨by rw [L10.newCell hu _ _ hbl]; exact d0, by rw [L10.newCell hu _ _ hbl]; exact d1, by rw [L10.newCell hu _ _ hbl]; exact d2, by rw [L10.newCell hu _ _ hbl]; exact d3, d4.to hu⟩
  have HMy : Hid (∀ (d : Dd) (u : World), L10.Si u d.la d.L → Calls Tryd.prog 9 #[.agg #[.int .i64 d.a, .int .i64 d.b, .int .i64 d.c, .slice d.la d.L.length d.lc]] u fun e w' => My u w' e (zf d) (plf d) (sgf d) (qf d) (Lf d)) := fun d u hs => by
    obtain ⟨h1, hk, hz, h3, h4, _, h5, _⟩ := dd_of d
    exact may_any hs h1 hk rfl hz h3 rfl h4 h5
  have HCap : Hid (L.length ≤ cap1) := hcap
  have HF : ∀ (w1 : World), Below W.heap.size W w1 → True := fun _ _ => trivial
  clear hcl hsh hnt hd HF
  have HN : Hid (N0 = L.length ∧ N = min L.length 6) := ⟨hN0, hN⟩
  clear hN0 hN hcap
  go_enter Tryd.func3, Tryd.ntmps3
  go_wp2_with fail
  refine HAw.out.mono ?_
  rintro e w1 ⟨rfl, hb1⟩
  have HB1 : Hid (Below W.heap.size W w1) := hb1
  clear hb1 HAw
  by_cases h6 : 6 < N0
  · have l6 : (6 : Int) < (N0 : Int) := by omega
    have lc : (6 : Int) ≤ (cap1 : Int) := by have := HN.out; have := HCap.out; omega
    obtain rfl : N = 6 := by have := HN.out; omega
    obtain ⟨b6, o6, rfl, -⟩ := HDd.out 0 (by omega)
    go_wp2_with fail
    refine (default_hs (HSh.out _ HB1.out).1).mono ?_
    rintro e w2 ⟨bt2, B2, rfl, hs2, hb2⟩
    have HB2 : Hid (Below W.heap.size W w2) := L10.below_to HB1.out hb2
    have HWr : Hid (Calls Tryd.prog 7 #[.agg #[.slice (some ⟨bt2, 0, none⟩) 32 32], .bool ad] w2 fun e w' => ∃ x O, e = .returned (.tuple #[.pointer (some ⟨x, 0, none⟩), .int .i64 0]) ∧ Cd w' w2.heap.size x O (wS ad) ∧ (∀ y, O y → w2.heap.size ≤ y) ∧ Below w2.heap.size w2 w') := writer_cd (HSh.out _ HB2.out).1 hs2
    clear hs2 hb2
    go_wp2_with fail
    refine HWr.out.mono ?_
    rintro e w3 ⟨x, O3, rfl, hc3, ho3, hb3⟩
    have HLo : Hid (W.heap.size ≤ w2.heap.size) := HB2.out.size
    have HS : Hid (BkW W w2.heap.size x 6 ad L (.int .i64 0) w3) := ⟨0, O3, by omega, rfl, hc3, ho3, L10.below_to HB2.out hb3⟩
    generalize w2.heap.size = lo at *
    clear hc3 ho3 hb3 HWr HB2 HB1
    go_wp2_with fail
    go_loopw [7] (fun iv wr => BkW W lo x 6 ad L iv wr) (fun iv _ => 6 - (intOf iv).toNat)
    case atStart => exact HS.out
    case round =>
      clear HS
      obtain ⟨i, O, hi, rfl, hc, ho, hb⟩ := hrel
      have i0 : (0 : Int) ≤ (i : Int) := by omega
      by_cases hlt : i < 6
      · as_aux_lemma =>
        have l1 : (i : Int) < 6 := by omega
        obtain ⟨b, o, hab, hcell⟩ := HDd.out i hlt
        simp only [Option.some.injEq, Addr.mk.injEq, and_true] at hab
        obtain ⟨rfl, rfl⟩ := hab
        obtain ⟨d0, d1, d2, d3, dsi⟩ := hcell wr hb
        have HMi : Hid (Calls Tryd.prog 9 #[.agg #[.int .i64 (L.getD i dd0).a, .int .i64 (L.getD i dd0).b, .int .i64 (L.getD i dd0).c, .slice (L.getD i dd0).la (L.getD i dd0).L.length (L.getD i dd0).lc]] wr fun e w' => My wr w' e (zf (L.getD i dd0)) (plf (L.getD i dd0)) (sgf (L.getD i dd0)) (qf (L.getD i dd0)) (Lf (L.getD i dd0))) := HMy.out _ _ dsi
        have HC : Hid (Cd wr lo x O (wev ad L i) ∧ (∀ y, O y → lo ≤ y) ∧ Below W.heap.size W wr ∧ i < 6) := ⟨hc, ho, hb, hlt⟩
        have HRs : Hid (((bw (L.getD i dd0)).run (wev ad L i)).1 = some (Lf (L.getD i dd0)) ∧ (wev ad L i).W = true ∧ (wev ad L i).n ≤ 900000000 ∧ ((bw (L.getD i dd0)).run (wev ad L i)).2 = wev ad L (i + 1)) := by
          have h6 := HN6.out.1
          obtain ⟨_, e2, e3⟩ := wev_ok ad L i (by omega)
          exact ⟨wev_res ad L (by omega), e2, by omega, rfl⟩
        generalize L.getD i dd0 = dq at *
        obtain ⟨qa, qb, qc, ql, qk, qL⟩ := dq
        simp only at d0 d1 d2 d3 HMi
        clear hc ho hb hlt hcell dsi hi
        go_wp2_with fail
        refine HMi.out.mono ?_
        rintro e w4 ⟨g, rfl, hri, hg, hb4⟩
        have HB4 : Hid (Below wr.heap.size wr w4) := hb4
        have HXn : Hid (∀ (z : Int) (pl sg q : Nat) (Lq : List Int), L10.Ri 3 w4 g Lq → Xd wr (w4.alloc (.cells #[.int .i64 z, .int .i64 (pl : Int), .int .i64 (sg : Int), .slice (some ⟨g, 0, none⟩) q q] 34)) w4.heap.size z pl sg g q Lq) := fun z pl sg q Lq h => Xd.new h hg hb4
        have HR4 : Hid (L10.Ri 3 w4 g (Lf ⟨qa, qb, qc, ql, qk, qL⟩)) := hri
        have HDo := dd_of ⟨qa, qb, qc, ql, qk, qL⟩
        have HLl : Hid (Lv (nf ⟨qa, qb, qc, ql, qk, qL⟩) (Lf ⟨qa, qb, qc, ql, qk, qL⟩)) := Lf_lv _
        have HQn : Hid (nf ⟨qa, qb, qc, ql, qk, qL⟩ * nf ⟨qa, qb, qc, ql, qk, qL⟩ = qf ⟨qa, qb, qc, ql, qk, qL⟩) := rfl
        have HRu : Hid (((cw (zf ⟨qa, qb, qc, ql, qk, qL⟩) (nf ⟨qa, qb, qc, ql, qk, qL⟩) (min (plf ⟨qa, qb, qc, ql, qk, qL⟩) 1) (sgf ⟨qa, qb, qc, ql, qk, qL⟩) (Lf ⟨qa, qb, qc, ql, qk, qL⟩)).run (wev ad L i)) = (bw ⟨qa, qb, qc, ql, qk, qL⟩).run (wev ad L i)) := rfl
        obtain ⟨-, -, hzq, -, -, hpq, -, hsq⟩ := HDo
        have HZq : Hid (L10.Sz (zf ⟨qa, qb, qc, ql, qk, qL⟩) (nf ⟨qa, qb, qc, ql, qk, qL⟩) ∧ plf ⟨qa, qb, qc, ql, qk, qL⟩ ≤ 2 ∧ sgf ⟨qa, qb, qc, ql, qk, qL⟩ ≤ 2) := ⟨hzq, hpq, hsq⟩
        clear hri hg hb4 HMi hzq hpq hsq
        generalize (bw ⟨qa, qb, qc, ql, qk, qL⟩).run (wev ad L i) = rr at *
        generalize zf ⟨qa, qb, qc, ql, qk, qL⟩ = z at *
        generalize nf ⟨qa, qb, qc, ql, qk, qL⟩ = n at *
        generalize plf ⟨qa, qb, qc, ql, qk, qL⟩ = pl at *
        generalize sgf ⟨qa, qb, qc, ql, qk, qL⟩ = sg at *
        generalize qf ⟨qa, qb, qc, ql, qk, qL⟩ = q at *
        generalize Lf ⟨qa, qb, qc, ql, qk, qL⟩ = Lq at *
        have HX : Hid (Xd wr (w4.alloc (.cells #[.int .i64 z, .int .i64 (pl : Int), .int .i64 (sg : Int), .slice (some ⟨g, 0, none⟩) q q] 34)) w4.heap.size z pl sg g q Lq) := HXn.out z pl sg q Lq HR4.out
        have x0 := HX.out.c0
        have x1 := HX.out.c1
        have x2 := HX.out.c2
        have x3 := HX.out.c3
        clear HXn HR4 d0 d1 d2 d3
        go_wp2_with fail
        generalize w4.alloc (.cells #[.int .i64 z, .int .i64 (pl : Int), .int .i64 (sg : Int), .slice (some ⟨g, 0, none⟩) q q] 34) = w5 at *
        generalize w4.heap.size = X at *
        obtain ⟨hc, ho, hb, hlt⟩ := HC.out
        have hB5 : Below W.heap.size W w5 := L10.below_to hb HX.out.bel
        obtain ⟨sh5, nt5⟩ := HSh.out _ hB5
        have hl1 : 1 < lo := by have := HLo.out; have := HW2.out; omega
        have hgq : ¬ O g := fun e => by have := hc.lt e; have := HX.out.ge; omega
        have HK : Hid (Calls Tryd.prog 10 #[.pointer (some ⟨x, 0, none⟩), .int .i64 z, .int .i64 (pl : Int), .int .i64 (sg : Int), .slice (some ⟨g, 0, none⟩) (n * n) q] w5 fun en w' => Kc w5 w' lo x O (n * n) ((cw z n (min pl 1) sg Lq).run (wev ad L i)) en) :=
          kcode_w HCL.out (hc.to HX.out.bel) sh5 nt5 hl1 HRs.out.2.2.1 HZq.out.1 HZq.out.2.1 HZq.out.2.2 HRs.out.2.1 HLl.out HX.out.ri.lt hgq (fun p hp => by rw [Nat.zero_add]; exact HX.out.ri.cell p (by rw [HLl.out.len]; exact hp))
        rw [HQn.out, HRu.out] at HK
        have HBe : Hid (Below W.heap.size W w5 ∧ lo ≤ w5.heap.size) := ⟨hB5, by
          have h1 : lo ≤ wr.heap.size := by
            obtain ⟨_, _, _, _, hcw, _⟩ := hc.wc HRs.out.2.1
            exact Nat.le_trans hcw.co.xlo (Nat.le_of_lt hcw.co.low)
          exact Nat.le_trans h1 HX.out.bel.size⟩
        have HOl : Hid (∀ y, O y → lo ≤ y ∧ y < wr.heap.size) := fun y hy => ⟨ho y hy, hc.lt hy⟩
        clear hc ho hb hlt hB5 sh5 nt5 hl1 hgq
        refine HK.out.mono ?_
        rintro e w6 ⟨O6, hc6, ht6, hb6, hy6, -⟩
        obtain ⟨g6, rfl, hr6, hl6, hn6⟩ := hy6 Lq HRs.out.1
        obtain ⟨y3, yr⟩ := HX.out.ke ht6.ke (fun y hy => (HOl.out y hy).2)
        have HN6' : Hid (BkW W lo x 6 ad L (.int .i64 ((i + 1 : Nat) : Int)) w6 ∧ L10.Ri 3 w6 g6 Lq ∧ L10.Ri 3 w6 g Lq) := by
          refine ⟨⟨i + 1, O6, by have := HC.out.2.2.2; omega, rfl, by rw [← HRs.out.2.2.2]; exact hc6, fun y hy => ?_, HBe.out.1.trans (hb6.mono HLo.out)⟩, hr6, yr⟩
          rcases ht6.new y hy with e | e
          · exact (HOl.out y e).1
          · exact Nat.le_trans HBe.out.2 e
        clear hc6 ht6 hb6 hy6 hr6 hl6 hn6 yr HK x0 x1 x2 x3
        have HLq : Hid (Lq.length = q) := by show _ = _; rw [← HQn.out]; exact HLl.out.len
        have HQ : Hid (q ≤ 140737488355328) := by show _ ≤ _; have := HZq.out.1.sd.sq; have := HQn.out; omega
        go_wp2_with fail
        refine (L10.eqInts_at (ri_si HN6'.out.2.1) (ri_si HN6'.out.2.2) HLq.out HLq.out HQ.out HQ.out).mono ?_
        rintro e w7 ⟨rfl, hb7⟩
        rw [L10.eqI_self]
        have HN7 : Hid (BkW W lo x 6 ad L (.int .i64 ((i + 1 : Nat) : Int)) w7) := by
          obtain ⟨i7, O7, j1, j2, j3, j4, j5⟩ := HN6'.out.1.ex
          exact ⟨i7, O7, j1, j2, j3.to hb7, j4, L10.below_to j5 hb7⟩
        have HI7 : Hid (i < 6) := HC.out.2.2.2
        clear hb7
        go_wp2_with fail
        have hlt := HI7.out
        go_roundw
        case rel => exact HN7.out
        case measure => simp [intOf]; omega
      · have HI6 : Hid (i = 6) := by show i = 6; omega
        have HC : Hid (Cd wr lo x O (wev ad L i) ∧ (∀ y, O y → lo ≤ y) ∧ Below W.heap.size W wr) := ⟨hc, ho, hb⟩
        have HWv : Hid ((wev ad L i).W = true ∧ (wev ad L i).n ≤ 1000000000) := by
          obtain ⟨_, e2, e3⟩ := wev_ok ad L i (by have := HI6.out; omega)
          exact ⟨e2, by have := HI6.out; omega⟩
        have HBy : Hid (Calls Tryd.prog 12 #[.pointer (some ⟨x, 0, none⟩)] wr fun e w' => ∃ v, e = .returned (.tuple #[v, .int .i64 0]) ∧ ∃ zs, L2.SrcOf w' v zs ∧ (∀ i, zs.getD i 0 < 256) ∧ zs.length ≤ 140737488355328 ∧ L2.pre zs ((wev ad L i).c + 4) = (wev ad L i).a ∧ Below wr.heap.size wr w') := bytes_cd hc HWv.out.1 HWv.out.2
        have hin : ¬ (i : Int) < 6 := by omega
        have HLw : Hid (lo ≤ wr.heap.size) := by
          obtain ⟨_, _, _, _, hcw, _⟩ := hc.wc HWv.out.1
          exact Nat.le_trans hcw.co.xlo (Nat.le_of_lt hcw.co.low)
        clear hc ho hb hlt hi
        go_wp2_with fail
        refine HBy.out.mono ?_
        rintro e w5 ⟨vb, rfl, zs, hsrc, hzb, hzl, hpre, hb5⟩
        have HB5 : Hid (Below W.heap.size W w5) := L10.below_to HC.out.2.2 hb5
        have HC5 : Hid (Cd w5 lo x O (wev ad L i)) := HC.out.1.to hb5
        have HSr : Hid (L2.SrcOf w5 vb zs) := hsrc
        have HZ : Hid ((∀ i, zs.getD i 0 < 256) ∧ zs.length ≤ 140737488355328 ∧ L2.pre zs ((wev ad L i).c + 4) = (wev ad L i).a) := ⟨hzb, hzl, hpre⟩
        have HZ5 : Hid (wr.heap.size ≤ w5.heap.size) := hb5.size
        clear hsrc hzb hzl hpre hb5 HBy
        go_wp2_with fail
        refine (default_hs (HSh.out _ HB5.out).1).mono ?_
        rintro e w6 ⟨bt6, B6, rfl, hs6, hb6⟩
        have HB6 : Hid (Below W.heap.size W w6) := L10.below_to HB5.out hb6
        have HC6 : Hid (Cd w6 lo x O (wev ad L i)) := HC5.out.to hb6
        have HZ6 : Hid (w5.heap.size ≤ w6.heap.size) := hb6.size
        have HRd : Hid (Calls Tryd.prog 13 #[vb, .agg #[.slice (some ⟨bt6, 0, none⟩) 32 32], .bool ad] w6 fun e w' => ∃ x O, e = .returned (.tuple #[.pointer (some ⟨x, 0, none⟩), .int .i64 0]) ∧ Cd w' w6.heap.size x O (rS ad zs) ∧ (∀ y, O y → y = 0 ∨ w6.heap.size ≤ y) ∧ Below w6.heap.size w6 w') := reader_cd (HSh.out _ HB6.out).1 hs6 (src_to HSr.out hb6) HZ.out.1 HZ.out.2.1
        clear hs6 hb6 HC5
        go_wp2_with fail
        refine HRd.out.mono ?_
        rintro e w7 ⟨r, Or7, rfl, hc7, ho7, hb7⟩
        have HOw : Hid (∀ y, O y → lo ≤ y ∧ y < w6.heap.size) := fun y hy => ⟨HC.out.2.1 y hy, by have h1 := HC.out.1.lt hy; have h2 := HZ5.out; have h3 := HZ6.out; omega⟩
        have HS2 : Hid (BkR W lo x w6.heap.size r i ad zs L (.int .i64 0) w7) := ⟨0, Or7, O, by omega, rfl, hc7, ho7, HC6.out.to hb7, HOw.out, L10.below_to HB6.out hb7⟩
        have HL2 : Hid (lo ≤ w6.heap.size ∧ 1 < w6.heap.size) := by
          have h1 := HLw.out
          have h2 := HZ5.out
          have h3 := HZ6.out
          have h4 := HB6.out.size
          have h5 := HW2.out
          exact ⟨by omega, by omega⟩
        have HSy : Hid (∀ j, j ≤ i → SOk (rev ad zs L j) ∧ (rev ad zs L j).zs = zs ∧ Syn (wev ad L j) (rev ad zs L j) ∧ (j < i → ((br (L.getD j dd0)).run (rev ad zs L j)).1 = some (Lf (L.getD j dd0)) ∧ (SOk (rev ad zs L (j + 1)) ∧ (rev ad zs L (j + 1)).zs = zs ∧ Syn (wev ad L (j + 1)) (rev ad zs L (j + 1))))) := rev_syn (by have := HI6.out; omega) HZ.out.1 HZ.out.2.2
        generalize w6.heap.size = lo2 at *
        clear hc7 ho7 hb7 HRd HC6 HC HB5 HB6 HSr HZ HZ5 HZ6 HOw hin HLw HWv
        go_wp2_with fail
        go_loopw [15] (fun iv wr => BkR W lo x lo2 r i ad zs L iv wr) (fun iv _ => i - (intOf iv).toNat)
        case atStart => exact HS2.out
        case round =>
          clear HS2
          obtain ⟨j, O, Ow, hj, rfl, hc, ho, hcw, hw, hb⟩ := hrel
          have j0 : (0 : Int) ≤ (j : Int) := by omega
          by_cases hlt : j < i
          · as_aux_lemma =>
            have l1 : (j : Int) < 6 := by have := HI6.out; omega
            obtain ⟨b, o, hab, hcell⟩ := HDd.out j (by have := HI6.out; omega)
            simp only [Option.some.injEq, Addr.mk.injEq, and_true] at hab
            obtain ⟨rfl, rfl⟩ := hab
            obtain ⟨d0, d1, d2, d3, dsi⟩ := hcell wr hb
            have HMi : Hid (Calls Tryd.prog 9 #[.agg #[.int .i64 (L.getD j dd0).a, .int .i64 (L.getD j dd0).b, .int .i64 (L.getD j dd0).c, .slice (L.getD j dd0).la (L.getD j dd0).L.length (L.getD j dd0).lc]] wr fun e w' => My wr w' e (zf (L.getD j dd0)) (plf (L.getD j dd0)) (sgf (L.getD j dd0)) (qf (L.getD j dd0)) (Lf (L.getD j dd0))) := HMy.out _ _ dsi
            have HC : Hid (Cd wr lo2 r O (rev ad zs L j) ∧ (∀ y, O y → y = 0 ∨ lo2 ≤ y) ∧ Cd wr lo x Ow (wev ad L i) ∧ (∀ y, Ow y → lo ≤ y ∧ y < lo2) ∧ Below W.heap.size W wr ∧ j < i) := ⟨hc, ho, hcw, hw, hb, hlt⟩
            have HRs : Hid (((br (L.getD j dd0)).run (rev ad zs L j)).1 = some (Lf (L.getD j dd0)) ∧ (rev ad zs L j).W = false ∧ (rev ad zs L j).n ≤ 900000000 ∧ ((br (L.getD j dd0)).run (rev ad zs L j)).2 = rev ad zs L (j + 1)) := by
              obtain ⟨_, _, e3, e4⟩ := HSy.out j (by omega)
              obtain ⟨_, _, e6⟩ := wev_ok ad L j (by have := HI6.out; omega)
              exact ⟨(e4 hlt).1, e3.rw, by rw [e3.n]; have := HI6.out; omega, rfl⟩
            generalize L.getD j dd0 = dq at *
            obtain ⟨qa, qb, qc, ql, qk, qL⟩ := dq
            simp only at d0 d1 d2 d3 HMi
            clear hc ho hcw hw hb hlt hcell dsi hj
            go_wp2_with fail
            refine HMi.out.mono ?_
            rintro e w4 ⟨g, rfl, hri, hg, hb4⟩
            have HXn : Hid (∀ (z : Int) (pl sg q : Nat) (Lq : List Int), L10.Ri 3 w4 g Lq → Xd wr (w4.alloc (.cells #[.int .i64 z, .int .i64 (pl : Int), .int .i64 (sg : Int), .slice (some ⟨g, 0, none⟩) q q] 34)) w4.heap.size z pl sg g q Lq) := fun z pl sg q Lq h => Xd.new h hg hb4
            have HR4 : Hid (L10.Ri 3 w4 g (Lf ⟨qa, qb, qc, ql, qk, qL⟩)) := hri
            have HDo := dd_of ⟨qa, qb, qc, ql, qk, qL⟩
            have HLl : Hid (Lv (nf ⟨qa, qb, qc, ql, qk, qL⟩) (Lf ⟨qa, qb, qc, ql, qk, qL⟩)) := Lf_lv _
            have HQn : Hid (nf ⟨qa, qb, qc, ql, qk, qL⟩ * nf ⟨qa, qb, qc, ql, qk, qL⟩ = qf ⟨qa, qb, qc, ql, qk, qL⟩) := rfl
            have HRu : Hid (((cr (zf ⟨qa, qb, qc, ql, qk, qL⟩) (nf ⟨qa, qb, qc, ql, qk, qL⟩) (min (plf ⟨qa, qb, qc, ql, qk, qL⟩) 1) (sgf ⟨qa, qb, qc, ql, qk, qL⟩)).run (rev ad zs L j)) = (br ⟨qa, qb, qc, ql, qk, qL⟩).run (rev ad zs L j)) := rfl
            obtain ⟨-, -, hzq, -, -, hpq, -, hsq⟩ := HDo
            have HZq : Hid (L10.Sz (zf ⟨qa, qb, qc, ql, qk, qL⟩) (nf ⟨qa, qb, qc, ql, qk, qL⟩) ∧ plf ⟨qa, qb, qc, ql, qk, qL⟩ ≤ 2 ∧ sgf ⟨qa, qb, qc, ql, qk, qL⟩ ≤ 2) := ⟨hzq, hpq, hsq⟩
            clear hri hg hb4 HMi hzq hpq hsq
            generalize (br ⟨qa, qb, qc, ql, qk, qL⟩).run (rev ad zs L j) = rr at *
            generalize zf ⟨qa, qb, qc, ql, qk, qL⟩ = z at *
            generalize nf ⟨qa, qb, qc, ql, qk, qL⟩ = n at *
            generalize plf ⟨qa, qb, qc, ql, qk, qL⟩ = pl at *
            generalize sgf ⟨qa, qb, qc, ql, qk, qL⟩ = sg at *
            generalize qf ⟨qa, qb, qc, ql, qk, qL⟩ = q at *
            generalize Lf ⟨qa, qb, qc, ql, qk, qL⟩ = Lq at *
            have HX : Hid (Xd wr (w4.alloc (.cells #[.int .i64 z, .int .i64 (pl : Int), .int .i64 (sg : Int), .slice (some ⟨g, 0, none⟩) q q] 34)) w4.heap.size z pl sg g q Lq) := HXn.out z pl sg q Lq HR4.out
            have x0 := HX.out.c0
            have x1 := HX.out.c1
            have x2 := HX.out.c2
            have x3 := HX.out.c3
            clear HXn HR4 d0 d1 d2 d3
            go_wp2_with fail
            generalize w4.alloc (.cells #[.int .i64 z, .int .i64 (pl : Int), .int .i64 (sg : Int), .slice (some ⟨g, 0, none⟩) q q] 34) = w5 at *
            generalize w4.heap.size = X at *
            obtain ⟨hc, ho, hcw, hw, hb, hlt⟩ := HC.out
            have hB5 : Below W.heap.size W w5 := L10.below_to hb HX.out.bel
            obtain ⟨sh5, nt5⟩ := HSh.out _ hB5
            have HK : Hid (Calls Tryd.prog 10 #[.pointer (some ⟨r, 0, none⟩), .int .i64 z, .int .i64 (pl : Int), .int .i64 (sg : Int), .slice none 0 0] w5 fun en w' => Kc w5 w' lo2 r O (n * n) ((cr z n (min pl 1) sg).run (rev ad zs L j)) en) :=
              kcode_r HCL.out (hc.to HX.out.bel) sh5 nt5 HL2.out.2 HRs.out.2.2.1 HZq.out.1 HZq.out.2.1 HZq.out.2.2 HRs.out.2.1
            rw [HQn.out, HRu.out] at HK
            have HBe : Hid (Below W.heap.size W w5 ∧ lo2 ≤ w5.heap.size ∧ Cd w5 lo x Ow (wev ad L i)) := ⟨hB5, by
              have h1 : lo2 ≤ wr.heap.size := by
                obtain ⟨_, _, _, _, hcw, _⟩ := hc.rc HRs.out.2.1
                exact Nat.le_trans hcw.co.xlo (Nat.le_of_lt hcw.co.low)
              exact Nat.le_trans h1 HX.out.bel.size, hcw.to HX.out.bel⟩
            have HOl : Hid (∀ y, O y → (y = 0 ∨ lo2 ≤ y) ∧ y < wr.heap.size) := fun y hy => ⟨ho y hy, hc.lt hy⟩
            have HWl : Hid (∀ y, Ow y → lo ≤ y ∧ y < lo2) := hw
            clear hc ho hcw hw hb hlt hB5 sh5 nt5
            refine HK.out.mono ?_
            rintro e w6 ⟨O6, hc6, ht6, hb6, hy6, -⟩
            obtain ⟨g6, rfl, hr6, hl6, hn6⟩ := hy6 Lq HRs.out.1
            obtain ⟨y3, yr⟩ := HX.out.ke ht6.ke (fun y hy => (HOl.out y hy).2)
            have hl1 : 1 < lo := by have := HLo.out; have := HW2.out; omega
            have HN6' : Hid (BkR W lo x lo2 r i ad zs L (.int .i64 ((j + 1 : Nat) : Int)) w6 ∧ L10.Ri 3 w6 g6 Lq ∧ L10.Ri 3 w6 g Lq) := by
              refine ⟨⟨j + 1, O6, Ow, by have := HC.out.2.2.2.2.2; omega, rfl, by rw [← HRs.out.2.2.2]; exact hc6, fun y hy => ?_, HBe.out.2.2.ke ht6.ke (fun y hy e => ?_), HWl.out, HBe.out.1.trans (hb6.mono (Nat.le_trans HLo.out HL2.out.1))⟩, hr6, yr⟩
              · rcases ht6.new y hy with e | e
                · exact (HOl.out y e).1
                · exact Or.inr (Nat.le_trans HBe.out.2.1 e)
              · have h1 := HWl.out y e
                rcases (HOl.out y hy).1 with e2 | e2
                · omega
                · omega
            clear hc6 ht6 hb6 hy6 hr6 hl6 hn6 yr HK x0 x1 x2 x3 hl1
            have HLq : Hid (Lq.length = q) := by show _ = _; rw [← HQn.out]; exact HLl.out.len
            have HQ : Hid (q ≤ 140737488355328) := by show _ ≤ _; have := HZq.out.1.sd.sq; have := HQn.out; omega
            go_wp2_with fail
            refine (L10.eqInts_at (ri_si HN6'.out.2.1) (ri_si HN6'.out.2.2) HLq.out HLq.out HQ.out HQ.out).mono ?_
            rintro e w7 ⟨rfl, hb7⟩
            rw [L10.eqI_self]
            have HN7 : Hid (BkR W lo x lo2 r i ad zs L (.int .i64 ((j + 1 : Nat) : Int)) w7) := by
              obtain ⟨i7, O7, Ow7, j1, j2, j3, j4, j5, j6, j7⟩ := HN6'.out.1.ex
              exact ⟨i7, O7, Ow7, j1, j2, j3.to hb7, j4, j5.to hb7, j6, L10.below_to j7 hb7⟩
            have HI7 : Hid (j < i) := HC.out.2.2.2.2.2
            clear hb7
            go_wp2_with fail
            have hlt := HI7.out
            go_roundw
            case rel => exact HN7.out
            case measure => simp [intOf]; omega
          · obtain rfl : j = i := by omega
            have hjj : ¬ (j : Int) < 6 := by have := HI6.out; omega
            have HCc : Hid (Cd wr lo2 r O (rev ad zs L j) ∧ Cd wr lo x Ow (wev ad L j) ∧ Below W.heap.size W wr) := ⟨hc, hcw, hb⟩
            have HEq : Hid ((rev ad zs L j).n = (wev ad L j).n) := (HSy.out j (Nat.le_refl _)).2.2.1.n
            clear hc ho hcw hw hb hlt hj
            go_wp2_with fail
            refine (count_cd HCc.out.2.1).mono ?_
            rintro e w8 ⟨rfl, rfl⟩
            go_wp2_with fail
            refine (count_cd HCc.out.1).mono ?_
            rintro e w9 ⟨rfl, rfl⟩
            rw [HEq.out]
            go_wp2_with fail
            go_ret
            exact ⟨by simp, HCc.out.2.2⟩
  · have l6 : ¬ (6 : Int) < (N0 : Int) := by omega
    obtain rfl : N = N0 := by have := HN.out; omega
    clear h6
    go_wp2_with fail
    refine (default_hs (HSh.out _ HB1.out).1).mono ?_
    rintro e w2 ⟨bt2, B2, rfl, hs2, hb2⟩
    have HB2 : Hid (Below W.heap.size W w2) := L10.below_to HB1.out hb2
    have HWr : Hid (Calls Tryd.prog 7 #[.agg #[.slice (some ⟨bt2, 0, none⟩) 32 32], .bool ad] w2 fun e w' => ∃ x O, e = .returned (.tuple #[.pointer (some ⟨x, 0, none⟩), .int .i64 0]) ∧ Cd w' w2.heap.size x O (wS ad) ∧ (∀ y, O y → w2.heap.size ≤ y) ∧ Below w2.heap.size w2 w') := writer_cd (HSh.out _ HB2.out).1 hs2
    clear hs2 hb2
    go_wp2_with fail
    refine HWr.out.mono ?_
    rintro e w3 ⟨x, O3, rfl, hc3, ho3, hb3⟩
    have HLo : Hid (W.heap.size ≤ w2.heap.size) := HB2.out.size
    have HS : Hid (BkW W w2.heap.size x N ad L (.int .i64 0) w3) := ⟨0, O3, by omega, rfl, hc3, ho3, L10.below_to HB2.out hb3⟩
    generalize w2.heap.size = lo at *
    clear hc3 ho3 hb3 HWr HB2 HB1
    go_wp2_with fail
    go_loopw [7] (fun iv wr => BkW W lo x N ad L iv wr) (fun iv _ => N - (intOf iv).toNat)
    case atStart => exact HS.out
    case round =>
      clear HS
      obtain ⟨i, O, hi, rfl, hc, ho, hb⟩ := hrel
      have i0 : (0 : Int) ≤ (i : Int) := by omega
      by_cases hlt : i < N
      · as_aux_lemma =>
        have l1 : (i : Int) < (N : Int) := by omega
        obtain ⟨b, o, rfl, hcell⟩ := HDd.out i hlt
        obtain ⟨d0, d1, d2, d3, dsi⟩ := hcell wr hb
        have HMi : Hid (Calls Tryd.prog 9 #[.agg #[.int .i64 (L.getD i dd0).a, .int .i64 (L.getD i dd0).b, .int .i64 (L.getD i dd0).c, .slice (L.getD i dd0).la (L.getD i dd0).L.length (L.getD i dd0).lc]] wr fun e w' => My wr w' e (zf (L.getD i dd0)) (plf (L.getD i dd0)) (sgf (L.getD i dd0)) (qf (L.getD i dd0)) (Lf (L.getD i dd0))) := HMy.out _ _ dsi
        have HC : Hid (Cd wr lo x O (wev ad L i) ∧ (∀ y, O y → lo ≤ y) ∧ Below W.heap.size W wr ∧ i < N) := ⟨hc, ho, hb, hlt⟩
        have HRs : Hid (((bw (L.getD i dd0)).run (wev ad L i)).1 = some (Lf (L.getD i dd0)) ∧ (wev ad L i).W = true ∧ (wev ad L i).n ≤ 900000000 ∧ ((bw (L.getD i dd0)).run (wev ad L i)).2 = wev ad L (i + 1)) := by
          have h6 := HN6.out.1
          obtain ⟨_, e2, e3⟩ := wev_ok ad L i (by omega)
          exact ⟨wev_res ad L (by omega), e2, by omega, rfl⟩
        generalize L.getD i dd0 = dq at *
        obtain ⟨qa, qb, qc, ql, qk, qL⟩ := dq
        simp only at d0 d1 d2 d3 HMi
        clear hc ho hb hlt hcell dsi hi
        go_wp2_with fail
        refine HMi.out.mono ?_
        rintro e w4 ⟨g, rfl, hri, hg, hb4⟩
        have HB4 : Hid (Below wr.heap.size wr w4) := hb4
        have HXn : Hid (∀ (z : Int) (pl sg q : Nat) (Lq : List Int), L10.Ri 3 w4 g Lq → Xd wr (w4.alloc (.cells #[.int .i64 z, .int .i64 (pl : Int), .int .i64 (sg : Int), .slice (some ⟨g, 0, none⟩) q q] 34)) w4.heap.size z pl sg g q Lq) := fun z pl sg q Lq h => Xd.new h hg hb4
        have HR4 : Hid (L10.Ri 3 w4 g (Lf ⟨qa, qb, qc, ql, qk, qL⟩)) := hri
        have HDo := dd_of ⟨qa, qb, qc, ql, qk, qL⟩
        have HLl : Hid (Lv (nf ⟨qa, qb, qc, ql, qk, qL⟩) (Lf ⟨qa, qb, qc, ql, qk, qL⟩)) := Lf_lv _
        have HQn : Hid (nf ⟨qa, qb, qc, ql, qk, qL⟩ * nf ⟨qa, qb, qc, ql, qk, qL⟩ = qf ⟨qa, qb, qc, ql, qk, qL⟩) := rfl
        have HRu : Hid (((cw (zf ⟨qa, qb, qc, ql, qk, qL⟩) (nf ⟨qa, qb, qc, ql, qk, qL⟩) (min (plf ⟨qa, qb, qc, ql, qk, qL⟩) 1) (sgf ⟨qa, qb, qc, ql, qk, qL⟩) (Lf ⟨qa, qb, qc, ql, qk, qL⟩)).run (wev ad L i)) = (bw ⟨qa, qb, qc, ql, qk, qL⟩).run (wev ad L i)) := rfl
        obtain ⟨-, -, hzq, -, -, hpq, -, hsq⟩ := HDo
        have HZq : Hid (L10.Sz (zf ⟨qa, qb, qc, ql, qk, qL⟩) (nf ⟨qa, qb, qc, ql, qk, qL⟩) ∧ plf ⟨qa, qb, qc, ql, qk, qL⟩ ≤ 2 ∧ sgf ⟨qa, qb, qc, ql, qk, qL⟩ ≤ 2) := ⟨hzq, hpq, hsq⟩
        clear hri hg hb4 HMi hzq hpq hsq
        generalize (bw ⟨qa, qb, qc, ql, qk, qL⟩).run (wev ad L i) = rr at *
        generalize zf ⟨qa, qb, qc, ql, qk, qL⟩ = z at *
        generalize nf ⟨qa, qb, qc, ql, qk, qL⟩ = n at *
        generalize plf ⟨qa, qb, qc, ql, qk, qL⟩ = pl at *
        generalize sgf ⟨qa, qb, qc, ql, qk, qL⟩ = sg at *
        generalize qf ⟨qa, qb, qc, ql, qk, qL⟩ = q at *
        generalize Lf ⟨qa, qb, qc, ql, qk, qL⟩ = Lq at *
        have HX : Hid (Xd wr (w4.alloc (.cells #[.int .i64 z, .int .i64 (pl : Int), .int .i64 (sg : Int), .slice (some ⟨g, 0, none⟩) q q] 34)) w4.heap.size z pl sg g q Lq) := HXn.out z pl sg q Lq HR4.out
        have x0 := HX.out.c0
        have x1 := HX.out.c1
        have x2 := HX.out.c2
        have x3 := HX.out.c3
        clear HXn HR4 d0 d1 d2 d3
        go_wp2_with fail
        generalize w4.alloc (.cells #[.int .i64 z, .int .i64 (pl : Int), .int .i64 (sg : Int), .slice (some ⟨g, 0, none⟩) q q] 34) = w5 at *
        generalize w4.heap.size = X at *
        obtain ⟨hc, ho, hb, hlt⟩ := HC.out
        have hB5 : Below W.heap.size W w5 := L10.below_to hb HX.out.bel
        obtain ⟨sh5, nt5⟩ := HSh.out _ hB5
        have hl1 : 1 < lo := by have := HLo.out; have := HW2.out; omega
        have hgq : ¬ O g := fun e => by have := hc.lt e; have := HX.out.ge; omega
        have HK : Hid (Calls Tryd.prog 10 #[.pointer (some ⟨x, 0, none⟩), .int .i64 z, .int .i64 (pl : Int), .int .i64 (sg : Int), .slice (some ⟨g, 0, none⟩) (n * n) q] w5 fun en w' => Kc w5 w' lo x O (n * n) ((cw z n (min pl 1) sg Lq).run (wev ad L i)) en) :=
          kcode_w HCL.out (hc.to HX.out.bel) sh5 nt5 hl1 HRs.out.2.2.1 HZq.out.1 HZq.out.2.1 HZq.out.2.2 HRs.out.2.1 HLl.out HX.out.ri.lt hgq (fun p hp => by rw [Nat.zero_add]; exact HX.out.ri.cell p (by rw [HLl.out.len]; exact hp))
        rw [HQn.out, HRu.out] at HK
        have HBe : Hid (Below W.heap.size W w5 ∧ lo ≤ w5.heap.size) := ⟨hB5, by
          have h1 : lo ≤ wr.heap.size := by
            obtain ⟨_, _, _, _, hcw, _⟩ := hc.wc HRs.out.2.1
            exact Nat.le_trans hcw.co.xlo (Nat.le_of_lt hcw.co.low)
          exact Nat.le_trans h1 HX.out.bel.size⟩
        have HOl : Hid (∀ y, O y → lo ≤ y ∧ y < wr.heap.size) := fun y hy => ⟨ho y hy, hc.lt hy⟩
        clear hc ho hb hlt hB5 sh5 nt5 hl1 hgq
        refine HK.out.mono ?_
        rintro e w6 ⟨O6, hc6, ht6, hb6, hy6, -⟩
        obtain ⟨g6, rfl, hr6, hl6, hn6⟩ := hy6 Lq HRs.out.1
        obtain ⟨y3, yr⟩ := HX.out.ke ht6.ke (fun y hy => (HOl.out y hy).2)
        have HN6' : Hid (BkW W lo x N ad L (.int .i64 ((i + 1 : Nat) : Int)) w6 ∧ L10.Ri 3 w6 g6 Lq ∧ L10.Ri 3 w6 g Lq) := by
          refine ⟨⟨i + 1, O6, by have := HC.out.2.2.2; omega, rfl, by rw [← HRs.out.2.2.2]; exact hc6, fun y hy => ?_, HBe.out.1.trans (hb6.mono HLo.out)⟩, hr6, yr⟩
          rcases ht6.new y hy with e | e
          · exact (HOl.out y e).1
          · exact Nat.le_trans HBe.out.2 e
        clear hc6 ht6 hb6 hy6 hr6 hl6 hn6 yr HK x0 x1 x2 x3
        have HLq : Hid (Lq.length = q) := by show _ = _; rw [← HQn.out]; exact HLl.out.len
        have HQ : Hid (q ≤ 140737488355328) := by show _ ≤ _; have := HZq.out.1.sd.sq; have := HQn.out; omega
        go_wp2_with fail
        refine (L10.eqInts_at (ri_si HN6'.out.2.1) (ri_si HN6'.out.2.2) HLq.out HLq.out HQ.out HQ.out).mono ?_
        rintro e w7 ⟨rfl, hb7⟩
        rw [L10.eqI_self]
        have HN7 : Hid (BkW W lo x N ad L (.int .i64 ((i + 1 : Nat) : Int)) w7) := by
          obtain ⟨i7, O7, j1, j2, j3, j4, j5⟩ := HN6'.out.1.ex
          exact ⟨i7, O7, j1, j2, j3.to hb7, j4, L10.below_to j5 hb7⟩
        have HI7 : Hid (i < N) := HC.out.2.2.2
        clear hb7
        go_wp2_with fail
        have hlt := HI7.out
        go_roundw
        case rel => exact HN7.out
        case measure => simp [intOf]; omega
      · obtain rfl : i = N := by omega
        have HC : Hid (Cd wr lo x O (wev ad L i) ∧ (∀ y, O y → lo ≤ y) ∧ Below W.heap.size W wr) := ⟨hc, ho, hb⟩
        have HWv : Hid ((wev ad L i).W = true ∧ (wev ad L i).n ≤ 1000000000) := by
          obtain ⟨_, e2, e3⟩ := wev_ok ad L i (by have := HN6.out.1; omega)
          exact ⟨e2, by have := HN6.out.1; omega⟩
        have HBy : Hid (Calls Tryd.prog 12 #[.pointer (some ⟨x, 0, none⟩)] wr fun e w' => ∃ v, e = .returned (.tuple #[v, .int .i64 0]) ∧ ∃ zs, L2.SrcOf w' v zs ∧ (∀ i, zs.getD i 0 < 256) ∧ zs.length ≤ 140737488355328 ∧ L2.pre zs ((wev ad L i).c + 4) = (wev ad L i).a ∧ Below wr.heap.size wr w') := bytes_cd hc HWv.out.1 HWv.out.2
        have hin : ¬ (i : Int) < (i : Int) := by omega
        have HLw : Hid (lo ≤ wr.heap.size) := by
          obtain ⟨_, _, _, _, hcw, _⟩ := hc.wc HWv.out.1
          exact Nat.le_trans hcw.co.xlo (Nat.le_of_lt hcw.co.low)
        clear hc ho hb hlt hi
        go_wp2_with fail
        refine HBy.out.mono ?_
        rintro e w5 ⟨vb, rfl, zs, hsrc, hzb, hzl, hpre, hb5⟩
        have HB5 : Hid (Below W.heap.size W w5) := L10.below_to HC.out.2.2 hb5
        have HC5 : Hid (Cd w5 lo x O (wev ad L i)) := HC.out.1.to hb5
        have HSr : Hid (L2.SrcOf w5 vb zs) := hsrc
        have HZ : Hid ((∀ i, zs.getD i 0 < 256) ∧ zs.length ≤ 140737488355328 ∧ L2.pre zs ((wev ad L i).c + 4) = (wev ad L i).a) := ⟨hzb, hzl, hpre⟩
        have HZ5 : Hid (wr.heap.size ≤ w5.heap.size) := hb5.size
        clear hsrc hzb hzl hpre hb5 HBy
        go_wp2_with fail
        refine (default_hs (HSh.out _ HB5.out).1).mono ?_
        rintro e w6 ⟨bt6, B6, rfl, hs6, hb6⟩
        have HB6 : Hid (Below W.heap.size W w6) := L10.below_to HB5.out hb6
        have HC6 : Hid (Cd w6 lo x O (wev ad L i)) := HC5.out.to hb6
        have HZ6 : Hid (w5.heap.size ≤ w6.heap.size) := hb6.size
        have HRd : Hid (Calls Tryd.prog 13 #[vb, .agg #[.slice (some ⟨bt6, 0, none⟩) 32 32], .bool ad] w6 fun e w' => ∃ x O, e = .returned (.tuple #[.pointer (some ⟨x, 0, none⟩), .int .i64 0]) ∧ Cd w' w6.heap.size x O (rS ad zs) ∧ (∀ y, O y → y = 0 ∨ w6.heap.size ≤ y) ∧ Below w6.heap.size w6 w') := reader_cd (HSh.out _ HB6.out).1 hs6 (src_to HSr.out hb6) HZ.out.1 HZ.out.2.1
        clear hs6 hb6 HC5
        go_wp2_with fail
        refine HRd.out.mono ?_
        rintro e w7 ⟨r, Or7, rfl, hc7, ho7, hb7⟩
        have HOw : Hid (∀ y, O y → lo ≤ y ∧ y < w6.heap.size) := fun y hy => ⟨HC.out.2.1 y hy, by have h1 := HC.out.1.lt hy; have h2 := HZ5.out; have h3 := HZ6.out; omega⟩
        have HS2 : Hid (BkR W lo x w6.heap.size r i ad zs L (.int .i64 0) w7) := ⟨0, Or7, O, by omega, rfl, hc7, ho7, HC6.out.to hb7, HOw.out, L10.below_to HB6.out hb7⟩
        have HL2 : Hid (lo ≤ w6.heap.size ∧ 1 < w6.heap.size) := by
          have h1 := HLw.out
          have h2 := HZ5.out
          have h3 := HZ6.out
          have h4 := HB6.out.size
          have h5 := HW2.out
          exact ⟨by omega, by omega⟩
        have HSy : Hid (∀ j, j ≤ i → SOk (rev ad zs L j) ∧ (rev ad zs L j).zs = zs ∧ Syn (wev ad L j) (rev ad zs L j) ∧ (j < i → ((br (L.getD j dd0)).run (rev ad zs L j)).1 = some (Lf (L.getD j dd0)) ∧ (SOk (rev ad zs L (j + 1)) ∧ (rev ad zs L (j + 1)).zs = zs ∧ Syn (wev ad L (j + 1)) (rev ad zs L (j + 1))))) := rev_syn (by have := HN6.out.1; omega) HZ.out.1 HZ.out.2.2
        generalize w6.heap.size = lo2 at *
        clear hc7 ho7 hb7 HRd HC6 HC HB5 HB6 HSr HZ HZ5 HZ6 HOw hin HLw HWv
        go_wp2_with fail
        go_loopw [15] (fun iv wr => BkR W lo x lo2 r i ad zs L iv wr) (fun iv _ => i - (intOf iv).toNat)
        case atStart => exact HS2.out
        case round =>
          clear HS2
          obtain ⟨j, O, Ow, hj, rfl, hc, ho, hcw, hw, hb⟩ := hrel
          have j0 : (0 : Int) ≤ (j : Int) := by omega
          by_cases hlt : j < i
          · as_aux_lemma =>
            have l1 : (j : Int) < (i : Int) := by omega
            obtain ⟨b, o, rfl, hcell⟩ := HDd.out j hlt
            obtain ⟨d0, d1, d2, d3, dsi⟩ := hcell wr hb
            have HMi : Hid (Calls Tryd.prog 9 #[.agg #[.int .i64 (L.getD j dd0).a, .int .i64 (L.getD j dd0).b, .int .i64 (L.getD j dd0).c, .slice (L.getD j dd0).la (L.getD j dd0).L.length (L.getD j dd0).lc]] wr fun e w' => My wr w' e (zf (L.getD j dd0)) (plf (L.getD j dd0)) (sgf (L.getD j dd0)) (qf (L.getD j dd0)) (Lf (L.getD j dd0))) := HMy.out _ _ dsi
            have HC : Hid (Cd wr lo2 r O (rev ad zs L j) ∧ (∀ y, O y → y = 0 ∨ lo2 ≤ y) ∧ Cd wr lo x Ow (wev ad L i) ∧ (∀ y, Ow y → lo ≤ y ∧ y < lo2) ∧ Below W.heap.size W wr ∧ j < i) := ⟨hc, ho, hcw, hw, hb, hlt⟩
            have HRs : Hid (((br (L.getD j dd0)).run (rev ad zs L j)).1 = some (Lf (L.getD j dd0)) ∧ (rev ad zs L j).W = false ∧ (rev ad zs L j).n ≤ 900000000 ∧ ((br (L.getD j dd0)).run (rev ad zs L j)).2 = rev ad zs L (j + 1)) := by
              obtain ⟨_, _, e3, e4⟩ := HSy.out j (by omega)
              obtain ⟨_, _, e6⟩ := wev_ok ad L j (by have := HN6.out.1; omega)
              exact ⟨(e4 hlt).1, e3.rw, by rw [e3.n]; have := HN6.out.1; omega, rfl⟩
            generalize L.getD j dd0 = dq at *
            obtain ⟨qa, qb, qc, ql, qk, qL⟩ := dq
            simp only at d0 d1 d2 d3 HMi
            clear hc ho hcw hw hb hlt hcell dsi hj
            go_wp2_with fail
            refine HMi.out.mono ?_
            rintro e w4 ⟨g, rfl, hri, hg, hb4⟩
            have HXn : Hid (∀ (z : Int) (pl sg q : Nat) (Lq : List Int), L10.Ri 3 w4 g Lq → Xd wr (w4.alloc (.cells #[.int .i64 z, .int .i64 (pl : Int), .int .i64 (sg : Int), .slice (some ⟨g, 0, none⟩) q q] 34)) w4.heap.size z pl sg g q Lq) := fun z pl sg q Lq h => Xd.new h hg hb4
            have HR4 : Hid (L10.Ri 3 w4 g (Lf ⟨qa, qb, qc, ql, qk, qL⟩)) := hri
            have HDo := dd_of ⟨qa, qb, qc, ql, qk, qL⟩
            have HLl : Hid (Lv (nf ⟨qa, qb, qc, ql, qk, qL⟩) (Lf ⟨qa, qb, qc, ql, qk, qL⟩)) := Lf_lv _
            have HQn : Hid (nf ⟨qa, qb, qc, ql, qk, qL⟩ * nf ⟨qa, qb, qc, ql, qk, qL⟩ = qf ⟨qa, qb, qc, ql, qk, qL⟩) := rfl
            have HRu : Hid (((cr (zf ⟨qa, qb, qc, ql, qk, qL⟩) (nf ⟨qa, qb, qc, ql, qk, qL⟩) (min (plf ⟨qa, qb, qc, ql, qk, qL⟩) 1) (sgf ⟨qa, qb, qc, ql, qk, qL⟩)).run (rev ad zs L j)) = (br ⟨qa, qb, qc, ql, qk, qL⟩).run (rev ad zs L j)) := rfl
            obtain ⟨-, -, hzq, -, -, hpq, -, hsq⟩ := HDo
            have HZq : Hid (L10.Sz (zf ⟨qa, qb, qc, ql, qk, qL⟩) (nf ⟨qa, qb, qc, ql, qk, qL⟩) ∧ plf ⟨qa, qb, qc, ql, qk, qL⟩ ≤ 2 ∧ sgf ⟨qa, qb, qc, ql, qk, qL⟩ ≤ 2) := ⟨hzq, hpq, hsq⟩
            clear hri hg hb4 HMi hzq hpq hsq
            generalize (br ⟨qa, qb, qc, ql, qk, qL⟩).run (rev ad zs L j) = rr at *
            generalize zf ⟨qa, qb, qc, ql, qk, qL⟩ = z at *
            generalize nf ⟨qa, qb, qc, ql, qk, qL⟩ = n at *
            generalize plf ⟨qa, qb, qc, ql, qk, qL⟩ = pl at *
            generalize sgf ⟨qa, qb, qc, ql, qk, qL⟩ = sg at *
            generalize qf ⟨qa, qb, qc, ql, qk, qL⟩ = q at *
            generalize Lf ⟨qa, qb, qc, ql, qk, qL⟩ = Lq at *
            have HX : Hid (Xd wr (w4.alloc (.cells #[.int .i64 z, .int .i64 (pl : Int), .int .i64 (sg : Int), .slice (some ⟨g, 0, none⟩) q q] 34)) w4.heap.size z pl sg g q Lq) := HXn.out z pl sg q Lq HR4.out
            have x0 := HX.out.c0
            have x1 := HX.out.c1
            have x2 := HX.out.c2
            have x3 := HX.out.c3
            clear HXn HR4 d0 d1 d2 d3
            go_wp2_with fail
            generalize w4.alloc (.cells #[.int .i64 z, .int .i64 (pl : Int), .int .i64 (sg : Int), .slice (some ⟨g, 0, none⟩) q q] 34) = w5 at *
            generalize w4.heap.size = X at *
            obtain ⟨hc, ho, hcw, hw, hb, hlt⟩ := HC.out
            have hB5 : Below W.heap.size W w5 := L10.below_to hb HX.out.bel
            obtain ⟨sh5, nt5⟩ := HSh.out _ hB5
            have HK : Hid (Calls Tryd.prog 10 #[.pointer (some ⟨r, 0, none⟩), .int .i64 z, .int .i64 (pl : Int), .int .i64 (sg : Int), .slice none 0 0] w5 fun en w' => Kc w5 w' lo2 r O (n * n) ((cr z n (min pl 1) sg).run (rev ad zs L j)) en) :=
              kcode_r HCL.out (hc.to HX.out.bel) sh5 nt5 HL2.out.2 HRs.out.2.2.1 HZq.out.1 HZq.out.2.1 HZq.out.2.2 HRs.out.2.1
            rw [HQn.out, HRu.out] at HK
            have HBe : Hid (Below W.heap.size W w5 ∧ lo2 ≤ w5.heap.size ∧ Cd w5 lo x Ow (wev ad L i)) := ⟨hB5, by
              have h1 : lo2 ≤ wr.heap.size := by
                obtain ⟨_, _, _, _, hcw, _⟩ := hc.rc HRs.out.2.1
                exact Nat.le_trans hcw.co.xlo (Nat.le_of_lt hcw.co.low)
              exact Nat.le_trans h1 HX.out.bel.size, hcw.to HX.out.bel⟩
            have HOl : Hid (∀ y, O y → (y = 0 ∨ lo2 ≤ y) ∧ y < wr.heap.size) := fun y hy => ⟨ho y hy, hc.lt hy⟩
            have HWl : Hid (∀ y, Ow y → lo ≤ y ∧ y < lo2) := hw
            clear hc ho hcw hw hb hlt hB5 sh5 nt5
            refine HK.out.mono ?_
            rintro e w6 ⟨O6, hc6, ht6, hb6, hy6, -⟩
            obtain ⟨g6, rfl, hr6, hl6, hn6⟩ := hy6 Lq HRs.out.1
            obtain ⟨y3, yr⟩ := HX.out.ke ht6.ke (fun y hy => (HOl.out y hy).2)
            have hl1 : 1 < lo := by have := HLo.out; have := HW2.out; omega
            have HN6' : Hid (BkR W lo x lo2 r i ad zs L (.int .i64 ((j + 1 : Nat) : Int)) w6 ∧ L10.Ri 3 w6 g6 Lq ∧ L10.Ri 3 w6 g Lq) := by
              refine ⟨⟨j + 1, O6, Ow, by have := HC.out.2.2.2.2.2; omega, rfl, by rw [← HRs.out.2.2.2]; exact hc6, fun y hy => ?_, HBe.out.2.2.ke ht6.ke (fun y hy e => ?_), HWl.out, HBe.out.1.trans (hb6.mono (Nat.le_trans HLo.out HL2.out.1))⟩, hr6, yr⟩
              · rcases ht6.new y hy with e | e
                · exact (HOl.out y e).1
                · exact Or.inr (Nat.le_trans HBe.out.2.1 e)
              · have h1 := HWl.out y e
                rcases (HOl.out y hy).1 with e2 | e2
                · omega
                · omega
            clear hc6 ht6 hb6 hy6 hr6 hl6 hn6 yr HK x0 x1 x2 x3 hl1
            have HLq : Hid (Lq.length = q) := by show _ = _; rw [← HQn.out]; exact HLl.out.len
            have HQ : Hid (q ≤ 140737488355328) := by show _ ≤ _; have := HZq.out.1.sd.sq; have := HQn.out; omega
            go_wp2_with fail
            refine (L10.eqInts_at (ri_si HN6'.out.2.1) (ri_si HN6'.out.2.2) HLq.out HLq.out HQ.out HQ.out).mono ?_
            rintro e w7 ⟨rfl, hb7⟩
            rw [L10.eqI_self]
            have HN7 : Hid (BkR W lo x lo2 r i ad zs L (.int .i64 ((j + 1 : Nat) : Int)) w7) := by
              obtain ⟨i7, O7, Ow7, j1, j2, j3, j4, j5, j6, j7⟩ := HN6'.out.1.ex
              exact ⟨i7, O7, Ow7, j1, j2, j3.to hb7, j4, j5.to hb7, j6, L10.below_to j7 hb7⟩
            have HI7 : Hid (j < i) := HC.out.2.2.2.2.2
            clear hb7
            go_wp2_with fail
            have hlt := HI7.out
            go_roundw
            case rel => exact HN7.out
            case measure => simp [intOf]; omega
          · obtain rfl : j = i := by omega
            have hjj : ¬ (j : Int) < (j : Int) := by omega
            have HCc : Hid (Cd wr lo2 r O (rev ad zs L j) ∧ Cd wr lo x Ow (wev ad L j) ∧ Below W.heap.size W wr) := ⟨hc, hcw, hb⟩
            have HEq : Hid ((rev ad zs L j).n = (wev ad L j).n) := (HSy.out j (Nat.le_refl _)).2.2.1.n
            clear hc ho hcw hw hb hlt hj
            go_wp2_with fail
            refine (count_cd HCc.out.2.1).mono ?_
            rintro e w8 ⟨rfl, rfl⟩
            go_wp2_with fail
            refine (count_cd HCc.out.1).mono ?_
            rintro e w9 ⟨rfl, rfl⟩
            rw [HEq.out]
            go_wp2_with fail
            go_ret
            exact ⟨by simp, HCc.out.2.2⟩

end Go.Proofs.YtkmnpechhdendaaDoor
