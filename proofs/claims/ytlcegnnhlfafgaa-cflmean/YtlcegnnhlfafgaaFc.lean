/- DERIVED. The walk of CflMean. -/
import Derived.Test.YtlcegnnhlfafgaaFb
namespace Go.Proofs.Ytlcegnnhlfafgaa
open Go.RowKit

theorem bring_same {i n : Int} (h0 : 0 < n) (h1 : n ≤ 1099511627776) (u : World) : Calls Try.prog 17 #[.int .i64 i, .int .i64 n] u fun e w' => e = .returned (.int .i64 (i % n)) ∧ w' = u :=
  (bring_any h0 h1).mono fun _ _ ⟨h, k⟩ => ⟨h, k.symm⟩
theorem side_of {X : Int} : ∃ r x : Nat, X % 8 = (r : Int) ∧ r < 8 ∧ x = 4 + 4 * r ∧ Sd x := by
  have h0 := Int.emod_nonneg X (b := 8) (by omega)
  have h1 := Int.emod_lt_of_pos X (b := 8) (by omega)
  exact ⟨(X % 8).toNat, 4 + 4 * (X % 8).toNat, by omega, by omega, rfl, by omega, by omega, by omega⟩

set_option maxRecDepth 100000 in
set_option maxHeartbeats 2000000 in
theorem mean_walk {w : World} {a : Option Addr} {c q : Nat} {C : List Nat} {X Y : Int} (hs : Sl w .u8 a C) (hb : Byt C) (hC : C.length ≤ 140737488355328) (hq : q < 256) :
    Calls Try.prog 5 #[.slice a C.length c, .agg #[.int .i64 X, .int .i64 Y], .int .u8 (q : Int)] w fun e w' => e = .returned (.bool true) ∧ Below w.heap.size w w' := by
  have HS : Hid (Sl w .u8 a C) := hs
  have HBy : Hid (Byt C) := hb
  obtain ⟨r1, x, er1, r1l, hx, sx⟩ := side_of (X := X)
  obtain ⟨r2, y, er2, r2l, hy, sy⟩ := side_of (X := Y)
  have HB1 : Hid (∀ u : World, Calls Try.prog 17 #[.int .i64 X, .int .i64 8] u fun e w' => e = .returned (.int .i64 (r1 : Int)) ∧ w' = u) := fun u => by rw [← er1]; exact bring_same (by omega) (by omega) u
  have HB2 : Hid (∀ u : World, Calls Try.prog 17 #[.int .i64 Y, .int .i64 8] u fun e w' => e = .returned (.int .i64 (r2 : Int)) ∧ w' = u) := fun u => by rw [← er2]; exact bring_same (by omega) (by omega) u
  obtain ⟨n, hn, eq, q0, q1⟩ := side_sq sx sy
  obtain ⟨s1, hs1⟩ : ∃ s1 : Nat, s1 = 4 * r1 := ⟨_, rfl⟩
  obtain ⟨s2, hs2⟩ : ∃ s2 : Nat, s2 = 4 * r2 := ⟨_, rfl⟩
  have w1 : IntKind.i64.wrap (4 * (r1 : Int)) = (s1 : Int) := by rw [IntKind.wrap_i64]; omega
  have w2 : IntKind.i64.wrap (4 * (r2 : Int)) = (s2 : Int) := by rw [IntKind.wrap_i64]; omega
  have w3 : IntKind.i64.wrap (4 + (s1 : Int)) = (x : Int) := by rw [IntKind.wrap_i64]; omega
  have w4 : IntKind.i64.wrap (4 + (s2 : Int)) = (y : Int) := by rw [IntKind.wrap_i64]; omega
  obtain ⟨m, hm⟩ : ∃ m, m = 4 * x * y := ⟨_, rfl⟩
  have HM4 : Hid (m = 4 * n) := by show _ = _; rw [hm, Nat.mul_assoc, ← hn]
  have HX : Hid (Sd x) := sx
  have HY : Hid (Sd y) := sy
  have HN : Hid (n = x * y) := hn
  have HM : Hid (m = 4 * x * y) := hm
  have HQ : Hid (q < 256) := hq
  have q2 : (q : Int) < 256 := by omega
  clear hs hb er1 er2 r1l r2l hx hy sx sy hs1 hs2 hn hm hq
  go_enter Try.func5, Try.ntmps5
  go_wp2_with fail
  refine works_any.mono ?_
  rintro e u1 ⟨rfl, hb1⟩
  have d0 : u1.cell? ⟨w.heap.size, 0, none⟩ = some (.int .i64 X) := by rw [newCell hb1 _ _ (by simp)]; simp
  have d1 : u1.cell? ⟨w.heap.size, 1, none⟩ = some (.int .i64 Y) := by rw [newCell hb1 _ _ (by simp)]; simp
  have HBa : Hid (Below w.heap.size w u1) := below_to (from_alloc w _) hb1
  clear hb1
  go_wp2_with fail
  go_quiet ((first | (go_at_call 17; with_reducible exact Calls.quiet_of_same (HB1.out _)) | (go_at_call 17; with_reducible exact Calls.quiet_of_same (HB2.out _))))
  have HBb : Hid (Below w.heap.size w (u1.drewN nq)) := below_drewN HBa.out _
  generalize u1.drewN nq = u2 at *
  clear d0 d1 HBa w1 w2 w3 w4 HB1 HB2
  have x0 : (4 : Int) ≤ (x : Int) := by have := HX.out.lo; omega
  have x1 : (x : Int) ≤ 32 := by have := HX.out.hi; omega
  have y1 : (y : Int) ≤ 32 := by have := HY.out.hi; omega
  go_wp2_with fail
  refine (luma_any (m := m) (HS.out.to HBb.out) hC HX.out HY.out HM.out).mono ?_
  rintro e u3 ⟨gx, rfl, hr3, hg3, hb3⟩
  have HLb : Hid (Byt (luL C m m)) := luL_byt HBy.out _ _
  have HLl : Hid ((luL C m m).length = m) := luL_len _ _ _
  generalize luL C m m = D at *
  have HR3 : Hid (Rw u3 gx D) := hr3
  have HG3 : Hid (w.heap.size ≤ gx) := Nat.le_trans HBb.out.size hg3
  have HB3 : Hid (Below w.heap.size w u3) := below_to HBb.out hb3
  clear hr3 hg3 hb3 HBb HS
  have hm4 := HM4.out
  have m1 : (m : Int) ≤ 4096 := by omega
  have HAc : Hid (∀ {u : World} {E : List Nat}, Rw u gx E → E.length = m → Byt E → Calls Try.prog 9 #[.slice (some ⟨gx, 0, none⟩) m m, .int .i64 (x : Int), .int .i64 (y : Int)] u fun e w' => An u w' e (acF (lv E x) n) n) := fun {u E} h1 h2 h3 => by
    have := ac_ok (n := n) (c := m) h1.sl HX.out HY.out (by rw [h2]; exact HM.out) h3 HN.out
    rw [h2] at this
    exact this
  clear hm4
  go_wp2_with fail
  refine (HAc.out HR3.out HLl.out HLb.out).mono ?_
  rintro e u4 ⟨ga, ca, rfl, ho4, hb4⟩
  have HMx : Hid (Mx w gx D ga (acF (lv D x) n) u4) := ⟨HR3.out.to hb4, ho4.si, by have := ho4.lt; have := HR3.out.lt; omega, HG3.out, below_to HB3.out hb4⟩
  have HAl : Hid ((acF (lv D x) n).length = n) := acF_len _ _
  have HAb : Hid (∀ j, j < (acF (lv D x) n).length → -((2040 : Nat) : Int) ≤ (acF (lv D x) n).getD j 0 ∧ (acF (lv D x) n).getD j 0 ≤ ((2040 : Nat) : Int)) := fun j hj => acF_le (by omega) (fun i _ => lv_le HLb.out _ _) j (by rw [acF_len] at hj; exact hj)
  have HSm : Hid (ab (sI (acF (lv D x) n) n) ≤ (n : Int) / 2) := sum_half HX.out HN.out (by omega)
  have HA1 : Hid (∀ b, acF (lv (upd D (fun v => v + b) D.length) x) n = acF (lv D x) n) := fun b => acF_add (by omega) (fun i hi => lv_add HN.out (by rw [HLl.out]; exact HM.out) i hi)
  clear ho4 hb4 HR3 HG3 HB3
  generalize hA : acF (lv D x) n = A at *
  clear hA
  have en : ((n : Int) != (n : Int)) = false := by simp
  go_wp2_with fail
  go_loopw [12, 13] (fun s i wr => ∃ k : Nat, k ≤ n ∧ i = .int .i64 k ∧ s = .int .i64 (sI A k) ∧ u4 = wr) (fun _ i _ => n - (intOf i).toNat)
  case atStart => exact ⟨0, by omega, rfl, rfl, rfl⟩
  case round =>
    obtain ⟨k, hk, rfl, rfl, rfl⟩ := hrel
    have k0 : (0 : Int) ≤ (k : Int) := by omega
    have hsk := sI_le HAb.out k (by rw [HAl.out]; exact hk)
    have hsb : -2088960 ≤ sI A k ∧ sI A k ≤ 2088960 := by
      have : (k : Int) * ((2040 : Nat) : Int) ≤ 1024 * 2040 := by omega
      omega
    obtain ⟨sb0, sb1⟩ := hsb
    clear hsk
    by_cases hlt : k < n
    · have k1 : (k : Int) < (n : Int) := by omega
      obtain ⟨b0, o0, e0, _, hcell⟩ := HMx.out.num.form (by rw [HAl.out]; omega)
      simp only [Option.some.injEq, Addr.mk.injEq] at e0
      obtain ⟨rfl, rfl, _⟩ := e0
      have c0 := hcell k (by rw [HAl.out]; exact hlt)
      rw [Nat.zero_add] at c0
      clear hcell
      obtain ⟨v0, v1⟩ := HAb.out k (by rw [HAl.out]; exact hlt)
      have HS1 : Hid (sI A k + A.getD k 0 = sI A (k + 1)) := rfl
      generalize sI A k = S at *
      generalize A.getD k 0 = v at *
      have v0' : -2040 ≤ v := v0
      have v1' : v ≤ 2040 := v1
      have hab := ab_le (v := v) (M := 2040) ⟨v0', v1'⟩
      have HAv : Hid (-4611686018427387904 ≤ v ∧ v ≤ 4611686018427387904) := ⟨by omega, by omega⟩
      clear v0 v1
      have hab2 : ¬ (2040 < ab v) := by omega
      go_wp2_with (go_at_call 19; refine (abs_any HAv.out).mono ?_; rintro e w' ⟨rfl, rfl⟩)
      go_roundw
      case rel => exact ⟨k + 1, by omega, by go_num, by rw [← HS1.out], by first | trivial | rfl⟩
      case measure => simp [intOf]; omega
    · obtain rfl : k = n := by omega
      generalize hSS : sI A k = S at *
      clear hSS
      clear en
      go_wp2_with fail
      go_loopw [14, 15] (fun s i wr => ∃ j : Nat, j ≤ m ∧ i = .int .i64 j ∧ s = .int .u8 ((mx D j : Nat) : Int) ∧ u4 = wr) (fun _ i _ => m - (intOf i).toNat)
      case atStart => exact ⟨0, by omega, rfl, rfl, rfl⟩
      case round =>
        obtain ⟨j, hj, rfl, rfl, rfl⟩ := hrel
        have j0 : (0 : Int) ≤ (j : Int) := by omega
        have hmx := mx_lt HLb.out j
        by_cases hltj : j < m
        · have j1 : (j : Int) < (m : Int) := by omega
          have c0 := HMx.out.row.cell j (by rw [HLl.out]; exact hltj)
          have HS1 : Hid (mx D (j + 1) = max (mx D j) (D.getD j 0)) := rfl
          have vb := HLb.out j
          generalize mx D j = M at *
          generalize D.getD j 0 = v at *
          by_cases hMv : v < M
          · have i1 : (v : Int) < (M : Int) := by omega
            have HS2 : Hid ((M : Int) = ((mx D (j + 1) : Nat) : Int)) := by show _ = _; rw [HS1.out]; omega
            go_wp2_with fail
            go_roundw
            case rel => exact ⟨j + 1, by omega, by go_num, by rw [← HS2.out], by first | trivial | rfl⟩
            case measure => simp [intOf]; omega
          · have i1 : ¬ (v : Int) < (M : Int) := by omega
            by_cases hMe : v = M
            · subst hMe
              have HS2 : Hid ((v : Int) = ((mx D (j + 1) : Nat) : Int)) := by show _ = _; rw [HS1.out]; omega
              clear i1 hMv
              go_wp2_with fail
              go_roundw
              case rel => exact ⟨j + 1, by omega, by go_num, by rw [← HS2.out], by first | trivial | rfl⟩
              case measure => simp [intOf]; omega
            · have i2 : (M : Int) < (v : Int) := by omega
              have HS2 : Hid ((v : Int) = ((mx D (j + 1) : Nat) : Int)) := by show _ = _; rw [HS1.out]; omega
              clear i1 hMv hMe
              go_wp2_with fail
              go_roundw
              case rel => exact ⟨j + 1, by omega, by go_num, by rw [← HS2.out], by first | trivial | rfl⟩
              case measure => simp [intOf]; omega
        · obtain rfl : j = m := by omega
          have HGe : Hid (∀ i, i < D.length → D.getD i 0 ≤ mx D j) := fun i hi => mx_ge j i (by rw [HLl.out] at hi; exact hi)
          generalize mx D j = M at *
          obtain ⟨z, hz, hzM⟩ : ∃ z : Nat, 255 - (M : Int) = (z : Int) ∧ z + M < 256 := ⟨255 - M, by omega, by omega⟩
          have M2 : (M : Int) < 256 := by omega
          have z2 : (z : Int) < 256 := by omega
          have S0 : -4611686018427387904 ≤ S ∧ S ≤ 4611686018427387904 := ⟨by omega, by omega⟩
          have HS0 : Hid (-4611686018427387904 ≤ S ∧ S ≤ 4611686018427387904) := S0
          have HzM : Hid (z + M < 256) := hzM
          clear S0 hzM hmx
          rcases Nat.lt_trichotomy q z with hqz | hqz | hqz
          · have i1 : (q : Int) < (z : Int) := by omega
            have HBM : Hid (q + M < 256) := by have := HzM.out; show _ < _; omega
            go_wp2_with fail
            generalize q = bb at *
            have b2 : (bb : Int) < 256 := by have := HBM.out; omega
            have HMx0 : Hid (Mx w gx (upd D (fun v => v + bb) 0) ga A u4) := by rw [upd_zero]; exact HMx.out
            go_loopw [16] (fun v wr => ∃ j' : Nat, j' ≤ j ∧ v = .int .i64 j' ∧ Mx w gx (upd D (fun v => v + bb) j') ga A wr) (fun v _ => j - (intOf v).toNat)
            case atStart => exact ⟨0, by omega, rfl, HMx0.out⟩
            case round =>
              clear HMx0 HMx
              obtain ⟨i, hi, rfl, hmx⟩ := hrel
              have i0 : (0 : Int) ≤ (i : Int) := by omega
              by_cases hlti : i < j
              · have i9 : (i : Int) < (j : Int) := by omega
                have hil : i < D.length := by rw [HLl.out]; exact hlti
                have c0 := hmx.row.cell i (by rw [upd_len]; exact hil)
                rw [upd_get _ _ _ _ hil, if_neg (by omega)] at c0
                have f0 := hmx.row.thaw i
                have hge := HGe.out i hil
                have HNx : Hid (Mx w gx (upd D (fun v => v + bb) (i + 1)) ga A (wr.setCell ⟨gx, i, none⟩ (.int .u8 ((D.getD i 0 + bb : Nat) : Int)))) := by rw [← upd_set _ _ _ hil]; exact hmx.set i _
                clear hmx
                generalize D.getD i 0 = v at *
                obtain ⟨vb, hvb⟩ : ∃ vb : Nat, v + bb = vb := ⟨_, rfl⟩
                rw [hvb] at HNx
                have hbm := HBM.out
                have hz8 : IntKind.u8.wrap ((v : Int) + (bb : Int)) = (vb : Int) := by rw [IntKind.wrap_u8]; omega
                have hz9 : (v : Int) + (bb : Int) = (vb : Int) := by omega
                have vb2 : (vb : Int) < 256 := by omega
                clear hvb hbm hge
                go_wp2_with fail
                go_roundw
                case rel => exact ⟨i + 1, by omega, by go_num, HNx.out⟩
                case measure => simp [intOf]; omega
              · obtain rfl : i = j := by omega
                have HBE : Hid (Byt (upd D (fun v => v + bb) D.length)) := upd_byt fun l hl => by have := HGe.out l hl; have := HBM.out; omega
                have HEl : Hid ((upd D (fun v => v + bb) D.length).length = i) := by show _ = _; rw [upd_len]; exact HLl.out
                have HA2 : Hid (acF (lv (upd D (fun v => v + bb) D.length) x) k = A) := HA1.out bb
                have HMx1 : Hid (Mx w gx (upd D (fun v => v + bb) D.length) ga A wr) := by rw [HLl.out]; exact hmx
                clear hmx HGe HA1 HLb HLl HBM HzM
                generalize upd D (fun v => v + bb) D.length = E at *
                go_wp2_with fail
                refine (HAc.out HMx1.out.row HEl.out HBE.out).mono ?_
                rw [HA2.out]
                rintro e u5 ⟨gb, cb, rfl, ho5, hb5⟩
                have HMy : Hid (My w gx (upd E (fun _ => bb) 0) ga gb A u5) := by
                  rw [upd_zero]
                  exact ⟨HMx1.out.to hb5, ho5.si, by have := ho5.lt; have := HMx1.out.row.lt; omega⟩
                have HAf : Hid (acF (lv (upd E (fun _ => bb) E.length) x) k = List.replicate k 0) := acF_flat (c := 8 * bb) (by omega) (fun l hl => lv_flat HN.out (by rw [HEl.out]; exact HM.out) l hl)
                clear ho5 hb5 HMx1 HA2 HBE
                go_wp2_with fail
                go_loopw [19] (fun v wr => ∃ j' : Nat, j' ≤ i ∧ v = .int .i64 j' ∧ My w gx (upd E (fun _ => bb) j') ga gb A wr) (fun v _ => i - (intOf v).toNat)
                case atStart => exact ⟨0, by omega, rfl, HMy.out⟩
                case round =>
                  clear HMy
                  obtain ⟨l, hl, rfl, hmy⟩ := hrel
                  have l0 : (0 : Int) ≤ (l : Int) := by omega
                  by_cases hltl : l < i
                  · have l9 : (l : Int) < (i : Int) := by omega
                    have hll : l < E.length := by rw [HEl.out]; exact hltl
                    have c0 := hmy.mx.row.cell l (by rw [upd_len]; exact hll)
                    rw [upd_get _ _ _ _ hll, if_neg (by omega)] at c0
                    have f0 := hmy.mx.row.thaw l
                    have HNx : Hid (My w gx (upd E (fun _ => bb) (l + 1)) ga gb A (wr.setCell ⟨gx, l, none⟩ (.int .u8 (bb : Int)))) := by rw [← upd_set _ _ _ hll]; exact hmy.set l _
                    clear hmy
                    go_wp2_with fail
                    go_roundw
                    case rel => exact ⟨l + 1, by omega, by go_num, HNx.out⟩
                    case measure => simp [intOf]; omega
                  · obtain rfl : l = i := by omega
                    have HBF : Hid (Byt (upd E (fun _ => bb) E.length)) := upd_byt fun _ _ => by omega
                    have HFl : Hid ((upd E (fun _ => bb) E.length).length = l) := by show _ = _; rw [upd_len]; exact HEl.out
                    have HMy1 : Hid (My w gx (upd E (fun _ => bb) E.length) ga gb A wr) := by rw [HEl.out]; exact hmy
                    clear hmy HEl
                    generalize upd E (fun _ => bb) E.length = F at *
                    go_wp2_with fail
                    refine (HAc.out HMy1.out.mx.row HFl.out HBF.out).mono ?_
                    rw [HAf.out]
                    rintro e u6 ⟨gc, cc, rfl, ho6, hb6⟩
                    have HMy2 : Hid (My w gx F ga gb A u6) := HMy1.out.to hb6
                    have HO6 : Hid (Si u6 (some ⟨gc, 0, none⟩) (List.replicate k 0)) := ho6.si
                    clear ho6 hb6 HMy1 HAf
                    have hsm := HSm.out
                    have ea : eqI A A = true := eqI_self _
                    have ez : eqI (List.replicate k (0 : Int)) (List.replicate k 0) = true := eqI_self _
                    have hmk := fun u => mk_ints (n := k) (by omega) u
                    go_wp2_with fail
                    refine (abs_any HS0.out).mono ?_
                    rintro e w' ⟨rfl, rfl⟩
                    go_wp2_with fail
                    refine (eqInts_at (n := k) (m := k) HMy2.out.mx.num HMy2.out.num HAl.out HAl.out (by omega) (by omega)).mono ?_
                    rintro e u7 ⟨rfl, hb7⟩
                    rw [ea]
                    have HB7 : Hid (Below w.heap.size w u7) := below_to HMy2.out.mx.bel hb7
                    have HO7 : Hid (Si (u7.alloc (.cells (madeCells #[.int .i64 0] k) 3)) (some ⟨gc, 0, none⟩) (List.replicate k 0)) := (HO6.out.to hb7).to (from_alloc _ _)
                    have HZ7 : Hid (Si (u7.alloc (.cells (madeCells #[.int .i64 0] k) 3)) (some ⟨u7.heap.size, 0, none⟩) (List.replicate k 0)) := (Ri.made 3 u7 k rfl).si
                    clear hb7 HO6
                    go_wp2_with fail
                    refine (eqInts_at (n := k) (m := k) HO7.out HZ7.out (by simp) (by simp) (by omega) (by omega)).mono ?_
                    rintro e u8 ⟨rfl, hb8⟩
                    rw [ez]
                    have HB8 : Hid (Below w.heap.size w u8) := below_to (to_alloc HB7.out _) hb8
                    clear hb8
                    go_wp2_with fail
                    go_ret
                    exact ⟨rfl, HB8.out⟩
          · subst hqz
            have HBM : Hid (q + M < 256) := HzM.out
            go_wp2_with fail
            generalize q = bb at *
            have b2 : (bb : Int) < 256 := by have := HBM.out; omega
            have HMx0 : Hid (Mx w gx (upd D (fun v => v + bb) 0) ga A u4) := by rw [upd_zero]; exact HMx.out
            go_loopw [16] (fun v wr => ∃ j' : Nat, j' ≤ j ∧ v = .int .i64 j' ∧ Mx w gx (upd D (fun v => v + bb) j') ga A wr) (fun v _ => j - (intOf v).toNat)
            case atStart => exact ⟨0, by omega, rfl, HMx0.out⟩
            case round =>
              clear HMx0 HMx
              obtain ⟨i, hi, rfl, hmx⟩ := hrel
              have i0 : (0 : Int) ≤ (i : Int) := by omega
              by_cases hlti : i < j
              · have i9 : (i : Int) < (j : Int) := by omega
                have hil : i < D.length := by rw [HLl.out]; exact hlti
                have c0 := hmx.row.cell i (by rw [upd_len]; exact hil)
                rw [upd_get _ _ _ _ hil, if_neg (by omega)] at c0
                have f0 := hmx.row.thaw i
                have hge := HGe.out i hil
                have HNx : Hid (Mx w gx (upd D (fun v => v + bb) (i + 1)) ga A (wr.setCell ⟨gx, i, none⟩ (.int .u8 ((D.getD i 0 + bb : Nat) : Int)))) := by rw [← upd_set _ _ _ hil]; exact hmx.set i _
                clear hmx
                generalize D.getD i 0 = v at *
                obtain ⟨vb, hvb⟩ : ∃ vb : Nat, v + bb = vb := ⟨_, rfl⟩
                rw [hvb] at HNx
                have hbm := HBM.out
                have hz8 : IntKind.u8.wrap ((v : Int) + (bb : Int)) = (vb : Int) := by rw [IntKind.wrap_u8]; omega
                have hz9 : (v : Int) + (bb : Int) = (vb : Int) := by omega
                have vb2 : (vb : Int) < 256 := by omega
                clear hvb hbm hge
                go_wp2_with fail
                go_roundw
                case rel => exact ⟨i + 1, by omega, by go_num, HNx.out⟩
                case measure => simp [intOf]; omega
              · obtain rfl : i = j := by omega
                have HBE : Hid (Byt (upd D (fun v => v + bb) D.length)) := upd_byt fun l hl => by have := HGe.out l hl; have := HBM.out; omega
                have HEl : Hid ((upd D (fun v => v + bb) D.length).length = i) := by show _ = _; rw [upd_len]; exact HLl.out
                have HA2 : Hid (acF (lv (upd D (fun v => v + bb) D.length) x) k = A) := HA1.out bb
                have HMx1 : Hid (Mx w gx (upd D (fun v => v + bb) D.length) ga A wr) := by rw [HLl.out]; exact hmx
                clear hmx HGe HA1 HLb HLl HBM HzM
                generalize upd D (fun v => v + bb) D.length = E at *
                go_wp2_with fail
                refine (HAc.out HMx1.out.row HEl.out HBE.out).mono ?_
                rw [HA2.out]
                rintro e u5 ⟨gb, cb, rfl, ho5, hb5⟩
                have HMy : Hid (My w gx (upd E (fun _ => bb) 0) ga gb A u5) := by
                  rw [upd_zero]
                  exact ⟨HMx1.out.to hb5, ho5.si, by have := ho5.lt; have := HMx1.out.row.lt; omega⟩
                have HAf : Hid (acF (lv (upd E (fun _ => bb) E.length) x) k = List.replicate k 0) := acF_flat (c := 8 * bb) (by omega) (fun l hl => lv_flat HN.out (by rw [HEl.out]; exact HM.out) l hl)
                clear ho5 hb5 HMx1 HA2 HBE
                go_wp2_with fail
                go_loopw [19] (fun v wr => ∃ j' : Nat, j' ≤ i ∧ v = .int .i64 j' ∧ My w gx (upd E (fun _ => bb) j') ga gb A wr) (fun v _ => i - (intOf v).toNat)
                case atStart => exact ⟨0, by omega, rfl, HMy.out⟩
                case round =>
                  clear HMy
                  obtain ⟨l, hl, rfl, hmy⟩ := hrel
                  have l0 : (0 : Int) ≤ (l : Int) := by omega
                  by_cases hltl : l < i
                  · have l9 : (l : Int) < (i : Int) := by omega
                    have hll : l < E.length := by rw [HEl.out]; exact hltl
                    have c0 := hmy.mx.row.cell l (by rw [upd_len]; exact hll)
                    rw [upd_get _ _ _ _ hll, if_neg (by omega)] at c0
                    have f0 := hmy.mx.row.thaw l
                    have HNx : Hid (My w gx (upd E (fun _ => bb) (l + 1)) ga gb A (wr.setCell ⟨gx, l, none⟩ (.int .u8 (bb : Int)))) := by rw [← upd_set _ _ _ hll]; exact hmy.set l _
                    clear hmy
                    go_wp2_with fail
                    go_roundw
                    case rel => exact ⟨l + 1, by omega, by go_num, HNx.out⟩
                    case measure => simp [intOf]; omega
                  · obtain rfl : l = i := by omega
                    have HBF : Hid (Byt (upd E (fun _ => bb) E.length)) := upd_byt fun _ _ => by omega
                    have HFl : Hid ((upd E (fun _ => bb) E.length).length = l) := by show _ = _; rw [upd_len]; exact HEl.out
                    have HMy1 : Hid (My w gx (upd E (fun _ => bb) E.length) ga gb A wr) := by rw [HEl.out]; exact hmy
                    clear hmy HEl
                    generalize upd E (fun _ => bb) E.length = F at *
                    go_wp2_with fail
                    refine (HAc.out HMy1.out.mx.row HFl.out HBF.out).mono ?_
                    rw [HAf.out]
                    rintro e u6 ⟨gc, cc, rfl, ho6, hb6⟩
                    have HMy2 : Hid (My w gx F ga gb A u6) := HMy1.out.to hb6
                    have HO6 : Hid (Si u6 (some ⟨gc, 0, none⟩) (List.replicate k 0)) := ho6.si
                    clear ho6 hb6 HMy1 HAf
                    have hsm := HSm.out
                    have ea : eqI A A = true := eqI_self _
                    have ez : eqI (List.replicate k (0 : Int)) (List.replicate k 0) = true := eqI_self _
                    have hmk := fun u => mk_ints (n := k) (by omega) u
                    go_wp2_with fail
                    refine (abs_any HS0.out).mono ?_
                    rintro e w' ⟨rfl, rfl⟩
                    go_wp2_with fail
                    refine (eqInts_at (n := k) (m := k) HMy2.out.mx.num HMy2.out.num HAl.out HAl.out (by omega) (by omega)).mono ?_
                    rintro e u7 ⟨rfl, hb7⟩
                    rw [ea]
                    have HB7 : Hid (Below w.heap.size w u7) := below_to HMy2.out.mx.bel hb7
                    have HO7 : Hid (Si (u7.alloc (.cells (madeCells #[.int .i64 0] k) 3)) (some ⟨gc, 0, none⟩) (List.replicate k 0)) := (HO6.out.to hb7).to (from_alloc _ _)
                    have HZ7 : Hid (Si (u7.alloc (.cells (madeCells #[.int .i64 0] k) 3)) (some ⟨u7.heap.size, 0, none⟩) (List.replicate k 0)) := (Ri.made 3 u7 k rfl).si
                    clear hb7 HO6
                    go_wp2_with fail
                    refine (eqInts_at (n := k) (m := k) HO7.out HZ7.out (by simp) (by simp) (by omega) (by omega)).mono ?_
                    rintro e u8 ⟨rfl, hb8⟩
                    rw [ez]
                    have HB8 : Hid (Below w.heap.size w u8) := below_to (to_alloc HB7.out _) hb8
                    clear hb8
                    go_wp2_with fail
                    go_ret
                    exact ⟨rfl, HB8.out⟩
          · have i1 : (z : Int) < (q : Int) := by omega
            have HBM : Hid (z + M < 256) := HzM.out
            go_wp2_with fail
            generalize z = bb at *
            have b2 : (bb : Int) < 256 := by have := HBM.out; omega
            have HMx0 : Hid (Mx w gx (upd D (fun v => v + bb) 0) ga A u4) := by rw [upd_zero]; exact HMx.out
            go_loopw [16] (fun v wr => ∃ j' : Nat, j' ≤ j ∧ v = .int .i64 j' ∧ Mx w gx (upd D (fun v => v + bb) j') ga A wr) (fun v _ => j - (intOf v).toNat)
            case atStart => exact ⟨0, by omega, rfl, HMx0.out⟩
            case round =>
              clear HMx0 HMx
              obtain ⟨i, hi, rfl, hmx⟩ := hrel
              have i0 : (0 : Int) ≤ (i : Int) := by omega
              by_cases hlti : i < j
              · have i9 : (i : Int) < (j : Int) := by omega
                have hil : i < D.length := by rw [HLl.out]; exact hlti
                have c0 := hmx.row.cell i (by rw [upd_len]; exact hil)
                rw [upd_get _ _ _ _ hil, if_neg (by omega)] at c0
                have f0 := hmx.row.thaw i
                have hge := HGe.out i hil
                have HNx : Hid (Mx w gx (upd D (fun v => v + bb) (i + 1)) ga A (wr.setCell ⟨gx, i, none⟩ (.int .u8 ((D.getD i 0 + bb : Nat) : Int)))) := by rw [← upd_set _ _ _ hil]; exact hmx.set i _
                clear hmx
                generalize D.getD i 0 = v at *
                obtain ⟨vb, hvb⟩ : ∃ vb : Nat, v + bb = vb := ⟨_, rfl⟩
                rw [hvb] at HNx
                have hbm := HBM.out
                have hz8 : IntKind.u8.wrap ((v : Int) + (bb : Int)) = (vb : Int) := by rw [IntKind.wrap_u8]; omega
                have hz9 : (v : Int) + (bb : Int) = (vb : Int) := by omega
                have vb2 : (vb : Int) < 256 := by omega
                clear hvb hbm hge
                go_wp2_with fail
                go_roundw
                case rel => exact ⟨i + 1, by omega, by go_num, HNx.out⟩
                case measure => simp [intOf]; omega
              · obtain rfl : i = j := by omega
                have HBE : Hid (Byt (upd D (fun v => v + bb) D.length)) := upd_byt fun l hl => by have := HGe.out l hl; have := HBM.out; omega
                have HEl : Hid ((upd D (fun v => v + bb) D.length).length = i) := by show _ = _; rw [upd_len]; exact HLl.out
                have HA2 : Hid (acF (lv (upd D (fun v => v + bb) D.length) x) k = A) := HA1.out bb
                have HMx1 : Hid (Mx w gx (upd D (fun v => v + bb) D.length) ga A wr) := by rw [HLl.out]; exact hmx
                clear hmx HGe HA1 HLb HLl HBM HzM
                generalize upd D (fun v => v + bb) D.length = E at *
                go_wp2_with fail
                refine (HAc.out HMx1.out.row HEl.out HBE.out).mono ?_
                rw [HA2.out]
                rintro e u5 ⟨gb, cb, rfl, ho5, hb5⟩
                have HMy : Hid (My w gx (upd E (fun _ => bb) 0) ga gb A u5) := by
                  rw [upd_zero]
                  exact ⟨HMx1.out.to hb5, ho5.si, by have := ho5.lt; have := HMx1.out.row.lt; omega⟩
                have HAf : Hid (acF (lv (upd E (fun _ => bb) E.length) x) k = List.replicate k 0) := acF_flat (c := 8 * bb) (by omega) (fun l hl => lv_flat HN.out (by rw [HEl.out]; exact HM.out) l hl)
                clear ho5 hb5 HMx1 HA2 HBE
                go_wp2_with fail
                go_loopw [19] (fun v wr => ∃ j' : Nat, j' ≤ i ∧ v = .int .i64 j' ∧ My w gx (upd E (fun _ => bb) j') ga gb A wr) (fun v _ => i - (intOf v).toNat)
                case atStart => exact ⟨0, by omega, rfl, HMy.out⟩
                case round =>
                  clear HMy
                  obtain ⟨l, hl, rfl, hmy⟩ := hrel
                  have l0 : (0 : Int) ≤ (l : Int) := by omega
                  by_cases hltl : l < i
                  · have l9 : (l : Int) < (i : Int) := by omega
                    have hll : l < E.length := by rw [HEl.out]; exact hltl
                    have c0 := hmy.mx.row.cell l (by rw [upd_len]; exact hll)
                    rw [upd_get _ _ _ _ hll, if_neg (by omega)] at c0
                    have f0 := hmy.mx.row.thaw l
                    have HNx : Hid (My w gx (upd E (fun _ => bb) (l + 1)) ga gb A (wr.setCell ⟨gx, l, none⟩ (.int .u8 (bb : Int)))) := by rw [← upd_set _ _ _ hll]; exact hmy.set l _
                    clear hmy
                    go_wp2_with fail
                    go_roundw
                    case rel => exact ⟨l + 1, by omega, by go_num, HNx.out⟩
                    case measure => simp [intOf]; omega
                  · obtain rfl : l = i := by omega
                    have HBF : Hid (Byt (upd E (fun _ => bb) E.length)) := upd_byt fun _ _ => by omega
                    have HFl : Hid ((upd E (fun _ => bb) E.length).length = l) := by show _ = _; rw [upd_len]; exact HEl.out
                    have HMy1 : Hid (My w gx (upd E (fun _ => bb) E.length) ga gb A wr) := by rw [HEl.out]; exact hmy
                    clear hmy HEl
                    generalize upd E (fun _ => bb) E.length = F at *
                    go_wp2_with fail
                    refine (HAc.out HMy1.out.mx.row HFl.out HBF.out).mono ?_
                    rw [HAf.out]
                    rintro e u6 ⟨gc, cc, rfl, ho6, hb6⟩
                    have HMy2 : Hid (My w gx F ga gb A u6) := HMy1.out.to hb6
                    have HO6 : Hid (Si u6 (some ⟨gc, 0, none⟩) (List.replicate k 0)) := ho6.si
                    clear ho6 hb6 HMy1 HAf
                    have hsm := HSm.out
                    have ea : eqI A A = true := eqI_self _
                    have ez : eqI (List.replicate k (0 : Int)) (List.replicate k 0) = true := eqI_self _
                    have hmk := fun u => mk_ints (n := k) (by omega) u
                    go_wp2_with fail
                    refine (abs_any HS0.out).mono ?_
                    rintro e w' ⟨rfl, rfl⟩
                    go_wp2_with fail
                    refine (eqInts_at (n := k) (m := k) HMy2.out.mx.num HMy2.out.num HAl.out HAl.out (by omega) (by omega)).mono ?_
                    rintro e u7 ⟨rfl, hb7⟩
                    rw [ea]
                    have HB7 : Hid (Below w.heap.size w u7) := below_to HMy2.out.mx.bel hb7
                    have HO7 : Hid (Si (u7.alloc (.cells (madeCells #[.int .i64 0] k) 3)) (some ⟨gc, 0, none⟩) (List.replicate k 0)) := (HO6.out.to hb7).to (from_alloc _ _)
                    have HZ7 : Hid (Si (u7.alloc (.cells (madeCells #[.int .i64 0] k) 3)) (some ⟨u7.heap.size, 0, none⟩) (List.replicate k 0)) := (Ri.made 3 u7 k rfl).si
                    clear hb7 HO6
                    go_wp2_with fail
                    refine (eqInts_at (n := k) (m := k) HO7.out HZ7.out (by simp) (by simp) (by omega) (by omega)).mono ?_
                    rintro e u8 ⟨rfl, hb8⟩
                    rw [ez]
                    have HB8 : Hid (Below w.heap.size w u8) := below_to (to_alloc HB7.out _) hb8
                    clear hb8
                    go_wp2_with fail
                    go_ret
                    exact ⟨rfl, HB8.out⟩

end Go.Proofs.Ytlcegnnhlfafgaa
