/- DERIVED. The walk of MotionBetween. -/
import Derived.Test.YtpideemiijhkgaaDoorBe
namespace Go.Proofs.YtpideemiijhkgaaDoor
open Go.RowKit

set_option maxRecDepth 100000 in
set_option maxHeartbeats 40000000 in
theorem between_left {u : World} {a b : Option Addr} {c d : Nat} {C D : List Nat} {bw X Y w ht : Int} (hg : Gt u) (hi : ByIn u a c C) (hj : ByIn u b d D) (hxy : X ≤ 9223372036854775807 ∧ Y ≤ 9223372036854775807) (hl : C.length ≤ 140737488355328 ∧ D.length ≤ 140737488355328) :
    Calls Tryd.prog 8 #[.agg #[.slice a C.length c, .int .i64 bw, .int .i64 X, .int .i64 Y, .int .i64 w, .int .i64 ht, .slice b D.length d], .bool true] u fun e w' => e = .returned (.bool true) ∧ Below u.heap.size u w' := by
  obtain ⟨LA, eA, gA, hPA⟩ := above_any hi.byt hj.byt hl.1 bw X Y w ht hxy.1 hxy.2
  obtain ⟨LL, eL, gL, hPL⟩ := left_any hi.byt hj.byt hl.1 bw X Y w ht hxy.1 hxy.2
  have HPA : Hid _ := hPA
  have HPL : Hid _ := hPL
  have GA : Hid _ := gA
  have GL : Hid _ := gL
  obtain ⟨n, hn⟩ : ∃ n, n = min C.length D.length := ⟨_, rfl⟩
  have hnC : n ≤ C.length := by omega
  have hnD : n ≤ D.length := by omega
  obtain ⟨a1, ha1, ha1s⟩ := cut_to (a := a) (len := C.length) (c := c) (n := n) (Nat.le_trans hnC hi.cap)
  obtain ⟨b1, hb1, hb1s⟩ := cut_to (a := b) (len := D.length) (c := d) (n := n) (Nat.le_trans hnD hj.cap)
  have lc : (C.take n).length = n := by rw [List.length_take]; omega
  have ld : (D.take n).length = n := by rw [List.length_take]; omega
  have HP1 : Hid (∀ t : World, Below u.heap.size u t → Calls Tryd.prog 16 #[.slice a1 n c, .slice b1 n d] t fun e w' => So t w' e n (prL (C.take n) (D.take n))) := fun t ht => by
    have h := pair_ok (u := t) (c := c) (d := d) ((ha1s u C hi.sl).to ht) ((hb1s u D hj.sl).to ht) (take_byt hi.byt n) (take_byt hj.byt n) (by rw [lc, ld]) (by rw [lc]; omega)
    rw [lc, ld] at h
    exact h.mono fun _ _ k => k.so rfl (by rw [prL_len, lc])
  have HP2 : Hid (∀ t : World, Below u.heap.size u t → Calls Tryd.prog 16 #[.slice b1 n d, .slice a1 n c] t fun e w' => So t w' e n (prL (C.take n) (D.take n))) := fun t ht => by
    have h := pair_ok (u := t) (c := d) (d := c) ((hb1s u D hj.sl).to ht) ((ha1s u C hi.sl).to ht) (take_byt hj.byt n) (take_byt hi.byt n) (by rw [lc, ld]) (by rw [ld]; omega)
    rw [lc, ld] at h
    exact h.mono fun _ _ k => k.so (prL_comm (by rw [lc, ld])) (by rw [prL_len, lc])
  have HP3 : Hid (∀ t : World, Below u.heap.size u t → Calls Tryd.prog 16 #[.slice a C.length c, .slice a C.length c] t fun e w' => So t w' e C.length C) := fun t ht => (pair_ok (hi.sl.to ht) (hi.sl.to ht) hi.byt hi.byt rfl hl.1).mono fun _ _ k => k.so (prL_self C) rfl
  have HLn : Hid ((prL (C.take n) (D.take n)).length = n) := by show _ = _; rw [prL_len, lc]
  have HBt : Hid (∀ j, j < n → (prL (C.take n) (D.take n)).getD j 0 < 256 ∧ C.getD j 0 < 256 ∧ D.getD j 0 < 256 ∧ min (C.getD j 0) (D.getD j 0) ≤ (prL (C.take n) (D.take n)).getD j 0 ∧ (prL (C.take n) (D.take n)).getD j 0 ≤ max (C.getD j 0) (D.getD j 0)) := fun j hjn => by
    have h1 := hi.byt j
    have h2 := hj.byt j
    rw [prL_get (by rw [lc]; exact hjn), take_get hjn, take_get hjn]
    have := pr_mid (C.getD j 0) (D.getD j 0)
    exact ⟨by omega, h1, h2, this.1, this.2⟩
  generalize prL (C.take n) (D.take n) = L at *
  have HG : Hid (Gt u) := hg
  have HS : Hid (Sl u .u8 a C) := hi.sl
  have HT : Hid (Sl u .u8 b D) := hj.sl
  have HlC : Hid (C.length ≤ 140737488355328) := hl.1
  have HlD : Hid (D.length ≤ 140737488355328) := hl.2
  have HCc : Hid (C.length ≤ c) := hi.cap
  have HBC : Hid (Byt C) := hi.byt
  have HBD : Hid (Byt D) := hj.byt
  have HN : Hid (n = min C.length D.length) := hn
  have HNC : Hid (n ≤ C.length ∧ n ≤ D.length) := ⟨hnC, hnD⟩
  have HD0 : Hid (Bd u.heap.size a C.length c bw X Y w ht b D.length d (u.alloc (.cells #[.slice a C.length c, .int .i64 bw, .int .i64 X, .int .i64 Y, .int .i64 w, .int .i64 ht, .slice b D.length d] 51))) := Bd.built u a b C.length c D.length d bw X Y w ht
  have HB0 : Hid (Below u.heap.size u (u.alloc (.cells #[.slice a C.length c, .int .i64 bw, .int .i64 X, .int .i64 Y, .int .i64 w, .int .i64 ht, .slice b D.length d] 51))) := from_alloc _ _
  have hz : u.heap.size < (u.alloc (.cells #[.slice a C.length c, .int .i64 bw, .int .i64 X, .int .i64 Y, .int .i64 w, .int .i64 ht, .slice b D.length d] 51)).heap.size := by simp
  have n1 : (n : Int) ≤ 140737488355328 := by omega
  clear hPA hPL gA gL hg hi hj hl hxy ha1s hb1s lc ld hn hnC hnD
  go_enter Tryd.func8, Tryd.ntmps8
  go_wp2_with fail
  generalize (u.alloc (.cells #[.slice a C.length c, .int .i64 bw, .int .i64 X, .int .i64 Y, .int .i64 w, .int .i64 ht, .slice b D.length d] 51)) = V at *
  refine (works_true (HG.out.to HB0.out)).mono ?_
  rintro e v1 ⟨rfl, hb⟩
  have hd := HD0.out.below hz hb
  have HD1 : Hid (Bd u.heap.size a C.length c bw X Y w ht b D.length d v1) := hd
  have HB1 : Hid (Below u.heap.size u v1) := below_to HB0.out hb
  have hz1 : u.heap.size < v1.heap.size := Nat.lt_of_lt_of_le hz hb.size
  have e0 := hd.c0
  have e6 := hd.c6
  clear hb hd HD0 HB0 hz
  go_upto_region 3 with fail
  go_cut [5] (fun s T => s = .int .i64 (n : Int) ∧ v1 = T)
  case first =>
    have hnn := HN.out
    by_cases hle : C.length ≤ D.length
    · have i1 : (C.length : Int) ≤ (D.length : Int) := by omega
      have hq : n = C.length := by omega
      go_wp2_with fail
      go_meet
      first
        | exact ⟨by rw [hq], rfl⟩
        | exact ⟨by rw [hq, if_neg (by omega)], rfl⟩
        | exact ⟨by rw [hq, if_pos (by omega)], rfl⟩
    · have i1 : (D.length : Int) < (C.length : Int) := by omega
      have hq : n = D.length := by omega
      go_wp2_with fail
      go_meet
      first
        | exact ⟨by rw [hq], rfl⟩
        | exact ⟨by rw [hq, if_pos (by omega)], rfl⟩
        | exact ⟨by rw [hq, if_neg (by omega)], rfl⟩
  obtain ⟨rfl, rfl⟩ := hcut
  have HK : Hid (∀ t : World, Below v1.drew.heap.size v1.drew t → t.cell? ⟨u.heap.size, 0, none⟩ = some (.slice a C.length c) ∧ t.cell? ⟨u.heap.size, 6, none⟩ = some (.slice b D.length d)) := fun t ht => by
    have h := HD1.out.below hz1 (below_to (below_drew (Below.refl _ _)) ht)
    exact ⟨h.c0, h.c6⟩
  have HB : Hid (Below u.heap.size u v1.drew) := below_drew HB1.out
  go_upto_region 4 with fail
  go_cut [6, 7] (fun s s' T => ∃ g, s = .slice (some ⟨g, 0, none⟩) n n ∧ s' = .int .i64 0 ∧ Rw T g L ∧ Below v1.heap.size v1 T)
  case first =>
    go_region_held3 (fun t => t.cell? ⟨u.heap.size, 0, none⟩ = some (.slice a C.length c) ∧ t.cell? ⟨u.heap.size, 6, none⟩ = some (.slice b D.length d))
      ((exact HK.out _ (by first | exact Below.refl _ _ | assumption)))
      ((go_at_call 16; refine (HP1.out _ HB.out).mono ?_; rintro e w5 ⟨g, rfl, hr5, _, hb5⟩))
    all_goals
      go_wp2_with fail
      go_meet
      exact ⟨g, rfl, rfl, hr5, below_to (below_drew (Below.refl _ _)) hb5⟩
  obtain ⟨g1, rfl, rfl, hrw, hb⟩ := hcut
  rename World => v2
  have hd := HD1.out.below hz1 hb
  have R2 : Hid (Rw v2 g1 L) := hrw
  have HD2 : Hid (Bd u.heap.size a C.length c bw X Y w ht b D.length d v2) := hd
  have HB2 : Hid (Below u.heap.size u v2) := below_to HB1.out hb
  have hz2 : u.heap.size < v2.heap.size := Nat.lt_of_lt_of_le hz1 hb.size
  clear hrw hb hd HK HB e0 e6 HD1 HB1 hz1
  have e0 := HD2.out.c0
  have e6 := HD2.out.c6
  have HK : Hid (∀ t : World, Below v2.drew.heap.size v2.drew t → t.cell? ⟨u.heap.size, 0, none⟩ = some (.slice a C.length c) ∧ t.cell? ⟨u.heap.size, 6, none⟩ = some (.slice b D.length d)) := fun t ht => by
    have h := HD2.out.below hz2 (below_to (below_drew (Below.refl _ _)) ht)
    exact ⟨h.c0, h.c6⟩
  have HB : Hid (Below u.heap.size u v2.drew) := below_drew HB2.out
  go_upto_region 5 with fail
  go_cut [8, 9] (fun s s' T => ∃ g, s = .slice (some ⟨g, 0, none⟩) n n ∧ s' = .int .i64 0 ∧ Rw T g L ∧ Below v2.heap.size v2 T)
  case first =>
    go_region_held3 (fun t => t.cell? ⟨u.heap.size, 0, none⟩ = some (.slice a C.length c) ∧ t.cell? ⟨u.heap.size, 6, none⟩ = some (.slice b D.length d))
      ((exact HK.out _ (by first | exact Below.refl _ _ | assumption)))
      ((go_at_call 16; refine (HP2.out _ HB.out).mono ?_; rintro e w5 ⟨g, rfl, hr5, _, hb5⟩))
    all_goals
      go_wp2_with fail
      go_meet
      exact ⟨g, rfl, rfl, hr5, below_to (below_drew (Below.refl _ _)) hb5⟩
  obtain ⟨g2, rfl, rfl, hrw, hb⟩ := hcut
  rename World => v3
  have hd := HD2.out.below hz2 hb
  have R3 : Hid (Rw v3 g1 L) := R2.out.to hb
  have Q3 : Hid (Rw v3 g2 L) := hrw
  have HD3 : Hid (Bd u.heap.size a C.length c bw X Y w ht b D.length d v3) := hd
  have HB3 : Hid (Below u.heap.size u v3) := below_to HB2.out hb
  have hz3 : u.heap.size < v3.heap.size := Nat.lt_of_lt_of_le hz2 hb.size
  clear hrw hb hd HK HB e0 e6 HD2 HB2 hz2 R2 HP1 HP2 ha1 hb1
  have e0 := HD3.out.c0
  go_wp2_with fail
  refine (HP3.out _ HB3.out).mono ?_
  rintro e v4 ⟨g3, rfl, hrw, _, hb⟩
  have R4 : Hid (Rw v4 g1 L) := R3.out.to hb
  have Q4 : Hid (Rw v4 g2 L) := Q3.out.to hb
  have S4 : Hid (Rw v4 g3 C) := hrw
  have hd := HD3.out.below hz3 hb
  have HD4 : Hid (Bd u.heap.size a C.length c bw X Y w ht b D.length d v4) := hd
  have HB4 : Hid (Below u.heap.size u v4) := below_to HB3.out hb
  have hz4 : u.heap.size < v4.heap.size := Nat.lt_of_lt_of_le hz3 hb.size
  clear hrw hb hd e0 HD3 HB3 hz3 R3 Q3 HP3
  have e0 := HD4.out.c0
  have nln : ((n : Int) != (n : Int)) = false := by simp
  go_wp2_with fail
  refine (eqBytes_same (C := L) R4.out.sl Q4.out.sl HLn.out (by have := HNC.out; have := HlC.out; omega)).mono ?_
  rintro e v5 ⟨rfl, hb⟩
  have R5 : Hid (Rw v5 g1 L) := R4.out.to hb
  have S5 : Hid (Rw v5 g3 C) := S4.out.to hb
  have hd := HD4.out.below hz4 hb
  have HD5 : Hid (Bd u.heap.size a C.length c bw X Y w ht b D.length d v5) := hd
  have HB5 : Hid (Below u.heap.size u v5) := below_to HB4.out hb
  have hz5 : u.heap.size < v5.heap.size := Nat.lt_of_lt_of_le hz4 hb.size
  clear hb hd e0 HD4 HB4 hz4 R4 Q4 S4
  have e0 := HD5.out.c0
  go_wp2_with fail
  refine (eqBytes_same (C := C) S5.out.sl (HS.out.to HB5.out) rfl HlC.out).mono ?_
  rintro e v6 ⟨rfl, hb⟩
  have R6 : Hid (Rw v6 g1 L) := R5.out.to hb
  have hd := HD5.out.below hz5 hb
  have HD6 : Hid (Bd u.heap.size a C.length c bw X Y w ht b D.length d v6) := hd
  have HB6 : Hid (Below u.heap.size u v6) := below_to HB5.out hb
  have hz6 : u.heap.size < v6.heap.size := Nat.lt_of_lt_of_le hz5 hb.size
  clear hb hd e0 HD5 HB5 hz5 R5 S5
  go_wp2_with fail
  go_loopw [12] (fun i wr => ∃ k : Nat, k ≤ n ∧ i = .int .i64 k ∧ Below v6.heap.size v6 wr) (fun i _ => n - (intOf i).toNat)
  case atStart => exact ⟨0, by omega, rfl, Below.refl _ _⟩
  case round =>
    obtain ⟨j, hj, rfl, hbr⟩ := hrel
    have HBr : Hid (Below v6.heap.size v6 wr) := hbr
    by_cases hlt : j < n
    · obtain ⟨b1', b2', b3', b4', b5'⟩ := HBt.out j hlt
      have HBe : Hid (∀ t : World, Calls Tryd.prog 30 #[.int .u8 (L.getD j 0 : Nat), .int .u8 (C.getD j 0 : Nat), .int .u8 (D.getD j 0 : Nat)] t fun e w' => e = .returned (.bool true) ∧ w' = t) := fun t => between_yes b1' b2' b3' ⟨b4', b5'⟩
      have hd := HD6.out.below hz6 hbr
      have e0 := hd.c0
      have e6 := hd.c6
      obtain ⟨ba, oa, ha, la, ca⟩ := (HS.out.to (below_to HB6.out hbr)).form (by have := HNC.out; omega)
      obtain ⟨bb, ob, hb', lb, cb⟩ := (HT.out.to (below_to HB6.out hbr)).form (by have := HNC.out; omega)
      subst ha hb'
      have f1 : wr.cell? ⟨g1, j, none⟩ = some (.int .u8 (L.getD j 0 : Nat)) := (R6.out.to hbr).cell j (by rw [HLn.out]; exact hlt)
      have f2 := ca j (by have := HNC.out; omega)
      have f3 := cb j (by have := HNC.out; omega)
      have j0 : (0 : Int) ≤ (j : Int) := by omega
      have j1 : (j : Int) < (n : Int) := by omega
      have j2 : (j : Int) < (C.length : Int) := by have := HNC.out; omega
      have j3 : (j : Int) < (D.length : Int) := by have := HNC.out; omega
      generalize L.getD j 0 = y0 at *
      generalize C.getD j 0 = y1 at *
      generalize D.getD j 0 = y2 at *
      clear hd ca cb la lb hbr b1' b2' b3' b4' b5'
      go_wp2_with fail
      go_quiet ((go_at_call 30; with_reducible exact Calls.quiet_of_same (HBe.out _)))
      have HBn : Hid (Below v6.heap.size v6 (wr.drewN nq)) := below_drewN HBr.out nq
      go_wp2_with fail
      go_roundw
      case rel => exact ⟨j + 1, by omega, by go_num, HBn.out⟩
      case measure => simp [intOf]; omega
    · have HBu : Hid (Below u.heap.size u wr) := below_to HB6.out hbr
      have hd := HD6.out.below hz6 hbr
      have HDu : Hid (Bd u.heap.size a C.length c bw X Y w ht b D.length d wr) := hd
      have hzu : u.heap.size < wr.heap.size := Nat.lt_of_lt_of_le hz6 hbr.size
      have hjn : j = n := by omega
      subst hjn
      have e0 := hd.c0
      have e1 := hd.c1
      have e2 := hd.c2
      have e3 := hd.c3
      have e4 := hd.c4
      have e5 := hd.c5
      have e6 := hd.c6
      clear hd hbr HBr HD6 HB6 hz6 R6 HBt HLn nln hlt
      generalize wr = vw at *
      · go_wp2_with fail
        refine (HPA.out _ _ _ _ _ (HS.out.to HBu.out) (HT.out.to HBu.out) HCc.out).mono ?_
        rintro e v7 ⟨aA, rfl, _, hb⟩
        have HB7 : Hid (Below u.heap.size u v7) := below_to HBu.out hb
        have hd := HDu.out.below hzu hb
        have HD7 : Hid (Bd u.heap.size a C.length c bw X Y w ht b D.length d v7) := hd
        have hz7 : u.heap.size < v7.heap.size := Nat.lt_of_lt_of_le hzu hb.size
        clear hb HPA GA HDu HBu hzu e0 e1 e2 e3 e4 e5 e6
        have e0 := hd.c0
        have e1 := hd.c1
        have e2 := hd.c2
        have e3 := hd.c3
        have e4 := hd.c4
        have e5 := hd.c5
        have e6 := hd.c6
        clear hd
        go_wp2_with fail
        refine (HPL.out _ _ _ _ _ (HS.out.to HB7.out) (HT.out.to HB7.out) HCc.out).mono ?_
        rintro e v8 ⟨aL, rfl, haw, hb⟩
        have HST : Hid (Sl v8 .u8 aL LL) := haw.sl
        have HBT : Hid (Below u.heap.size u v8) := below_to HB7.out hb
        have HDT : Hid (Bd u.heap.size a C.length c bw X Y w ht b D.length d v8) := HD7.out.below hz7 hb
        have hzT : u.heap.size < v8.heap.size := Nat.lt_of_lt_of_le hz7 hb.size
        clear haw hb HPL HD7 HB7 hz7 e0 e1 e2 e3 e4 e5 e6
        rcases GL.out with ⟨he, hL⟩ | ⟨he, hgood⟩
        · have HBn : Hid (Below u.heap.size u v8) := HBT.out
          subst hL he
          go_wp2_with fail
          go_ret
          exact ⟨rfl, HBn.out⟩
        · subst he
          obtain ⟨w', h', X', Y', rw', rh', rfl, rfl, rfl, rfl, rfl, k0, k1, k2, k3, k4, k5, k6, k7, k8, k9, hout, hins⟩ := hgood.ex
          have HOut : Hid _ := hout
          have HIns : Hid _ := hins
          have HLl : Hid (LL.length = C.length) := hgood.len
          have HLb : Hid (Byt LL) := hgood.byt
          have HCl : Hid (C.length = w' * h') := k4
          rw [HLl.out]
          have hd := HDT.out
          have e0 := hd.c0
          have e1 := hd.c1
          have e2 := hd.c2
          have e3 := hd.c3
          have e4 := hd.c4
          have e5 := hd.c5
          have e6 := hd.c6
          have hdm : (rw' : Int) * (rh' : Int) = (D.length : Int) := by rw [k9, Int.natCast_mul]
          have hdd : ((D.length : Int) != (D.length : Int)) = false := by simp
          have hcc : ((C.length : Int) != (C.length : Int)) = false := by simp
          have hcb : C.length ≤ 64 * 64 := by rw [k4]; exact Nat.mul_le_mul k1 k3
          have hdb : D.length ≤ 64 * 64 := by rw [k9]; exact Nat.mul_le_mul (by omega) (by omega)
          have i0 : (1 : Int) ≤ (w' : Int) := by omega
          have i1 : (w' : Int) ≤ 64 := by omega
          have i2 : ¬ (w' : Int) = 0 := by omega
          have i3 : ¬ w' = 0 := by omega
          have i4 : (C.length : Int) ≤ 4096 := by omega
          have i5 : (D.length : Int) ≤ 4096 := by omega
          have i6 : IntKind.i64.wrap (D.length : Int) = (D.length : Int) := by rw [IntKind.wrap_i64]; omega
          have i7 : (rw' : Int) ≤ 64 := by omega
          have i8 : (rh' : Int) ≤ 64 := by omega
          have i9 : (X' : Int) ≤ 64 := by omega
          have i10 : (Y' : Int) ≤ 64 := by omega
          clear hd hgood hout hins hcb hdb k4 k9
          go_wp2_with fail
          clear e0 e1 e2 e3 e4 e5 e6
          go_loopw [15] (fun i wr => ∃ k : Nat, k ≤ C.length ∧ i = .int .i64 k ∧ Below v8.heap.size v8 wr) (fun i _ => C.length - (intOf i).toNat)
          case atStart => exact ⟨0, by omega, rfl, Below.refl _ _⟩
          case round =>
            obtain ⟨j, hj, rfl, hbr⟩ := hrel
            have HBr : Hid (Below v8.heap.size v8 wr) := hbr
            by_cases hlt : j < C.length
            · have HK : Hid (∀ t : World, Below v8.heap.size v8 t → Bd u.heap.size a C.length c (w' : Int) (X' : Int) (Y' : Int) (rw' : Int) (rh' : Int) b D.length d t) := fun t htt => HDT.out.below hzT htt
              obtain ⟨ba, oa, ha, _, ca⟩ := (HS.out.to HBT.out).form (by omega)
              obtain ⟨bl', ol, hbl, hll, cl⟩ := HST.out.form (by rw [HLl.out]; omega)
              subst ha hbl
              have HC : Hid (∀ t : World, Below v8.heap.size v8 t → t.cell? ⟨ba, oa + j, none⟩ = some (.int .u8 (C.getD j 0 : Nat))) := fun t htt => by
                obtain ⟨b', o', hb', _, ca'⟩ := ((HS.out.to HBT.out).to htt).form (by omega)
                simp only [Option.some.injEq, Addr.mk.injEq, and_true] at hb'
                obtain ⟨rfl, rfl⟩ := hb'
                exact ca' j hlt
              have HL : Hid (∀ t : World, Below v8.heap.size v8 t → t.cell? ⟨bl', ol + j, none⟩ = some (.int .u8 (LL.getD j 0 : Nat))) := fun t htt => by rw [newCell htt _ _ hll]; exact cl j (by rw [HLl.out]; exact hlt)
              have hd := HK.out wr hbr
              have e0 := hd.c0
              have e1 := hd.c1
              have e2 := hd.c2
              have e3 := hd.c3
              have e4 := hd.c4
              have e5 := hd.c5
              have e6 := hd.c6
              have hpx : j % w' < w' := Nat.mod_lt _ (by omega)
              have hpy : j / w' < h' := div_of (by rw [← HCl.out]; exact hlt)
              have ho := HOut.out j hlt
              have hi := HIns.out j hlt
              have m1 : (j : Int).tmod (w' : Int) = ((j % w' : Nat) : Int) := by rw [Int.tmod_eq_emod_of_nonneg (by omega)]; rfl
              have m2 : (j : Int).tdiv (w' : Int) = ((j / w' : Nat) : Int) := by rw [Int.tdiv_eq_ediv_of_nonneg (by omega)]; rfl
              have m5 : (j : Int) % (w' : Int) = ((j % w' : Nat) : Int) := by rfl
              have m6 : (j : Int) / (w' : Int) = ((j / w' : Nat) : Int) := by rfl
              generalize j % w' = px at *
              generalize j / w' = py at *
              have t1 : IntKind.i64.wrap (px : Int) = (px : Int) := by rw [IntKind.wrap_i64]; omega
              have t2 : IntKind.i64.wrap (py : Int) = (py : Int) := by rw [IntKind.wrap_i64]; omega
              have t3 : IntKind.i64.wrap ((px : Int) - (X' : Int)) = (px : Int) - (X' : Int) := by rw [IntKind.wrap_i64]; omega
              have t4 : IntKind.i64.wrap ((py : Int) - (Y' : Int)) = (py : Int) - (Y' : Int) := by rw [IntKind.wrap_i64]; omega
              have j0 : (0 : Int) ≤ (j : Int) := by omega
              have j1 : (j : Int) < (C.length : Int) := by omega
              have p1 : (px : Int) < 64 := by omega
              have p2 : (py : Int) < 64 := by omega
              clear hd ca cl hbr
              by_cases o1 : px < X'
              · as_aux_lemma =>
                  have q1 : (px : Int) - (X' : Int) < 0 := by omega
                  go_wp2_with fail
                  go_quiet (fail)
                  have hbd : Below v8.heap.size v8 (wr.drewN nq) := below_drewN HBr.out nq
                  have hd := HK.out _ hbd
                  have r0 := HL.out _ hbd
                  have r1 := HC.out _ hbd
                  rw [ho (by omega)] at r0
                  generalize C.getD j 0 = sv at *
                  have hss : ((sv : Int) != (sv : Int)) = false := by simp
                  clear ho hi
                  clear e0 e1 e2 e3 e4 e5 e6
                  have e0 := hd.c0
                  have e1 := hd.c1
                  have e2 := hd.c2
                  have e3 := hd.c3
                  have e4 := hd.c4
                  have e5 := hd.c5
                  have e6 := hd.c6
                  have HBd : Hid _ := hbd
                  generalize wr.drewN nq = vd at *
                  clear hd hbd
                  go_wp2_with fail
                  go_quiet (fail)
                  have HBn : Hid (Below v8.heap.size v8 (vd.drewN nq)) := below_drewN HBd.out nq
                  go_wp2_with fail
                  go_roundw
                  case rel => exact ⟨j + 1, by omega, by go_num, HBn.out⟩
                  case measure => simp [intOf]; omega
              by_cases o2 : X' + rw' ≤ px
              · as_aux_lemma =>
                  have q1 : (0 : Int) ≤ (px : Int) - (X' : Int) := by omega
                  have q2 : (rw' : Int) ≤ (px : Int) - (X' : Int) := by omega
                  go_wp2_with fail
                  go_quiet (fail)
                  have hbd : Below v8.heap.size v8 (wr.drewN nq) := below_drewN HBr.out nq
                  have hd := HK.out _ hbd
                  have r0 := HL.out _ hbd
                  have r1 := HC.out _ hbd
                  rw [ho (by omega)] at r0
                  generalize C.getD j 0 = sv at *
                  have hss : ((sv : Int) != (sv : Int)) = false := by simp
                  clear ho hi
                  clear e0 e1 e2 e3 e4 e5 e6
                  have e0 := hd.c0
                  have e1 := hd.c1
                  have e2 := hd.c2
                  have e3 := hd.c3
                  have e4 := hd.c4
                  have e5 := hd.c5
                  have e6 := hd.c6
                  have HBd : Hid _ := hbd
                  generalize wr.drewN nq = vd at *
                  clear hd hbd
                  go_wp2_with fail
                  go_quiet (fail)
                  have HBn : Hid (Below v8.heap.size v8 (vd.drewN nq)) := below_drewN HBd.out nq
                  go_wp2_with fail
                  go_roundw
                  case rel => exact ⟨j + 1, by omega, by go_num, HBn.out⟩
                  case measure => simp [intOf]; omega
              by_cases o3 : py < Y'
              · as_aux_lemma =>
                  have q1 : (0 : Int) ≤ (px : Int) - (X' : Int) := by omega
                  have q2 : (px : Int) - (X' : Int) < (rw' : Int) := by omega
                  have q3 : (py : Int) - (Y' : Int) < 0 := by omega
                  go_wp2_with fail
                  go_quiet (fail)
                  have hbd : Below v8.heap.size v8 (wr.drewN nq) := below_drewN HBr.out nq
                  have hd := HK.out _ hbd
                  have r0 := HL.out _ hbd
                  have r1 := HC.out _ hbd
                  rw [ho (by omega)] at r0
                  generalize C.getD j 0 = sv at *
                  have hss : ((sv : Int) != (sv : Int)) = false := by simp
                  clear ho hi
                  clear e0 e1 e2 e3 e4 e5 e6
                  have e0 := hd.c0
                  have e1 := hd.c1
                  have e2 := hd.c2
                  have e3 := hd.c3
                  have e4 := hd.c4
                  have e5 := hd.c5
                  have e6 := hd.c6
                  have HBd : Hid _ := hbd
                  generalize wr.drewN nq = vd at *
                  clear hd hbd
                  go_wp2_with fail
                  go_quiet (fail)
                  have HBn : Hid (Below v8.heap.size v8 (vd.drewN nq)) := below_drewN HBd.out nq
                  go_wp2_with fail
                  go_roundw
                  case rel => exact ⟨j + 1, by omega, by go_num, HBn.out⟩
                  case measure => simp [intOf]; omega
              by_cases o4 : Y' + rh' ≤ py
              · as_aux_lemma =>
                  have q1 : (0 : Int) ≤ (px : Int) - (X' : Int) := by omega
                  have q2 : (px : Int) - (X' : Int) < (rw' : Int) := by omega
                  have q3 : (0 : Int) ≤ (py : Int) - (Y' : Int) := by omega
                  have q4 : (rh' : Int) ≤ (py : Int) - (Y' : Int) := by omega
                  go_wp2_with fail
                  go_quiet (fail)
                  have hbd : Below v8.heap.size v8 (wr.drewN nq) := below_drewN HBr.out nq
                  have hd := HK.out _ hbd
                  have r0 := HL.out _ hbd
                  have r1 := HC.out _ hbd
                  rw [ho (by omega)] at r0
                  generalize C.getD j 0 = sv at *
                  have hss : ((sv : Int) != (sv : Int)) = false := by simp
                  clear ho hi
                  clear e0 e1 e2 e3 e4 e5 e6
                  have e0 := hd.c0
                  have e1 := hd.c1
                  have e2 := hd.c2
                  have e3 := hd.c3
                  have e4 := hd.c4
                  have e5 := hd.c5
                  have e6 := hd.c6
                  have HBd : Hid _ := hbd
                  generalize wr.drewN nq = vd at *
                  clear hd hbd
                  go_wp2_with fail
                  go_quiet (fail)
                  have HBn : Hid (Below v8.heap.size v8 (vd.drewN nq)) := below_drewN HBd.out nq
                  go_wp2_with fail
                  go_roundw
                  case rel => exact ⟨j + 1, by omega, by go_num, HBn.out⟩
                  case measure => simp [intOf]; omega
              as_aux_lemma =>
                obtain ⟨hlt2, hm1, hm2⟩ := hi (by omega)
                have d1 : (px : Int) - (X' : Int) = ((px - X' : Nat) : Int) := by omega
                have d2 : (py : Int) - (Y' : Int) = ((py - Y' : Nat) : Int) := by omega
                have d3 : px - X' < rw' := by omega
                have d4 : py - Y' < rh' := by omega
                rw [d1] at t3
                rw [d2] at t4
                generalize px - X' = dx at *
                generalize py - Y' = dy at *
                have d5 : (dy : Int) * (rw' : Int) = ((dy * rw' : Nat) : Int) := by rw [Int.natCast_mul]
                generalize dy * rw' = dr at *
                have d6 : (dr : Int) + (dx : Int) = ((dr + dx : Nat) : Int) := by omega
                have d8 : (dr : Int) ≤ 4096 := by omega
                generalize dr + dx = pp at *
                have q1 : (dx : Int) < (rw' : Int) := by omega
                have q2 : (dy : Int) < (rh' : Int) := by omega
                have q3 : (0 : Int) ≤ (dx : Int) := by omega
                have q4 : (0 : Int) ≤ (dy : Int) := by omega
                have q5 : (0 : Int) ≤ (pp : Int) := by omega
                have q6 : (pp : Int) < (D.length : Int) := by omega
                have q7 : IntKind.i64.wrap (dr : Int) = (dr : Int) := by rw [IntKind.wrap_i64]; omega
                have q8 : IntKind.i64.wrap (pp : Int) = (pp : Int) := by rw [IntKind.wrap_i64]; omega
                have hb0 := HLb.out j
                have hb1 := HBC.out j
                have hb2 := HBD.out pp
                have HBe : Hid (∀ t : World, Calls Tryd.prog 30 #[.int .u8 (LL.getD j 0 : Nat), .int .u8 (C.getD j 0 : Nat), .int .u8 (D.getD pp 0 : Nat)] t fun e w' => e = .returned (.bool true) ∧ w' = t) := fun t => between_yes hb0 hb1 hb2 ⟨hm1, hm2⟩
                obtain ⟨bb, ob, hbb, hlb, cb⟩ := (HT.out.to HBT.out).form (by omega)
                subst hbb
                have HD : Hid (∀ t : World, Below v8.heap.size v8 t → t.cell? ⟨bb, ob + pp, none⟩ = some (.int .u8 (D.getD pp 0 : Nat))) := fun t htt => by rw [newCell htt _ _ hlb]; exact cb pp hlt2
                clear ho hi hm1 hm2 cb hb0 hb1 hb2 o1 o2 o3 o4 hpx hpy
                generalize LL.getD j 0 = y0 at *
                generalize C.getD j 0 = y1 at *
                generalize D.getD pp 0 = y2 at *
                go_wp2_with fail
                go_quiet (fail)
                have hbd : Below v8.heap.size v8 (wr.drewN nq) := below_drewN HBr.out nq
                have hd := HK.out _ hbd
                have r0 := HL.out _ hbd
                have r1 := HC.out _ hbd
                have r2 := HD.out _ hbd
                clear e0 e1 e2 e3 e4 e5 e6
                have e0 := hd.c0
                have e1 := hd.c1
                have e2 := hd.c2
                have e3 := hd.c3
                have e4 := hd.c4
                have e5 := hd.c5
                have e6 := hd.c6
                have HBd : Hid _ := hbd
                generalize wr.drewN nq = vd at *
                clear hd hbd
                go_wp2_with fail
                go_quiet ((go_at_call 30; with_reducible exact Calls.quiet_of_same (HBe.out _)))
                have HBn : Hid (Below v8.heap.size v8 (vd.drewN nq)) := below_drewN HBd.out nq
                go_wp2_with fail
                go_roundw
                case rel => exact ⟨j + 1, by omega, by go_num, HBn.out⟩
                case measure => simp [intOf]; omega
            · have HBn : Hid (Below u.heap.size u wr) := below_to HBT.out hbr
              obtain rfl : j = C.length := by omega
              clear hbr
              go_wp2_with fail
              go_ret
              exact ⟨rfl, HBn.out⟩

end Go.Proofs.YtpideemiijhkgaaDoor
