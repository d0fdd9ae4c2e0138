/- DERIVED. The walk of PartParts. -/
import Derived.Test.YtjijgeeejhijhaaFd
namespace Go.Proofs.Ytjijgeeejhijhaa
open Go.RowKit

theorem cut_cell {kd q : Nat} {X Y : Int} {j : Nat} : cvF (cutR kd X Y (sd q)) X Y j = if 8 * ((j % 8 : Nat) : Int) < sd q ∧ 8 * ((j / 8 : Nat) : Int) < sd q then 1 else 0 := by
  unfold cvF
  rw [cutR_cnt]
  unfold inn
  simp only
  by_cases h : 8 * ((j % 8 : Nat) : Int) < sd q ∧ 8 * ((j / 8 : Nat) : Int) < sd q
  · rw [if_pos h, if_pos (by omega)]; rfl
  · rw [if_neg h, if_neg (by omega)]; rfl
/-- the state of PartParts' loops -/
structure Pw (W : World) (X Y S : Int) (t : World) : Prop where
  fr : Fr t W.heap.size X Y S S
  bel : Below W.heap.size W t
  sz : W.heap.size < t.heap.size
theorem Pw.to {W : World} {X Y S : Int} {t t' : World} (h : Pw W X Y S t) (hb : Below t.heap.size t t') : Pw W X Y S t' :=
  ⟨h.fr.below hb h.sz, h.bel.trans (hb.mono (Nat.le_of_lt h.sz)), Nat.lt_of_lt_of_le h.sz hb.size⟩
set_option maxRecDepth 100000 in
set_option maxHeartbeats 16000000 in
theorem parts_core (hcov : Cov) {W : World} {x y a b sz : Int} : Calls Try.prog 6 #[.agg #[.int .i64 x, .int .i64 y, .int .i64 a, .int .i64 b], .int .i64 sz] W fun e w' => e = .returned (.bool true) ∧ Below W.heap.size W w' := by
  have HC : Hid Cov := hcov
  have K2 : Hid (Fr (W.alloc (.cells #[.int .i64 x, .int .i64 y, .int .i64 a, .int .i64 b] 23)) W.heap.size x y a b) := Fr.box _ _ _ _ _
  have KB : Hid (Below W.heap.size W (W.alloc (.cells #[.int .i64 x, .int .i64 y, .int .i64 a, .int .i64 b] 23))) := from_alloc _ _
  have KZ : Hid (W.heap.size < (W.alloc (.cells #[.int .i64 x, .int .i64 y, .int .i64 a, .int .i64 b] 23)).heap.size) := by show _ < _; simp
  have KF : Hid (∀ j, (W.alloc (.cells #[.int .i64 x, .int .i64 y, .int .i64 a, .int .i64 b] 23)).frozen? ⟨W.heap.size, j, none⟩ = false) := fun j => by first | (simp [go_sem]; done) | (simp [World.frozen?, go_sem]; done)
  obtain ⟨s0, s1⟩ := emod_in sz 4 (by omega)
  obtain ⟨q, hq⟩ : ∃ q : Nat, sz % 4 = (q : Int) := ⟨(sz % 4).toNat, by omega⟩
  have hq4 : q < 4 := by omega
  have HSz : Hid (∀ t, Calls Try.prog 21 #[.int .i64 sz, .int .i64 4] t fun e w' => e = .returned (.int .i64 (q : Int)) ∧ t = w') := fun t => by rw [← hq]; exact bring_any (by omega) (by omega)
  have hsd := sd_cases hq4
  have hty := tyN_sd hq4
  have hsv : ([8, 16, 32, 64] : List Int).getD q 0 = sd q := by
    match q, hq4 with
    | 0, _ | 1, _ | 2, _ | 3, _ => rfl
  have H0 : Hid (∀ t, Calls Try.prog 21 #[.int .i64 x, .int .i64 129] t fun e w' => e = .returned (.int .i64 (x % 129)) ∧ t = w') := fun t => bring_any (by omega) (by omega)
  have H1 : Hid (∀ t, Calls Try.prog 21 #[.int .i64 y, .int .i64 129] t fun e w' => e = .returned (.int .i64 (y % 129)) ∧ t = w') := fun t => bring_any (by omega) (by omega)
  obtain ⟨i0, i0'⟩ := emod_in x 129 (by omega)
  obtain ⟨i1, i1'⟩ := emod_in y 129 (by omega)
  generalize x % 129 = n0 at *
  generalize y % 129 = n1 at *
  have s3 : sd q = 64 ∨ sd q = 32 ∨ sd q = 16 ∨ sd q = 8 := by omega
  have hrg : rgn (8 * n0) (8 * n1) (sd q) (sd q) = true := rgn_mk s3 (by omega) (by omega)
  have HTy : Hid (∀ t, Calls Try.prog 9 #[.int .i64 (sd q)] t fun e w' => e = .returned (.tuple #[.int .i64 (tyN (sd q)), .int .i64 0]) ∧ t = w') := fun t => by have := types_any (w := t) (s := sd q); rwa [erS_0 s3] at this
  have htn := tyN_in s3
  have HCu : Hid (∀ kd : Nat, (kd : Int) < tyN (sd q) → ∀ t, Calls Try.prog 11 #[.agg #[.int .i64 (8 * n0), .int .i64 (8 * n1), .int .i64 (sd q), .int .i64 (sd q)], .int .i64 (kd : Int)] t fun e w' => Cq t w' e (cutR kd (8 * n0) (8 * n1) (sd q))) := fun kd hk t => cuts_ok hrg hk
  have HCn : Hid (∀ t, Calls Try.prog 11 #[.agg #[.int .i64 (8 * n0), .int .i64 (8 * n1), .int .i64 (sd q), .int .i64 (sd q)], .int .i64 (tyN (sd q))] t fun e w' => Cn t w' e) := fun t => cuts_no (fun h => by have := h.2.2; omega)
  have HCv : Hid (∀ kd : Nat, (kd : Int) < tyN (sd q) → ∀ t av c, Sr t av (cutR kd (8 * n0) (8 * n1) (sd q)) → Calls Try.prog 20 #[.agg #[.int .i64 (8 * n0), .int .i64 (8 * n1), .int .i64 (sd q), .int .i64 (sd q)], .slice av (cutR kd (8 * n0) (8 * n1) (sd q)).length c] t fun e w' => e = .returned (.tuple #[.agg (is (tf (cvF (cutR kd (8 * n0) (8 * n1) (sd q)) (8 * n0) (8 * n1)))).toArray, .bool true]) ∧ Below t.heap.size t w') := fun kd hk t av c ht => by
    have h4 := (prt_len kd).2
    exact hcov ht (by rw [cutR_len]; omega) (by omega) (by omega) (by omega) (cutR_gd hq4 (by rw [← hty]; exact hk))
  have HCo : Hid (∀ kd j : Nat, cvF (cutR kd (8 * n0) (8 * n1) (sd q)) (8 * n0) (8 * n1) j = if 8 * ((j % 8 : Nat) : Int) < sd q ∧ 8 * ((j / 8 : Nat) : Int) < sd q then 1 else 0) := fun kd j => cut_cell
  have HSv : Hid (∀ t g, Ri 3 t g [8, 16, 32, 64] → t.cell? ⟨g, q, none⟩ = some (.int .i64 (sd q))) := fun t g hr => by rw [hr.cell q (by simpa using hq4), hsv]
  obtain ⟨w8, hw8, hw9⟩ : ∃ w8 : Nat, (sd q).tdiv 8 = (w8 : Int) ∧ sd q = 8 * (w8 : Int) := ⟨(sd q / 8).toNat, by rw [Int.tdiv_eq_ediv_of_nonneg (by omega)]; omega, by omega⟩
  have w81 : w8 ≤ 8 := by omega
  generalize sd q = S at *
  generalize tyN S = tn at *
  have q0 : (0 : Int) ≤ (q : Int) := by omega
  have q1 : (q : Int) < 4 := by omega
  have HW9 : Hid (S = 8 * (w8 : Int)) := hw9
  have hS : 8 ≤ S ∧ S ≤ 64 := by omega
  clear hcov hq hsd hty hsv s3 hrg hw9
  go_enter Try.func6, Try.ntmps6
  go_wp2_with fail
  generalize (W.alloc (.cells #[.int .i64 x, .int .i64 y, .int .i64 a, .int .i64 b] 23)) = V0 at *
  refine (works_true _).mono ?_
  rintro e V1 ⟨rfl, hb⟩
  have M2 : Hid (Fr V1 W.heap.size x y a b) := K2.out.below hb KZ.out
  have MF : Hid (∀ j, V1.frozen? ⟨W.heap.size, j, none⟩ = false) := fun j => by rw [newFrozen hb _ _ KZ.out]; exact KF.out j
  have MB : Hid (Below W.heap.size W V1) := below_to KB.out (hb.mono (by have := KZ.out; omega))
  have MZ : Hid (W.heap.size < V1.heap.size) := Nat.lt_of_lt_of_le KZ.out hb.size
  clear hb K2 KB KZ KF
  have c0 := HSv.out (V1.alloc (.cells #[.int .i64 8, .int .i64 16, .int .i64 32, .int .i64 64] 3)) V1.heap.size (Ri.built 3 V1 [8, 16, 32, 64] rfl)
  have hba := from_alloc V1 (.cells #[.int .i64 8, .int .i64 16, .int .i64 32, .int .i64 64] 3)
  have N2 : Hid (Fr (V1.alloc (.cells #[.int .i64 8, .int .i64 16, .int .i64 32, .int .i64 64] 3)) W.heap.size x y a b) := M2.out.below hba MZ.out
  have NF : Hid (∀ j, (V1.alloc (.cells #[.int .i64 8, .int .i64 16, .int .i64 32, .int .i64 64] 3)).frozen? ⟨W.heap.size, j, none⟩ = false) := fun j => by rw [newFrozen hba _ _ MZ.out]; exact MF.out j
  have NB : Hid (Below W.heap.size W (V1.alloc (.cells #[.int .i64 8, .int .i64 16, .int .i64 32, .int .i64 64] 3))) := below_to MB.out (hba.mono (by have := MZ.out; omega))
  have NZ : Hid (W.heap.size < (V1.alloc (.cells #[.int .i64 8, .int .i64 16, .int .i64 32, .int .i64 64] 3)).heap.size) := Nat.lt_of_lt_of_le MZ.out hba.size
  clear hba M2 MF MB MZ
  go_upto_region 4 with (refine (HSz.out _).mono ?_; rintro e w5 ⟨rfl, rfl⟩)
  clear c0
  generalize (V1.alloc (.cells #[.int .i64 8, .int .i64 16, .int .i64 32, .int .i64 64] 3)) = V2 at *
  have w0 : IntKind.i64.wrap (8 * n0) = 8 * n0 := by rw [IntKind.wrap_i64]; omega
  have w1 : IntKind.i64.wrap (8 * n1) = 8 * n1 := by rw [IntKind.wrap_i64]; omega
  have W0 : Hid (IntKind.i64.wrap (8 * n0) = 8 * n0) := w0
  have W1 : Hid (IntKind.i64.wrap (8 * n1) = 8 * n1) := w1
  clear w0 w1
  go_cut [5] (fun s5 T => s5 = .int .i64 S ∧ Pw W (8 * n0) (8 * n1) S T)
  case first =>
    obtain ⟨r0, r1, r2, r3⟩ := N2.out
    have HR : Hid (∀ t, Below V2.heap.size V2 t → Fr t W.heap.size x y a b ∧ (∀ j, t.frozen? ⟨W.heap.size, j, none⟩ = false)) := fun t ht => ⟨N2.out.below ht NZ.out, fun j => by rw [newFrozen ht _ _ NZ.out]; exact NF.out j⟩
    have HD : Hid (Below V2.heap.size V2 V2.drew) := below_drew (Below.refl _ _)
    have HP : Hid (∀ t, Below V2.heap.size V2 t → Pw W (8 * n0) (8 * n1) S ((((t.setCell ⟨W.heap.size, 0, none⟩ (.int .i64 (8 * n0))).setCell ⟨W.heap.size, 1, none⟩ (.int .i64 (8 * n1))).setCell ⟨W.heap.size, 2, none⟩ (.int .i64 S)).setCell ⟨W.heap.size, 3, none⟩ (.int .i64 S))) := fun t ht => by
      have hb := NB.out.trans (ht.mono (by have := NZ.out; omega))
      exact ⟨(HR.out t ht).1.set4 _ _ _ _, below_set (below_set (below_set (below_set hb (by simp) _) (by simp) _) (by simp) _) (by simp) _, by have := NZ.out; have := ht.size; simp; omega⟩
    have HPd : Hid (∀ t, Pw W (8 * n0) (8 * n1) S t → Pw W (8 * n0) (8 * n1) S t.drew) := fun t h => ⟨⟨h.fr.r0, h.fr.r1, h.fr.r2, h.fr.r3⟩, below_drew h.bel, h.sz⟩
    go_region_with (first
      | (go_at_call 21; first | ((with_reducible refine (H0.out _).mono ?_); rintro e w5 ⟨rfl, rfl⟩) | ((with_reducible refine (H1.out _).mono ?_); rintro e w5 ⟨rfl, rfl⟩))
      | (go_at_call 22; (with_reducible refine rect_any.mono ?_); rintro e wx ⟨rfl, hbx⟩; have hbX := (by first | exact below_to HD.out hbx | exact hbx : Below V2.heap.size V2 wx); obtain ⟨⟨z0, z1, z2, z3⟩, hf4⟩ := HR.out _ hbX; have f40 := hf4 0; have f41 := hf4 1; have f42 := hf4 2; have f43 := hf4 3; clear hf4))
    all_goals
      rw [W0.out, W1.out]
      go_wp2_with fail
      go_meet
      first
        | exact ⟨rfl, HP.out _ hbX⟩
        | exact ⟨rfl, HPd.out _ (HP.out _ hbX)⟩
        | exact ⟨rfl, HP.out _ (below_drew hbX)⟩
  obtain ⟨rfl, hpw⟩ := hcut
  rename World => V3
  have P3 : Hid (Pw W (8 * n0) (8 * n1) S V3) := hpw
  clear hpw N2 NF NB NZ H0 H1 W0 W1 HSz HSv
  generalize 8 * n0 = X at *
  generalize 8 * n1 = Y at *
  obtain ⟨t0, t1⟩ := htn
  go_wp2_with (refine (HTy.out _).mono ?_; rintro e w5 ⟨rfl, rfl⟩)
  go_loopw [8] (fun i t => ∃ k : Nat, (k : Int) ≤ tn ∧ i = .int .i64 k ∧ Pw W X Y S t) (fun i _ => (tn - intOf i).toNat)
  case atStart => exact ⟨0, by omega, rfl, P3.out⟩
  case round =>
    clear P3
    obtain ⟨k, hk, rfl, hpw⟩ := hrel
    have Q3 : Hid (Pw W X Y S wr) := hpw
    clear hpw
    obtain ⟨r0, r1, r2, r3⟩ := Q3.out.fr
    by_cases hlt : (k : Int) < tn
    · have HCuk : Hid (∀ t, Calls Try.prog 11 #[.agg #[.int .i64 X, .int .i64 Y, .int .i64 S, .int .i64 S], .int .i64 (k : Int)] t fun e w' => Cq t w' e (cutR k X Y S)) := HCu.out k hlt
      have HCvk : Hid (∀ t av c, Sr t av (cutR k X Y S) → Calls Try.prog 20 #[.agg #[.int .i64 X, .int .i64 Y, .int .i64 S, .int .i64 S], .slice av (cutR k X Y S).length c] t fun e w' => e = .returned (.tuple #[.agg (is (tf (cvF (cutR k X Y S) X Y))).toArray, .bool true]) ∧ Below t.heap.size t w') := HCv.out k hlt
      have HCok : Hid (∀ j, cvF (cutR k X Y S) X Y j = if 8 * ((j % 8 : Nat) : Int) < S ∧ 8 * ((j / 8 : Nat) : Int) < S then 1 else 0) := HCo.out k
      have HK : Hid ((k : Int) < tn) := hlt
      have HLn : Hid ((tf (cvF (cutR k X Y S) X Y)).length = 64) := tf_len _
      have HGet : Hid (∀ j, j < 64 → (tf (cvF (cutR k X Y S) X Y)).getD j 0 = cvF (cutR k X Y S) X Y j) := fun j hj => tf_get _ hj
      generalize cutR k X Y S = l at *
      generalize tf (cvF l X Y) = LL at *
      have k0 : (0 : Int) ≤ (k : Int) := by omega
      go_wp2_with fail
      refine (HCuk.out _).mono ?_
      rintro e V4 ⟨g4, rfl, hrow, _, hb⟩
      have S3 : Hid (Pw W X Y S V4) := Q3.out.to hb
      have SR : Hid (Sr V4 (some ⟨g4, 0, none⟩) l) := hrow.sr
      clear hrow hb Q3 r0 r1 r2 r3
      obtain ⟨r0, r1, r2, r3⟩ := S3.out.fr
      go_wp2_with fail
      refine (HCvk.out _ _ _ SR.out).mono ?_
      rintro e V5 ⟨rfl, hb⟩
      have T3 : Hid (Pw W X Y S V5) := S3.out.to hb
      clear hb S3 SR r0 r1 r2 r3
      have hz : Ri 41 (V5.alloc (.cells (is (List.replicate 64 0)).toArray 41)) V5.heap.size (List.replicate 64 0) := ⟨heap_alloc_new _ _⟩
      obtain ⟨a8, h9, h10, h11, h12, h13⟩ := setCells_is V5.heap.size LL _ 0 _ hz (by rw [HLn.out]; simp)
      have h8 : Ri 41 ((V5.alloc (.cells (is (List.replicate 64 0)).toArray 41)).setCells V5.heap.size 0 (is LL)) V5.heap.size LL := by
        have e : (List.replicate 64 (0 : Int)).take 0 ++ LL ++ (List.replicate 64 (0 : Int)).drop (0 + LL.length) = LL := by rw [List.drop_eq_nil_of_le (by rw [HLn.out]; simp)]; simp
        rw [e] at a8; exact a8
      have hTh : Hid ((V5.alloc (.cells (is (List.replicate 64 0)).toArray 41)).there V5.heap.size 0 (is LL).toArray.size) := by
        have := ri_there hz
        rw [List.length_replicate] at this
        show World.there _ _ _ _
        rw [show (is LL).toArray.size = 64 from by simp [is_length, HLn.out]]; exact this
      have hbz : Below V5.heap.size V5 ((V5.alloc (.cells (is (List.replicate 64 0)).toArray 41)).setCells V5.heap.size 0 (is LL)) := by
        have hb := from_alloc V5 (.cells (is (List.replicate 64 0)).toArray 41)
        exact ⟨h10.trans hb.os, h11.trans hb.tape, h12.trans hb.output, by rw [h13]; exact hb.size, fun i hi => by rw [h9 i (by omega)]; exact hb.block i hi⟩
      have U3 : Hid (Pw W X Y S ((V5.alloc (.cells (is (List.replicate 64 0)).toArray 41)).setCells V5.heap.size 0 (is LL))) := T3.out.to hbz
      have UR : Hid (Ri 41 ((V5.alloc (.cells (is (List.replicate 64 0)).toArray 41)).setCells V5.heap.size 0 (is LL)) V5.heap.size LL) := h8
      clear hz a8 h9 h10 h11 h12 h13 h8 hbz T3
      go_upto_region 16 with (refine wpList_store_mid (by rfl) 41 _ _ (by rfl) V5.heap.size 0 (is LL).toArray (by rfl) (by rfl) hTh.out (by rw [Try.info41]; simp [is_length, HLn.out]) (all_oneCell_toArray (is_one LL)) ?_)
      clear hTh
      generalize hp10 : V5.heap.size = p10 at *
      go_loopw [13] (fun i t => ∃ j : Nat, j ≤ 64 ∧ i = .int .i64 j ∧ Pw W X Y S t ∧ Ri 41 t p10 LL) (fun i _ => 64 - (intOf i).toNat)
      case atStart => exact ⟨0, by omega, rfl, U3.out, UR.out⟩
      case round =>
        clear U3 UR hp10
        obtain ⟨j, hj, rfl, h3, hr⟩ := hrel
        have A3 : Hid (Pw W X Y S wr) := h3
        have AR : Hid (Ri 41 wr p10 LL) := hr
        clear h3
        by_cases hlj : j < 64
        · have hcell := hr.cell j (by rw [HLn.out]; exact hlj)
          rw [HGet.out j hlj, HCok.out j] at hcell
          have e1 : (j : Int).tmod 8 = ((j % 8 : Nat) : Int) := by rw [Int.tmod_eq_emod_of_nonneg (by omega)]; omega
          have e2 : (j : Int).tdiv 8 = ((j / 8 : Nat) : Int) := by rw [Int.tdiv_eq_ediv_of_nonneg (by omega)]; omega
          have e1' : (j : Int) % 8 = ((j % 8 : Nat) : Int) := by omega
          have e2' : (j : Int) / 8 = ((j / 8 : Nat) : Int) := by omega
          generalize j % 8 = m8 at *
          generalize j / 8 = d8 at *
          have hw9 := HW9.out
          have j0 : (0 : Int) ≤ (j : Int) := by omega
          have j1 : (j : Int) < 64 := by omega
          clear hr
          by_cases c1 : (m8 : Int) < (w8 : Int)
          · by_cases c2 : (d8 : Int) < (w8 : Int)
            · rw [if_pos (by omega)] at hcell
              clear hw9
              go_wp2_with fail
              go_roundw
              case rel => exact ⟨j + 1, by omega, by go_num, A3.out, AR.out⟩
              case measure => simp [intOf]; omega
            · rw [if_neg (by omega)] at hcell
              clear hw9
              go_wp2_with fail
              go_roundw
              case rel => exact ⟨j + 1, by omega, by go_num, A3.out, AR.out⟩
              case measure => simp [intOf]; omega
          · rw [if_neg (by omega)] at hcell
            clear hw9
            go_wp2_with fail
            go_roundw
            case rel => exact ⟨j + 1, by omega, by go_num, A3.out, AR.out⟩
            case measure => simp [intOf]; omega
        · obtain rfl : j = 64 := by omega
          have hk1 := HK.out
          clear hr
          go_wp2_with fail
          go_roundw
          case rel => exact ⟨k + 1, by have := HK.out; omega, by go_num, A3.out⟩
          case measure => simp [intOf]; omega
    · obtain rfl : tn = (k : Int) := by omega
      go_wp2_with fail
      refine (HCn.out _).mono ?_
      rintro e V6 ⟨rfl, hb⟩
      have HB : Hid (Below W.heap.size W V6) := (Q3.out.to hb).bel
      clear hb
      go_wp2_with fail
      go_ret
      exact ⟨rfl, HB.out⟩
end Go.Proofs.Ytjijgeeejhijhaa
