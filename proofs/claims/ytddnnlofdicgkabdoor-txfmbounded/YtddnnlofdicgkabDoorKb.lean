/- DERIVED. The walk of TxfmBounded. -/
import Derived.Test.YtddnnlofdicgkabDoorKa
import Derived.Deep.DeepCutAuto
import Derived.Deep.CutRange
namespace Go.Proofs.YtddnnlofdicgkabDoor
open Go.RowKit

theorem kin_get {n : Nat} {y : Nat} (hy : y < (tys (n : Int)).length) : ∃ kk : Nat, (tys (n : Int)).getD y 0 = (kk : Int) ∧ (kk : Int) ∈ tys (n : Int) := by
  have hm : (tys (n : Int)).getD y 0 ∈ tys (n : Int) := by
    rw [List.getD_eq_getElem?_getD, List.getElem?_eq_getElem hy]
    exact List.getElem_mem hy
  have := tys_lt hm
  exact ⟨((tys (n : Int)).getD y 0).toNat, by omega, by rw [Int.toNat_of_nonneg (by omega)]; exact hm⟩
theorem mx_clip {M : Nat} {D : List Int} (h : D.length = M) : mx M M (fun j => clp (D.getD j 0)) zf = cl16 D := ext_getD (by rw [mx_len, cl16_len, h]) fun j hj => by
  rw [mx_len] at hj
  rw [mx_get _ _ _ _ _ hj, if_pos hj, cl16_get]
theorem cl16_mst (D : List Int) : Mst (cl16 D) 1048576 := fun j _ => by rw [cl16_get]; have := clp_le (D.getD j 0); omega
theorem zero_mst (m : Nat) : Mst (List.replicate m 0) 1048576 := fun j hj => by
  rw [List.length_replicate] at hj
  simp [hj]

set_option maxRecDepth 100000 in
set_option maxHeartbeats 4000000 in
theorem bounded_walk {w : World} {a : Option Addr} {c : Nat} {C : List Int} {which : Int} (hq : Qt w) (hs : Si w a C) (hl : C.length ≤ 17592186043904) :
    Calls Tryd.prog 3 #[.slice a C.length c, .int .i64 which] w fun e w' => e = .returned (.bool true) ∧ Below w.heap.size w w' := by
  have HQ : Hid (Qt w) := hq
  have HS : Hid (Si w a C) := hs
  clear hq hs
  obtain ⟨r, hr5, her⟩ : ∃ r : Nat, r < 5 ∧ which % 5 = (r : Int) := ⟨(which % 5).toNat, by omega, by omega⟩
  have HE5 : Hid (which % 5 = (r : Int)) := her
  clear her
  obtain ⟨n, hn, he⟩ : ∃ n : Nat, n ∈ [4, 8, 16, 32, 64] ∧ ([4, 8, 16, 32, 64] : List Int).getD r 0 = (n : Int) := by
    have : r = 0 ∨ r = 1 ∨ r = 2 ∨ r = 3 ∨ r = 4 := by omega
    rcases this with rfl | rfl | rfl | rfl | rfl
    · exact ⟨4, by decide, rfl⟩
    · exact ⟨8, by decide, rfl⟩
    · exact ⟨16, by decide, rfl⟩
    · exact ⟨32, by decide, rfl⟩
    · exact ⟨64, by decide, rfl⟩
  have hn4 : 4 ≤ n ∧ n ≤ 64 := by simp at hn; omega
  obtain ⟨L, hL⟩ : ∃ L, L = n * n := ⟨_, rfl⟩
  obtain ⟨s, hs⟩ : ∃ s, s = min n 32 := ⟨_, rfl⟩
  obtain ⟨M, hM⟩ : ∃ M, M = s * s := ⟨_, rfl⟩
  have h2 : n * n ≤ 64 * 64 := Nat.mul_le_mul hn4.2 hn4.2
  have h4 : s * s ≤ 64 * 64 := Nat.mul_le_mul (by omega) (by omega)
  rw [← hL] at h2
  rw [← hM] at h4
  have e1 : (n : Int) * (n : Int) = (L : Int) := by rw [hL, Int.natCast_mul]
  have e2 : (s : Int) * (s : Int) = (M : Int) := by rw [hM, Int.natCast_mul]
  have n64 : (n : Int) ≤ 64 := by omega
  have n4 : (4 : Int) ≤ (n : Int) := by omega
  have s4 : ¬ (s : Int) < 4 := by omega
  have s32 : ¬ (32 : Int) < (s : Int) := by omega
  have s32' : (s : Int) ≤ 32 := by omega
  have s0' : (0 : Int) ≤ (s : Int) := by omega
  have L1 : (L : Int) ≤ 4096 := by omega
  have M1 : (M : Int) ≤ 4096 := by omega
  have L0 : (0 : Int) ≤ (L : Int) := by omega
  have M0 : (0 : Int) ≤ (M : Int) := by omega
  have r5 : (r : Int) < 5 := by omega
  have r0 : (0 : Int) ≤ (r : Int) := by omega
  have hmkM := mk_ints (n := M) (by omega)
  have hmkL := mk_ints (n := L) (by omega)
  have HL : Hid (L = n * n) := hL
  have HSs : Hid (s = min n 32) := hs
  have HMM : Hid (M = s * s) := hM
  have HL1 : Hid (L ≤ 4096) := h2
  have HM1 : Hid (M ≤ 4096) := h4
  have HN : Hid (n ≤ 64) := hn4.2
  have HS64 : Hid (s ≤ 64) := by show _ ≤ _; omega
  have HK0 : Hid (((0 : Nat) : Int) ∈ tys (n : Int)) := kin0 hn
  have HSd : Hid (∀ v : World, Calls Tryd.prog 7 #[.int .i64 (n : Int)] v fun e w' => e = .returned (.tuple #[.int .i64 (s : Int), .int .i64 0]) ∧ Below v.heap.size v w') := fun v => by
    have := side_any (w := v) (n := (n : Int))
    rw [(sd_of HK0.out).1, (sd_of HK0.out).2, ← hs] at this
    exact this
  have HTl : Hid ((tys (n : Int)).length ≤ 10) := tys_len _
  have tl : (((tys (n : Int)).length : Nat) : Int) ≤ 10 := by have := HTl.out; omega
  have HRr : Hid (r < 5) := hr5
  have HEr : Hid (([4, 8, 16, 32, 64] : List Int).getD r 0 = (n : Int)) := he
  clear hn he hn4 hL hs hM h2 h4 hr5
  go_enter Tryd.func3, Tryd.ntmps3
  go_wp2_with fail
  refine (works_any HQ.out).mono ?_
  rintro e w1 ⟨rfl, hb1⟩
  have HB1 : Hid (Below w.heap.size w w1) := hb1
  clear hb1
  go_wp2_with fail
  have HB2 : Hid (Below w.heap.size w (w1.alloc (.cells #[.int .i64 4, .int .i64 8, .int .i64 16, .int .i64 32, .int .i64 64] 3))) := to_alloc HB1.out _
  have hR2 : Ri 3 (w1.alloc (.cells #[.int .i64 4, .int .i64 8, .int .i64 16, .int .i64 32, .int .i64 64] 3)) w1.heap.size [4, 8, 16, 32, 64] := Ri.built 3 w1 [4, 8, 16, 32, 64] rfl
  have c0 := hR2.cell r (by simpa using HRr.out)
  rw [HEr.out] at c0
  clear hR2
  generalize (w1.alloc (.cells #[.int .i64 4, .int .i64 8, .int .i64 16, .int .i64 32, .int .i64 64] 3)) = w2 at *
  generalize w1.heap.size = g0 at *
  refine (bring_any (by omega) (by omega)).mono ?_
  rintro e w2' ⟨rfl, rfl⟩
  rw [HE5.out]
  go_wp2_with fail
  clear c0
  refine (HSd.out _).mono ?_
  rintro e w3 ⟨rfl, hb3⟩
  have HB3 : Hid (Below w.heap.size w w3) := below_to HB2.out hb3
  clear hb3
  go_wp2_with fail
  refine (types_any (w := w3) (n := (n : Int))).mono ?_
  rintro e w4 ⟨ak, ck, rfl, ho4, hb4⟩
  have HO4 : Hid (Si w4 ak (tys (n : Int))) := ho4.si
  have HB4 : Hid (Below w.heap.size w w4) := below_to HB3.out hb4
  clear ho4 hb4
  go_wp2_with fail
  refine (block_any (n := s) (L := M) (M := 1048576) (HS.out.to HB4.out) (by omega) HS64.out HMM.out (by omega) (by omega)).mono ?_
  rintro e w5 ⟨D, rfl, hD, hDm, hr5, hb5⟩
  have HDl : Hid (D.length = M) := hD
  have HDm : Hid (Mst D 1048576) := hDm
  have HG5 : Hid (Ri 3 w5 w4.heap.size D) := hr5
  have HO5 : Hid (Si w5 ak (tys (n : Int))) := HO4.out.to hb5
  have HB5 : Hid (Below w.heap.size w w5) := below_to HB4.out hb5
  clear hD hDm hr5 hb5
  generalize w4.heap.size = gg at *
  go_wp2_with fail
  have HC6 : Hid (Ri 3 (w5.alloc (.cells (madeCells #[.int .i64 0] M) 3)) w5.heap.size (mx M 0 (fun j => clp (D.getD j 0)) zf)) := by
    show Ri _ _ _ _
    rw [← mx_zero M _ zf (fun _ _ => rfl)]
    exact Ri.made 3 w5 M rfl
  have HG6 : Hid (Ri 3 (w5.alloc (.cells (madeCells #[.int .i64 0] M) 3)) gg D) := HG5.out.to (from_alloc _ _)
  have HO6 : Hid (Below w5.heap.size w5 (w5.alloc (.cells (madeCells #[.int .i64 0] M) 3))) := from_alloc _ _
  have HGg : Hid (gg < w5.heap.size) := HG5.out.lt
  generalize (w5.alloc (.cells (madeCells #[.int .i64 0] M) 3)) = w6 at *
  generalize hgc : w5.heap.size = gc at *
  have HGc : Hid (w5.heap.size = gc) := hgc
  clear hgc
  go_loopw [11] (fun i wv => ∃ j : Nat, j ≤ M ∧ i = .int .i64 j ∧ Ri 3 wv gc (mx M j (fun j => clp (D.getD j 0)) zf) ∧ Ri 3 wv gg D ∧ Below gc w5 wv) (fun i _ => M - (intOf i).toNat)
  case atStart => exact ⟨0, by omega, rfl, HC6.out, HG6.out, HO6.out⟩
  case round =>
    clear HC6 HG6 HO6
    obtain ⟨j, hj, rfl, hc, hg, hb⟩ := hrel
    have j0 : (0 : Int) ≤ (j : Int) := by omega
    by_cases hjM : j < M
    · have j1 : (j : Int) < (M : Int) := by omega
      have d0 := hg.cell j (by rw [HDl.out]; exact hjM)
      have d1 := hc.thaw j
      have d2 := hc.cell j (by rw [mx_len]; exact hjM)
      have HJ : Hid (j < M) := hjM
      have HW : Hid (∀ v, v = clp (D.getD j 0) → Ri 3 (wr.setCell ⟨gc, j, none⟩ (.int .i64 v)) gc (mx M (j + 1) (fun j => clp (D.getD j 0)) zf)) := by
        rintro v rfl
        rw [← mx_set M j (fun j => clp (D.getD j 0)) zf hjM]
        exact hc.set j _
      have HGn : Hid (∀ v, Ri 3 (wr.setCell ⟨gc, j, none⟩ v) gg D) := fun v => hg.far (by have := HGg.out; simp; omega) _
      have HBn : Hid (∀ v, Below gc w5 (wr.setCell ⟨gc, j, none⟩ v)) := fun v => below_set hb (by simp) _
      generalize D.getD j 0 = dv at d0 HW
      clear hc hg hb hjM hj
      go_wp2_with fail
      all_goals
        have hjM := HJ.out
        go_roundw
        case rel => exact ⟨j + 1, by omega, by go_num, HW.out _ (by unfold clp; omega), HGn.out _, HBn.out _⟩
        case measure => simp [intOf]; omega
    · obtain rfl : j = M := by omega
      rw [mx_clip HDl.out] at hc
      have HCl : Hid (∀ v, Below wr.heap.size wr v → Ri 3 v gc (cl16 D)) := fun v hv => hc.to hv
      have HGr : Hid (∀ v, Below wr.heap.size wr v → Ri 3 v gg D) := fun v hv => hg.to hv
      have HBv : Hid (∀ v, Below wr.heap.size wr v → Below w.heap.size w v) := fun v hv => below_to (HB5.out.trans (hb.mono (by have := HB5.out.size; have := HGc.out; omega))) hv
      have HKi : Hid (∀ v, Below wr.heap.size wr v → Si v ak (tys (n : Int))) := fun v hv => (HO5.out.to (by rw [HGc.out]; exact hb)).to hv
      clear hc hg hb
      go_wp2_with fail
      generalize wr = V at *
      --LOOP2
      go_loopw [12] (fun i wv => ∃ y : Nat, y ≤ (tys (n : Int)).length ∧ i = .int .i64 y ∧ Below V.heap.size V wv) (fun i _ => (tys (n : Int)).length - (intOf i).toNat)
      case atStart => exact ⟨0, by omega, rfl, Below.refl _ _⟩
      case round =>
        obtain ⟨y, hy, rfl, hb⟩ := hrel
        have y0 : (0 : Int) ≤ (y : Int) := by omega
        have HBr : Hid (Below V.heap.size V wr) := hb
        have HYl : Hid (y ≤ (tys (n : Int)).length) := hy
        clear hb
        go_upto_region 15 with fail
        go_cut [79] from 68 to 201 (fun cc wx => cc = .bool (decide (y < (tys (n : Int)).length ∧ (n < 32 ∨ y = 0))) ∧ wx = wr)
        case first =>
          by_cases h1 : y < (tys (n : Int)).length
          · have y1 : (y : Int) < (((tys (n : Int)).length : Nat) : Int) := by omega
            by_cases h2 : n < 32
            · have z2 : (n : Int) < 32 := by omega
              go_wp2_with fail
              go_meet
              exact ⟨by simp [h1, h2], rfl⟩
            · have z2 : ¬ (n : Int) < 32 := by omega
              by_cases h3 : y = 0
              · have z3 : ((y : Int) == 0) = true := by rw [beq_iff_eq]; omega
                have H3 : Hid (y = 0) := h3
                clear h3
                go_wp2_with fail
                go_meet
                exact ⟨by rw [decide_eq_true ⟨h1, Or.inr H3.out⟩], rfl⟩
              · have z3 : ((y : Int) == 0) = false := by rw [beq_eq_false_iff_ne]; omega
                go_wp2_with fail
                go_meet
                exact ⟨by simp [h2, h3], rfl⟩
          · have y1 : ¬ (y : Int) < (((tys (n : Int)).length : Nat) : Int) := by omega
            go_wp2_with fail
            go_meet
            exact ⟨by simp [h1], rfl⟩
        obtain ⟨rfl, rfl⟩ := hcut
        by_cases hgo : y < (tys (n : Int)).length ∧ (n < 32 ∨ y = 0)
        · rw [decide_eq_true hgo]
          obtain ⟨kk, hkk, hkm⟩ := kin_get hgo.1
          have y1 : (y : Int) < (((tys (n : Int)).length : Nat) : Int) := by omega
          obtain ⟨gk, ok, rfl, _, _⟩ := (HKi.out _ HBr.out).form (by omega)
          have HCk : Hid (∀ v, Below V.heap.size V v → v.cell? ⟨gk, ok + y, none⟩ = some (.int .i64 (kk : Int))) := fun v hv => by
            obtain ⟨b', o', he, _, hc⟩ := (HKi.out v hv).form (by omega)
            simp only [Option.some.injEq, Addr.mk.injEq, and_true] at he
            obtain ⟨rfl, rfl⟩ := he
            rw [hc y hgo.1, hkk]
          have HKk : Hid ((kk : Int) ∈ tys (n : Int)) := hkm
          have HY : Hid (y < (tys (n : Int)).length) := hgo.1
          have HBkk : Hid (Bk n s kk) := by have := bk_of hkm; rw [← HSs.out] at this; exact this
          obtain ⟨RR, hRR⟩ : ∃ RR, tab n (invF n s kk D) = RR := ⟨_, rfl⟩
          have HRR : Hid (tab n (invF n s kk D) = RR) := hRR
          have HRR2 : Hid (tab n (invF n s kk (cl16 D)) = RR) := by show _ = _; rw [invF_clip]; exact hRR
          have HRb : Hid (∀ j, j < L → -131072 ≤ RR.getD j 0 ∧ RR.getD j 0 ≤ 131072) := fun j hj => by
            rw [← hRR, tab_get n _ j (by rw [← HL.out]; exact hj)]
            exact invF_bd HBkk.out D _ _
          have k0 := HCk.out _ HBr.out
          clear hgo hkk hkm hRR hy
          go_wp2_with fail
          refine (tinv_go (n := n) (k := kk) (s := s) (M := j) (L := L) (R := RR) (HQ.out.to (HBv.out _ HBr.out)) (HGr.out _ HBr.out).si HDl.out (Nat.le_refl _) (HGr.out _ HBr.out).lt HKk.out HSs.out HMM.out HDm.out HRR.out HL.out).mono ?_
          rintro e w7 ⟨g7, c7, rfl, hl7, ho7, hb7⟩
          have HBr7 : Hid (Below V.heap.size V w7) := below_to HBr.out hb7
          have HA7 : Hid (Si w7 (some ⟨g7, 0, none⟩) RR) := ho7.si
          have HRl : Hid (RR.length = L) := hl7
          clear hl7 ho7 hb7 k0
          have k0 := HCk.out _ HBr7.out
          go_wp2_with fail
          refine (tinv_go (n := n) (k := kk) (s := s) (M := j) (L := L) (R := RR) (HQ.out.to (HBv.out _ HBr7.out)) (HCl.out _ HBr7.out).si (by rw [cl16_len]; exact HDl.out) (Nat.le_refl _) (HCl.out _ HBr7.out).lt HKk.out HSs.out HMM.out (cl16_mst D) HRR2.out HL.out).mono ?_
          rintro e w8 ⟨g8, c8, rfl, _, ho8, hb8⟩
          have HBr8 : Hid (Below V.heap.size V w8) := below_to HBr7.out hb8
          have HA8 : Hid (∀ v, Below w8.heap.size w8 v → Si v (some ⟨g7, 0, none⟩) RR) := fun v hv => (HA7.out.to hb8).to hv
          have HB8 : Hid (∀ v, Below w8.heap.size w8 v → Si v (some ⟨g8, 0, none⟩) RR) := fun v hv => ho8.si.to hv
          have HBz : Hid (∀ v, Below w8.heap.size w8 v → Below V.heap.size V v) := fun v hv => below_to HBr8.out hv
          clear ho8 hb8 k0
          --R19
          go_upto_region 19 with fail
          have HZe : Hid (∀ v, Below w8.heap.size w8 v → ∀ gz, Ri 3 v gz (List.replicate j 0) → Calls Tryd.prog 10 #[.int .i64 (n : Int), .int .i64 (kk : Int), .slice (some ⟨gz, 0, none⟩) j j] v fun e w' => N5 v w' e L (List.replicate L 0)) := fun v hv gz hz =>
            tinv_go (n := n) (k := kk) (s := s) (M := j) (L := L) (HQ.out.to (HBv.out _ (HBz.out v hv))) hz.si (by simp) (Nat.le_refl _) hz.lt HKk.out HSs.out HMM.out (zero_mst j) (by rw [tab_zero, ← HL.out]) HL.out
          have HZa : Hid (Calls Tryd.prog 10 #[.int .i64 (n : Int), .int .i64 (kk : Int), .slice (some ⟨w8.heap.size, 0, none⟩) j j] (w8.drew.alloc (.cells (madeCells #[.int .i64 0] j) 3)) fun e w' => N5 (w8.drew.alloc (.cells (madeCells #[.int .i64 0] j) 3)) w' e L (List.replicate L 0)) := HZe.out _ (to_alloc (below_drew (Below.refl _ _)) _) _ (Ri.made 3 w8.drew j rfl)
          have HZb : Hid (Calls Tryd.prog 10 #[.int .i64 (n : Int), .int .i64 (kk : Int), .slice (some ⟨w8.heap.size, 0, none⟩) j j] (w8.alloc (.cells (madeCells #[.int .i64 0] j) 3)).drew fun e w' => N5 (w8.alloc (.cells (madeCells #[.int .i64 0] j) 3)).drew w' e L (List.replicate L 0)) := HZe.out _ (below_drew (to_alloc (Below.refl _ _) _)) _ (Ri.made 3 w8 j rfl).drew
          have HZf : Hid (Below w8.heap.size w8 (w8.drew.alloc (.cells (madeCells #[.int .i64 0] j) 3))) := to_alloc (below_drew (Below.refl _ _)) _
          have HZg : Hid (Below w8.heap.size w8 (w8.alloc (.cells (madeCells #[.int .i64 0] j) 3)).drew) := below_drew (to_alloc (Below.refl _ _) _)
          go_cut [17, 18] from 68 to 201 (fun s17 s18 wx => ∃ g9 c9, s17 = .slice (some ⟨g9, 0, none⟩) L c9 ∧ s18 = .int .i64 0 ∧ Hid (Si wx (some ⟨g9, 0, none⟩) (List.replicate L 0)) ∧ Hid (Below w8.heap.size w8 wx))
          case first =>
            have k0 := HCk.out _ HBr8.out
            have k1 := HCk.out _ (HBz.out _ HZf.out)
            have k2 := HCk.out _ (HBz.out _ HZg.out)
            have e2' : IntKind.i64.wrap (j : Int) = (j : Int) := by rw [IntKind.wrap_i64]; omega
            go_region_with (first
              | (refine HZa.out.mono ?_; rintro e w9 ⟨g9, c9, rfl, _, ho9, hb9⟩; have hz9 := below_to HZf.out hb9)
              | (refine HZb.out.mono ?_; rintro e w9 ⟨g9, c9, rfl, _, ho9, hb9⟩; have hz9 := below_to HZg.out hb9))
            all_goals
              go_wp2_with fail
              go_meet
              exact ⟨g9, c9, rfl, rfl, ho9.si, hz9⟩
          obtain ⟨g9, c9, rfl, rfl, HZ9, HB9⟩ := hcut
          generalize wc = w9 at *
          clear HZa HZb HZf HZg HZe
          have HA9 : Hid (∀ v, Below w9.heap.size w9 v → Si v (some ⟨g7, 0, none⟩) RR) := fun v hv => HA8.out v (below_to HB9.out hv)
          have HB9b : Hid (∀ v, Below w9.heap.size w9 v → Si v (some ⟨g8, 0, none⟩) RR) := fun v hv => HB8.out v (below_to HB9.out hv)
          have HZ9b : Hid (∀ v, Below w9.heap.size w9 v → Si v (some ⟨g9, 0, none⟩) (List.replicate L 0)) := fun v hv => HZ9.out.to hv
          have HBz9 : Hid (∀ v, Below w9.heap.size w9 v → Below V.heap.size V v) := fun v hv => HBz.out v (below_to HB9.out hv)
          go_upto_region 20 with fail
          have HB20 : Hid (∀ v, Below w9.heap.size w9 v → Calls Tryd.prog 9 #[.slice a C.length c, .int .i64 (n : Int), .int .i64 255] v fun e w' => Nb v w' e L 255) := fun v hv => block_any (n := n) (HS.out.to (HBv.out _ (HBz9.out v hv))) (by omega) HN.out HL.out (by omega) (by omega)
          have HF20 : Hid (∀ v gz D2, Below w9.heap.size w9 v → Ri 3 v gz D2 → D2.length = L → Mst D2 255 → Calls Tryd.prog 11 #[.int .i64 (n : Int), .int .i64 (kk : Int), .slice (some ⟨gz, 0, none⟩) L L] v fun e w' => N5 v w' e j (tab s (fwdF n kk D2))) := fun v gz D2 hv hz h1 h2 =>
            tfwd_go (n := n) (k := kk) (s := s) (M := L) (L := j) (HQ.out.to (HBv.out _ (HBz9.out v hv))) hz.si h1 (Nat.le_refl _) hz.lt HKk.out HSs.out HL.out h2 rfl HMM.out
          have HF16 : Hid (∀ D2, Mst D2 255 → ∀ i, i < j → -32768 ≤ (tab s (fwdF n kk D2)).getD i 0 ∧ (tab s (fwdF n kk D2)).getD i 0 ≤ 32767) := fun D2 h i hi => fwdF_16 HSs.out HKk.out h i (by rw [← HMM.out]; exact hi)
          go_cut [19, 20] from 68 to 201 (fun s19 s20 wx => ∃ g10 c10 R4, s19 = .slice (some ⟨g10, 0, none⟩) j c10 ∧ s20 = .int .i64 0 ∧ Hid (R4.length = j) ∧ Hid (∀ i, i < j → -32768 ≤ R4.getD i 0 ∧ R4.getD i 0 ≤ 32767) ∧ Hid (Si wx (some ⟨g10, 0, none⟩) R4) ∧ Hid (Below w9.heap.size w9 wx))
          case first =>
            have k0 := HCk.out _ (HBz9.out _ (Below.refl _ _))
            have hbd : Below w9.heap.size w9 w9.drew := below_drew (Below.refl _ _)
            go_region_held3 (fun v => v.cell? ⟨gk, ok + y, none⟩ = some (.int .i64 (kk : Int)))
              ((exact HCk.out _ (HBz9.out _ (by assumption))))
              (first
                | (go_at_call 9; refine (HB20.out _ hbd).mono ?_; rintro e wA ⟨D2, rfl, hD2, hM2, hr2, hb2⟩; have hzA := below_to hbd hb2)
                | (go_at_call 11; refine (HF20.out _ _ _ hzA hr2 hD2 hM2).mono ?_; rintro e wB ⟨g10, c10, rfl, hl10, ho10, hb10⟩; have hzB := below_to hzA hb10))
            all_goals
              go_wp2_with fail
              go_meet
              exact ⟨g10, c10, _, rfl, rfl, hl10, HF16.out _ hM2, ho10.si, hzB⟩
          obtain ⟨g10, c10, R4, rfl, rfl, HR4l, HR4b, HD10, HB10⟩ := hcut
          generalize wc = w10 at *
          clear HB20 HF20 HF16
          have HA10 : Hid (Si w10 (some ⟨g7, 0, none⟩) RR) := HA9.out _ HB10.out
          have HB10b : Hid (Si w10 (some ⟨g8, 0, none⟩) RR) := HB9b.out _ HB10.out
          have HZ10 : Hid (Si w10 (some ⟨g9, 0, none⟩) (List.replicate L 0)) := HZ9b.out _ HB10.out
          have HV10 : Hid (Below V.heap.size V w10) := HBz9.out _ HB10.out
          have xL : ((L : Int) != (L : Int)) = false := by simp
          have xj : ((j : Int) != (j : Int)) = false := by simp
          clear HA9 HB9b HZ9b HBz9 HZ9 HB9 HA8 HB8 HBz HB10
          go_wp2_with fail
          refine (eq_yes HA10.out HB10b.out HRl.out HRl.out rfl (by have := HL1.out; omega)).mono ?_
          rintro e w11 ⟨rfl, hb11⟩
          have HA11 : Hid (Si w11 (some ⟨g7, 0, none⟩) RR) := HA10.out.to hb11
          have HZ11 : Hid (Si w11 (some ⟨g9, 0, none⟩) (List.replicate L 0)) := HZ10.out.to hb11
          have HD11 : Hid (Si w11 (some ⟨g10, 0, none⟩) R4) := HD10.out.to hb11
          have HV11 : Hid (Below V.heap.size V w11) := below_to HV10.out hb11
          clear hb11
          go_wp2_with fail
          have HN12 : Hid (Ri 3 (w11.alloc (.cells (madeCells #[.int .i64 0] L) 3)) w11.heap.size (List.replicate L 0)) := Ri.made 3 w11 L rfl
          have hb12 : Below w11.heap.size w11 (w11.alloc (.cells (madeCells #[.int .i64 0] L) 3)) := from_alloc _ _
          have HA12 : Hid (Si (w11.alloc (.cells (madeCells #[.int .i64 0] L) 3)) (some ⟨g7, 0, none⟩) RR) := HA11.out.to hb12
          have HZ12 : Hid (Si (w11.alloc (.cells (madeCells #[.int .i64 0] L) 3)) (some ⟨g9, 0, none⟩) (List.replicate L 0)) := HZ11.out.to hb12
          have HD12 : Hid (Si (w11.alloc (.cells (madeCells #[.int .i64 0] L) 3)) (some ⟨g10, 0, none⟩) R4) := HD11.out.to hb12
          have HV12 : Hid (Below V.heap.size V (w11.alloc (.cells (madeCells #[.int .i64 0] L) 3))) := below_to HV11.out hb12
          clear hb12
          generalize (w11.alloc (.cells (madeCells #[.int .i64 0] L) 3)) = w12 at *
          generalize w11.heap.size = g11 at *
          refine (eq_yes HZ12.out HN12.out.si (by simp) (by simp) rfl (by have := HL1.out; omega)).mono ?_
          rintro e w13 ⟨rfl, hb13⟩
          have HA13 : Hid (Si w13 (some ⟨g7, 0, none⟩) RR) := HA12.out.to hb13
          have HD13 : Hid (Si w13 (some ⟨g10, 0, none⟩) R4) := HD12.out.to hb13
          have HV13 : Hid (Below V.heap.size V w13) := below_to HV12.out hb13
          clear hb13
          go_wp2_with fail
          go_loopw [21] (fun i wv => ∃ t : Nat, t ≤ L ∧ i = .int .i64 t ∧ wv = w13) (fun i _ => L - (intOf i).toNat)
          case atStart => exact ⟨0, by omega, rfl, rfl⟩
          case round =>
            obtain ⟨t, ht, rfl, rfl⟩ := hrel
            have t0 : (0 : Int) ≤ (t : Int) := by omega
            by_cases htL : t < L
            · have t1 : (t : Int) < (L : Int) := by omega
              obtain ⟨bA, oA, hA, hbA, hcA⟩ := HA13.out.form (by rw [HRl.out]; omega)
              simp only [Option.some.injEq, Addr.mk.injEq, and_true] at hA
              obtain ⟨rfl, rfl⟩ := hA
              have d0 := hcA t (by rw [HRl.out]; exact htL)
              rw [Nat.zero_add] at d0
              have hbnd := HRb.out t htL
              have HTL : Hid (t < L) := htL
              generalize RR.getD t 0 = rv at d0 hbnd
              have hab : ¬ (131072 : Int) < ab rv := by have := ab_le (M := 131072) hbnd; omega
              have HBd : Hid (-4611686018427387904 ≤ rv ∧ rv ≤ 4611686018427387904) := ⟨by omega, by omega⟩
              clear hcA htL ht hbnd
              go_wp2_with (go_at_call 13; refine (abs_any HBd.out).mono ?_; rintro e w' ⟨rfl, rfl⟩)
              have htL := HTL.out
              go_roundw
              case rel => exact ⟨t + 1, by omega, by go_num, by first | rfl | trivial⟩
              case measure => simp [intOf]; omega
            · have t1 : ¬ (t : Int) < (L : Int) := by omega
              go_wp2_with fail
              go_loopw [22] (fun i wv => ∃ q : Nat, q ≤ j ∧ i = .int .i64 q ∧ wv = wr) (fun i _ => j - (intOf i).toNat)
              case atStart => exact ⟨0, by omega, rfl, rfl⟩
              case round =>
                obtain ⟨q, hq, rfl, rfl⟩ := hrel
                have q0 : (0 : Int) ≤ (q : Int) := by omega
                by_cases hqj : q < j
                · have q1 : (q : Int) < (j : Int) := by omega
                  obtain ⟨bD, oD, hDD, hbD, hcD⟩ := HD13.out.form (by rw [HR4l.out]; omega)
                  simp only [Option.some.injEq, Addr.mk.injEq, and_true] at hDD
                  obtain ⟨rfl, rfl⟩ := hDD
                  have d0 := hcD q (by rw [HR4l.out]; exact hqj)
                  rw [Nat.zero_add] at d0
                  obtain ⟨u0, u1⟩ := HR4b.out q hqj
                  have HQJ : Hid (q < j) := hqj
                  generalize R4.getD q 0 = rv at d0 u0 u1
                  have u2 : ¬ rv < -32768 := by omega
                  have u3 : ¬ 32767 < rv := by omega
                  clear hcD hqj hq
                  go_wp2_with fail
                  have hqj := HQJ.out
                  go_roundw
                  case rel => exact ⟨q + 1, by omega, by go_num, by first | rfl | trivial⟩
                  case measure => simp [intOf]; omega
                · have q1 : ¬ (q : Int) < (j : Int) := by omega
                  go_wp2_with fail
                  have hlt := HY.out
                  go_roundw
                  case rel => exact ⟨y + 1, by omega, by go_num, HV13.out⟩
                  case measure => simp [intOf]; omega
        · rw [decide_eq_false hgo]
          have HB14 : Hid (Below w.heap.size w wc) := HBv.out _ HBr.out
          go_wp2_with fail
          go_ret
          exact ⟨rfl, HB14.out⟩

end Go.Proofs.YtddnnlofdicgkabDoor
