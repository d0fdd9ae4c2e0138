/- DERIVED. The walk of SymsBack. -/
import Derived.Test.YtppanogpeengnaaDoorUc
import Derived.Deep.RegionHeld3
import Derived.Deep.DeepCutAuto
namespace Go.Proofs.YtppanogpeengnaaDoor
open Go.RowKit L3

set_option maxRecDepth 100000 in
set_option maxHeartbeats 16000000 in
theorem back_walk (W : World) (a : Option Addr) (cp : Nat) (L : List Dx) (ad : Bool) (hsh : Sh W) (hL : DoAt W a L) (hLl : L.length ≤ 140737488355328) (hcp : L.length ≤ cp) :
    Calls Tryd.prog 6 #[.slice a L.length cp, .bool ad] W fun e w' => e = .returned (.bool true) ∧ Below W.heap.size W w' := by
  have HSh : Hid (∀ v, Below W.heap.size W v → Sh v) := fun v hv => hsh.to hv
  have H0 : Hid (0 < W.heap.size) := hsh.low
  have HD : Hid (∀ j, j < L.length → ∃ b off, a = some ⟨b, off, none⟩ ∧
    ∀ v, Below W.heap.size W v → v.cell? ⟨b, off + j * 5, none⟩ = some (.bool (L.getD j dz).b) ∧ v.cell? ⟨b, off + j * 5 + 1, none⟩ = some (.int .i64 (L.getD j dz).n) ∧ v.cell? ⟨b, off + j * 5 + 2, none⟩ = some (.int .i64 (L.getD j dz).k) ∧ v.cell? ⟨b, off + j * 5 + 3, none⟩ = some (.int .i64 (L.getD j dz).c) ∧ v.cell? ⟨b, off + j * 5 + 4, none⟩ = some (.int .i64 (L.getD j dz).v)) := fun j hj => hL.cells hj
  obtain ⟨N, hN⟩ : ∃ N, N = min L.length 400 := ⟨_, rfl⟩
  have HN4 : Hid (N ≤ 400 ∧ N ≤ L.length) := ⟨by omega, by omega⟩
  clear hsh hL
  go_enter Tryd.func6, Tryd.ntmps6
  go_wp2_with fail
  refine (awake_ok (HSh.out W (Below.refl _ _))).mono ?_
  rintro e w1 ⟨rfl, hb1⟩
  have HB1 : Hid (Below W.heap.size W w1) := hb1
  clear hb1
  go_upto_if 31 with fail
  go_cut [0] (fun s0 wx => s0 = .slice a N cp ∧ wx = w1)
  case first =>
    by_cases h4 : L.length ≤ 400
    · have h5 : ¬ (400 : Int) < (L.length : Int) := by omega
      obtain rfl : N = L.length := by omega
      clear h4 hN hLl hcp HD
      go_wp2_with fail
      go_meet
      exact ⟨rfl, rfl⟩
    · have h5 : (400 : Int) < (L.length : Int) := by omega
      have h6 : (400 : Int) ≤ (cp : Int) := by omega
      obtain rfl : N = 400 := by omega
      clear h4 hN hLl hcp HD
      go_wp2_with fail
      go_meet
      exact ⟨rfl, rfl⟩
  obtain ⟨rfl, rfl⟩ := hcut
  clear hN hLl hcp
  go_wp2_with fail
  refine (default_hs (HSh.out _ HB1.out)).mono ?_
  rintro e w4 ⟨bt4, B4, rfl, hs4, hb4⟩
  have HB4 : Hid (Below W.heap.size W w4) := below_to HB1.out hb4
  have HW : Hid (Calls Tryd.prog 11 #[.agg #[.slice (some ⟨bt4, 0, none⟩) 32 32], .bool ad] w4 fun e w' => ∃ x O, e = .returned (.tuple #[.pointer (some ⟨x, 0, none⟩), .int .i64 0]) ∧ Wc w' w4.heap.size x O dS ad 0 0 4294967295 0 ∧ Below w4.heap.size w4 w') := writer_wc (HSh.out _ HB4.out) hs4
  clear hs4 hb4 HB1
  go_wp2_with fail
  refine HW.out.mono ?_
  rintro e w5 ⟨x, O5, rfl, hc5, hb5⟩
  have HB5 : Hid (Below w4.heap.size w4 w5) := hb5
  have HC5 : Hid (WcE w5 w4.heap.size x O5 ad (evo ad L 0)) := by show Wc _ _ _ _ _ _ _ _ _ _; rw [evo_zero]; exact hc5
  have HUp : Hid (∀ v, Below w4.heap.size w4 v → Below W.heap.size W v) := fun v hv => below_to HB4.out hv
  have HLo : Hid (0 < w4.heap.size) := Nat.lt_of_lt_of_le H0.out HB4.out.size
  clear hc5 hb5 HW HB4
  go_wp2_with fail
  go_loopw [7, 8] (fun sl iv wr => BkI w4 w4.heap.size x N ad L sl iv wr) (fun _ iv _ => N - (intOf iv).toNat)
  case atStart => exact ⟨⟨0, O5, fun _ => False, by omega, rfl, HC5.out, by rw [show rs ad L 0 = [] from rfl]; exact Ls.nil _ _, fun _ h => h.elim, HB5.out⟩⟩
  case round =>
    clear HC5 HB5
    obtain ⟨i, O, D, hi, rfl, hw, hl, hd, hb⟩ := hrel
    obtain ⟨asl, csl, rfl⟩ := hl.form
    have HC : Hid (WcE wr w4.heap.size x O ad (evo ad L i)) := hw
    have HL : Hid (Ls wr w4.heap.size (.slice asl (rs ad L i).length csl) (rs ad L i) D) := hl
    have HDO : Hid (∀ y, D y → ¬ O y) := hd
    have HB : Hid (Below w4.heap.size w4 wr) := hb
    have HEk : Hid ((evo ad L i).k ≤ 100000 ∧ (evo ad L i).n ≤ 100000) := by have := evo_ok ad L i; have := HN4.out; exact ⟨by omega, by omega⟩
    have HRl : Hid ((rs ad L i).length < 1000000) := by have := rs_len ad L i; have := HN4.out; show _ < _; omega
    clear hw hl hd hb
    generalize hrn : (rs ad L i).length = rn at *
    have HRn : Hid ((rs ad L i).length = rn) := hrn
    clear hrn
    have i0 : (0 : Int) ≤ (i : Int) := by omega
    by_cases hlt : i < N
    · have i1 : (i : Int) < (N : Int) := by omega
      have i2 : (i : Int) < 400 := by have := HN4.out; omega
      have HI : Hid (i < N) := hlt
      obtain ⟨bd, off, ha, hcell⟩ := HD.out i (by have := HN4.out; omega)
      subst ha
      obtain ⟨d0, d1, d2, d3, d4⟩ := hcell wr (HUp.out _ HB.out)
      have HEv : Hid (evo ad L (i + 1) = stp ad (evo ad L i) (L.getD i dz)) := evo_succ ad L i
      generalize L.getD i dz = dd at *
      obtain ⟨db, dn, dk, dc, dv⟩ := dd
      simp only at d0 d1 d2 d3 d4
      clear hcell
      cases db
      · have HM : Hid (Calls Tryd.prog 33 #[.agg #[.bool false, .int .i64 dn, .int .i64 dk, .int .i64 dc, .int .i64 dv]] wr fun e w' => e = .returned (.agg #[.bool false, .int .i64 dn, .int .i64 (mK dk : Nat), .int .i64 (mC dk dc : Nat), .int .i64 (mW dk dv : Nat)]) ∧ Below wr.heap.size wr w') := may_s (HSh.out _ (HUp.out _ HB.out))
        have HSy : Hid (∀ u, Below wr.heap.size wr u → Calls Tryd.prog 35 #[.pointer (some ⟨x, 0, none⟩), .int .i64 (mK dk : Nat), .int .i64 (mC dk dc : Nat), .int .i64 (mW dk dv : Nat)] u fun r w' => r = .returned (.tuple #[.int .i64 (mW dk dv : Nat), .int .i64 0]) ∧ StW u w' w4.heap.size x O ad (evo ad L (i + 1))) := fun u hu => by
          rw [HEv.out]
          exact step_ws (HC.out.to hu) (HSh.out _ (HUp.out _ (HB.out.trans (hu.mono HB.out.size)))) HEk.out.1 HEk.out.2 (d := ⟨false, dn, dk, dc, dv⟩) rfl
        generalize mK dk = kk at *
        generalize mC dk dc = cc at *
        generalize mW dk dv = vv at *
        go_wp2_with fail
        refine HM.out.mono ?_
        rintro e w4a ⟨rfl, hb4⟩
        have HB5 : Hid (Below wr.heap.size wr (w4a.alloc (.cells #[.bool false, .int .i64 dn, .int .i64 kk, .int .i64 cc, .int .i64 vv] 43))) := to_alloc hb4 _
        have HXb : Hid (wr.heap.size ≤ w4a.heap.size ∧ w4a.heap.size < (w4a.alloc (.cells #[.bool false, .int .i64 dn, .int .i64 kk, .int .i64 cc, .int .i64 vv] 43)).heap.size) := ⟨hb4.size, by simp⟩
        have HX : Hid (∀ v : World, v.heap[w4a.heap.size]? = (w4a.alloc (.cells #[.bool false, .int .i64 dn, .int .i64 kk, .int .i64 cc, .int .i64 vv] 43)).heap[w4a.heap.size]? → v.cell? ⟨w4a.heap.size, 0, none⟩ = some (.bool false) ∧ v.cell? ⟨w4a.heap.size, 2, none⟩ = some (.int .i64 kk) ∧ v.cell? ⟨w4a.heap.size, 3, none⟩ = some (.int .i64 cc) ∧ v.cell? ⟨w4a.heap.size, 4, none⟩ = some (.int .i64 vv)) := fun v hv => by
          rw [heap_new] at hv
          refine ⟨?_, ?_, ?_, ?_⟩ <;> (rw [cell_of hv]; rfl)
        obtain ⟨x0, x2, x3, x4⟩ := HX.out _ rfl
        clear hb4 d0 d1 d2 d3 d4 HM
        go_wp2_with fail
        generalize w4a.alloc (.cells #[.bool false, .int .i64 dn, .int .i64 kk, .int .i64 cc, .int .i64 vv] 43) = w5a at *
        generalize w4a.heap.size = xb at *
        refine (HSy.out _ HB5.out).mono ?_
        rintro e w7 ⟨rfl, hst⟩
        have HSt : Hid (StW w5a w7 w4.heap.size x O ad (evo ad L (i + 1))) := hst
        have y4 : w7.cell? ⟨xb, 4, none⟩ = some (.int .i64 vv) := by
          obtain ⟨O', k1, k2, k3⟩ := hst
          exact (HX.out w7 (k2.ke.block xb HXb.out.2 (fun e => by have := HC.out.lt e; have := HXb.out.1; omega))).2.2.2
        have HB4w : Hid (Below w4.heap.size w4 w5a) := HB.out.trans (HB5.out.mono HB.out.size)
        have HL5 : Hid (Ls w5a w4.heap.size (.slice asl rn csl) (rs ad L i) D) := HL.out.to HB5.out
        have t1 : ((vv : Int) != (vv : Int)) = false := by simp
        clear hst HSy x0 x2 x3 x4 HX
        by_cases h16 : i % 16 = 0
        · have m0 : (i : Int).tmod 16 = 0 := by rw [Int.tmod_eq_emod_of_nonneg (by omega)]; omega
          have m1 : (i : Int) % 16 = 0 := by omega
          obtain ⟨O7, k1, k2, k3⟩ := HSt.out
          have HC7 : Hid (WcE w7 w4.heap.size x O7 ad (evo ad L (i + 1))) := k1
          have HB7 : Hid (Below w4.heap.size w4 w7) := HB4w.out.trans k3
          have HL7 : Hid (Ls w7 w4.heap.size (.slice asl rn csl) (rs ad L i) D) := HL5.out.ke k2.ke (fun y e hy => HDO.out y hy e)
          have HD7 : Hid (∀ y, D y → ¬ O7 y) := fun y hy e => by
            rcases k2.new y e with e2 | e2
            · exact HDO.out y hy e2
            · have := (HL5.out.lt hy).2; omega
          have HSe : Hid (Calls Tryd.prog 16 #[.pointer (some ⟨x, 0, none⟩)] w7 fun e w' => ∃ bt B, e = .returned (.tuple #[.agg #[.slice (some ⟨bt, 0, none⟩) 32 32], .int .i64 0]) ∧ Hs w' w7.heap.size bt B (evo ad L (i + 1)).S ∧ Below w7.heap.size w7 w') := set_wc k1 (HSh.out _ (HUp.out _ HB7.out))
          clear k1 k2 k3 HSt
          go_wp2_with fail
          refine HSe.out.mono ?_
          rintro e w8 ⟨bt8, B8, rfl, hs8, hb8⟩
          have HB9 : Hid (Below w7.heap.size w7 (w8.alloc (.cells #[.slice (some ⟨bt8, 0, none⟩) 32 32] 25))) := to_alloc hb8 _
          have HH9 : Hid (Hs (w8.alloc (.cells #[.slice (some ⟨bt8, 0, none⟩) 32 32] 25)) w7.heap.size bt8 B8 (evo ad L (i + 1)).S) := hs8.to (from_alloc _ _)
          have c9 : (w8.alloc (.cells #[.slice (some ⟨bt8, 0, none⟩) 32 32] 25)).cell? ⟨w8.heap.size, 0, none⟩ = some (.slice (some ⟨bt8, 0, none⟩) 32 32) := by simp [go_sem]
          clear hs8 hb8 HSe y4
          go_upto_region 21 with fail
          generalize w8.alloc (.cells #[.slice (some ⟨bt8, 0, none⟩) 32 32] 25) = w9 at *
          generalize w8.heap.size = sb at *
          have HL9 : Hid (Ls w9 w4.heap.size (.slice asl rn csl) (rs ad L i) D) := HL7.out.to HB9.out
          have HBD : Hid (∀ y, B8 y → ¬ D y) := fun y hy e => by have := HH9.out.ge hy; have := (HL7.out.lt e).2; omega
          have HHw : Hid (Hs w9 w4.heap.size bt8 B8 (evo ad L (i + 1)).S) := HH9.out.weak HB7.out.size
          have HRel : Hid (∀ g cap w' D', Ls w' w4.heap.size (.slice (some ⟨g, 0, none⟩) ((rs ad L i).length + 1) cap) (rs ad L i ++ [(evo ad L (i + 1)).S]) D' → (∀ y, D' y → D y ∨ B8 y ∨ w9.heap.size ≤ y) → Ke D w9 w' → BkI w4 w4.heap.size x N ad L (.slice (some ⟨g, 0, none⟩) ((rs ad L i).length + 1) cap) (.int .i64 ((i : Int) + 1)) w') := fun g cap w' D' j1 j2 j3 => BkI.take HI.out h16 HC7.out HL7.out HD7.out HB7.out HB9.out HH9.out j1 j2 j3
          go_wp2_with (at_builtin; refine wpList_append_set _ (by rfl) _ _ (by rfl) w4.heap.size (rs ad L i) _ D _ bt8 B8 HL9.out HHw.out HBD.out (by rw [HRn.out]; exact HRl.out) (by rfl) (by rfl) ?_; intro gA capA wA DA j1 j2 j3)
          have hlt := HI.out
          go_roundw
          case rel => exact HRel.out gA capA wA DA j1 j2 j3
          case measure => simp [intOf]; omega
        · have m0 : ((i : Int).tmod 16 == 0) = false := by rw [Int.tmod_eq_emod_of_nonneg (by omega), beq_eq_false_iff_ne]; omega
          have m1 : ((i : Int) % 16 == 0) = false := by rw [beq_eq_false_iff_ne]; omega
          have m2 : ¬ (i : Int).tmod 16 = 0 := by rw [Int.tmod_eq_emod_of_nonneg (by omega)]; omega
          have HRel : Hid (BkI w4 w4.heap.size x N ad L (.slice asl rn csl) (.int .i64 ((i : Int) + 1)) w7) := BkI.skip HI.out h16 HSt.out HL5.out HDO.out HB4w.out
          go_wp2_with fail
          have hlt := HI.out
          go_roundw
          case rel => exact HRel.out
          case measure => simp [intOf]; omega
      · have HM : Hid (Calls Tryd.prog 33 #[.agg #[.bool true, .int .i64 dn, .int .i64 dk, .int .i64 dc, .int .i64 dv]] wr fun e w' => e = .returned (.agg #[.bool true, .int .i64 (mN dn : Nat), .int .i64 dk, .int .i64 dc, .int .i64 (mV dn dv : Nat)]) ∧ Below wr.heap.size wr w') := may_b
        have HSy : Hid (∀ u, Below wr.heap.size wr u → Calls Tryd.prog 34 #[.pointer (some ⟨x, 0, none⟩), .int .i64 (mN dn : Nat), .int .i64 (mV dn dv : Nat)] u fun r w' => r = .returned (.tuple #[.int .i64 (mV dn dv : Nat), .int .i64 0]) ∧ StW u w' w4.heap.size x O ad (evo ad L (i + 1))) := fun u hu => by
          rw [HEv.out]
          exact step_wb (HC.out.to hu) HEk.out.1 HEk.out.2 (d := ⟨true, dn, dk, dc, dv⟩) rfl
        generalize mV dn dv = vv at *
        generalize mN dn = nn at *
        go_wp2_with fail
        refine HM.out.mono ?_
        rintro e w4a ⟨rfl, hb4⟩
        have HB5 : Hid (Below wr.heap.size wr (w4a.alloc (.cells #[.bool true, .int .i64 nn, .int .i64 dk, .int .i64 dc, .int .i64 vv] 43))) := to_alloc hb4 _
        have HXb : Hid (wr.heap.size ≤ w4a.heap.size ∧ w4a.heap.size < (w4a.alloc (.cells #[.bool true, .int .i64 nn, .int .i64 dk, .int .i64 dc, .int .i64 vv] 43)).heap.size) := ⟨hb4.size, by simp⟩
        have HX : Hid (∀ v : World, v.heap[w4a.heap.size]? = (w4a.alloc (.cells #[.bool true, .int .i64 nn, .int .i64 dk, .int .i64 dc, .int .i64 vv] 43)).heap[w4a.heap.size]? → v.cell? ⟨w4a.heap.size, 0, none⟩ = some (.bool true) ∧ v.cell? ⟨w4a.heap.size, 1, none⟩ = some (.int .i64 nn) ∧ v.cell? ⟨w4a.heap.size, 4, none⟩ = some (.int .i64 vv)) := fun v hv => by
          rw [heap_new] at hv
          refine ⟨?_, ?_, ?_⟩ <;> (rw [cell_of hv]; rfl)
        obtain ⟨x0, x2, x4⟩ := HX.out _ rfl
        clear hb4 d0 d1 d2 d3 d4 HM
        go_wp2_with fail
        generalize w4a.alloc (.cells #[.bool true, .int .i64 nn, .int .i64 dk, .int .i64 dc, .int .i64 vv] 43) = w5a at *
        generalize w4a.heap.size = xb at *
        refine (HSy.out _ HB5.out).mono ?_
        rintro e w7 ⟨rfl, hst⟩
        have HSt : Hid (StW w5a w7 w4.heap.size x O ad (evo ad L (i + 1))) := hst
        have y4 : w7.cell? ⟨xb, 4, none⟩ = some (.int .i64 vv) := by
          obtain ⟨O', k1, k2, k3⟩ := hst
          exact (HX.out w7 (k2.ke.block xb HXb.out.2 (fun e => by have := HC.out.lt e; have := HXb.out.1; omega))).2.2
        have HB4w : Hid (Below w4.heap.size w4 w5a) := HB.out.trans (HB5.out.mono HB.out.size)
        have HL5 : Hid (Ls w5a w4.heap.size (.slice asl rn csl) (rs ad L i) D) := HL.out.to HB5.out
        have t1 : ((vv : Int) != (vv : Int)) = false := by simp
        clear hst HSy x0 x2 x4 HX
        by_cases h16 : i % 16 = 0
        · have m0 : (i : Int).tmod 16 = 0 := by rw [Int.tmod_eq_emod_of_nonneg (by omega)]; omega
          have m1 : (i : Int) % 16 = 0 := by omega
          obtain ⟨O7, k1, k2, k3⟩ := HSt.out
          have HC7 : Hid (WcE w7 w4.heap.size x O7 ad (evo ad L (i + 1))) := k1
          have HB7 : Hid (Below w4.heap.size w4 w7) := HB4w.out.trans k3
          have HL7 : Hid (Ls w7 w4.heap.size (.slice asl rn csl) (rs ad L i) D) := HL5.out.ke k2.ke (fun y e hy => HDO.out y hy e)
          have HD7 : Hid (∀ y, D y → ¬ O7 y) := fun y hy e => by
            rcases k2.new y e with e2 | e2
            · exact HDO.out y hy e2
            · have := (HL5.out.lt hy).2; omega
          have HSe : Hid (Calls Tryd.prog 16 #[.pointer (some ⟨x, 0, none⟩)] w7 fun e w' => ∃ bt B, e = .returned (.tuple #[.agg #[.slice (some ⟨bt, 0, none⟩) 32 32], .int .i64 0]) ∧ Hs w' w7.heap.size bt B (evo ad L (i + 1)).S ∧ Below w7.heap.size w7 w') := set_wc k1 (HSh.out _ (HUp.out _ HB7.out))
          clear k1 k2 k3 HSt
          go_wp2_with fail
          refine HSe.out.mono ?_
          rintro e w8 ⟨bt8, B8, rfl, hs8, hb8⟩
          have HB9 : Hid (Below w7.heap.size w7 (w8.alloc (.cells #[.slice (some ⟨bt8, 0, none⟩) 32 32] 25))) := to_alloc hb8 _
          have HH9 : Hid (Hs (w8.alloc (.cells #[.slice (some ⟨bt8, 0, none⟩) 32 32] 25)) w7.heap.size bt8 B8 (evo ad L (i + 1)).S) := hs8.to (from_alloc _ _)
          have c9 : (w8.alloc (.cells #[.slice (some ⟨bt8, 0, none⟩) 32 32] 25)).cell? ⟨w8.heap.size, 0, none⟩ = some (.slice (some ⟨bt8, 0, none⟩) 32 32) := by simp [go_sem]
          clear hs8 hb8 HSe y4
          go_upto_region 21 with fail
          generalize w8.alloc (.cells #[.slice (some ⟨bt8, 0, none⟩) 32 32] 25) = w9 at *
          generalize w8.heap.size = sb at *
          have HL9 : Hid (Ls w9 w4.heap.size (.slice asl rn csl) (rs ad L i) D) := HL7.out.to HB9.out
          have HBD : Hid (∀ y, B8 y → ¬ D y) := fun y hy e => by have := HH9.out.ge hy; have := (HL7.out.lt e).2; omega
          have HHw : Hid (Hs w9 w4.heap.size bt8 B8 (evo ad L (i + 1)).S) := HH9.out.weak HB7.out.size
          have HRel : Hid (∀ g cap w' D', Ls w' w4.heap.size (.slice (some ⟨g, 0, none⟩) ((rs ad L i).length + 1) cap) (rs ad L i ++ [(evo ad L (i + 1)).S]) D' → (∀ y, D' y → D y ∨ B8 y ∨ w9.heap.size ≤ y) → Ke D w9 w' → BkI w4 w4.heap.size x N ad L (.slice (some ⟨g, 0, none⟩) ((rs ad L i).length + 1) cap) (.int .i64 ((i : Int) + 1)) w') := fun g cap w' D' j1 j2 j3 => BkI.take HI.out h16 HC7.out HL7.out HD7.out HB7.out HB9.out HH9.out j1 j2 j3
          go_wp2_with (at_builtin; refine wpList_append_set _ (by rfl) _ _ (by rfl) w4.heap.size (rs ad L i) _ D _ bt8 B8 HL9.out HHw.out HBD.out (by rw [HRn.out]; exact HRl.out) (by rfl) (by rfl) ?_; intro gA capA wA DA j1 j2 j3)
          have hlt := HI.out
          go_roundw
          case rel => exact HRel.out gA capA wA DA j1 j2 j3
          case measure => simp [intOf]; omega
        · have m0 : ((i : Int).tmod 16 == 0) = false := by rw [Int.tmod_eq_emod_of_nonneg (by omega), beq_eq_false_iff_ne]; omega
          have m1 : ((i : Int) % 16 == 0) = false := by rw [beq_eq_false_iff_ne]; omega
          have m2 : ¬ (i : Int).tmod 16 = 0 := by rw [Int.tmod_eq_emod_of_nonneg (by omega)]; omega
          have HRel : Hid (BkI w4 w4.heap.size x N ad L (.slice asl rn csl) (.int .i64 ((i : Int) + 1)) w7) := BkI.skip HI.out h16 HSt.out HL5.out HDO.out HB4w.out
          go_wp2_with fail
          have hlt := HI.out
          go_roundw
          case rel => exact HRel.out
          case measure => simp [intOf]; omega
    · obtain rfl : N = i := by omega
      have HBy : Hid (Calls Tryd.prog 18 #[.pointer (some ⟨x, 0, none⟩)] wr fun e w' => ∃ v, e = .returned (.tuple #[v, .int .i64 0]) ∧ L2.ByNew wr w' v (evo ad L N).T (evo ad L N).k) := bytes_wc HC.out (by have := HEk.out.1; omega)
      have HNk : Hid ((evo ad L N).k ≤ 100000) := HEk.out.1
      have i1 : ¬ (N : Int) < (N : Int) := by omega
      clear HEk hlt
      go_wp2_with fail
      refine HBy.out.mono ?_
      rintro e w6 ⟨vb, rfl, bb, zs, hby, hbb, hb6⟩
      have HB6 : Hid (Below w4.heap.size w4 w6) := HB.out.trans (hb6.mono HB.out.size)
      have HZ : Hid (∀ i, zs.getD i 0 < 256) := hby.byt
      have HSr : Hid (L2.SrcOf w6 vb zs) := hby.src
      have HVal : Hid (L2.pre zs ((evo ad L N).k + 4) = (evo ad L N).T) := hby.val
      have HZl : Hid (zs.length ≤ 140737488355328) := by have := hby.len; have := HNk.out; show _ ≤ _; omega
      have HC6 : Hid (WcE w6 w4.heap.size x O ad (evo ad L N)) := HC.out.to hb6
      have HL6 : Hid (Ls w6 w4.heap.size (.slice asl rn csl) (rs ad L N) D) := HL.out.to hb6
      clear hby hbb hb6 HBy HC HL HB i1
      go_wp2_with fail
      refine (default_hs (HSh.out _ (HUp.out _ HB6.out))).mono ?_
      rintro e w7 ⟨bt7, B7, rfl, hs7, hb7⟩
      have HB7 : Hid (Below w4.heap.size w4 w7) := HB6.out.trans (hb7.mono HB6.out.size)
      have HR : Hid (Calls Tryd.prog 24 #[vb, .agg #[.slice (some ⟨bt7, 0, none⟩) 32 32], .bool ad] w7 fun e w' => ∃ x O, e = .returned (.tuple #[.pointer (some ⟨x, 0, none⟩), .int .i64 0]) ∧ Rc w' w7.heap.size x O dS ad 0 zs 4 (L2.dFirst zs) 4294967295 ∧ (∀ y, O y → y = 0 ∨ w7.heap.size ≤ y) ∧ Below w7.heap.size w7 w') := reader_rc (HSh.out _ (HUp.out _ HB7.out)) (Nat.lt_of_lt_of_le HLo.out HB7.out.size) hs7 (src_to HSr.out hb7) HZ.out HZl.out
      have HC7 : Hid (WcE w7 w4.heap.size x O ad (evo ad L N)) := HC6.out.to hb7
      have HL7 : Hid (Ls w7 w4.heap.size (.slice asl rn csl) (rs ad L N) D) := HL6.out.to hb7
      clear hs7 hb7 HC6 HL6 HB6 HSr HZl
      go_wp2_with fail
      refine HR.out.mono ?_
      rintro e w8 ⟨r, O8, rfl, hr8, hO8, hb8⟩
      have HBr : Hid (BrJ w4 w4.heap.size x w7.heap.size r N ad L zs (.slice asl rn csl) (.int .i64 0) w8) := by
        refine ⟨0, O8, O, D, 4, L2.dFirst zs, 4294967295, by omega, rfl, by unfold RcE; rw [evo_zero]; exact hr8, ?_, HC7.out.to hb8, HL7.out.to hb8, fun y hy => ?_, HB7.out.size, HB7.out.trans (hb8.mono HB7.out.size)⟩
        · have hI := evo_inc ad L 0 N
          rw [Nat.zero_add, evo_zero] at hI
          rw [evo_zero]
          exact Dw.first HZ.out hI (by have := (evo_ok ad L N).1.ev.least; omega) HVal.out
        · have h0 := HLo.out
          refine ⟨fun e => ?_, fun e => ?_⟩
          · have h1 := HC7.out.lt e
            have h2 := Wc.ge HC7.out e
            rcases hO8 y hy with e2 | e2 <;> omega
          · have h1 := HL7.out.lt e
            rcases hO8 y hy with e2 | e2 <;> omega
      have HGN : Hid (0 < (evo ad L N).g) := by have := (evo_ok ad L N).1.ev.least; show _ < _; omega
      have HRN : Hid (rn = (N + 15) / 16) := by have := rs_len ad L N; have := HRn.out; show _ = _; omega
      have HLo2 : Hid (w4.heap.size ≤ w7.heap.size) := HB7.out.size
      clear hr8 hO8 hb8 HR HC7 HL7 HB7 HDO HRl HNk i0 hi
      go_wp2_with fail
      generalize w7.heap.size = lo2 at *
      go_loopw [17] (fun iv wr => BrJ w4 w4.heap.size x lo2 r N ad L zs (.slice asl rn csl) iv wr) (fun iv _ => N - (intOf iv).toNat)
      case atStart => exact HBr.out
      case round =>
        clear HBr
        obtain ⟨i, O, Ow, D, q, c, g, hi, rfl, hr, hdw, hw, hl, hd, -, hb⟩ := hrel
        have HR : Hid (RcE wr lo2 r O ad (evo ad L i) zs q c g) := hr
        have HDw : Hid (Dw zs (evo ad L i).T (evo ad L i).g (evo ad L i).k q c g) := hdw
        have HW : Hid (WcE wr w4.heap.size x Ow ad (evo ad L N)) := hw
        have HL : Hid (Ls wr w4.heap.size (.slice asl rn csl) (rs ad L N) D) := hl
        have HDO : Hid (∀ y, O y → ¬ Ow y ∧ ¬ D y) := hd
        have HB : Hid (Below w4.heap.size w4 wr) := hb
        have HEn : Hid ((evo ad L i).n ≤ 100000) := by have := evo_ok ad L i; have := HN4.out; show _ ≤ _; omega
        clear hr hdw hw hl hd hb
        have i0 : (0 : Int) ≤ (i : Int) := by omega
        by_cases hlt : i < N
        · have i1 : (i : Int) < (N : Int) := by omega
          have i2 : (i : Int) < 400 := by have := HN4.out; omega
          have HI : Hid (i < N) := hlt
          obtain ⟨bd, off, ha, hcell⟩ := HD.out i (by have := HN4.out; omega)
          subst ha
          obtain ⟨d0, d1, d2, d3, d4⟩ := hcell wr (HUp.out _ HB.out)
          have HEv : Hid (evo ad L (i + 1) = stp ad (evo ad L i) (L.getD i dz)) := evo_succ ad L i
          have HIn : Hid (L2.Inc (evo ad L (i + 1)).T (evo ad L (i + 1)).g (evo ad L (i + 1)).k (evo ad L N).T (evo ad L N).g (evo ad L N).k) := by
            have h := evo_inc ad L (i + 1) (N - (i + 1))
            rw [show i + 1 + (N - (i + 1)) = N from by omega] at h
            exact h
          generalize L.getD i dz = dd at *
          obtain ⟨db, dn, dk, dc, dv⟩ := dd
          simp only at d0 d1 d2 d3 d4
          clear hcell
          cases db
          · have HM : Hid (Calls Tryd.prog 33 #[.agg #[.bool false, .int .i64 dn, .int .i64 dk, .int .i64 dc, .int .i64 dv]] wr fun e w' => e = .returned (.agg #[.bool false, .int .i64 dn, .int .i64 (mK dk : Nat), .int .i64 (mC dk dc : Nat), .int .i64 (mW dk dv : Nat)]) ∧ Below wr.heap.size wr w') := may_s (HSh.out _ (HUp.out _ HB.out))
            have HSy : Hid (∀ u, Below wr.heap.size wr u → Calls Tryd.prog 35 #[.pointer (some ⟨r, 0, none⟩), .int .i64 (mK dk : Nat), .int .i64 (mC dk dc : Nat), .int .i64 (-1)] u fun r' w' => r' = .returned (.tuple #[.int .i64 (mW dk dv : Nat), .int .i64 0]) ∧ StR u w' lo2 r O ad (evo ad L (i + 1)) zs) := fun u hu => by
              have hin := HIn.out
              rw [HEv.out] at hin ⊢
              exact step_rs (HR.out.to hu) (evo_ok ad L i).1 HDw.out HZ.out (HSh.out _ (HUp.out _ (HB.out.trans (hu.mono HB.out.size)))) HEn.out (d := ⟨false, dn, dk, dc, dv⟩) rfl hin HGN.out HVal.out
            generalize mK dk = kk at *
            generalize mC dk dc = cc at *
            generalize mW dk dv = vv at *
            go_wp2_with fail
            refine HM.out.mono ?_
            rintro e w4a ⟨rfl, hb4⟩
            have HB5 : Hid (Below wr.heap.size wr (w4a.alloc (.cells #[.bool false, .int .i64 dn, .int .i64 kk, .int .i64 cc, .int .i64 vv] 43))) := to_alloc hb4 _
            have HXb : Hid (wr.heap.size ≤ w4a.heap.size ∧ w4a.heap.size < (w4a.alloc (.cells #[.bool false, .int .i64 dn, .int .i64 kk, .int .i64 cc, .int .i64 vv] 43)).heap.size) := ⟨hb4.size, by simp⟩
            have HX : Hid (∀ v : World, v.heap[w4a.heap.size]? = (w4a.alloc (.cells #[.bool false, .int .i64 dn, .int .i64 kk, .int .i64 cc, .int .i64 vv] 43)).heap[w4a.heap.size]? → v.cell? ⟨w4a.heap.size, 0, none⟩ = some (.bool false) ∧ v.cell? ⟨w4a.heap.size, 2, none⟩ = some (.int .i64 kk) ∧ v.cell? ⟨w4a.heap.size, 3, none⟩ = some (.int .i64 cc) ∧ v.cell? ⟨w4a.heap.size, 4, none⟩ = some (.int .i64 vv)) := fun v hv => by
              rw [heap_new] at hv
              refine ⟨?_, ?_, ?_, ?_⟩ <;> (rw [cell_of hv]; rfl)
            obtain ⟨x0, x2, x3, x4⟩ := HX.out _ rfl
            clear hb4 d0 d1 d2 d3 d4 HM
            go_wp2_with fail
            generalize w4a.alloc (.cells #[.bool false, .int .i64 dn, .int .i64 kk, .int .i64 cc, .int .i64 vv] 43) = w5a at *
            generalize w4a.heap.size = xb at *
            refine (HSy.out _ HB5.out).mono ?_
            rintro e w7 ⟨rfl, hst⟩
            have HSt : Hid (StR w5a w7 lo2 r O ad (evo ad L (i + 1)) zs) := hst
            have y4 : w7.cell? ⟨xb, 4, none⟩ = some (.int .i64 vv) := by
              obtain ⟨O', q', c', g', k1, _, k2, k3⟩ := hst
              exact (HX.out w7 (k2.ke.block xb HXb.out.2 (fun e => by have := HR.out.lt e; have := HXb.out.1; omega))).2.2.2
            have HB4w : Hid (Below w4.heap.size w4 w5a) := HB.out.trans (HB5.out.mono HB.out.size)
            have HL5 : Hid (Ls w5a w4.heap.size (.slice asl rn csl) (rs ad L N) D) := HL.out.to HB5.out
            have HW5 : Hid (WcE w5a w4.heap.size x Ow ad (evo ad L N)) := HW.out.to HB5.out
            have HRel : Hid (∀ u, Below w7.heap.size w7 u → BrJ w4 w4.heap.size x lo2 r N ad L zs (.slice asl rn csl) (.int .i64 ((i : Int) + 1)) u) := fun u hu => BrJ.next HI.out HSt.out HW5.out HL5.out HDO.out HLo2.out HB4w.out hu
            have t1 : ((vv : Int) != (vv : Int)) = false := by simp
            clear hst HSy x0 x2 x3 x4 HX
            by_cases h16 : i % 16 = 0
            · have m0 : (i : Int).tmod 16 = 0 := by rw [Int.tmod_eq_emod_of_nonneg (by omega)]; omega
              have m1 : (i : Int) % 16 = 0 := by omega
              obtain ⟨O7, q7, c7, g7, k1, _, k2, k3⟩ := HSt.out
              have HB7 : Hid (Below w4.heap.size w4 w7) := HB4w.out.trans (k3.mono HLo2.out)
              have HL7 : Hid (Ls w7 w4.heap.size (.slice asl rn csl) (rs ad L N) D) := HL5.out.ke k2.ke (fun y e => (HDO.out y e).2)
              have HSe : Hid (Calls Tryd.prog 16 #[.pointer (some ⟨r, 0, none⟩)] w7 fun e w' => ∃ bt B, e = .returned (.tuple #[.agg #[.slice (some ⟨bt, 0, none⟩) 32 32], .int .i64 0]) ∧ Hs w' w7.heap.size bt B (evo ad L (i + 1)).S ∧ Below w7.heap.size w7 w') := set_rc k1 (HSh.out _ (HUp.out _ HB7.out))
              clear k1 k2 k3 HSt
              go_wp2_with fail
              refine HSe.out.mono ?_
              rintro e w8 ⟨bt8, B8, rfl, hs8, hb8⟩
              have HB9 : Hid (Below w7.heap.size w7 (w8.alloc (.cells #[.slice (some ⟨bt8, 0, none⟩) 32 32] 25))) := to_alloc hb8 _
              have HH9 : Hid (Hs (w8.alloc (.cells #[.slice (some ⟨bt8, 0, none⟩) 32 32] 25)) w7.heap.size bt8 B8 (evo ad L (i + 1)).S) := hs8.to (from_alloc _ _)
              have HC9 : Hid ((w8.alloc (.cells #[.slice (some ⟨bt8, 0, none⟩) 32 32] 25)).cell? ⟨w8.heap.size, 0, none⟩ = some (.slice (some ⟨bt8, 0, none⟩) 32 32)) := by show _ = _; simp [go_sem]
              have HS9 : Hid (w8.heap.size < (w8.alloc (.cells #[.slice (some ⟨bt8, 0, none⟩) 32 32] 25)).heap.size) := by show _ < _; simp
              have hj : i / 16 < (rs ad L N).length := by rw [rs_len]; have := HI.out; omega
              obtain ⟨gA, cA, btA, BA, hv, hsA, hBA, hDg, hcl⟩ := (HL7.out.to HB9.out).at hj
              rw [rs_get ad L (by rw [rs_len] at hj; exact hj), show 16 * (i / 16) + 1 = i + 1 from by omega] at hsA
              simp only [Value.slice.injEq] at hv
              obtain ⟨rfl, -, -⟩ := hv
              have HSA : Hid (Hs (w8.alloc (.cells #[.slice (some ⟨bt8, 0, none⟩) 32 32] 25)) w4.heap.size btA BA (evo ad L (i + 1)).S) := hsA
              have HGA : Hid (gA < (w8.alloc (.cells #[.slice (some ⟨bt8, 0, none⟩) 32 32] 25)).heap.size) := ((HL7.out.to HB9.out).lt hDg).2
              have HGc : Hid ((w8.alloc (.cells #[.slice (some ⟨bt8, 0, none⟩) 32 32] 25)).cell? ⟨gA, i / 16, none⟩ = some (.slice (some ⟨btA, 0, none⟩) 32 32)) := hcl
              have q0 : (i : Int).tdiv 16 = ((i / 16 : Nat) : Int) := by rw [Int.tdiv_eq_ediv_of_nonneg (by omega)]; omega
              have q1 : (i : Int) / 16 = ((i / 16 : Nat) : Int) := by omega
              have q2 : (0 : Int) ≤ ((i / 16 : Nat) : Int) := by omega
              have q3 : ((i / 16 : Nat) : Int) < (rn : Int) := by have := HRN.out; have := HI.out; omega
              have q4 : IntKind.i64.wrap ((i : Int).tdiv 16) = ((i / 16 : Nat) : Int) := by rw [q0, IntKind.wrap_i64]; omega
              have q5 : IntKind.i64.wrap ((i : Int) / 16) = ((i / 16 : Nat) : Int) := by rw [q1, IntKind.wrap_i64]; omega
              have q6 : IntKind.i64.wrap ((i / 16 : Nat) : Int) = ((i / 16 : Nat) : Int) := by rw [IntKind.wrap_i64]; omega
              generalize i / 16 = jj at *
              clear hs8 hb8 HSe y4 hsA hBA hDg hcl hj
              go_wp2_with fail
              generalize w8.alloc (.cells #[.slice (some ⟨bt8, 0, none⟩) 32 32] 25) = w9 at *
              generalize w8.heap.size = sb at *
              have HKp : Hid (∀ u, Below w9.heap.size w9 u → u.cell? ⟨sb, 0, none⟩ = some (.slice (some ⟨bt8, 0, none⟩) 32 32) ∧ u.cell? ⟨gA, jj, none⟩ = some (.slice (some ⟨btA, 0, none⟩) 32 32)) := fun u hu => by
                rw [newCell hu _ _ HS9.out, newCell hu _ _ HGA.out]; exact ⟨HC9.out, HGc.out⟩
              have HSm : Hid (∀ u, Below w9.heap.size w9 u → Calls Tryd.prog 36 #[.agg #[.slice (some ⟨bt8, 0, none⟩) 32 32], .agg #[.slice (some ⟨btA, 0, none⟩) 32 32]] u fun e w' => e = .returned (.bool true) ∧ Below u.heap.size u w') := fun u hu => same_hs (HH9.out.to hu) (HSA.out.to hu)
              have hbd : Below w9.heap.size w9 w9.drew := below_drew (Below.refl _ _)
              go_region_held3 (fun u => u.cell? ⟨sb, 0, none⟩ = some (.slice (some ⟨bt8, 0, none⟩) 32 32) ∧ u.cell? ⟨gA, jj, none⟩ = some (.slice (some ⟨btA, 0, none⟩) 32 32))
                ((exact HKp.out _ (by assumption)))
                ((go_at_call 36; refine (HSm.out _ (by assumption)).mono ?_; rintro e wB ⟨rfl, hbB⟩; have hzB := below_to (by assumption) hbB))
              have HZB : Hid (Below w7.heap.size w7 wB) := below_to HB9.out hzB
              clear hbB hzB
              go_wp2_with fail
              have hlt := HI.out
              go_roundw
              case rel => exact HRel.out _ HZB.out
              case measure => simp [intOf]; omega
            · have m0 : ((i : Int).tmod 16 == 0) = false := by rw [Int.tmod_eq_emod_of_nonneg (by omega), beq_eq_false_iff_ne]; omega
              have m1 : ((i : Int) % 16 == 0) = false := by rw [beq_eq_false_iff_ne]; omega
              have m2 : ¬ (i : Int).tmod 16 = 0 := by rw [Int.tmod_eq_emod_of_nonneg (by omega)]; omega
              go_wp2_with fail
              have hlt := HI.out
              go_roundw
              case rel => exact HRel.out _ (Below.refl _ _)
              case measure => simp [intOf]; omega
          · have HM : Hid (Calls Tryd.prog 33 #[.agg #[.bool true, .int .i64 dn, .int .i64 dk, .int .i64 dc, .int .i64 dv]] wr fun e w' => e = .returned (.agg #[.bool true, .int .i64 (mN dn : Nat), .int .i64 dk, .int .i64 dc, .int .i64 (mV dn dv : Nat)]) ∧ Below wr.heap.size wr w') := may_b
            have HSy : Hid (∀ u, Below wr.heap.size wr u → Calls Tryd.prog 34 #[.pointer (some ⟨r, 0, none⟩), .int .i64 (mN dn : Nat), .int .i64 (-1)] u fun r' w' => r' = .returned (.tuple #[.int .i64 (mV dn dv : Nat), .int .i64 0]) ∧ StR u w' lo2 r O ad (evo ad L (i + 1)) zs) := fun u hu => by
              have hin := HIn.out
              rw [HEv.out] at hin ⊢
              exact step_rb (HR.out.to hu) (evo_ok ad L i).1 HDw.out HZ.out HEn.out (d := ⟨true, dn, dk, dc, dv⟩) rfl hin HGN.out HVal.out
            generalize mV dn dv = vv at *
            generalize mN dn = nn at *
            go_wp2_with fail
            refine HM.out.mono ?_
            rintro e w4a ⟨rfl, hb4⟩
            have HB5 : Hid (Below wr.heap.size wr (w4a.alloc (.cells #[.bool true, .int .i64 nn, .int .i64 dk, .int .i64 dc, .int .i64 vv] 43))) := to_alloc hb4 _
            have HXb : Hid (wr.heap.size ≤ w4a.heap.size ∧ w4a.heap.size < (w4a.alloc (.cells #[.bool true, .int .i64 nn, .int .i64 dk, .int .i64 dc, .int .i64 vv] 43)).heap.size) := ⟨hb4.size, by simp⟩
            have HX : Hid (∀ v : World, v.heap[w4a.heap.size]? = (w4a.alloc (.cells #[.bool true, .int .i64 nn, .int .i64 dk, .int .i64 dc, .int .i64 vv] 43)).heap[w4a.heap.size]? → v.cell? ⟨w4a.heap.size, 0, none⟩ = some (.bool true) ∧ v.cell? ⟨w4a.heap.size, 1, none⟩ = some (.int .i64 nn) ∧ v.cell? ⟨w4a.heap.size, 4, none⟩ = some (.int .i64 vv)) := fun v hv => by
              rw [heap_new] at hv
              refine ⟨?_, ?_, ?_⟩ <;> (rw [cell_of hv]; rfl)
            obtain ⟨x0, x2, x4⟩ := HX.out _ rfl
            clear hb4 d0 d1 d2 d3 d4 HM
            go_wp2_with fail
            generalize w4a.alloc (.cells #[.bool true, .int .i64 nn, .int .i64 dk, .int .i64 dc, .int .i64 vv] 43) = w5a at *
            generalize w4a.heap.size = xb at *
            refine (HSy.out _ HB5.out).mono ?_
            rintro e w7 ⟨rfl, hst⟩
            have HSt : Hid (StR w5a w7 lo2 r O ad (evo ad L (i + 1)) zs) := hst
            have y4 : w7.cell? ⟨xb, 4, none⟩ = some (.int .i64 vv) := by
              obtain ⟨O', q', c', g', k1, _, k2, k3⟩ := hst
              exact (HX.out w7 (k2.ke.block xb HXb.out.2 (fun e => by have := HR.out.lt e; have := HXb.out.1; omega))).2.2
            have HB4w : Hid (Below w4.heap.size w4 w5a) := HB.out.trans (HB5.out.mono HB.out.size)
            have HL5 : Hid (Ls w5a w4.heap.size (.slice asl rn csl) (rs ad L N) D) := HL.out.to HB5.out
            have HW5 : Hid (WcE w5a w4.heap.size x Ow ad (evo ad L N)) := HW.out.to HB5.out
            have HRel : Hid (∀ u, Below w7.heap.size w7 u → BrJ w4 w4.heap.size x lo2 r N ad L zs (.slice asl rn csl) (.int .i64 ((i : Int) + 1)) u) := fun u hu => BrJ.next HI.out HSt.out HW5.out HL5.out HDO.out HLo2.out HB4w.out hu
            have t1 : ((vv : Int) != (vv : Int)) = false := by simp
            clear hst HSy x0 x2 x4 HX
            by_cases h16 : i % 16 = 0
            · have m0 : (i : Int).tmod 16 = 0 := by rw [Int.tmod_eq_emod_of_nonneg (by omega)]; omega
              have m1 : (i : Int) % 16 = 0 := by omega
              obtain ⟨O7, q7, c7, g7, k1, _, k2, k3⟩ := HSt.out
              have HB7 : Hid (Below w4.heap.size w4 w7) := HB4w.out.trans (k3.mono HLo2.out)
              have HL7 : Hid (Ls w7 w4.heap.size (.slice asl rn csl) (rs ad L N) D) := HL5.out.ke k2.ke (fun y e => (HDO.out y e).2)
              have HSe : Hid (Calls Tryd.prog 16 #[.pointer (some ⟨r, 0, none⟩)] w7 fun e w' => ∃ bt B, e = .returned (.tuple #[.agg #[.slice (some ⟨bt, 0, none⟩) 32 32], .int .i64 0]) ∧ Hs w' w7.heap.size bt B (evo ad L (i + 1)).S ∧ Below w7.heap.size w7 w') := set_rc k1 (HSh.out _ (HUp.out _ HB7.out))
              clear k1 k2 k3 HSt
              go_wp2_with fail
              refine HSe.out.mono ?_
              rintro e w8 ⟨bt8, B8, rfl, hs8, hb8⟩
              have HB9 : Hid (Below w7.heap.size w7 (w8.alloc (.cells #[.slice (some ⟨bt8, 0, none⟩) 32 32] 25))) := to_alloc hb8 _
              have HH9 : Hid (Hs (w8.alloc (.cells #[.slice (some ⟨bt8, 0, none⟩) 32 32] 25)) w7.heap.size bt8 B8 (evo ad L (i + 1)).S) := hs8.to (from_alloc _ _)
              have HC9 : Hid ((w8.alloc (.cells #[.slice (some ⟨bt8, 0, none⟩) 32 32] 25)).cell? ⟨w8.heap.size, 0, none⟩ = some (.slice (some ⟨bt8, 0, none⟩) 32 32)) := by show _ = _; simp [go_sem]
              have HS9 : Hid (w8.heap.size < (w8.alloc (.cells #[.slice (some ⟨bt8, 0, none⟩) 32 32] 25)).heap.size) := by show _ < _; simp
              have hj : i / 16 < (rs ad L N).length := by rw [rs_len]; have := HI.out; omega
              obtain ⟨gA, cA, btA, BA, hv, hsA, hBA, hDg, hcl⟩ := (HL7.out.to HB9.out).at hj
              rw [rs_get ad L (by rw [rs_len] at hj; exact hj), show 16 * (i / 16) + 1 = i + 1 from by omega] at hsA
              simp only [Value.slice.injEq] at hv
              obtain ⟨rfl, -, -⟩ := hv
              have HSA : Hid (Hs (w8.alloc (.cells #[.slice (some ⟨bt8, 0, none⟩) 32 32] 25)) w4.heap.size btA BA (evo ad L (i + 1)).S) := hsA
              have HGA : Hid (gA < (w8.alloc (.cells #[.slice (some ⟨bt8, 0, none⟩) 32 32] 25)).heap.size) := ((HL7.out.to HB9.out).lt hDg).2
              have HGc : Hid ((w8.alloc (.cells #[.slice (some ⟨bt8, 0, none⟩) 32 32] 25)).cell? ⟨gA, i / 16, none⟩ = some (.slice (some ⟨btA, 0, none⟩) 32 32)) := hcl
              have q0 : (i : Int).tdiv 16 = ((i / 16 : Nat) : Int) := by rw [Int.tdiv_eq_ediv_of_nonneg (by omega)]; omega
              have q1 : (i : Int) / 16 = ((i / 16 : Nat) : Int) := by omega
              have q2 : (0 : Int) ≤ ((i / 16 : Nat) : Int) := by omega
              have q3 : ((i / 16 : Nat) : Int) < (rn : Int) := by have := HRN.out; have := HI.out; omega
              have q4 : IntKind.i64.wrap ((i : Int).tdiv 16) = ((i / 16 : Nat) : Int) := by rw [q0, IntKind.wrap_i64]; omega
              have q5 : IntKind.i64.wrap ((i : Int) / 16) = ((i / 16 : Nat) : Int) := by rw [q1, IntKind.wrap_i64]; omega
              have q6 : IntKind.i64.wrap ((i / 16 : Nat) : Int) = ((i / 16 : Nat) : Int) := by rw [IntKind.wrap_i64]; omega
              generalize i / 16 = jj at *
              clear hs8 hb8 HSe y4 hsA hBA hDg hcl hj
              go_wp2_with fail
              generalize w8.alloc (.cells #[.slice (some ⟨bt8, 0, none⟩) 32 32] 25) = w9 at *
              generalize w8.heap.size = sb at *
              have HKp : Hid (∀ u, Below w9.heap.size w9 u → u.cell? ⟨sb, 0, none⟩ = some (.slice (some ⟨bt8, 0, none⟩) 32 32) ∧ u.cell? ⟨gA, jj, none⟩ = some (.slice (some ⟨btA, 0, none⟩) 32 32)) := fun u hu => by
                rw [newCell hu _ _ HS9.out, newCell hu _ _ HGA.out]; exact ⟨HC9.out, HGc.out⟩
              have HSm : Hid (∀ u, Below w9.heap.size w9 u → Calls Tryd.prog 36 #[.agg #[.slice (some ⟨bt8, 0, none⟩) 32 32], .agg #[.slice (some ⟨btA, 0, none⟩) 32 32]] u fun e w' => e = .returned (.bool true) ∧ Below u.heap.size u w') := fun u hu => same_hs (HH9.out.to hu) (HSA.out.to hu)
              have hbd : Below w9.heap.size w9 w9.drew := below_drew (Below.refl _ _)
              go_region_held3 (fun u => u.cell? ⟨sb, 0, none⟩ = some (.slice (some ⟨bt8, 0, none⟩) 32 32) ∧ u.cell? ⟨gA, jj, none⟩ = some (.slice (some ⟨btA, 0, none⟩) 32 32))
                ((exact HKp.out _ (by assumption)))
                ((go_at_call 36; refine (HSm.out _ (by assumption)).mono ?_; rintro e wB ⟨rfl, hbB⟩; have hzB := below_to (by assumption) hbB))
              have HZB : Hid (Below w7.heap.size w7 wB) := below_to HB9.out hzB
              clear hbB hzB
              go_wp2_with fail
              have hlt := HI.out
              go_roundw
              case rel => exact HRel.out _ HZB.out
              case measure => simp [intOf]; omega
            · have m0 : ((i : Int).tmod 16 == 0) = false := by rw [Int.tmod_eq_emod_of_nonneg (by omega), beq_eq_false_iff_ne]; omega
              have m1 : ((i : Int) % 16 == 0) = false := by rw [beq_eq_false_iff_ne]; omega
              have m2 : ¬ (i : Int).tmod 16 = 0 := by rw [Int.tmod_eq_emod_of_nonneg (by omega)]; omega
              go_wp2_with fail
              have hlt := HI.out
              go_roundw
              case rel => exact HRel.out _ (Below.refl _ _)
              case measure => simp [intOf]; omega
        · obtain rfl : N = i := by omega
          have i1 : ¬ (N : Int) < (N : Int) := by omega
          have HUq : Hid (∀ u, Below wr.heap.size wr u → Below W.heap.size W u) := fun u hu => HUp.out _ (HB.out.trans (hu.mono HB.out.size))
          have HSw : Hid (∀ u, Below wr.heap.size wr u → Calls Tryd.prog 16 #[.pointer (some ⟨x, 0, none⟩)] u fun e w' => ∃ bt B, e = .returned (.tuple #[.agg #[.slice (some ⟨bt, 0, none⟩) 32 32], .int .i64 0]) ∧ Hs w' u.heap.size bt B (evo ad L N).S ∧ Below u.heap.size u w') := fun u hu => set_wc (HW.out.to hu) (HSh.out _ (HUq.out _ hu))
          have HSs : Hid (∀ u, Below wr.heap.size wr u → Calls Tryd.prog 16 #[.pointer (some ⟨r, 0, none⟩)] u fun e w' => ∃ bt B, e = .returned (.tuple #[.agg #[.slice (some ⟨bt, 0, none⟩) 32 32], .int .i64 0]) ∧ Hs w' u.heap.size bt B (evo ad L N).S ∧ Below u.heap.size u w') := fun u hu => set_rc (HR.out.to hu) (HSh.out _ (HUq.out _ hu))
          have HC1 : Hid (∀ u, Below wr.heap.size wr u → Calls Tryd.prog 37 #[.pointer (some ⟨x, 0, none⟩)] u fun e w' => e = .returned (.int .i64 ((evo ad L N).n : Nat)) ∧ w' = u) := fun u hu => count_wc (HW.out.to hu)
          have HC2 : Hid (∀ u, Below wr.heap.size wr u → Calls Tryd.prog 37 #[.pointer (some ⟨r, 0, none⟩)] u fun e w' => e = .returned (.int .i64 ((evo ad L N).n : Nat)) ∧ w' = u) := fun u hu => count_rc (HR.out.to hu)
          have HDf : Hid (ad = false → (evo ad L N).S = dS) := evo_still ad L N
          generalize (evo ad L N).S = SN at *
          generalize (evo ad L N).n = nN at *
          clear HDw HW HL HDO HEn hi hlt HR HVal HZ HGN HRN
          go_wp2_with fail
          refine (HSw.out _ (Below.refl _ _)).mono ?_
          rintro e w8 ⟨bt8, B8, rfl, hs8, hb8⟩
          have HBa : Hid (Below wr.heap.size wr (w8.alloc (.cells #[.slice (some ⟨bt8, 0, none⟩) 32 32] 25))) := to_alloc hb8 _
          have HHa : Hid (Hs (w8.alloc (.cells #[.slice (some ⟨bt8, 0, none⟩) 32 32] 25)) wr.heap.size bt8 B8 SN) := hs8.to (from_alloc _ _)
          have HCa : Hid ((w8.alloc (.cells #[.slice (some ⟨bt8, 0, none⟩) 32 32] 25)).cell? ⟨w8.heap.size, 0, none⟩ = some (.slice (some ⟨bt8, 0, none⟩) 32 32)) := by show _ = _; simp [go_sem]
          have HLa : Hid (w8.heap.size < (w8.alloc (.cells #[.slice (some ⟨bt8, 0, none⟩) 32 32] 25)).heap.size) := by show _ < _; simp
          clear hs8 hb8 HSw
          go_wp2_with fail
          generalize w8.alloc (.cells #[.slice (some ⟨bt8, 0, none⟩) 32 32] 25) = wa at *
          generalize w8.heap.size = sa at *
          refine (HSs.out _ HBa.out).mono ?_
          rintro e w9 ⟨bt9, B9, rfl, hs9, hb9⟩
          have HBc : Hid (Below wa.heap.size wa (w9.alloc (.cells #[.slice (some ⟨bt9, 0, none⟩) 32 32] 25))) := to_alloc hb9 _
          have HHb : Hid (Hs (w9.alloc (.cells #[.slice (some ⟨bt9, 0, none⟩) 32 32] 25)) wa.heap.size bt9 B9 SN) := hs9.to (from_alloc _ _)
          have HCb : Hid ((w9.alloc (.cells #[.slice (some ⟨bt9, 0, none⟩) 32 32] 25)).cell? ⟨w9.heap.size, 0, none⟩ = some (.slice (some ⟨bt9, 0, none⟩) 32 32)) := by show _ = _; simp [go_sem]
          have HLb : Hid (w9.heap.size < (w9.alloc (.cells #[.slice (some ⟨bt9, 0, none⟩) 32 32] 25)).heap.size) := by show _ < _; simp
          clear hs9 hb9 HSs
          go_wp2_with fail
          generalize w9.alloc (.cells #[.slice (some ⟨bt9, 0, none⟩) 32 32] 25) = wb at *
          generalize w9.heap.size = sb at *
          have HBb : Hid (Below wr.heap.size wr wb) := below_to HBa.out HBc.out
          have HKb : Hid (∀ u, Below wb.heap.size wb u → u.cell? ⟨sa, 0, none⟩ = some (.slice (some ⟨bt8, 0, none⟩) 32 32) ∧ u.cell? ⟨sb, 0, none⟩ = some (.slice (some ⟨bt9, 0, none⟩) 32 32)) := fun u hu => by
            rw [newCell hu _ _ (Nat.lt_of_lt_of_le HLa.out HBc.out.size), newCell hu _ _ HLb.out, newCell HBc.out _ _ HLa.out]
            exact ⟨HCa.out, HCb.out⟩
          have HSm : Hid (∀ u, Below wb.heap.size wb u → Calls Tryd.prog 36 #[.agg #[.slice (some ⟨bt8, 0, none⟩) 32 32], .agg #[.slice (some ⟨bt9, 0, none⟩) 32 32]] u fun e w' => e = .returned (.bool true) ∧ Below u.heap.size u w') := fun u hu => same_hs ((HHa.out.to HBc.out).to hu) (HHb.out.to hu)
          have HSd : Hid (∀ u btd Bd, ad = false → Below wb.heap.size wb u → Hs u 0 btd Bd dS → Calls Tryd.prog 36 #[.agg #[.slice (some ⟨bt8, 0, none⟩) 32 32], .agg #[.slice (some ⟨btd, 0, none⟩) 32 32]] u fun e w' => e = .returned (.bool true) ∧ Below u.heap.size u w') := fun u btd Bd ha hu hd => same_hs ((HHa.out.to HBc.out).to hu) (by rw [HDf.out ha]; exact hd)
          have HDe : Hid (∀ u, Below wb.heap.size wb u → Calls Tryd.prog 32 #[] u fun e w' => ∃ btd Bd, e = .returned (.agg #[.slice (some ⟨btd, 0, none⟩) 32 32]) ∧ Hs w' 0 btd Bd dS ∧ Below u.heap.size u w') := fun u hu => (default_hs (HSh.out _ (HUq.out _ (below_to HBb.out hu)))).mono (by
            rintro e w' ⟨btd, Bd, rfl, h1, h2⟩
            exact ⟨btd, Bd, rfl, h1.weak (Nat.zero_le _), h2⟩)
          have HCc : Hid (∀ u, Below wb.heap.size wb u → Calls Tryd.prog 37 #[.pointer (some ⟨x, 0, none⟩)] u fun e w' => e = .returned (.int .i64 (nN : Nat)) ∧ w' = u) := fun u hu => HC1.out u (below_to HBb.out hu)
          have HCd : Hid (∀ u, Below wb.heap.size wb u → Calls Tryd.prog 37 #[.pointer (some ⟨r, 0, none⟩)] u fun e w' => e = .returned (.int .i64 (nN : Nat)) ∧ w' = u) := fun u hu => HC2.out u (below_to HBb.out hu)
          have HEnd : Hid (∀ u, Below wb.heap.size wb u → Below W.heap.size W u) := fun u hu => HUq.out _ (below_to HBb.out hu)
          clear HC1 HC2 HHa HHb HCa HCb HLa HLb HBa HBc HDf
          have hbd : Below wb.heap.size wb wb.drew := below_drew (Below.refl _ _)
          have e0 : ((nN : Int) == (nN : Int)) = true := by simp
          cases ad
          · go_region_held3 (fun u => u.cell? ⟨sa, 0, none⟩ = some (.slice (some ⟨bt8, 0, none⟩) 32 32) ∧ u.cell? ⟨sb, 0, none⟩ = some (.slice (some ⟨bt9, 0, none⟩) 32 32))
              ((exact HKb.out _ (by assumption)))
              (first
                | (go_at_call 32; refine (HDe.out _ (by assumption)).mono ?_; rintro e wD ⟨btd, Bd, rfl, hsD, hbD⟩; have hzD := below_to (by assumption) hbD)
                | (go_at_call 36; with_reducible refine (HSm.out _ (by assumption)).mono ?_; rintro e wA ⟨rfl, hbA⟩; have hzA := below_to (by assumption) hbA)
                | (go_at_call 37; with_reducible refine (HCc.out _ (by assumption)).mono ?_; rintro e wB ⟨rfl, hwB⟩; have hzB : Below wb.heap.size wb wB := (by rw [hwB]; assumption))
                | (go_at_call 37; with_reducible refine (HCd.out _ (by assumption)).mono ?_; rintro e wC ⟨rfl, hwC⟩; have hzC : Below wb.heap.size wb wC := (by rw [hwC]; assumption))
                | (go_at_call 36; refine (HSd.out _ _ _ (by first | trivial | rfl) hzD hsD).mono ?_; rintro e wE ⟨rfl, hbE⟩; have hzE := below_to hzD hbE))
            all_goals
              have HZE : Hid (Below wb.heap.size wb wE) := hzE
              go_wp2_with fail
              exact bodyPost_ret (v := .bool true) (by simp [results, Tryd.results6, go_sem]) rfl ⟨rfl, HEnd.out _ HZE.out⟩
          · skip
            refine wp_region_held_drew (S := (fun u => (u.cell? ⟨sa, 0, none⟩ = some (.slice (some ⟨bt8, 0, none⟩) 32 32) ∧ u.cell? ⟨sb, 0, none⟩ = some (.slice (some ⟨bt9, 0, none⟩) 32 32)) ∧ Below wb.heap.size wb u)) (by kernel_rfl) ⟨HKb.out _ hbd, hbd⟩ (fun hHeld => ?_)
            change wpAnyH _ _ _ _ _ 19 #[false, false, false, false, false, false, false, false, false, false, false, false, false, false, false, false, false, false, false] _ _
            refine wpAnyH_take (i := 0) (oi := { dst := some 176, op := Op.load 25 (Operand.tmp 23), type := 25, pos := "outright.go:124", after := #[], guard := none }) (v := ?_) rfl (by kernel_rfl) (by kernel_rfl) (by kernel_rfl) (fun _ _ _ h => h) (Or.inl ⟨by rfl, ?hy⟩) (by assumption) ?_
            case hy =>
              intro wz hSw
              (try dsimp only at hSw)
              first | (go_simp; done) | (go_simp; with_reducible rfl)
            simp only [Act.put, List.setIfInBounds_toArray, List.set_cons_zero, List.set_cons_succ]
            refine wpAnyH_take (i := 1) (oi := { dst := some 177, op := Op.load 25 (Operand.tmp 25), type := 25, pos := "outright.go:124", after := #[], guard := none }) (v := ?_) rfl (by kernel_rfl) (by kernel_rfl) (by kernel_rfl) (fun _ _ _ h => h) (Or.inl ⟨by rfl, ?hy⟩) (by assumption) ?_
            case hy =>
              intro wz hSw
              (try dsimp only at hSw)
              first | (go_simp; done) | (go_simp; with_reducible rfl)
            simp only [Act.put, List.setIfInBounds_toArray, List.set_cons_zero, List.set_cons_succ]
            refine wpAnyH_ready (rs := [2]) (by kernel_rfl) (by simp) ?_
            refine AllReadyH.cons rfl (fun K hK => ?_) AllReadyH.nil
            go_simp
            refine (HSm.out _ hHeld.2).mono ?_
            rintro e wA ⟨rfl, hbA⟩
            have hzA : Below wb.heap.size wb wA := below_to hHeld.2 hbA
            go_wp2_with fail
            refine hK.out _ _ ⟨HKb.out _ hzA, hzA⟩ (fun hHeld2 => ?_)
            clear hK K
            (try simp only [List.setIfInBounds_toArray, List.set_cons_zero, List.set_cons_succ])
            refine wpAnyH_take (i := 3) (oi := { dst := some 179, op := Op.move (Operand.tmp 178), type := 4, pos := "outright.go:124", after := #[{ on := 2, ground := Ground.data }, { on := 2, ground := Ground.chain }], guard := none }) (v := ?_) rfl (by kernel_rfl) (by kernel_rfl) (by kernel_rfl) (fun _ _ _ h => h) (Or.inl ⟨by rfl, ?hy⟩) (by assumption) ?_
            case hy =>
              intro wz hSw
              (try dsimp only at hSw)
              first | (go_simp; done) | (go_simp; with_reducible rfl)
            simp only [Act.put, List.setIfInBounds_toArray, List.set_cons_zero, List.set_cons_succ]
            refine wpAnyH_take (i := 4) (oi := { dst := some 180, op := Op.move (Operand.tmp 5), type := 28, pos := "outright.go:124", after := #[{ on := 3, ground := Ground.guard }], guard := some (3, true) }) (v := ?_) rfl (by kernel_rfl) (by kernel_rfl) (by kernel_rfl) (fun _ _ _ h => h) (Or.inl ⟨by rfl, ?hy⟩) (by assumption) ?_
            case hy =>
              intro wz hSw
              (try dsimp only at hSw)
              first | (go_simp; done) | (go_simp; with_reducible rfl)
            simp only [Act.put, List.setIfInBounds_toArray, List.set_cons_zero, List.set_cons_succ]
            refine wpAnyH_take (i := 6) (oi := { dst := some 182, op := Op.move (Operand.tmp 15), type := 28, pos := "outright.go:124", after := #[{ on := 3, ground := Ground.guard }], guard := some (3, true) }) (v := ?_) rfl (by kernel_rfl) (by kernel_rfl) (by kernel_rfl) (fun _ _ _ h => h) (Or.inl ⟨by rfl, ?hy⟩) (by assumption) ?_
            case hy =>
              intro wz hSw
              (try dsimp only at hSw)
              first | (go_simp; done) | (go_simp; with_reducible rfl)
            simp only [Act.put, List.setIfInBounds_toArray, List.set_cons_zero, List.set_cons_succ]
            refine wpAnyH_ready (rs := [5]) (by kernel_rfl) (by simp) ?_
            refine AllReadyH.cons rfl (fun K hK => ?_) AllReadyH.nil
            go_simp
            refine (HCc.out _ hzA).mono ?_
            rintro e wB ⟨rfl, hwB⟩
            go_wp2_with fail
            refine hK.out _ _ ⟨HKb.out _ hzA, hzA⟩ (fun hHeld3 => ?_)
            clear hK K
            (try simp only [List.setIfInBounds_toArray, List.set_cons_zero, List.set_cons_succ])
            refine wpAnyH_ready (rs := [7]) (by kernel_rfl) (by simp) ?_
            refine AllReadyH.cons rfl (fun K hK => ?_) AllReadyH.nil
            go_simp
            refine (HCd.out _ hzA).mono ?_
            rintro e wC ⟨rfl, hwC⟩
            go_wp2_with fail
            refine hK.out _ _ ⟨HKb.out _ hzA, hzA⟩ (fun hHeld4 => ?_)
            clear hK K
            (try simp only [List.setIfInBounds_toArray, List.set_cons_zero, List.set_cons_succ])
            refine wpAnyH_take (i := 8) (oi := { dst := some 184, op := Op.binOp BinOp.eql 3 (Operand.tmp 181) (Operand.tmp 183) 3, type := 4, pos := "outright.go:124", after := #[{ on := 5, ground := Ground.data }, { on := 7, ground := Ground.data }, { on := 3, ground := Ground.guard }], guard := some (3, true) }) (v := ?_) rfl (by kernel_rfl) (by kernel_rfl) (by kernel_rfl) (fun _ _ _ h => h) (Or.inl ⟨by rfl, ?hy⟩) (by assumption) ?_
            case hy =>
              intro wz hSw
              (try dsimp only at hSw)
              first | (go_simp; done) | (go_simp; with_reducible rfl)
            simp only [Act.put, List.setIfInBounds_toArray, List.set_cons_zero, List.set_cons_succ]
            refine wpAnyH_take (i := 9) (oi := { dst := some 185, op := Op.pick (Operand.tmp 179) (Operand.tmp 184) (Operand.const (Value.bool false)), type := 4, pos := "outright.go:124", after := #[{ on := 3, ground := Ground.data }, { on := 8, ground := Ground.data }], guard := none }) (v := ?_) rfl (by kernel_rfl) (by kernel_rfl) (by kernel_rfl) (fun _ _ _ h => h) (Or.inl ⟨by rfl, ?hy⟩) (by assumption) ?_
            case hy =>
              intro wz hSw
              (try dsimp only at hSw)
              first | (go_simp; done) | (go_simp; with_reducible rfl)
            simp only [Act.put, List.setIfInBounds_toArray, List.set_cons_zero, List.set_cons_succ]
            refine wpAnyH_take (i := 10) (oi := { dst := some 186, op := Op.move (Operand.tmp 185), type := 4, pos := "outright.go:124", after := #[{ on := 9, ground := Ground.data }, { on := 7, ground := Ground.chain }], guard := none }) (v := ?_) rfl (by kernel_rfl) (by kernel_rfl) (by kernel_rfl) (fun _ _ _ h => h) (Or.inl ⟨by rfl, ?hy⟩) (by assumption) ?_
            case hy =>
              intro wz hSw
              (try dsimp only at hSw)
              first | (go_simp; done) | (go_simp; with_reducible rfl)
            simp only [Act.put, List.setIfInBounds_toArray, List.set_cons_zero, List.set_cons_succ]
            refine wpAnyH_take (i := 11) (oi := { dst := some 187, op := Op.move (Operand.tmp 1), type := 4, pos := "outright.go:124", after := #[{ on := 10, ground := Ground.guard }], guard := some (10, true) }) (v := ?_) rfl (by kernel_rfl) (by kernel_rfl) (by kernel_rfl) (fun _ _ _ h => h) (Or.inl ⟨by rfl, ?hy⟩) (by assumption) ?_
            case hy =>
              intro wz hSw
              (try dsimp only at hSw)
              first | (go_simp; done) | (go_simp; with_reducible rfl)
            simp only [Act.put, List.setIfInBounds_toArray, List.set_cons_zero, List.set_cons_succ]
            refine wpAnyH_take (i := 12) (oi := { dst := some 188, op := Op.move (Operand.tmp 187), type := 4, pos := "outright.go:124", after := #[{ on := 11, ground := Ground.data }, { on := 10, ground := Ground.chain }, { on := 10, ground := Ground.guard }], guard := some (10, true) }) (v := ?_) rfl (by kernel_rfl) (by kernel_rfl) (by kernel_rfl) (fun _ _ _ h => h) (Or.inl ⟨by rfl, ?hy⟩) (by assumption) ?_
            case hy =>
              intro wz hSw
              (try dsimp only at hSw)
              first | (go_simp; done) | (go_simp; with_reducible rfl)
            simp only [Act.put, List.setIfInBounds_toArray, List.set_cons_zero, List.set_cons_succ]
            refine wpAnyH_take (i := 13) (oi := { dst := some 189, op := Op.load 25 (Operand.tmp 23), type := 25, pos := "outright.go:124", after := #[{ on := 12, ground := Ground.guard }], guard := some (12, false) }) (v := undef) rfl (by kernel_rfl) (by kernel_rfl) (by kernel_rfl) (fun _ _ _ h => h) (Or.inr ⟨by rfl, rfl⟩) (by assumption) ?_
            simp only [Act.put, List.setIfInBounds_toArray, List.set_cons_zero, List.set_cons_succ]
            refine wpAnyH_take (i := 14) (oi := { dst := some 190, op := Op.call { callee := Callee.value (Operand.func 32), args := #[], argTypes := #[] }, type := 25, pos := "outright.go:124", after := #[{ on := 12, ground := Ground.chain }, { on := 12, ground := Ground.guard }], guard := some (12, false) }) (v := undef) rfl (by kernel_rfl) (by kernel_rfl) (by kernel_rfl) (fun _ _ _ h => h) (Or.inr ⟨by rfl, rfl⟩) (by assumption) ?_
            simp only [Act.put, List.setIfInBounds_toArray, List.set_cons_zero, List.set_cons_succ]
            refine wpAnyH_take (i := 15) (oi := { dst := some 191, op := Op.call { callee := Callee.value (Operand.func 36), args := #[Operand.tmp 189, Operand.tmp 190], argTypes := #[25, 25] }, type := 4, pos := "outright.go:124", after := #[{ on := 13, ground := Ground.data }, { on := 14, ground := Ground.data }, { on := 14, ground := Ground.chain }, { on := 12, ground := Ground.guard }], guard := some (12, false) }) (v := undef) rfl (by kernel_rfl) (by kernel_rfl) (by kernel_rfl) (fun _ _ _ h => h) (Or.inr ⟨by rfl, rfl⟩) (by assumption) ?_
            simp only [Act.put, List.setIfInBounds_toArray, List.set_cons_zero, List.set_cons_succ]
            refine wpAnyH_take (i := 16) (oi := { dst := some 192, op := Op.pick (Operand.tmp 188) (Operand.const (Value.bool true)) (Operand.tmp 191), type := 4, pos := "outright.go:124", after := #[{ on := 12, ground := Ground.data }, { on := 15, ground := Ground.data }, { on := 10, ground := Ground.guard }], guard := some (10, true) }) (v := ?_) rfl (by kernel_rfl) (by kernel_rfl) (by kernel_rfl) (fun _ _ _ h => h) (Or.inl ⟨by rfl, ?hy⟩) (by assumption) ?_
            case hy =>
              intro wz hSw
              (try dsimp only at hSw)
              first | (go_simp; done) | (go_simp; with_reducible rfl)
            simp only [Act.put, List.setIfInBounds_toArray, List.set_cons_zero, List.set_cons_succ]
            refine wpAnyH_take (i := 17) (oi := { dst := some 193, op := Op.pick (Operand.tmp 186) (Operand.tmp 192) (Operand.const (Value.bool false)), type := 4, pos := "outright.go:124", after := #[{ on := 10, ground := Ground.data }, { on := 16, ground := Ground.data }], guard := none }) (v := ?_) rfl (by kernel_rfl) (by kernel_rfl) (by kernel_rfl) (fun _ _ _ h => h) (Or.inl ⟨by rfl, ?hy⟩) (by assumption) ?_
            case hy =>
              intro wz hSw
              (try dsimp only at hSw)
              first | (go_simp; done) | (go_simp; with_reducible rfl)
            simp only [Act.put, List.setIfInBounds_toArray, List.set_cons_zero, List.set_cons_succ]
            refine wpAnyH_take (i := 18) (oi := { dst := some 4, op := Op.assign (Operand.tmp 193), type := 4, pos := "outright.go:124", after := #[{ on := 17, ground := Ground.data }, { on := 15, ground := Ground.chain }, { on := 0, ground := Ground.phase }, { on := 1, ground := Ground.phase }, { on := 2, ground := Ground.phase }, { on := 3, ground := Ground.phase }, { on := 4, ground := Ground.phase }, { on := 5, ground := Ground.phase }, { on := 6, ground := Ground.phase }, { on := 7, ground := Ground.phase }, { on := 8, ground := Ground.phase }, { on := 9, ground := Ground.phase }, { on := 10, ground := Ground.phase }, { on := 11, ground := Ground.phase }, { on := 12, ground := Ground.phase }, { on := 13, ground := Ground.phase }, { on := 14, ground := Ground.phase }, { on := 15, ground := Ground.phase }, { on := 16, ground := Ground.phase }, { on := 17, ground := Ground.phase }], guard := none }) (v := ?_) rfl (by kernel_rfl) (by kernel_rfl) (by kernel_rfl) (fun _ _ _ h => h) (Or.inl ⟨by rfl, ?hy⟩) (by assumption) ?_
            case hy =>
              intro wz hSw
              (try dsimp only at hSw)
              first | (go_simp; done) | (go_simp; with_reducible rfl)
            simp only [Act.put, List.setIfInBounds_toArray, List.set_cons_zero, List.set_cons_succ]
            refine wpAnyH_done (by kernel_rfl) ?_ _
            have HZC : Hid (Below wb.heap.size wb wA) := hzA
            go_wp2_with fail
            exact bodyPost_ret (v := .bool true) (by simp [results, Tryd.results6, go_sem]) rfl ⟨rfl, HEnd.out _ HZC.out⟩
end Go.Proofs.YtppanogpeengnaaDoor
