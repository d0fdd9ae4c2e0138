/- DERIVED. The walk of BasisBounded. -/
import Derived.Test.YtjbipejpegmmoaaDoorEb
namespace Go.Proofs.YtjbipejpegmmoaaDoor
open Go.RowKit

set_option maxRecDepth 100000 in
set_option maxHeartbeats 4000000 in
theorem bounded_walk {w : World} {a : Option Addr} {c : Nat} {C : List Int} (hq : Qt w) (hs : Si w a C) (hl : C.length ≤ 140737488355328) :
    Calls Tryd.prog 8 #[.slice a C.length c] w fun e w' => e = .returned (.bool true) ∧ Below w.heap.size w w' := by
  have HQ : Hid (Qt w) := hq
  have HS : Hid (Si w a C) := hs
  clear hq hs
  go_enter Tryd.func8, Tryd.ntmps8
  go_wp2_with fail
  refine (works_any HQ.out).mono ?_
  rintro e w1 ⟨rfl, hb1⟩
  have HB1 : Hid (Below w.heap.size w w1) := hb1
  clear hb1
  go_wp2_with fail
  go_loopw [3] (fun i wr => ∃ k : Nat, k ≤ 4 ∧ i = .int .i64 k ∧ Below w.heap.size w wr) (fun i _ => 4 - (intOf i).toNat)
  case atStart => exact ⟨0, by omega, rfl, HB1.out⟩
  case round =>
    clear HB1
    obtain ⟨k, hk, rfl, hb⟩ := hrel
    have k0 : 0 ≤ (k : Int) := by omega
    by_cases hk4 : k < 4
    · have k4 : (k : Int) < 4 := by omega
      have HB : Hid (Below w.heap.size w wr) := hb
      clear hb
      go_wp2_with fail
      refine (lengths_any hk4).mono ?_
      rintro e w2 ⟨g, rfl, -, hr, hb2⟩
      rw [lenL_len]
      have HC := lnC_le k hk4
      have HR : Hid (Ri 3 w2 g (lenL k)) := hr
      have HB2 : Hid (Below w.heap.size w w2) := below_to HB.out hb2
      have q5 : (lnC k : Int) ≤ 5 := by omega
      clear hr hb2
      go_wp2_with fail
      go_loopw [5] (fun i wr => ∃ m : Nat, m ≤ lnC k ∧ i = .int .i64 m ∧ Ri 3 wr g (lenL k) ∧ Below w.heap.size w wr) (fun i _ => 5 - (intOf i).toNat)
      case atStart => exact ⟨0, by omega, rfl, HR.out, HB2.out⟩
      case round =>
        clear HR HB2 HB
        obtain ⟨m, hm, rfl, hr, hb⟩ := hrel
        have m0 : 0 ≤ (m : Int) := by omega
        by_cases hmc : m < lnC k
        · have m1 : (m : Int) < (lnC k : Int) := by omega
          by_cases hk3 : k < 3
          · have k3 : (k : Int) < 3 := by omega
            have c0 : wr.cell? ⟨g, m, none⟩ = some (.int .i64 (lnN k m : Int)) := by rw [hr.cell m (by rw [lenL_len]; exact hmc), lenL_get _ _ hmc]
            have hok := lnN_ok k hk4 m hmc (by omega)
            have hkl := kL_le (k : Int)
            have HOK : Hid _ := hok
            have hn64 : lnN k m ≤ 64 := by omega
            have HR : Hid (Ri 3 wr g (lenL k)) := hr
            have HB : Hid (Below w.heap.size w wr) := hb
            have HRow : Hid (Calls Tryd.prog 13 #[.slice a C.length c, .int .i64 (lnN k m : Int), .int .i64 32768] wr fun e w' => Rn wr w' e (lnN k m) 32768) := row_any (HS.out.to hb) hl hn64 (by omega) (by omega)
            have n4 : (4 : Int) ≤ (lnN k m : Int) := by omega
            have n64 : (lnN k m : Int) ≤ 64 := by omega
            clear hr hb hok
            generalize hnn : lnN k m = n at *
            have HNN : Hid (lnN k m = n) := hnn
            clear hnn
            go_wp2_with fail
            refine HRow.out.mono ?_
            rintro e w2 ⟨x, cx, D, rfl, hD, hM, hx, hb2⟩
            have HT : Hid (tkB (kL (k : Int)) D = true) := tkB_mk (by have := HOK.out; omega) (by have := HOK.out; omega) (by rw [hD]; exact HOK.out.2.2) (fun j hj => by have := hM j hj; omega)
            have HDn : Hid (D.length = n) := hD
            have HI1 : Hid (Mst (invR (k : Int) D) 8388608) := inv_bd HT.out hM
            have HF1 : Hid (Mst (fwdR (k : Int) D) 8388608) := fwd_bd HT.out hM
            have HI2 : Hid ((invR (k : Int) D).length = n) := (inv_len HT.out).trans hD
            have HF2 : Hid ((fwdR (k : Int) D).length = n) := (fwd_len HT.out).trans hD
            have HX2 : Hid (Si w2 x D) := hx
            have HB2 : Hid (Below w.heap.size w w2) := below_to HB.out hb2
            have HR2 : Hid (Ri 3 w2 g (lenL k)) := HR.out.to hb2
            clear hD hM hx hb2
            go_wp2_with fail
            refine (inv_to (k := (k : Int)) (HQ.out.to HB2.out) HX2.out HDn.out HT.out).mono ?_
            rintro e w3 ⟨g3, rfl, -, hr3, hb3⟩
            rw [HI2.out]
            have HX3 : Hid (Si w3 x D) := HX2.out.to hb3
            have HB3 : Hid (Below w.heap.size w w3) := below_to HB2.out hb3
            have HR3 : Hid (Ri 3 w3 g (lenL k)) := HR2.out.to hb3
            have HA3 : Hid (Ri 3 w3 g3 (invR (k : Int) D)) := hr3
            clear hr3 hb3
            go_wp2_with fail
            refine (fwd_to (k := (k : Int)) (HQ.out.to HB3.out) HX3.out HDn.out HT.out).mono ?_
            rintro e w4 ⟨g4, rfl, -, hr4, hb4⟩
            rw [HF2.out]
            have HB4 : Hid (Below w.heap.size w w4) := below_to HB3.out hb4
            have HR4 : Hid (Ri 3 w4 g (lenL k)) := HR3.out.to hb4
            have HA4 : Hid (Ri 3 w4 g3 (invR (k : Int) D)) := HA3.out.to hb4
            have HF4 : Hid (Ri 3 w4 g4 (fwdR (k : Int) D)) := hr4
            have d0 : w4.cell? ⟨g, m, none⟩ = some (.int .i64 (n : Int)) := by rw [HR4.out.cell m (by rw [lenL_len]; exact hmc), lenL_get _ _ hmc, HNN.out]
            have nn : ((n : Int) != (n : Int)) = false := by simp
            clear hr4 hb4
            generalize invR (k : Int) D = A at *
            generalize fwdR (k : Int) D = F at *
            go_wp2_with fail
            go_loop [11] (fun i => ∃ t : Nat, t ≤ n ∧ i = .int .i64 t) (fun i => n - (intOf i).toNat)
            case atStart => exact ⟨0, by omega, rfl⟩
            case round =>
              obtain ⟨t, ht, rfl⟩ := hrel
              have t0 : 0 ≤ (t : Int) := by omega
              by_cases htn : t < n
              · have t1 : (t : Int) < (n : Int) := by omega
                have a0 : w4.cell? ⟨g3, t, none⟩ = some (.int .i64 (A.getD t 0)) := HA4.out.cell t (by rw [HI2.out]; exact htn)
                have f0 : w4.cell? ⟨g4, t, none⟩ = some (.int .i64 (F.getD t 0)) := HF4.out.cell t (by rw [HF2.out]; exact htn)
                have ha := HI1.out t (by rw [HI2.out]; exact htn)
                have hf := HF1.out t (by rw [HF2.out]; exact htn)
                have ha1 := ab_le ha
                have hf1 := ab_le hf
                have HCa : Hid (Calls Tryd.prog 18 #[.int .i64 (A.getD t 0)] w4 fun e w' => e = .returned (.int .i64 (ab (A.getD t 0))) ∧ w' = w4) := abs_any (by omega)
                have HCf : Hid (Calls Tryd.prog 18 #[.int .i64 (F.getD t 0)] w4 fun e w' => e = .returned (.int .i64 (ab (F.getD t 0))) ∧ w' = w4) := abs_any (by omega)
                have ha2 : ¬ 8388608 < ab (A.getD t 0) := by omega
                have hf2 : ¬ 8388608 < ab (F.getD t 0) := by omega
                clear ha hf ha1 hf1
                generalize ab (A.getD t 0) = y1 at *
                generalize ab (F.getD t 0) = y2 at *
                go_wp2_with (first | (go_at_call 18; refine HCa.out.mono ?_; rintro e w' ⟨rfl, rfl⟩) | (go_at_call 18; refine HCf.out.mono ?_; rintro e w' ⟨rfl, rfl⟩))
                go_round
                case rel => exact ⟨t + 1, by omega, by go_num⟩
                case measure => simp [intOf]; omega
              · go_wp2_with fail
                go_roundw
                case rel => exact ⟨m + 1, by omega, by go_num, HR4.out, HB4.out⟩
                case measure => simp [intOf]; omega
          · have k3 : ¬ (k : Int) < 3 := by omega
            by_cases hm0 : m = 0
            · subst hm0
              have mz : True := trivial
              have c0 : wr.cell? ⟨g, 0, none⟩ = some (.int .i64 (lnN k 0 : Int)) := by rw [hr.cell 0 (by rw [lenL_len]; exact hmc), lenL_get _ _ hmc]
              have hok := lnN_ok k hk4 0 hmc (by omega)
              have hkl := kL_le (k : Int)
              have HOK : Hid _ := hok
              have hn64 : lnN k 0 ≤ 64 := by omega
              have HR : Hid (Ri 3 wr g (lenL k)) := hr
              have HB : Hid (Below w.heap.size w wr) := hb
              have HRow : Hid (Calls Tryd.prog 13 #[.slice a C.length c, .int .i64 (lnN k 0 : Int), .int .i64 32768] wr fun e w' => Rn wr w' e (lnN k 0) 32768) := row_any (HS.out.to hb) hl hn64 (by omega) (by omega)
              have n4 : (4 : Int) ≤ (lnN k 0 : Int) := by omega
              have n64 : (lnN k 0 : Int) ≤ 64 := by omega
              clear hr hb hok
              generalize hnn : lnN k 0 = n at *
              have HNN : Hid (lnN k 0 = n) := hnn
              clear hnn
              go_wp2_with fail
              refine HRow.out.mono ?_
              rintro e w2 ⟨x, cx, D, rfl, hD, hM, hx, hb2⟩
              have HT : Hid (tkB (kL (k : Int)) D = true) := tkB_mk (by have := HOK.out; omega) (by have := HOK.out; omega) (by rw [hD]; exact HOK.out.2.2) (fun j hj => by have := hM j hj; omega)
              have HDn : Hid (D.length = n) := hD
              have HI1 : Hid (Mst (invR (k : Int) D) 8388608) := inv_bd HT.out hM
              have HF1 : Hid (Mst (fwdR (k : Int) D) 8388608) := fwd_bd HT.out hM
              have HI2 : Hid ((invR (k : Int) D).length = n) := (inv_len HT.out).trans hD
              have HF2 : Hid ((fwdR (k : Int) D).length = n) := (fwd_len HT.out).trans hD
              have HX2 : Hid (Si w2 x D) := hx
              have HB2 : Hid (Below w.heap.size w w2) := below_to HB.out hb2
              have HR2 : Hid (Ri 3 w2 g (lenL k)) := HR.out.to hb2
              clear hD hM hx hb2
              go_wp2_with fail
              refine (inv_to (k := (k : Int)) (HQ.out.to HB2.out) HX2.out HDn.out HT.out).mono ?_
              rintro e w3 ⟨g3, rfl, -, hr3, hb3⟩
              rw [HI2.out]
              have HX3 : Hid (Si w3 x D) := HX2.out.to hb3
              have HB3 : Hid (Below w.heap.size w w3) := below_to HB2.out hb3
              have HR3 : Hid (Ri 3 w3 g (lenL k)) := HR2.out.to hb3
              have HA3 : Hid (Ri 3 w3 g3 (invR (k : Int) D)) := hr3
              clear hr3 hb3
              go_wp2_with fail
              refine (fwd_to (k := (k : Int)) (HQ.out.to HB3.out) HX3.out HDn.out HT.out).mono ?_
              rintro e w4 ⟨g4, rfl, -, hr4, hb4⟩
              rw [HF2.out]
              have HB4 : Hid (Below w.heap.size w w4) := below_to HB3.out hb4
              have HR4 : Hid (Ri 3 w4 g (lenL k)) := HR3.out.to hb4
              have HA4 : Hid (Ri 3 w4 g3 (invR (k : Int) D)) := HA3.out.to hb4
              have HF4 : Hid (Ri 3 w4 g4 (fwdR (k : Int) D)) := hr4
              have d0 : w4.cell? ⟨g, 0, none⟩ = some (.int .i64 (n : Int)) := by rw [HR4.out.cell 0 (by rw [lenL_len]; exact hmc), lenL_get _ _ hmc, HNN.out]
              have nn : ((n : Int) != (n : Int)) = false := by simp
              clear hr4 hb4
              generalize invR (k : Int) D = A at *
              generalize fwdR (k : Int) D = F at *
              go_wp2_with fail
              go_loop [11] (fun i => ∃ t : Nat, t ≤ n ∧ i = .int .i64 t) (fun i => n - (intOf i).toNat)
              case atStart => exact ⟨0, by omega, rfl⟩
              case round =>
                obtain ⟨t, ht, rfl⟩ := hrel
                have t0 : 0 ≤ (t : Int) := by omega
                by_cases htn : t < n
                · have t1 : (t : Int) < (n : Int) := by omega
                  have a0 : w4.cell? ⟨g3, t, none⟩ = some (.int .i64 (A.getD t 0)) := HA4.out.cell t (by rw [HI2.out]; exact htn)
                  have f0 : w4.cell? ⟨g4, t, none⟩ = some (.int .i64 (F.getD t 0)) := HF4.out.cell t (by rw [HF2.out]; exact htn)
                  have ha := HI1.out t (by rw [HI2.out]; exact htn)
                  have hf := HF1.out t (by rw [HF2.out]; exact htn)
                  have ha1 := ab_le ha
                  have hf1 := ab_le hf
                  have HCa : Hid (Calls Tryd.prog 18 #[.int .i64 (A.getD t 0)] w4 fun e w' => e = .returned (.int .i64 (ab (A.getD t 0))) ∧ w' = w4) := abs_any (by omega)
                  have HCf : Hid (Calls Tryd.prog 18 #[.int .i64 (F.getD t 0)] w4 fun e w' => e = .returned (.int .i64 (ab (F.getD t 0))) ∧ w' = w4) := abs_any (by omega)
                  have ha2 : ¬ 8388608 < ab (A.getD t 0) := by omega
                  have hf2 : ¬ 8388608 < ab (F.getD t 0) := by omega
                  clear ha hf ha1 hf1
                  generalize ab (A.getD t 0) = y1 at *
                  generalize ab (F.getD t 0) = y2 at *
                  go_wp2_with (first | (go_at_call 18; refine HCa.out.mono ?_; rintro e w' ⟨rfl, rfl⟩) | (go_at_call 18; refine HCf.out.mono ?_; rintro e w' ⟨rfl, rfl⟩))
                  go_round
                  case rel => exact ⟨t + 1, by omega, by go_num⟩
                  case measure => simp [intOf]; omega
                · go_wp2_with fail
                  go_roundw
                  case rel => exact ⟨0 + 1, by omega, by go_num, HR4.out, HB4.out⟩
                  case measure => simp [intOf]
            · have mz : ((m : Int) == 0) = false := by rw [beq_eq_false_iff_ne]; omega
              have HB : Hid (Below w.heap.size w wr) := hb
              clear hr hb hm0
              go_wp2_with fail
              go_roundw
              case rel => exact ⟨k + 1, by omega, by go_num, HB.out⟩
              case measure => simp [intOf]; omega
        · have m1 : ¬ (m : Int) < (lnC k : Int) := by omega
          have HB : Hid (Below w.heap.size w wr) := hb
          clear hr hb
          go_wp2_with fail
          go_roundw
          case rel => exact ⟨k + 1, by omega, by go_num, HB.out⟩
          case measure => simp [intOf]; omega
    · have HB : Hid (Below w.heap.size w wr) := hb
      clear hb
      go_wp2_with fail
      go_ret
      exact ⟨rfl, HB.out⟩

end Go.Proofs.YtjbipejpegmmoaaDoor
