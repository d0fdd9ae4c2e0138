/- DERIVED. The walk of BasisNear. -/
import Derived.Test.YtjbipejpegmmoaaDoorEd
namespace Go.Proofs.YtjbipejpegmmoaaDoor
open Go.RowKit

set_option maxRecDepth 100000 in
set_option maxHeartbeats 4000000 in
theorem near_walk {w : World} {a : Option Addr} {c : Nat} {C : List Int} (hq : Qt w) (hs : Si w a C) (hl : C.length ≤ 140737488355328) :
    Calls Tryd.prog 6 #[.slice a C.length c] w fun e w' => e = .returned (.bool true) ∧ Below w.heap.size w w' := by
  have HQ : Hid (Qt w) := hq
  have HS : Hid (Si w a C) := hs
  clear hq hs
  go_enter Tryd.func6, Tryd.ntmps6
  go_wp2_with fail
  refine (works_any HQ.out).mono ?_
  rintro e w1 ⟨rfl, hb1⟩
  have HB1 : Hid (Below w.heap.size w w1) := hb1
  clear hb1
  go_wp2_with fail
  go_loopw [3] (fun i wr => ∃ k : Nat, k ≤ 3 ∧ i = .int .i64 k ∧ Below w.heap.size w wr) (fun i _ => 3 - (intOf i).toNat)
  case atStart => exact ⟨0, by omega, rfl, HB1.out⟩
  case round =>
    clear HB1
    obtain ⟨k, hk, rfl, hb⟩ := hrel
    have k0 : 0 ≤ (k : Int) := by omega
    by_cases hk3 : k < 3
    · have k3 : (k : Int) < 3 := by omega
      have HB : Hid (Below w.heap.size w wr) := hb
      clear hb
      go_wp2_with fail
      refine (lengths_any (by omega)).mono ?_
      rintro e w2 ⟨g, rfl, -, hr, hb2⟩
      rw [lenL_len]
      have HC := lnC_le k (by omega)
      have HR : Hid (Ri 3 w2 g (lenL k)) := hr
      have HB2 : Hid (Below w.heap.size w w2) := below_to HB.out hb2
      have q5 : (lnC k : Int) ≤ 5 := by omega
      clear hr hb2
      go_wp2_with fail
      go_loopw [5] (fun i wr => ∃ m : Nat, m ≤ lnC k ∧ i = .int .i64 m ∧ Ri 3 wr g (lenL k) ∧ Below w.heap.size w wr) (fun i _ => 5 - (intOf i).toNat)
      case atStart => exact ⟨0, by omega, rfl, HR.out, HB2.out⟩
      case round =>
        clear HR HB2 HB
        obtain ⟨m, hm, rfl, hr, hb⟩ := hrel
        have m0 : 0 ≤ (m : Int) := by omega
        by_cases hmc : m < lnC k
        · have m1 : (m : Int) < (lnC k : Int) := by omega
          have c0 : wr.cell? ⟨g, m, none⟩ = some (.int .i64 (lnN k m : Int)) := by rw [hr.cell m (by rw [lenL_len]; exact hmc), lenL_get _ _ hmc]
          have hok := lnN_ok k (by omega) m hmc (by omega)
          have hkl := kL_le (k : Int)
          have hn64 : lnN k m ≤ 64 := by omega
          have HR : Hid (Ri 3 wr g (lenL k)) := hr
          have HB : Hid (Below w.heap.size w wr) := hb
          have HRow : Hid (Calls Tryd.prog 13 #[.slice a C.length c, .int .i64 (lnN k m : Int), .int .i64 1023] wr fun e w' => Rn wr w' e (lnN k m) 1023) := row_any (HS.out.to hb) hl hn64 (by omega) (by omega)
          have n4 : (4 : Int) ≤ (lnN k m : Int) := by omega
          have n64 : (lnN k m : Int) ≤ 64 := by omega
          have HEv : Hid (lnN k m = 2 * (lnN k m / 2)) := lnN_even k hk3 m hmc
          have HNR : Hid (∀ D : List Int, D.length = lnN k m → Mst D 1023 → tkB (kL (k : Int)) D = true ∧ tkB (kL (k : Int)) (fwdR (k : Int) D) = true ∧ (fwdR (k : Int) D).length = lnN k m ∧ (invR (k : Int) (fwdR (k : Int) D)).length = lnN k m ∧
            ∀ j, j < lnN k m → ab ((invR (k : Int) (fwdR (k : Int) D)).getD j 0 - D.getD j 0 * ((lnN k m / 2 : Nat) : Int)) ≤ ((lnN k m * lnN k m / 2 : Nat) : Int) ∧ -2000000 ≤ (invR (k : Int) (fwdR (k : Int) D)).getD j 0 ∧ (invR (k : Int) (fwdR (k : Int) D)).getD j 0 ≤ 2000000) := fun D h1 h2 => near_rows hk3 hmc h1 h2
          clear hr hb hok
          generalize lnN k m = n at *
          go_wp2_with fail
          refine HRow.out.mono ?_
          rintro e w2 ⟨x, cx, D, rfl, hD, hM, hx, hb2⟩
          obtain ⟨t1, t2, t3, t4, t5⟩ := HNR.out D hD hM
          have HT1 : Hid (tkB (kL (k : Int)) D = true) := t1
          have HT2 : Hid (tkB (kL (k : Int)) (fwdR (k : Int) D) = true) := t2
          have HL2 : Hid ((fwdR (k : Int) D).length = n) := t3
          have HL3 : Hid ((invR (k : Int) (fwdR (k : Int) D)).length = n) := t4
          have HNe : Hid (∀ j, j < n → ab ((invR (k : Int) (fwdR (k : Int) D)).getD j 0 - D.getD j 0 * ((n / 2 : Nat) : Int)) ≤ ((n * n / 2 : Nat) : Int) ∧ -2000000 ≤ (invR (k : Int) (fwdR (k : Int) D)).getD j 0 ∧ (invR (k : Int) (fwdR (k : Int) D)).getD j 0 ≤ 2000000) := t5
          have HDn : Hid (D.length = n) := hD
          have HM : Hid (Mst D 1023) := hM
          have HX2 : Hid (Si w2 x D) := hx
          have HB2 : Hid (Below w.heap.size w w2) := below_to HB.out hb2
          have HR2 : Hid (Ri 3 w2 g (lenL k)) := HR.out.to hb2
          clear hD hM hx hb2 t1 t2 t3 t4 t5 HNR
          go_wp2_with fail
          refine (fwd_to (k := (k : Int)) (HQ.out.to HB2.out) HX2.out HDn.out HT1.out).mono ?_
          rintro e w3 ⟨g3, rfl, -, hr3, hb3⟩
          rw [HL2.out]
          have HX3 : Hid (Si w3 x D) := HX2.out.to hb3
          have HB3 : Hid (Below w.heap.size w w3) := below_to HB2.out hb3
          have HR3 : Hid (Ri 3 w3 g (lenL k)) := HR2.out.to hb3
          have HA3 : Hid (Ri 3 w3 g3 (fwdR (k : Int) D)) := hr3
          clear hr3 hb3
          go_wp2_with fail
          refine (inv_to (k := (k : Int)) (HQ.out.to HB3.out) HA3.out.si HL2.out HT2.out).mono ?_
          rintro e w4 ⟨g4, rfl, -, hr4, hb4⟩
          rw [HL3.out]
          have HX4 : Hid (Si w4 x D) := HX3.out.to hb4
          have HB4 : Hid (Below w.heap.size w w4) := below_to HB3.out hb4
          have HR4 : Hid (Ri 3 w4 g (lenL k)) := HR3.out.to hb4
          have HF4 : Hid (Ri 3 w4 g4 (invR (k : Int) (fwdR (k : Int) D))) := hr4
          have nn : ((n : Int) != (n : Int)) = false := by simp
          clear hr4 hb4
          generalize invR (k : Int) (fwdR (k : Int) D) = F at *
          obtain ⟨bx, ox, rfl, hbx, hcx⟩ := HX4.out.form (by rw [HDn.out]; omega)
          have HCX : Hid _ := hcx
          have np : (n : Int) * (n : Int) = ((n * n : Nat) : Int) := by rw [Int.natCast_mul]
          have np0 : (0 : Int) ≤ ((n * n : Nat) : Int) := by omega
          have np1 : ((n * n : Nat) : Int) ≤ 4096 := by have : n * n ≤ 64 * 64 := Nat.mul_le_mul (by omega) (by omega); omega
          have nq2 : ((n * n : Nat) : Int) / 2 = ((n * n / 2 : Nat) : Int) := by omega
          clear hbx hcx
          generalize n * n / 2 = Q at *
          generalize n * n = N at *
          go_wp2_with fail
          go_loopw [12] (fun i wr => ∃ t z : Nat, t ≤ n ∧ i = .int .i64 t ∧ wr = w4.drewN z) (fun i _ => n - (intOf i).toNat)
          case atStart => exact ⟨0, 0, by omega, rfl, rfl⟩
          case round =>
            obtain ⟨t, z, ht, rfl, rfl⟩ := hrel
            have t0 : 0 ≤ (t : Int) := by omega
            by_cases htn : t < n
            · have t1 : (t : Int) < (n : Int) := by omega
              have a0 : (w4.drewN z).cell? ⟨bx, ox + t, none⟩ = some (.int .i64 (D.getD t 0)) := HCX.out t (by rw [HDn.out]; exact htn)
              have f0 : (w4.drewN z).cell? ⟨g4, t, none⟩ = some (.int .i64 (F.getD t 0)) := HF4.out.cell t (by rw [HL3.out]; exact htn)
              obtain ⟨e1, e2, e3⟩ := HNe.out t htn
              obtain ⟨x0, x1⟩ := HM.out t (by rw [HDn.out]; exact htn)
              have ev := tdiv_two (x := D.getD t 0) HEv.out
              obtain ⟨p0, p1⟩ := prod_le (a := D.getD t 0) (b := ((n / 2 : Nat) : Int)) (A := 1023) (B := 32) ⟨x0, x1⟩ (by omega)
              obtain ⟨p2, p3⟩ := prod_le (a := D.getD t 0) (b := (n : Int)) (A := 1023) (B := 64) ⟨x0, x1⟩ (by omega)
              have e4 : ¬ (Q : Int) < ab (F.getD t 0 - D.getD t 0 * ((n / 2 : Nat) : Int)) := by omega
              have r0 : -40000 ≤ D.getD t 0 * ((n / 2 : Nat) : Int) := by omega
              have r1 : D.getD t 0 * ((n / 2 : Nat) : Int) ≤ 40000 := by omega
              have r2 : -70000 ≤ D.getD t 0 * (n : Int) := by omega
              have r3 : D.getD t 0 * (n : Int) ≤ 70000 := by omega
              generalize D.getD t 0 * ((n / 2 : Nat) : Int) = xh at *
              generalize hxn : D.getD t 0 * (n : Int) = xn at *
              generalize D.getD t 0 = xt at *
              generalize F.getD t 0 = y at *
              have HAb : Hid (∀ u : World, Calls Tryd.prog 18 #[.int .i64 (y - xh)] u fun e w' => e = .returned (.int .i64 (ab (y - xh))) ∧ w' = u) := fun u => abs_any (by omega)
              generalize ab (y - xh) = ay at *
              clear p0 p1 p2 p3 e1
              generalize hW : w4.drewN z = v at *
              have HW : Hid (w4.drewN z = v) := hW
              clear hW
              go_wp2_with fail
              go_quiet ((go_at_call 18; exact Calls.quiet_of_same (HAb.out _)))
              go_wp2_with fail
              go_roundw
              case rel => exact ⟨t + 1, z + nq, by omega, by go_num, by rw [← HW.out]; exact drewN_drewN _ _ _⟩
              case measure => simp [intOf]; omega
            · have HBz : Hid (Below w.heap.size w (w4.drewN z)) := below_drewN HB4.out z
              have HRz : Hid (Ri 3 (w4.drewN z) g (lenL k)) := ⟨HR4.out.heap⟩
              go_wp2_with fail
              go_roundw
              case rel => exact ⟨m + 1, by omega, by go_num, HRz.out, HBz.out⟩
              case measure => simp [intOf]; omega
        · have m1 : ¬ (m : Int) < (lnC k : Int) := by omega
          have HB : Hid (Below w.heap.size w wr) := hb
          clear hr hb
          go_wp2_with fail
          go_roundw
          case rel => exact ⟨k + 1, by omega, by go_num, HB.out⟩
          case measure => simp [intOf]; omega
    · have HB : Hid (Below w.heap.size w wr) := hb
      clear hb
      go_wp2_with fail
      go_ret
      exact ⟨rfl, HB.out⟩

end Go.Proofs.YtjbipejpegmmoaaDoor
