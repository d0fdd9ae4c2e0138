/- DERIVED. The walk of BasisAdds. -/
import Derived.Test.YtjbipejpegmmoaaDoorEg
namespace Go.Proofs.YtjbipejpegmmoaaDoor
open Go.RowKit

set_option maxRecDepth 100000 in
set_option maxHeartbeats 4000000 in
theorem adds_walk {w : World} {a b : Option Addr} {c d : Nat} {C D : List Int} {wh : Int} (hq : Qt w) (hs : Si w a C) (hl : C.length ≤ 140737488355328) (hs2 : Si w b D) (hl2 : D.length ≤ 140737488355328) :
    Calls Tryd.prog 7 #[.slice a C.length c, .slice b D.length d, .int .i64 wh] w fun e w' => e = .returned (.bool true) ∧ Below w.heap.size w w' := by
  have HQ : Hid (Qt w) := hq
  have HS : Hid (Si w a C) := hs
  have HS2 : Hid (Si w b D) := hs2
  clear hq hs hs2
  go_enter Tryd.func7, Tryd.ntmps7
  go_wp2_with fail
  refine (works_any HQ.out).mono ?_
  rintro e w1 ⟨rfl, hb1⟩
  have HB1 : Hid (Below w.heap.size w w1) := hb1
  clear hb1
  go_wp2_with fail
  go_loopw [7] (fun i wr => ∃ k : Nat, k ≤ 3 ∧ i = .int .i64 k ∧ Below w.heap.size w wr) (fun i _ => 3 - (intOf i).toNat)
  case atStart => exact ⟨0, by omega, rfl, HB1.out⟩
  case round =>
    clear HB1
    obtain ⟨k, hk, rfl, hb⟩ := hrel
    have k0 : 0 ≤ (k : Int) := by omega
    by_cases hk3 : k < 3
    · have k3 : (k : Int) < 3 := by omega
      have HB : Hid (Below w.heap.size w wr) := hb
      clear hb
      go_wp2_with fail
      refine (lengths_any (by omega)).mono ?_
      rintro e w2 ⟨g, rfl, -, hr, hb2⟩
      rw [lenL_len]
      have HC := lnC_le k (by omega)
      have HR : Hid (Ri 3 w2 g (lenL k)) := hr
      have HB2 : Hid (Below w.heap.size w w2) := below_to HB.out hb2
      have q5 : (lnC k : Int) ≤ 5 := by omega
      have em0 := Int.emod_nonneg wh (b := (lnC k : Int)) (by omega)
      have em1 := Int.emod_lt_of_pos wh (b := (lnC k : Int)) (by omega)
      have HBr : Hid (Calls Tryd.prog 19 #[.int .i64 wh, .int .i64 (lnC k : Int)] w2 fun e w' => e = .returned (.int .i64 (wh % (lnC k : Int))) ∧ w' = w2) := bring_any (by omega) (by omega)
      obtain ⟨m, hm⟩ : ∃ m : Nat, wh % (lnC k : Int) = (m : Int) := ⟨(wh % (lnC k : Int)).toNat, by omega⟩
      rw [hm] at HBr em0 em1
      have hmc : m < lnC k := by omega
      have c0 : w2.cell? ⟨g, m, none⟩ = some (.int .i64 (lnN k m : Int)) := by rw [hr.cell m (by rw [lenL_len]; exact hmc), lenL_get _ _ hmc]
      have hok := lnN_ok k (by omega) m hmc (by omega)
      have hkl := kL_le (k : Int)
      have hn64 : lnN k m ≤ 64 := by omega
      have n4 : (4 : Int) ≤ (lnN k m : Int) := by omega
      have n64 : (lnN k m : Int) ≤ 64 := by omega
      clear hr hb2 hm
      generalize lnN k m = n at *
      have HOK : Hid _ := hok
      clear hok
      go_wp2_with (go_at_call 19; refine HBr.out.mono ?_; rintro e w' ⟨rfl, rfl⟩)
      refine (row_any (n := n) (M := 524288) (HS.out.to HB2.out) hl (by omega) (by omega) (by omega)).mono ?_
      rintro e w3 ⟨x, cx, X, rfl, hX, mX, hx, hb3⟩
      have HX3 : Hid (Si w3 x X) := hx
      have HB3 : Hid (Below w.heap.size w w3) := below_to HB2.out hb3
      clear hx hb3
      have HXX : Hid _ := hX
      have HmX : Hid _ := mX
      clear hX mX
      go_wp2_with fail
      refine (row_any (n := n) (M := 524288) (HS2.out.to HB3.out) hl2 (by omega) (by omega) (by omega)).mono ?_
      rintro e w4 ⟨y, cy, Y, rfl, hY, mY, hy, hb4⟩
      have hX := HXX.out
      have mX := HmX.out
      have HX4 : Hid (Si w4 x X) := HX3.out.to hb4
      have HY4 : Hid (Si w4 y Y) := hy
      have HB4 : Hid (Below w.heap.size w w4) := below_to HB3.out hb4
      have HXn : Hid (X.length = n) := hX
      have HYn : Hid (Y.length = n) := hY
      have HZn : Hid ((adL X Y).length = n) := (adL_len X Y).trans hX
      have HMX : Hid (Mst X 1099511627776) := fun j hj => by have := mX j hj; omega
      have HMY : Hid (Mst Y 1099511627776) := fun j hj => by have := mY j hj; omega
      have HTX : Hid (tkB (kL (k : Int)) X = true) := tk_adds HOK.out.1 HOK.out.2.1 HOK.out.2.2 hX (fun j hj => by have := mX j hj; omega)
      have HTY : Hid (tkB (kL (k : Int)) Y = true) := tk_adds HOK.out.1 HOK.out.2.1 HOK.out.2.2 hY (fun j hj => by have := mY j hj; omega)
      have HTZ : Hid (tkB (kL (k : Int)) (adL X Y) = true) := tk_adds HOK.out.1 HOK.out.2.1 HOK.out.2.2 HZn.out (mst_adL hX hY mX mY)
      have IA := inv_adds hk3 hX hY hn64 mX mY
      have ILX : Hid ((invR (k : Int) X).length = n) := (inv_len HTX.out).trans hX
      have ILY : Hid ((invR (k : Int) Y).length = n) := (inv_len HTY.out).trans hY
      have ILZ : Hid ((invR (k : Int) (adL X Y)).length = n) := (inv_len HTZ.out).trans HZn.out
      have IMX : Hid (Mst (invR (k : Int) X) 1099511627776) := IA.1
      have IMY : Hid (Mst (invR (k : Int) Y) 1099511627776) := IA.2.1
      have ICL : Hid (∀ j, j < n → -1 ≤ (invR (k : Int) (adL X Y)).getD j 0 - (adL (invR (k : Int) X) (invR (k : Int) Y)).getD j 0 ∧ (invR (k : Int) (adL X Y)).getD j 0 - (adL (invR (k : Int) X) (invR (k : Int) Y)).getD j 0 ≤ 1) := IA.2.2
      clear IA
      have FA := fwd_adds hk3 hX hY hn64 mX mY
      have FLX : Hid ((fwdR (k : Int) X).length = n) := (fwd_len HTX.out).trans hX
      have FLY : Hid ((fwdR (k : Int) Y).length = n) := (fwd_len HTY.out).trans hY
      have FLZ : Hid ((fwdR (k : Int) (adL X Y)).length = n) := (fwd_len HTZ.out).trans HZn.out
      have FMX : Hid (Mst (fwdR (k : Int) X) 1099511627776) := FA.1
      have FMY : Hid (Mst (fwdR (k : Int) Y) 1099511627776) := FA.2.1
      have FCL : Hid (∀ j, j < n → -1 ≤ (fwdR (k : Int) (adL X Y)).getD j 0 - (adL (fwdR (k : Int) X) (fwdR (k : Int) Y)).getD j 0 ∧ (fwdR (k : Int) (adL X Y)).getD j 0 - (adL (fwdR (k : Int) X) (fwdR (k : Int) Y)).getD j 0 ≤ 1) := FA.2.2
      clear FA
      clear hX hY mX mY hy hb4 HXX HmX
      go_wp2_with fail
      refine (inv_to (k := (k : Int)) (HQ.out.to HB4.out) HX4.out HXn.out HTX.out).mono ?_
      rintro e wI1 ⟨gI1, rfl, -, hrI1, hbI1⟩
      rw [ILX.out]
      have HXI1 : Hid (Si wI1 x X) := HX4.out.to hbI1
      have HYI1 : Hid (Si wI1 y Y) := HY4.out.to hbI1
      have HAI1 : Hid (Ri 3 wI1 gI1 (invR (k : Int) X)) := hrI1
      have HBI1 : Hid (Below w.heap.size w wI1) := below_to HB4.out hbI1
      clear hrI1 hbI1
      go_wp2_with fail
      refine (inv_to (k := (k : Int)) (HQ.out.to HBI1.out) HYI1.out HYn.out HTY.out).mono ?_
      rintro e wI2 ⟨gI2, rfl, -, hrI2, hbI2⟩
      rw [ILY.out]
      have HXI2 : Hid (Si wI2 x X) := HXI1.out.to hbI2
      have HYI2 : Hid (Si wI2 y Y) := HYI1.out.to hbI2
      have HAI2 : Hid (Ri 3 wI2 gI1 (invR (k : Int) X)) := HAI1.out.to hbI2
      have HCI2 : Hid (Ri 3 wI2 gI2 (invR (k : Int) Y)) := hrI2
      have HBI2 : Hid (Below w.heap.size w wI2) := below_to HBI1.out hbI2
      clear hrI2 hbI2
      go_wp2_with fail
      refine (sums_any HXI2.out HYI2.out HXn.out HYn.out (by omega) (by omega) HMX.out HMY.out).mono ?_
      rintro e wI3 ⟨aI3, cI3, rfl, hsI3, hbI3⟩
      rw [HZn.out]
      have HXI3 : Hid (Si wI3 x X) := HXI2.out.to hbI3
      have HYI3 : Hid (Si wI3 y Y) := HYI2.out.to hbI3
      have HAI3 : Hid (Ri 3 wI3 gI1 (invR (k : Int) X)) := HAI2.out.to hbI3
      have HCI3 : Hid (Ri 3 wI3 gI2 (invR (k : Int) Y)) := HCI2.out.to hbI3
      have HZI3 : Hid (Si wI3 aI3 (adL X Y)) := hsI3
      have HBI3 : Hid (Below w.heap.size w wI3) := below_to HBI2.out hbI3
      clear hsI3 hbI3
      go_wp2_with fail
      refine (inv_to (k := (k : Int)) (HQ.out.to HBI3.out) HZI3.out HZn.out HTZ.out).mono ?_
      rintro e wI4 ⟨gI4, rfl, -, hrI4, hbI4⟩
      rw [ILZ.out]
      have HXI4 : Hid (Si wI4 x X) := HXI3.out.to hbI4
      have HYI4 : Hid (Si wI4 y Y) := HYI3.out.to hbI4
      have HAI4 : Hid (Ri 3 wI4 gI1 (invR (k : Int) X)) := HAI3.out.to hbI4
      have HCI4 : Hid (Ri 3 wI4 gI2 (invR (k : Int) Y)) := HCI3.out.to hbI4
      have HDI4 : Hid (Ri 3 wI4 gI4 (invR (k : Int) (adL X Y))) := hrI4
      have HBI4 : Hid (Below w.heap.size w wI4) := below_to HBI3.out hbI4
      clear hrI4 hbI4
      go_wp2_with fail
      refine (sums_any HAI4.out.si HCI4.out.si ILX.out ILY.out (by omega) (by omega) IMX.out IMY.out).mono ?_
      rintro e wI5 ⟨aI5, cI5, rfl, hsI5, hbI5⟩
      rw [adL_len, ILX.out]
      have HXI5 : Hid (Si wI5 x X) := HXI4.out.to hbI5
      have HYI5 : Hid (Si wI5 y Y) := HYI4.out.to hbI5
      have HDI5 : Hid (Ri 3 wI5 gI4 (invR (k : Int) (adL X Y))) := HDI4.out.to hbI5
      have HEI5 : Hid (Si wI5 aI5 (adL (invR (k : Int) X) (invR (k : Int) Y))) := hsI5
      have HBI5 : Hid (Below w.heap.size w wI5) := below_to HBI4.out hbI5
      clear hsI5 hbI5
      go_wp2_with fail
      refine (close_any HDI5.out.si HEI5.out ILZ.out (by rw [adL_len]; exact ILX.out) (by omega) (by omega) ICL.out).mono ?_
      rintro e wI6 ⟨rfl, hbI6⟩
      have HXI6 : Hid (Si wI6 x X) := HXI5.out.to hbI6
      have HYI6 : Hid (Si wI6 y Y) := HYI5.out.to hbI6
      have HBI6 : Hid (Below w.heap.size w wI6) := below_to HBI5.out hbI6
      clear hbI6
      go_wp2_with fail
      refine (fwd_to (k := (k : Int)) (HQ.out.to HBI6.out) HXI6.out HXn.out HTX.out).mono ?_
      rintro e wF1 ⟨gF1, rfl, -, hrF1, hbF1⟩
      rw [FLX.out]
      have HXF1 : Hid (Si wF1 x X) := HXI6.out.to hbF1
      have HYF1 : Hid (Si wF1 y Y) := HYI6.out.to hbF1
      have HAF1 : Hid (Ri 3 wF1 gF1 (fwdR (k : Int) X)) := hrF1
      have HBF1 : Hid (Below w.heap.size w wF1) := below_to HBI6.out hbF1
      clear hrF1 hbF1
      go_wp2_with fail
      refine (fwd_to (k := (k : Int)) (HQ.out.to HBF1.out) HYF1.out HYn.out HTY.out).mono ?_
      rintro e wF2 ⟨gF2, rfl, -, hrF2, hbF2⟩
      rw [FLY.out]
      have HXF2 : Hid (Si wF2 x X) := HXF1.out.to hbF2
      have HYF2 : Hid (Si wF2 y Y) := HYF1.out.to hbF2
      have HAF2 : Hid (Ri 3 wF2 gF1 (fwdR (k : Int) X)) := HAF1.out.to hbF2
      have HCF2 : Hid (Ri 3 wF2 gF2 (fwdR (k : Int) Y)) := hrF2
      have HBF2 : Hid (Below w.heap.size w wF2) := below_to HBF1.out hbF2
      clear hrF2 hbF2
      go_wp2_with fail
      refine (sums_any HXF2.out HYF2.out HXn.out HYn.out (by omega) (by omega) HMX.out HMY.out).mono ?_
      rintro e wF3 ⟨aF3, cF3, rfl, hsF3, hbF3⟩
      rw [HZn.out]
      have HXF3 : Hid (Si wF3 x X) := HXF2.out.to hbF3
      have HYF3 : Hid (Si wF3 y Y) := HYF2.out.to hbF3
      have HAF3 : Hid (Ri 3 wF3 gF1 (fwdR (k : Int) X)) := HAF2.out.to hbF3
      have HCF3 : Hid (Ri 3 wF3 gF2 (fwdR (k : Int) Y)) := HCF2.out.to hbF3
      have HZF3 : Hid (Si wF3 aF3 (adL X Y)) := hsF3
      have HBF3 : Hid (Below w.heap.size w wF3) := below_to HBF2.out hbF3
      clear hsF3 hbF3
      go_wp2_with fail
      refine (fwd_to (k := (k : Int)) (HQ.out.to HBF3.out) HZF3.out HZn.out HTZ.out).mono ?_
      rintro e wF4 ⟨gF4, rfl, -, hrF4, hbF4⟩
      rw [FLZ.out]
      have HXF4 : Hid (Si wF4 x X) := HXF3.out.to hbF4
      have HYF4 : Hid (Si wF4 y Y) := HYF3.out.to hbF4
      have HAF4 : Hid (Ri 3 wF4 gF1 (fwdR (k : Int) X)) := HAF3.out.to hbF4
      have HCF4 : Hid (Ri 3 wF4 gF2 (fwdR (k : Int) Y)) := HCF3.out.to hbF4
      have HDF4 : Hid (Ri 3 wF4 gF4 (fwdR (k : Int) (adL X Y))) := hrF4
      have HBF4 : Hid (Below w.heap.size w wF4) := below_to HBF3.out hbF4
      clear hrF4 hbF4
      go_wp2_with fail
      refine (sums_any HAF4.out.si HCF4.out.si FLX.out FLY.out (by omega) (by omega) FMX.out FMY.out).mono ?_
      rintro e wF5 ⟨aF5, cF5, rfl, hsF5, hbF5⟩
      rw [adL_len, FLX.out]
      have HXF5 : Hid (Si wF5 x X) := HXF4.out.to hbF5
      have HYF5 : Hid (Si wF5 y Y) := HYF4.out.to hbF5
      have HDF5 : Hid (Ri 3 wF5 gF4 (fwdR (k : Int) (adL X Y))) := HDF4.out.to hbF5
      have HEF5 : Hid (Si wF5 aF5 (adL (fwdR (k : Int) X) (fwdR (k : Int) Y))) := hsF5
      have HBF5 : Hid (Below w.heap.size w wF5) := below_to HBF4.out hbF5
      clear hsF5 hbF5
      go_wp2_with fail
      refine (close_any HDF5.out.si HEF5.out FLZ.out (by rw [adL_len]; exact FLX.out) (by omega) (by omega) FCL.out).mono ?_
      rintro e wF6 ⟨rfl, hbF6⟩
      have HXF6 : Hid (Si wF6 x X) := HXF5.out.to hbF6
      have HYF6 : Hid (Si wF6 y Y) := HYF5.out.to hbF6
      have HBF6 : Hid (Below w.heap.size w wF6) := below_to HBF5.out hbF6
      clear hbF6
      go_wp2_with fail
      go_roundw
      case rel => exact ⟨k + 1, by omega, by go_num, HBF6.out⟩
      case measure => simp [intOf]; omega
    · have HB : Hid (Below w.heap.size w wr) := hb
      clear hb
      go_wp2_with fail
      go_ret
      exact ⟨rfl, HB.out⟩

end Go.Proofs.YtjbipejpegmmoaaDoor
