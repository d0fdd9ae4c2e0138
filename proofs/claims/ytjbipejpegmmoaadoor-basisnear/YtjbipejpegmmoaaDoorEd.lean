/- DERIVED. What comes back, of rows. -/
import Derived.Test.YtjbipejpegmmoaaDoorEb
import Derived.Test.YtjbipejpegmmoaaDoorBm
namespace Go.Proofs.YtjbipejpegmmoaaDoor
open Go.RowKit

theorem nearE_all {k i j : Nat} (hk : k < 3) (hi : i < lnC k) (hj : j < lnN k i) : nearE (kW (k : Int) (lnN k i)) (lnN k i) j (((lnN k i / 2 : Nat) : Int) * 16777216) ≤ 16777216 * ((lnN k i * lnN k i / 2 : Nat) : Int) := by
  have : k = 0 ∨ k = 1 ∨ k = 2 := by omega
  rcases this with rfl | rfl | rfl
  · have : i = 0 ∨ i = 1 ∨ i = 2 ∨ i = 3 ∨ i = 4 := by have : lnC 0 = 5 := rfl; omega
    rcases this with rfl | rfl | rfl | rfl | rfl
    · exact n0_4 j hj
    · exact n0_8 j hj
    · exact n0_16 j hj
    · exact n0_32 j hj
    · exact n0_64 j hj
  · have : i = 0 ∨ i = 1 ∨ i = 2 := by have : lnC 1 = 3 := rfl; omega
    rcases this with rfl | rfl | rfl
    · exact n1_4 j hj
    · exact n1_8 j hj
    · exact n1_16 j hj
  · have : i = 0 ∨ i = 1 ∨ i = 2 ∨ i = 3 := by have : lnC 2 = 4 := rfl; omega
    rcases this with rfl | rfl | rfl | rfl
    · exact n2_4 j hj
    · exact n2_8 j hj
    · exact n2_16 j hj
    · exact n2_32 j hj
theorem fwdR_ne {k : Int} (h : k ≠ 3) (C : List Int) : fwdR k C = wr (fun i j => kW k C.length j i) C := by unfold fwdR; rw [if_neg h]
theorem invR_ne {k : Int} (h : k ≠ 3) (C : List Int) : invR k C = wr (kW k C.length) C := by unfold invR; rw [if_neg h]

theorem near_rows {k i : Nat} (hk : k < 3) (hi : i < lnC k) {D : List Int} (hD : D.length = lnN k i) (hM : Mst D 1023) :
    tkB (kL (k : Int)) D = true ∧ tkB (kL (k : Int)) (fwdR (k : Int) D) = true ∧ (fwdR (k : Int) D).length = lnN k i ∧ (invR (k : Int) (fwdR (k : Int) D)).length = lnN k i ∧
    ∀ j, j < lnN k i → ab ((invR (k : Int) (fwdR (k : Int) D)).getD j 0 - D.getD j 0 * ((lnN k i / 2 : Nat) : Int)) ≤ ((lnN k i * lnN k i / 2 : Nat) : Int) ∧ -2000000 ≤ (invR (k : Int) (fwdR (k : Int) D)).getD j 0 ∧ (invR (k : Int) (fwdR (k : Int) D)).getD j 0 ≤ 2000000 := by
  obtain ⟨o0, o1, o2⟩ := lnN_ok k (by omega) i hi (by omega)
  have hE := fun j (hj : j < lnN k i) => nearE_all hk hi hj
  have h64 := kL_le (k : Int)
  have hk3 : (k : Int) ≠ 3 := by omega
  have t1 : tkB (kL (k : Int)) D = true := tkB_mk (by omega) (by omega) (by rw [hD]; exact o2) (fun j hj => by have := hM j hj; omega)
  have lf : (fwdR (k : Int) D).length = lnN k i := (fwd_len t1).trans hD
  have mf : Mst (fwdR (k : Int) D) 1048576 := by
    rw [fwdR_ne hk3]
    intro t ht
    rw [wr_len] at ht
    rw [wr_get _ _ _ ht]
    have := ws_le (W := fun i j => kW (k : Int) D.length j i) (C := D) (m := D.length) (t := t) (A := 1023) (B := 16384) (Nat.le_refl _) hM (fun a b => kW_le _ _ _ _)
    omega
  have t2 : tkB (kL (k : Int)) (fwdR (k : Int) D) = true := tkB_mk (by omega) (by omega) (by rw [lf]; exact o2) mf
  refine ⟨t1, t2, lf, (inv_len t2).trans lf, fun j hj => ?_⟩
  have hb : (invR (k : Int) (fwdR (k : Int) D)).getD j 0 = (sm (fun q => (fwdR (k : Int) D).getD q 0 * kW (k : Int) (lnN k i) q j) (lnN k i) + 2048) / 4096 := by
    rw [invR_ne hk3 (fwdR (k : Int) D), wr_get _ _ _ (by omega), lf]
    rfl
  have ha : ∀ q, q < lnN k i → (fwdR (k : Int) D).getD q 0 = (sm (fun p => D.getD p 0 * kW (k : Int) (lnN k i) q p) (lnN k i) + 2048) / 4096 := fun q hq => by
    rw [fwdR_ne hk3, wr_get _ _ _ (by omega), hD]
    rfl
  have hm := near_main (W := kW (k : Int) (lnN k i)) (n := lnN k i) (h := ((lnN k i / 2 : Nat) : Int)) (x := fun p => D.getD p 0) (a := fun q => (fwdR (k : Int) D).getD q 0) hj (fun p hp => hM p (by omega)) ha (hE j hj)
  rw [← hb] at hm
  have hx := hM j (by omega)
  have hn2 : lnN k i * lnN k i ≤ 64 * 64 := Nat.mul_le_mul (by omega) (by omega)
  have hp := prod_le (a := D.getD j 0) (b := ((lnN k i / 2 : Nat) : Int)) (A := 1023) (B := 32) hx (by omega)
  refine ⟨ab_le hm, ?_, ?_⟩
  · generalize (invR (k : Int) (fwdR (k : Int) D)).getD j 0 = B at *
    generalize D.getD j 0 * ((lnN k i / 2 : Nat) : Int) = X at *
    generalize lnN k i * lnN k i = N at *
    omega
  · generalize (invR (k : Int) (fwdR (k : Int) D)).getD j 0 = B at *
    generalize D.getD j 0 * ((lnN k i / 2 : Nat) : Int) = X at *
    generalize lnN k i * lnN k i = N at *
    omega
theorem lnN_even : ∀ k, k < 3 → ∀ i, i < lnC k → lnN k i = 2 * (lnN k i / 2) := by decide +kernel
theorem tdiv_two {x : Int} {n h : Nat} (hn : n = 2 * h) : (x * (n : Int)).tdiv 2 = x * (h : Int) := by
  subst hn
  rw [Int.natCast_mul, ← Int.mul_assoc, Int.mul_comm x, Int.mul_assoc]
  exact Int.mul_tdiv_cancel_left _ (by omega)

end Go.Proofs.YtjbipejpegmmoaaDoor
