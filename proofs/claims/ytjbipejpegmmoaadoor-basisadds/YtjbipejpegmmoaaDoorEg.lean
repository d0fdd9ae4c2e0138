/- DERIVED. The walk of close1; what is made of sums. -/
import Derived.Test.YtjbipejpegmmoaaDoorEf
namespace Go.Proofs.YtjbipejpegmmoaaDoor
open Go.RowKit

set_option maxRecDepth 100000 in
set_option maxHeartbeats 2000000 in
theorem close_any {w : World} {a b : Option Addr} {c d n : Nat} {A B : List Int} (hA : Si w a A) (hB : Si w b B) (la : A.length = n) (lb : B.length = n) (h0 : 0 < n) (hn : n ≤ 64) (hc : ∀ j, j < n → -1 ≤ A.getD j 0 - B.getD j 0 ∧ A.getD j 0 - B.getD j 0 ≤ 1) :
    Calls Tryd.prog 21 #[.slice a n c, .slice b n d] w fun e w' => e = .returned (.bool true) ∧ Below w.heap.size w w' := by
  obtain ⟨b1, o1, rfl, hb1, hc1⟩ := hA.form (by omega)
  obtain ⟨b2, o2, rfl, hb2, hc2⟩ := hB.form (by omega)
  have H1 : Hid _ := hc1
  have H2 : Hid _ := hc2
  have HC : Hid _ := hc
  have hLa : Hid _ := la
  have hLb : Hid _ := lb
  have n1 : (n : Int) ≤ 64 := by omega
  have nn : ((n : Int) != (n : Int)) = false := by simp
  clear hA hB hc1 hc2 hc la lb
  go_enter Tryd.func21, Tryd.ntmps21
  go_wp2_with fail
  go_loopw [5] (fun i wr => ∃ t z : Nat, t ≤ n ∧ i = .int .i64 t ∧ wr = w.drewN z) (fun i _ => n - (intOf i).toNat)
  case atStart => exact ⟨0, 0, by omega, rfl, rfl⟩
  case round =>
    obtain ⟨t, z, ht, rfl, rfl⟩ := hrel
    have t0 : 0 ≤ (t : Int) := by omega
    by_cases htn : t < n
    · have t1 : (t : Int) < (n : Int) := by omega
      have a0 : (w.drewN z).cell? ⟨b1, o1 + t, none⟩ = some (.int .i64 (A.getD t 0)) := H1.out t (by rw [hLa.out]; exact htn)
      have f0 : (w.drewN z).cell? ⟨b2, o2 + t, none⟩ = some (.int .i64 (B.getD t 0)) := H2.out t (by rw [hLb.out]; exact htn)
      obtain ⟨e1, e2⟩ := HC.out t htn
      have e3 : ¬ 1 < ab (A.getD t 0 - B.getD t 0) := by have := ab_le (M := 1) ⟨e1, e2⟩; omega
      have HAb : Hid (∀ u : World, Calls Tryd.prog 18 #[.int .i64 (A.getD t 0 - B.getD t 0)] u fun e w' => e = .returned (.int .i64 (ab (A.getD t 0 - B.getD t 0))) ∧ w' = u) := fun u => abs_any (by omega)
      have hw1 : IntKind.i64.wrap (A.getD t 0 - B.getD t 0) = A.getD t 0 - B.getD t 0 := by rw [IntKind.wrap_i64]; omega
      have hw2 : wrap64 (A.getD t 0 - B.getD t 0) = A.getD t 0 - B.getD t 0 := by unfold wrap64; omega
      generalize A.getD t 0 = x at *
      generalize B.getD t 0 = y at *
      generalize ab (x - y) = ay at *
      generalize hW : w.drewN z = v at *
      have HW : Hid (w.drewN z = v) := hW
      clear hW
      go_wp2_with fail
      go_quiet ((go_at_call 18; exact Calls.quiet_of_same (HAb.out _)))
      go_wp2_with fail
      go_roundw
      case rel => exact ⟨t + 1, z + nq, by omega, by go_num, by rw [← HW.out]; exact drewN_drewN _ _ _⟩
      case measure => simp [intOf]; omega
    · have HBz : Hid (Below w.heap.size w (w.drewN z)) := below_drewN (Below.refl _ _) z
      go_wp2_with fail
      go_ret
      exact ⟨rfl, HBz.out⟩

theorem ws_adL (W : Nat → Nat → Int) {X Y : List Int} (t : Nat) : ws W (adL X Y) X.length t = ws W X X.length t + ws W Y X.length t := by
  unfold ws
  rw [← sm_add]
  exact sm_congr _ fun k hk => by rw [adL_get _ _ _ hk, Int.add_mul]
/-- what the statements ask of a way R -/
theorem adds_way {W : Nat → Nat → Int} (hW : ∀ a b, -16384 ≤ W a b ∧ W a b ≤ 16384) {X Y : List Int} {n : Nat} (hX : X.length = n) (hY : Y.length = n) (hn : n ≤ 64) (mX : Mst X 524288) (mY : Mst Y 524288) :
    Mst (wr W X) 1099511627776 ∧ Mst (wr W Y) 1099511627776 ∧ ∀ j, j < n → -1 ≤ (wr W (adL X Y)).getD j 0 - (adL (wr W X) (wr W Y)).getD j 0 ∧ (wr W (adL X Y)).getD j 0 - (adL (wr W X) (wr W Y)).getD j 0 ≤ 1 := by
  refine ⟨fun t ht => ?_, fun t ht => ?_, fun j hj => ?_⟩
  · rw [wr_len] at ht
    rw [wr_get _ _ _ ht]
    have := ws_le (W := W) (C := X) (m := X.length) (t := t) (A := 524288) (B := 16384) (Nat.le_refl _) mX hW
    omega
  · rw [wr_len] at ht
    rw [wr_get _ _ _ ht]
    have := ws_le (W := W) (C := Y) (m := Y.length) (t := t) (A := 524288) (B := 16384) (Nat.le_refl _) mY hW
    omega
  · rw [adL_get _ _ _ (by rw [wr_len]; omega), wr_get _ (adL X Y) _ (by rw [adL_len]; omega), wr_get _ X _ (by omega), wr_get _ Y _ (by omega), adL_len, ws_adL, hX, hY]
    omega
theorem tk_adds {k : Nat} {n : Nat} {X : List Int} (h4 : 4 ≤ n) (hL : n ≤ kL (k : Int)) (h2 : p2 n = true) (hX : X.length = n) (mX : Mst X 1048576) : tkB (kL (k : Int)) X = true := tkB_mk (by omega) (by omega) (by rw [hX]; exact h2) mX
theorem mst_adL {X Y : List Int} {n : Nat} (hX : X.length = n) (hY : Y.length = n) (mX : Mst X 524288) (mY : Mst Y 524288) : Mst (adL X Y) 1048576 := by
  intro j hj
  rw [adL_len] at hj
  rw [adL_get _ _ _ hj]
  have h1 := mX j hj
  have h2 := mY j (by omega)
  omega
theorem inv_adds {k : Nat} (hk : k < 3) {n : Nat} {X Y : List Int} (hX : X.length = n) (hY : Y.length = n) (hn : n ≤ 64) (mX : Mst X 524288) (mY : Mst Y 524288) :
    Mst (invR (k : Int) X) 1099511627776 ∧ Mst (invR (k : Int) Y) 1099511627776 ∧ ∀ j, j < n → -1 ≤ (invR (k : Int) (adL X Y)).getD j 0 - (adL (invR (k : Int) X) (invR (k : Int) Y)).getD j 0 ∧ (invR (k : Int) (adL X Y)).getD j 0 - (adL (invR (k : Int) X) (invR (k : Int) Y)).getD j 0 ≤ 1 := by
  have h3 : (k : Int) ≠ 3 := by omega
  unfold invR
  rw [if_neg h3, if_neg h3, if_neg h3, adL_len, hX, hY]
  exact adds_way (kW_le (k : Int) n) hX hY hn mX mY
theorem fwd_adds {k : Nat} (hk : k < 3) {n : Nat} {X Y : List Int} (hX : X.length = n) (hY : Y.length = n) (hn : n ≤ 64) (mX : Mst X 524288) (mY : Mst Y 524288) :
    Mst (fwdR (k : Int) X) 1099511627776 ∧ Mst (fwdR (k : Int) Y) 1099511627776 ∧ ∀ j, j < n → -1 ≤ (fwdR (k : Int) (adL X Y)).getD j 0 - (adL (fwdR (k : Int) X) (fwdR (k : Int) Y)).getD j 0 ∧ (fwdR (k : Int) (adL X Y)).getD j 0 - (adL (fwdR (k : Int) X) (fwdR (k : Int) Y)).getD j 0 ≤ 1 := by
  have h3 : (k : Int) ≠ 3 := by omega
  unfold fwdR
  rw [if_neg h3, if_neg h3, if_neg h3, adL_len, hX, hY]
  exact adds_way (fun a b => kW_le (k : Int) n b a) hX hY hn mX mY

end Go.Proofs.YtjbipejpegmmoaaDoor
