/- DERIVED. The walks of lengths and Abs; what rows of a kind become, in numbers. -/
import Derived.Test.YtjbipejpegmmoaaDoorEa
namespace Go.Proofs.YtjbipejpegmmoaaDoor
open Go.RowKit

/-- the lengths that the statements go through -/
def lnN (k i : Nat) : Nat := ([[4, 8, 16, 32, 64], [4, 8, 16], [4, 8, 16, 32], [4, 8, 16, 32]].getD k []).getD i 0
def lnC (k : Nat) : Nat := [5, 3, 4, 4].getD k 0
def lenL (k : Nat) : List Int := (List.range (lnC k)).map fun i => (lnN k i : Int)
theorem lenL_len (k : Nat) : (lenL k).length = lnC k := by simp [lenL]
theorem lenL_get (k i : Nat) (h : i < lnC k) : (lenL k).getD i 0 = (lnN k i : Int) := by simp [lenL, h]
theorem lnN_ok : ∀ k, k < 4 → ∀ i, i < lnC k → (k < 3 ∨ i = 0) → 4 ≤ lnN k i ∧ lnN k i ≤ kL (k : Int) ∧ p2 (lnN k i) = true := by decide +kernel
theorem lnC_le : ∀ k, k < 4 → 3 ≤ lnC k ∧ lnC k ≤ 5 := by decide +kernel

set_option maxRecDepth 100000 in
set_option maxHeartbeats 400000 in
theorem lengths_any {w : World} {k : Nat} (hk : k < 4) : Calls Tryd.prog 17 #[.int .i64 (k : Int)] w fun e w' => N1 w w' e (lenL k) := by
  have : k = 0 ∨ k = 1 ∨ k = 2 ∨ k = 3 := by omega
  rcases this with rfl | rfl | rfl | rfl
  · go_enter Tryd.func17, Tryd.ntmps17
    go_wp2_with fail
    go_ret
    exact ⟨w.heap.size, rfl, Nat.le_refl _, Ri.built 3 w (lenL 0) rfl, from_alloc _ _⟩
  · go_enter Tryd.func17, Tryd.ntmps17
    go_wp2_with fail
    go_ret
    exact ⟨w.heap.size, rfl, Nat.le_refl _, Ri.built 3 w (lenL 1) rfl, from_alloc _ _⟩
  · go_enter Tryd.func17, Tryd.ntmps17
    go_wp2_with fail
    go_ret
    exact ⟨w.heap.size, rfl, Nat.le_refl _, Ri.built 3 w (lenL 2) rfl, from_alloc _ _⟩
  · go_enter Tryd.func17, Tryd.ntmps17
    go_wp2_with fail
    go_ret
    exact ⟨w.heap.size, rfl, Nat.le_refl _, Ri.built 3 w (lenL 3) rfl, from_alloc _ _⟩

/-- without its sign -/
def ab (v : Int) : Int := if v < 0 then -v else v
theorem ab_le {v M : Int} (h : -M ≤ v ∧ v ≤ M) : ab v ≤ M := by unfold ab; split <;> omega
set_option maxHeartbeats 400000 in
theorem abs_any {w : World} {v : Int} (h : -4611686018427387904 ≤ v ∧ v ≤ 4611686018427387904) : Calls Tryd.prog 18 #[.int .i64 v] w fun e w' => e = .returned (.int .i64 (ab v)) ∧ w' = w := by
  obtain ⟨h0, h1⟩ := h
  by_cases hz : v < 0
  · have HA : Hid (ab v = -v) := by show _ = _; unfold ab; rw [if_pos hz]
    go_enter Tryd.func18, Tryd.ntmps18
    go_wp2_with fail
    go_ret
    exact ⟨by rw [HA.out]; rfl, rfl⟩
  · have HA : Hid (ab v = v) := by show _ = _; unfold ab; rw [if_neg hz]
    go_enter Tryd.func18, Tryd.ntmps18
    go_wp2_with fail
    go_ret
    exact ⟨by rw [HA.out]; rfl, rfl⟩

theorem kW_le (k : Int) (n a b : Nat) : -16384 ≤ kW k n a b ∧ kW k n a b ≤ 16384 := by
  unfold kW
  split
  · have := dctW_le n a b; omega
  · split
    · have := adstW_le n a b; omega
    · exact idW_le n a b
theorem inv_len {k : Int} {D : List Int} (h : tkB (kL k) D = true) : (invR k D).length = D.length := by
  unfold invR
  split
  · rename_i e
    subst e
    have := tkB_yes h
    rw [kL3] at this
    simp [whtI]; omega
  · exact wr_len _ _
theorem fwd_len {k : Int} {D : List Int} (h : tkB (kL k) D = true) : (fwdR k D).length = D.length := by
  unfold fwdR
  split
  · rename_i e
    subst e
    have := tkB_yes h
    rw [kL3] at this
    simp [whtF]; omega
  · exact wr_len _ _
theorem ws_bd {W : Nat → Nat → Int} {D : List Int} (hn : D.length ≤ 64) (hM : Mst D 32768) (hW : ∀ a b, -16384 ≤ W a b ∧ W a b ≤ 16384) : Mst (wr W D) 8388608 := by
  intro t ht
  rw [wr_len] at ht
  rw [wr_get _ _ _ ht]
  have := ws_le (W := W) (C := D) (m := D.length) (t := t) (A := 32768) (B := 16384) (Nat.le_refl _) hM hW
  omega
theorem inv_bd {k : Int} {D : List Int} (h : tkB (kL k) D = true) (hM : Mst D 32768) : Mst (invR k D) 8388608 := by
  have hy := tkB_yes h
  have hL := kL_le k
  unfold invR
  split
  · rename_i e
    subst e
    rw [kL3] at hy
    have b0 := hM 0 (by omega)
    have b1 := hM 1 (by omega)
    have b2 := hM 2 (by omega)
    have b3 := hM 3 (by omega)
    refine mst4 ?_ ?_ ?_ ?_ <;> omega
  · exact ws_bd (by omega) hM (kW_le k D.length)
theorem fwd_bd {k : Int} {D : List Int} (h : tkB (kL k) D = true) (hM : Mst D 32768) : Mst (fwdR k D) 8388608 := by
  have hy := tkB_yes h
  have hL := kL_le k
  unfold fwdR
  split
  · rename_i e
    subst e
    rw [kL3] at hy
    have b0 := hM 0 (by omega)
    have b1 := hM 1 (by omega)
    have b2 := hM 2 (by omega)
    have b3 := hM 3 (by omega)
    refine mst4 ?_ ?_ ?_ ?_ <;> omega
  · exact ws_bd (by omega) hM (fun a b => kW_le k D.length b a)

end Go.Proofs.YtjbipejpegmmoaaDoor
