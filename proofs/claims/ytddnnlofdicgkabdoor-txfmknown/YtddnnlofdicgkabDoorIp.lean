/- DERIVED. The walk of TxfmFlat. -/
import Derived.Test.YtddnnlofdicgkabDoorIo
namespace Go.Proofs.YtddnnlofdicgkabDoor
open Go.RowKit

theorem kin0 {n : Nat} (hn : n ∈ [4, 8, 16, 32, 64]) : ((0 : Nat) : Int) ∈ tys (n : Int) := by
  simp only [List.mem_cons, List.not_mem_nil, or_false] at hn
  rcases hn with rfl | rfl | rfl | rfl | rfl <;> decide
theorem fs_mst {n : Nat} {v x M : Int} (h1 : -M ≤ v ∧ v ≤ M) (h2 : -M ≤ x ∧ x ≤ M) : Mst (fs n v x) M := fun j hj => by
  rw [fs_len] at hj
  rw [fs_get _ _ _ _ hj]
  split
  · exact h1
  · exact h2
theorem fwdF_mst {n k s : Nat} {C : List Int} (hs : s = min n 32) (hk : (k : Int) ∈ tys (n : Int)) (hM : Mst C 255) : Mst (tab s (fwdF n k C)) 1048576 := fun j hj => by
  rw [tab_len] at hj
  rw [tab_get s _ j hj]
  have hB := bk_of hk
  have h1 := fwd_mid (k := k) hB.col hM
  by_cases h9 : k = 9
  · subst h9
    have hn : n = 4 := Tk.wht hB.row
    have h2 := (wht_bd (A := 65288) (C := rowL n (colsF n (fwdR (kC 9)) (layF n C)) (j / s)) (mst_row fun x _ => h1 _ x) (by rw [rowL_len]; exact hn) (j % s)).2
    have h3 : fwdF n 9 C (j / s) (j % s) = (fwdR 3 (rowL n (colsF n (fwdR (kC 9)) (layF n C)) (j / s))).getD (j % s) 0 := by
      show rowsF n n (fwdR 3) (colsF n (fwdR (kC 9)) (layF n C)) (j / s) (j % s) = _
      unfold rowsF
      rw [if_pos (by have := dv_lt hj; omega)]
    rw [h3]
    omega
  · have h2 : fwdF n k C (j / s) (j % s) = sca n (fwdG n k C (j / s) (j % s)) := by unfold fwdF; rw [if_neg h9]
    have := sca_le n (fwdG n k C (j / s) (j % s))
    omega


end Go.Proofs.YtddnnlofdicgkabDoor
