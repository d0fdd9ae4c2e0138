/- DERIVED. How far numbers of a block may grow; noughts; what is clipped. -/
import Derived.Test.YtddnnlofdicgkabDoorIp
import Derived.Test.YtddnnlofdicgkabDoorBn
namespace Go.Proofs.YtddnnlofdicgkabDoor
open Go.RowKit

theorem wht2 {C : List Int} {A : Int} (hC : Mst C A) (hn : C.length = 4) (j : Nat) : -(A * 2) ≤ (invR 3 C).getD j 0 ∧ (invR 3 C).getD j 0 ≤ A * 2 := by
  have b0 := hC 0 (by omega)
  have b1 := hC 1 (by omega)
  have b2 := hC 2 (by omega)
  have b3 := hC 3 (by omega)
  rw [show invR 3 C = whtI (C.getD 0 0) (C.getD 1 0) (C.getD 2 0) (C.getD 3 0) from rfl]
  generalize C.getD 0 0 = p0 at *
  generalize C.getD 1 0 = p1 at *
  generalize C.getD 2 0 = p2 at *
  generalize C.getD 3 0 = p3 at *
  match j with
  | 0 => simp only [whtI, List.getD_cons_zero]; omega
  | 1 => simp only [whtI, List.getD_cons_zero, List.getD_cons_succ]; omega
  | 2 => simp only [whtI, List.getD_cons_zero, List.getD_cons_succ]; omega
  | 3 => simp only [whtI, List.getD_cons_zero, List.getD_cons_succ]; omega
  | j + 4 => simp [whtI]; omega
theorem getD_out {C : List Int} {j : Nat} (h : ¬ j < C.length) : C.getD j 0 = 0 := by rw [List.getD_eq_getElem?_getD, List.getElem?_eq_none (by omega)]; rfl
theorem col_bd {q n : Nat} (h : Tk q n) (hq : q ≠ 3) {C : List Int} (hC : C.length = n) (hM : Mst C 32768) (j : Nat) : -2097152 ≤ (invR q C).getD j 0 ∧ (invR q C).getD j 0 ≤ 2097152 := by
  have hn := h.le
  by_cases hj : j < n
  · rw [show invR (q : Int) C = wr (kW q C.length) C from by unfold invR; rw [if_neg (by omega)]]
    rw [wr_get _ _ _ (by omega)]
    by_cases h2 : q = 0 ∨ q = 1
    · have hW : ∀ a b, -4096 ≤ kW (q : Int) C.length a b ∧ kW (q : Int) C.length a b ≤ 4096 := fun a b => by
        rcases h2 with rfl | rfl
        · exact dctW_le _ _ _
        · exact adstW_le _ _ _
      have h1 := ws_le (W := kW (q : Int) C.length) (C := C) (m := C.length) (t := j) (A := 32768) (B := 4096) (Nat.le_refl _) hM hW
      omega
    · have hk : kW (q : Int) C.length = idW C.length := by unfold kW; rw [if_neg (by omega), if_neg (by omega)]
      have h1 : ws (kW (q : Int) C.length) C C.length j = C.getD j 0 * idV C.length := by
        rw [hk]
        exact sm_one C.length j (by omega) (fun k => C.getD k 0) (idV C.length)
      rw [h1]
      have h3 := prod_le (hM j (by omega)) (show -16384 ≤ idV C.length ∧ idV C.length ≤ 16384 from by have := idV_le C.length; omega)
      omega
  · rw [getD_out (by rw [inv_len h hC]; exact hj)]; omega
theorem invF_bd {n s k : Nat} (h : Bk n s k) (C : List Int) (y x : Nat) : -131072 ≤ invF n s k C y x ∧ invF n s k C y x ≤ 131072 := by
  unfold invF
  by_cases h9 : k = 9
  · rw [if_pos h9]
    subst h9
    have hn : n = 4 := Tk.wht h.row
    have h1 : ∀ y x, -65536 ≤ invG n s 9 C y x ∧ invG n s 9 C y x ≤ 65536 := fun y x => by
      unfold invG rowsF
      split
      · have := wht2 (clp_row n (layF s C) y) (by rw [rowL_len]; exact hn) x
        rw [show ((kR 9 : Nat) : Int) = 3 from rfl]
        omega
      · have := clp_le (layF s C y x); dsimp only; omega
    unfold colsF
    have := wht2 (C := colL n (invG n s 9 C) x) (A := 65536) (mst_col fun y _ => h1 y x) (by rw [colL_len]; exact hn) y
    rw [show ((kC 9 : Nat) : Int) = 3 from rfl]
    omega
  · rw [if_neg h9]
    have hq : kC k ≠ 3 := by unfold kC; rw [if_neg h9]; have := h.kk; omega
    have := col_bd h.col hq (C := colL n (fun y x => btw n (invG n s k C y x)) x) (colL_len _ _ _) (mst_col fun y _ => by have := btw_le n (invG n s k C y x); omega) y
    unfold les colsF
    omega
/-- each number brought to 16 bits -/
def cl16 (C : List Int) : List Int := C.map clp
theorem cl16_len (C : List Int) : (cl16 C).length = C.length := by simp [cl16]
theorem cl16_get (C : List Int) (j : Nat) : (cl16 C).getD j 0 = clp (C.getD j 0) := by
  by_cases h : j < C.length
  · simp [cl16, List.getD_eq_getElem?_getD, List.getElem?_eq_getElem h]
  · rw [getD_out (by rw [cl16_len]; exact h), getD_out h]; rfl
theorem invF_clip (n s k : Nat) (C : List Int) : invF n s k (cl16 C) = invF n s k C := by
  have h1 : invG n s k (cl16 C) = invG n s k C := by
    unfold invG
    have : (fun y x => clp (layF s (cl16 C) y x)) = (fun y x => clp (layF s C y x)) := by
      funext y x
      unfold layF
      split
      · rw [cl16_get, clp_clp]
      · rfl
    rw [this]
  unfold invF
  rw [h1]
theorem wr_zero {W : Nat → Nat → Int} {C : List Int} (h : ∀ j, C.getD j 0 = 0) (j : Nat) : (wr W C).getD j 0 = 0 := by
  by_cases hj : j < C.length
  · rw [wr_get _ _ _ hj, ws_flat (v := 0) C.length j (fun k _ => h k), Int.zero_mul]; rfl
  · exact getD_out (by rw [wr_len]; exact hj)
theorem inv_zero {q : Nat} {C : List Int} (h : ∀ j, C.getD j 0 = 0) (j : Nat) : (invR q C).getD j 0 = 0 := by
  unfold invR
  split
  · rw [h 0, h 1, h 2, h 3]
    match j with
    | 0 => rfl
    | 1 => rfl
    | 2 => rfl
    | 3 => rfl
    | j + 4 => simp [whtI]
  · exact wr_zero h j
theorem row_zero {n y : Nat} {f : Nat → Nat → Int} (h : ∀ x, f y x = 0) (j : Nat) : (rowL n f y).getD j 0 = 0 := by
  by_cases hj : j < n
  · rw [rowL_get _ _ _ _ hj]; exact h j
  · exact getD_out (by rw [rowL_len]; exact hj)
theorem col_zero {n x : Nat} {f : Nat → Nat → Int} (h : ∀ y, f y x = 0) (j : Nat) : (colL n f x).getD j 0 = 0 := by
  by_cases hj : j < n
  · rw [colL_get _ _ _ _ hj]; exact h j
  · exact getD_out (by rw [colL_len]; exact hj)
theorem invF_zero (n s k m y x : Nat) : invF n s k (List.replicate m 0) y x = 0 := by
  have h0 : ∀ y x, layF s (List.replicate m 0) y x = 0 := fun y x => by
    unfold layF
    split
    · by_cases hj : y * s + x < m
      · simp [hj]
      · exact getD_out (by simpa using hj)
    · rfl
  have h1 : ∀ y x, invG n s k (List.replicate m 0) y x = 0 := fun y x => by
    unfold invG rowsF
    split
    · exact inv_zero (fun j => row_zero (fun x => by rw [h0]; rfl) j) x
    · dsimp only; rw [h0]; rfl
  unfold invF
  by_cases h9 : k = 9
  · rw [if_pos h9]
    exact inv_zero (fun j => col_zero (fun y => h1 y x) j) y
  · rw [if_neg h9]
    unfold colsF
    rw [inv_zero (fun j => col_zero (fun y => by rw [h1]; exact btw_zero n) j) y]
    rfl
theorem tab_zero (n s k m : Nat) : tab n (invF n s k (List.replicate m 0)) = List.replicate (n * n) 0 := by
  rw [zero_tab]; exact tab_ext fun y x _ _ => invF_zero n s k m y x
theorem fwdF_16 {n k s : Nat} {C : List Int} (hs : s = min n 32) (hk : (k : Int) ∈ tys (n : Int)) (hM : Mst C 255) (j : Nat) (hj : j < s * s) : -32768 ≤ (tab s (fwdF n k C)).getD j 0 ∧ (tab s (fwdF n k C)).getD j 0 ≤ 32767 := by
  rw [tab_get s _ j hj]
  have hB := bk_of hk
  by_cases h9 : k = 9
  · subst h9
    have hn : n = 4 := Tk.wht hB.row
    have h1 : ∀ y x, -(2048) ≤ colsF n (fwdR (kC 9)) (layF n C) y x ∧ colsF n (fwdR (kC 9)) (layF n C) y x ≤ 2048 := fun y x =>
      (wht_bd (A := 255) (C := colL n (layF n C) x) (mst_col fun y _ => lay_le hM (by omega) y x) (by rw [colL_len]; exact hn) y).2
    have h2 := (wht_bd (A := 2048) (C := rowL n (colsF n (fwdR (kC 9)) (layF n C)) (j / s)) (mst_row fun x _ => h1 _ x) (by rw [rowL_len]; exact hn) (j % s)).2
    have h3 : fwdF n 9 C (j / s) (j % s) = (fwdR 3 (rowL n (colsF n (fwdR (kC 9)) (layF n C)) (j / s))).getD (j % s) 0 := by
      show rowsF n n (fwdR 3) (colsF n (fwdR (kC 9)) (layF n C)) (j / s) (j % s) = _
      unfold rowsF
      rw [if_pos (by have := dv_lt hj; omega)]
    rw [h3]
    omega
  · have h2 : fwdF n k C (j / s) (j % s) = sca n (fwdG n k C (j / s) (j % s)) := by unfold fwdF; rw [if_neg h9]
    rw [h2]
    exact sca_le n _

end Go.Proofs.YtddnnlofdicgkabDoor
