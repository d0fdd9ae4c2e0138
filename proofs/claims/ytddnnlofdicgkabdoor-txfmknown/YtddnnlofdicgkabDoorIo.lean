/- DERIVED. What is flat comes back flat: the numbers. -/
import Derived.Test.YtddnnlofdicgkabDoorIn
namespace Go.Proofs.YtddnnlofdicgkabDoor
open Go.RowKit

theorem ws_flat {W : Nat → Nat → Int} {C : List Int} {v : Int} (m t : Nat) (h : ∀ k, k < m → C.getD k 0 = v) : ws W C m t = v * sm (fun k => W k t) m := by
  unfold ws
  rw [sm_congr (g := fun k => v * W k t) m (fun k hk => by rw [h k hk]), sm_mul]
theorem ws_one {W : Nat → Nat → Int} {C : List Int} (m t : Nat) (h : ∀ k, 0 < k → k < m + 1 → C.getD k 0 = 0) : ws W C (m + 1) t = C.getD 0 0 * W 0 t := by
  induction m with
  | zero => simp [ws, sm]
  | succ m ih => rw [ws_succ, ih (fun k h1 h2 => h k h1 (by omega)), h (m + 1) (by omega) (by omega), Int.zero_mul, Int.add_zero]
/-- a flat row's first number; what a row's first number comes to -/
def pF (n : Nat) (v : Int) : Int := (v * (2896 * n) + 2048) / 4096
def rF (q : Int) : Int := (q * 2896 + 2048) / 4096
theorem dct_sum : ∀ n ∈ [4, 8, 16, 32, 64], ∀ t, t < n → sm (fun k => dctW n t k) n = if t = 0 then 2896 * (n : Int) else 0 := by decide +kernel
theorem fwd_flat {n : Nat} (hn : n ∈ [4, 8, 16, 32, 64]) {C : List Int} {v : Int} (hC : C.length = n) (h : ∀ k, k < n → C.getD k 0 = v) (t : Nat) (ht : t < n) : (fwdR ((0 : Nat) : Int) C).getD t 0 = if t = 0 then pF n v else 0 := by
  show (wr (fun i j => kW 0 C.length j i) C).getD t 0 = _
  rw [wr_get _ _ _ (by omega), hC, ws_flat n t h]
  show (v * sm (fun k => dctW n t k) n + 2048) / 4096 = _
  rw [dct_sum n hn t ht]
  split
  · rfl
  · rw [Int.mul_zero]; rfl
theorem inv_flat {n : Nat} (h0 : 0 < n) {C : List Int} (hC : C.length = n) (h : ∀ k, 0 < k → k < n → C.getD k 0 = 0) (t : Nat) (ht : t < n) : (invR ((0 : Nat) : Int) C).getD t 0 = rF (C.getD 0 0) := by
  show (wr (kW 0 C.length) C).getD t 0 = _
  obtain ⟨m, rfl⟩ : ∃ m, n = m + 1 := ⟨n - 1, by omega⟩
  rw [wr_get _ _ _ (by omega), hC, ws_one m t h]
  rfl
theorem pF_zero (n : Nat) : pF n 0 = 0 := by unfold pF; rw [Int.zero_mul]; rfl
theorem fwd0 {n : Nat} (hn : n ∈ [4, 8, 16, 32, 64]) {D : List Int} {v : Int} (h : ∀ y x, y < n → x < n → layF n D y x = v) {y x : Nat} (hy : y < n) (hx : x < n) : fwdF n 0 D y x = if y = 0 ∧ x = 0 then sca n (pF n (pF n v)) else 0 := by
  have hcol : ∀ y x, y < n → x < n → colsF n (fwdR ((0 : Nat) : Int)) (layF n D) y x = if y = 0 then pF n v else 0 := fun y x hy hx => by
    unfold colsF
    exact fwd_flat hn (colL_len _ _ _) (fun k hk => by rw [colL_get _ _ _ _ hk]; exact h k x hk hx) y hy
  have hrow : fwdG n 0 D y x = if y = 0 ∧ x = 0 then pF n (pF n v) else 0 := by
    show rowsF n n (fwdR ((0 : Nat) : Int)) (colsF n (fwdR ((0 : Nat) : Int)) (layF n D)) y x = _
    unfold rowsF
    rw [if_pos hy]
    rw [fwd_flat hn (v := if y = 0 then pF n v else 0) (rowL_len _ _ _) (fun k hk => by rw [rowL_get _ _ _ _ hk]; exact hcol y k hy hk) x hx]
    by_cases h1 : x = 0
    · by_cases h2 : y = 0
      · rw [if_pos h1, if_pos h2, if_pos ⟨h2, h1⟩]
      · rw [if_pos h1, if_neg h2, if_neg (fun c => h2 c.1), pF_zero]
    · rw [if_neg h1, if_neg (fun c => h1 c.2)]
  show sca n (fwdG n 0 D y x) = _
  rw [hrow]
  split
  · rfl
  · unfold sca clp; split; rfl; split; rfl; split; rfl; split; rfl; rfl
theorem btw_zero (n : Nat) : btw n 0 = 0 := by unfold btw clp; split; rfl; split; rfl; rfl
theorem inv0 {n s : Nat} (h0 : 0 < s) (_hs : s ≤ n) {A : List Int} {q : Int} (h : ∀ y x, y < n → x < n → layF s A y x = if y = 0 ∧ x = 0 then q else 0) {y x : Nat} (hy : y < n) (hx : x < n) : invF n s 0 A y x = les (rF (btw n (rF (clp q)))) := by
  have hn : 0 < n := by omega
  have hG : ∀ y x, y < n → x < n → invG n s 0 A y x = if y = 0 then rF (clp q) else 0 := fun y x hy hx => by
    show rowsF n s (invR ((0 : Nat) : Int)) (fun y x => clp (layF s A y x)) y x = _
    have hrow : ∀ k, k < n → (rowL n (fun y x => clp (layF s A y x)) y).getD k 0 = if y = 0 ∧ k = 0 then clp q else 0 := fun k hk => by
      rw [rowL_get _ _ _ _ hk]
      show clp (layF s A y k) = _
      rw [h y k hy hk]
      split <;> rfl
    unfold rowsF
    by_cases hys : y < s
    · rw [if_pos hys, inv_flat hn (rowL_len _ _ _) (fun k h1 h2 => by rw [hrow k h2, if_neg (by omega)]) x hx, hrow 0 hn]
      by_cases h2 : y = 0
      · rw [if_pos ⟨h2, rfl⟩, if_pos h2]
      · rw [if_neg (fun c => h2 c.1), if_neg h2]; rfl
    · rw [if_neg hys]
      show clp (layF s A y x) = _
      rw [h y x hy hx, if_neg (by omega), if_neg (by omega)]; rfl
  show les (colsF n (invR ((0 : Nat) : Int)) (fun y x => btw n (invG n s 0 A y x)) y x) = _
  have hc : ∀ k, k < n → (colL n (fun y x => btw n (invG n s 0 A y x)) x).getD k 0 = if k = 0 then btw n (rF (clp q)) else 0 := fun k hk => by
    rw [colL_get _ _ _ _ hk]
    show btw n (invG n s 0 A k x) = _
    rw [hG k x hk hx]
    split
    · rfl
    · exact btw_zero n
  unfold colsF
  rw [inv_flat hn (colL_len _ _ _) (fun k h1 h2 => by rw [hc k h2, if_neg (by omega)]) y hy, hc 0 hn, if_pos rfl]
theorem flat_num : ∀ n ∈ [4, 8, 16, 32, 64], ∀ i : Nat, i < 511 → les (rF (btw n (rF (clp (sca n (pF n (pF n ((i : Int) - 255)))))))) = (i : Int) - 255 := by decide +kernel
theorem flat_back {n s : Nat} (hn : n ∈ [4, 8, 16, 32, 64]) (hs : s = min n 32) {v : Int} (hv : -255 ≤ v ∧ v ≤ 255) :
    (∀ j, 0 < j → j < s * s → (tab s (fwdF n 0 (fs (n * n) v v))).getD j 0 = 0) ∧ tab n (invF n s 0 (tab s (fwdF n 0 (fs (n * n) v v)))) = fs (n * n) v v := by
  have hn4 : 4 ≤ n := by simp at hn; omega
  have hsn : s ≤ n := by omega
  have hs0 : 0 < s := by omega
  have hD : ∀ y x, y < n → x < n → layF n (fs (n * n) v v) y x = v := fun y x hy hx => by
    unfold layF
    rw [if_pos ⟨hy, hx⟩, fs_get _ _ _ _ (ix_lt hy hx)]
    split <;> rfl
  have hA : ∀ y x, y < s → x < s → fwdF n 0 (fs (n * n) v v) y x = if y = 0 ∧ x = 0 then sca n (pF n (pF n v)) else 0 := fun y x hy hx => fwd0 hn hD (by omega) (by omega)
  refine ⟨fun j h1 h2 => ?_, ?_⟩
  · rw [tab_get s _ j h2, hA _ _ (dv_lt h2) (md_lt h2), if_neg ?_]
    rintro ⟨e1, e2⟩
    have := ix_of s j
    rw [e1, e2] at this
    omega
  · have hB : ∀ y x, y < n → x < n → layF s (tab s (fwdF n 0 (fs (n * n) v v))) y x = if y = 0 ∧ x = 0 then sca n (pF n (pF n v)) else 0 := fun y x hy hx => by
      unfold layF
      by_cases h1 : y < s ∧ x < s
      · rw [if_pos h1, tab_at s _ h1.1 h1.2, hA y x h1.1 h1.2]
      · rw [if_neg h1, if_neg (by omega)]
    have hnum : les (rF (btw n (rF (clp (sca n (pF n (pF n v))))))) = v := by
      have := flat_num n hn (v + 255).toNat (by omega)
      rw [show (((v + 255).toNat : Nat) : Int) - 255 = v from by omega] at this
      exact this
    refine (tab_of (fs_len _ _ _) fun y x hy hx => ?_).symm
    rw [inv0 hs0 hsn hB hy hx, hnum, fs_get _ _ _ _ (ix_lt hy hx)]
    split <;> rfl

end Go.Proofs.YtddnnlofdicgkabDoor
