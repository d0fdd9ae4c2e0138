/- DERIVED. Plain arithmetic of layer 8: blocks of numbers, row by row. -/
import Derived.Test.YtddnnlofdicgkabDoorCg
import Derived.Laws.CopyOwn
namespace Go.Proofs.YtddnnlofdicgkabDoor
open Go.RowKit

/-- n rows of n numbers -/
def tab (n : Nat) (f : Nat → Nat → Int) : List Int := (List.range (n * n)).map fun i => f (i / n) (i % n)
theorem tab_len (n : Nat) (f : Nat → Nat → Int) : (tab n f).length = n * n := by simp [tab]
theorem tab_get (n : Nat) (f : Nat → Nat → Int) (i : Nat) (h : i < n * n) : (tab n f).getD i 0 = f (i / n) (i % n) := by simp [tab, h]
theorem ix_div {n y x : Nat} (hx : x < n) : (y * n + x) / n = y := by rw [Nat.mul_comm, Nat.mul_add_div (by omega), Nat.div_eq_of_lt hx, Nat.add_zero]
theorem ix_mod {n y x : Nat} (hx : x < n) : (y * n + x) % n = x := by rw [Nat.mul_comm, Nat.mul_add_mod, Nat.mod_eq_of_lt hx]
theorem ix_lt {n m y x : Nat} (hy : y < m) (hx : x < n) : y * n + x < m * n := by
  have := Nat.mul_le_mul_right n (show y + 1 ≤ m from hy)
  rw [Nat.succ_mul] at this
  omega
theorem ix_le {n m y : Nat} (hy : y < m) : y * n + n ≤ m * n := by
  have := Nat.mul_le_mul_right n (show y + 1 ≤ m from hy)
  rw [Nat.succ_mul] at this
  exact this
theorem ix_of (n i : Nat) : i / n * n + i % n = i := by rw [Nat.mul_comm]; exact Nat.div_add_mod i n
theorem dv_lt {n m i : Nat} (h : i < m * n) : i / n < m := Nat.div_lt_of_lt_mul (by rw [Nat.mul_comm]; exact h)
theorem md_lt {n m i : Nat} (h : i < m * n) : i % n < n := Nat.mod_lt _ (Nat.pos_of_ne_zero fun e => by rw [e, Nat.mul_zero] at h; omega)
theorem tab_at (n : Nat) (f : Nat → Nat → Int) {y x : Nat} (hy : y < n) (hx : x < n) : (tab n f).getD (y * n + x) 0 = f y x := by rw [tab_get n f _ (ix_lt hy hx), ix_div hx, ix_mod hx]
theorem tab_of {n : Nat} {L : List Int} {f : Nat → Nat → Int} (hl : L.length = n * n) (h : ∀ y x, y < n → x < n → L.getD (y * n + x) 0 = f y x) : L = tab n f := by
  refine ext_getD (by rw [hl, tab_len]) fun j hj => ?_
  rw [hl] at hj
  rw [tab_get n f j hj, ← h _ _ (dv_lt hj) (md_lt hj), ix_of]
theorem tab_ext {n : Nat} {f h : Nat → Nat → Int} (e : ∀ y x, y < n → x < n → f y x = h y x) : tab n f = tab n h := tab_of (tab_len n f) fun y x hy hx => by rw [tab_at n f hy hx]; exact e y x hy hx
theorem ix_eq {n y x y' x' : Nat} (hx : x < n) (hx' : x' < n) : y * n + x = y' * n + x' ↔ y' = y ∧ x' = x := by
  constructor
  · intro e
    have e1 := congrArg (· / n) e
    have e2 := congrArg (· % n) e
    simp only [ix_div hx, ix_div hx', ix_mod hx, ix_mod hx'] at e1 e2
    exact ⟨e1.symm, e2.symm⟩
  · rintro ⟨rfl, rfl⟩; rfl
theorem tab_set (n : Nat) (f : Nat → Nat → Int) {y x : Nat} (hy : y < n) (hx : x < n) (v : Int) : (tab n f).set (y * n + x) v = tab n (fun y' x' => if y' = y ∧ x' = x then v else f y' x') := by
  refine tab_of (by rw [List.length_set, tab_len]) fun y' x' hy' hx' => ?_
  rw [getD_set _ _ _ _ (by rw [tab_len]; exact ix_lt hy hx), tab_at n f hy' hx']
  simp only [ix_eq hx hx']
theorem spl_len (L : List Int) (o : Nat) (c : List Int) (h : o + c.length ≤ L.length) : (splice L o c).length = L.length := length_splice L o c h
theorem spl_get (L : List Int) (o : Nat) (c : List Int) (h : o + c.length ≤ L.length) (j : Nat) : (splice L o c).getD j 0 = if o ≤ j ∧ j < o + c.length then c.getD (j - o) 0 else L.getD j 0 := by
  simp only [splice, List.getD_eq_getElem?_getD, List.getElem?_append, List.getElem?_take, List.getElem?_drop, List.length_take]
  have : min o L.length = o := by omega
  rw [this]
  by_cases h1 : j < o
  · simp [h1]; omega
  · by_cases h2 : j - o < c.length
    · rw [if_neg h1, if_pos h2, if_pos (by omega)]
    · rw [if_neg h1, if_neg h2, if_neg (by omega), show o + c.length + (j - o - c.length) = j from by omega]
/-- a row of a block anew -/
theorem tab_splice (n : Nat) (f : Nat → Nat → Int) {y : Nat} (hy : y < n) (R : List Int) (hR : R.length ≤ n) : splice (tab n f) (y * n) R = tab n (fun y' x' => if y' = y ∧ x' < R.length then R.getD x' 0 else f y' x') := by
  have hi := ix_le (n := n) hy
  have hf : y * n + R.length ≤ (tab n f).length := by rw [tab_len]; omega
  refine tab_of (by rw [spl_len _ _ _ hf, tab_len]) fun y' x' hy' hx' => ?_
  rw [spl_get _ _ _ hf, tab_at n f hy' hx']
  by_cases h : y' = y
  · subst h
    by_cases h2 : x' < R.length
    · rw [if_pos (by omega), if_pos ⟨rfl, h2⟩, Nat.add_sub_cancel_left]
    · rw [if_neg (by omega), if_neg (by omega)]
  · have : ¬ (y * n ≤ y' * n + x' ∧ y' * n + x' < y * n + R.length) := by
      intro ⟨h1, h2⟩
      rcases Nat.lt_or_gt_of_ne h with hl | hl
      · have := ix_le (n := n) hl; omega
      · have := ix_le (n := n) hl; omega
    rw [if_neg this, if_neg (fun c => h c.1)]
/-- a part of a list -/
def sg (L : List Int) (o n : Nat) : List Int := (L.drop o).take n
theorem sg_len (L : List Int) (o n : Nat) (h : o + n ≤ L.length) : (sg L o n).length = n := by simp [sg]; omega
theorem sg_get (L : List Int) (o n : Nat) (j : Nat) (hj : j < n) : (sg L o n).getD j 0 = L.getD (o + j) 0 := by
  simp [sg, List.getD_eq_getElem?_getD, List.getElem?_take_of_lt hj]
/-- a row, a column -/
def rowL (n : Nat) (f : Nat → Nat → Int) (y : Nat) : List Int := (List.range n).map fun x => f y x
def colL (n : Nat) (f : Nat → Nat → Int) (x : Nat) : List Int := (List.range n).map fun y => f y x
theorem rowL_len (n : Nat) (f : Nat → Nat → Int) (y : Nat) : (rowL n f y).length = n := by simp [rowL]
theorem colL_len (n : Nat) (f : Nat → Nat → Int) (x : Nat) : (colL n f x).length = n := by simp [colL]
theorem rowL_get (n : Nat) (f : Nat → Nat → Int) (y x : Nat) (h : x < n) : (rowL n f y).getD x 0 = f y x := by simp [rowL, h]
theorem colL_get (n : Nat) (f : Nat → Nat → Int) (x y : Nat) (h : y < n) : (colL n f x).getD y 0 = f y x := by simp [colL, h]
theorem row_of {n : Nat} {L : List Int} {f : Nat → Nat → Int} {y : Nat} (hl : L.length = n) (h : ∀ x, x < n → L.getD x 0 = f y x) : L = rowL n f y := ext_getD (by rw [hl, rowL_len]) fun j hj => by rw [rowL_get n f y j (by omega)]; exact h j (by omega)
theorem col_of {n : Nat} {L : List Int} {f : Nat → Nat → Int} {x : Nat} (hl : L.length = n) (h : ∀ y, y < n → L.getD y 0 = f y x) : L = colL n f x := ext_getD (by rw [hl, colL_len]) fun j hj => by rw [colL_get n f x j (by omega)]; exact h j (by omega)
theorem sg_row (n : Nat) (f : Nat → Nat → Int) {y : Nat} (hy : y < n) : sg (tab n f) (y * n) n = rowL n f y := by
  have := ix_le (n := n) hy
  exact row_of (sg_len _ _ _ (by rw [tab_len]; exact this)) fun x hx => by rw [sg_get _ _ _ _ hx, tab_at n f hy hx]
/-- rows turned, the first ones; columns turned -/
def rowsF (n many : Nat) (T : List Int → List Int) (f : Nat → Nat → Int) : Nat → Nat → Int := fun y x => if y < many then (T (rowL n f y)).getD x 0 else f y x
def colsF (n : Nat) (T : List Int → List Int) (f : Nat → Nat → Int) : Nat → Nat → Int := fun y x => (T (colL n f x)).getD y 0
/-- columns turned up to m -/
def colsP (n m : Nat) (T : List Int → List Int) (f : Nat → Nat → Int) : Nat → Nat → Int := fun y x => if x < m then (T (colL n f x)).getD y 0 else f y x
/-- what is laid -/
def layF (side : Nat) (C : List Int) : Nat → Nat → Int := fun y x => if y < side ∧ x < side then C.getD (y * side + x) 0 else 0
/-- the same up to row m -/
def layP (side m : Nat) (C : List Int) : Nat → Nat → Int := fun y x => if y < m ∧ x < side then C.getD (y * side + x) 0 else 0
theorem zero_tab (n : Nat) : List.replicate (n * n) (0 : Int) = tab n (fun _ _ => 0) := tab_of (by simp) fun y x hy hx => by simp [ix_lt hy hx]
theorem lay_step (n side : Nat) (C : List Int) {y : Nat} (hy : y < side) (hs : side ≤ n) (hC : C.length = side * side) : splice (tab n (layP side y C)) (y * n) (sg C (y * side) side) = tab n (layP side (y + 1) C) := by
  have h1 := ix_le (n := side) hy
  have hl : (sg C (y * side) side).length = side := sg_len _ _ _ (by omega)
  rw [tab_splice n _ (by omega) _ (by omega), hl]
  refine tab_ext fun y' x' hy' hx' => ?_
  unfold layP
  by_cases h : y' = y
  · subst h
    by_cases h2 : x' < side
    · rw [if_pos ⟨rfl, h2⟩, if_pos ⟨by omega, h2⟩, sg_get _ _ _ _ h2]
    · rw [if_neg (by omega), if_neg (by omega), if_neg (by omega)]
  · rw [if_neg (fun c => h c.1)]
    by_cases h2 : y' < y ∧ x' < side
    · rw [if_pos h2, if_pos ⟨by omega, h2.2⟩]
    · rw [if_neg h2, if_neg (by omega)]
theorem rows_step (n : Nat) (T : List Int → List Int) (f : Nat → Nat → Int) {y : Nat} (hy : y < n) (hT : (T (rowL n f y)).length = n) : splice (tab n (rowsF n y T f)) (y * n) (T (rowL n f y)) = tab n (rowsF n (y + 1) T f) := by
  rw [tab_splice n _ hy _ (by omega), hT]
  refine tab_ext fun y' x' hy' hx' => ?_
  unfold rowsF
  by_cases h : y' = y
  · subst h; rw [if_pos ⟨rfl, hx'⟩, if_pos (by omega)]
  · rw [if_neg (fun c => h c.1)]
    by_cases h2 : y' < y
    · rw [if_pos h2, if_pos (by omega)]
    · rw [if_neg h2, if_neg (by omega)]
theorem rows_row (n : Nat) (T : List Int → List Int) (f : Nat → Nat → Int) (y : Nat) : rowL n (rowsF n y T f) y = rowL n f y := by simp [rowL, rowsF]
theorem rows_zero (n : Nat) (T : List Int → List Int) (f : Nat → Nat → Int) : tab n (rowsF n 0 T f) = tab n f := tab_ext fun y x _ _ => by simp [rowsF]
theorem cols_zero (n : Nat) (T : List Int → List Int) (f : Nat → Nat → Int) : tab n (colsP n 0 T f) = tab n f := tab_ext fun y x _ _ => by simp [colsP]
theorem cols_all (n : Nat) (T : List Int → List Int) (f : Nat → Nat → Int) : tab n (colsP n n T f) = tab n (colsF n T f) := tab_ext fun y x _ hx => by simp [colsP, colsF, hx]
theorem cols_col (n : Nat) (T : List Int → List Int) (f : Nat → Nat → Int) (x : Nat) : colL n (colsP n x T f) x = colL n f x := by simp [colL, colsP]
/-- a column that is written, down to y -/
def colW (n x y : Nat) (T : List Int → List Int) (f : Nat → Nat → Int) : Nat → Nat → Int := fun y' x' => if x' = x ∧ y' < y then (T (colL n f x)).getD y' 0 else colsP n x T f y' x'
theorem colW_zero (n x : Nat) (T : List Int → List Int) (f : Nat → Nat → Int) : tab n (colW n x 0 T f) = tab n (colsP n x T f) := tab_ext fun y x _ _ => by simp [colW]
theorem colW_all (n x : Nat) (T : List Int → List Int) (f : Nat → Nat → Int) : tab n (colW n x n T f) = tab n (colsP n (x + 1) T f) := tab_ext fun y' x' hy' hx' => by
  unfold colW colsP
  by_cases h : x' = x
  · subst h; rw [if_pos ⟨rfl, hy'⟩, if_pos (by omega)]
  · rw [if_neg (fun c => h c.1)]
    by_cases h2 : x' < x
    · rw [if_pos h2, if_pos (by omega)]
    · rw [if_neg h2, if_neg (by omega)]
theorem colW_step (n x y : Nat) (T : List Int → List Int) (f : Nat → Nat → Int) (hy : y < n) (hx : x < n) : (tab n (colW n x y T f)).set (y * n + x) ((T (colL n f x)).getD y 0) = tab n (colW n x (y + 1) T f) := by
  rw [tab_set n _ hy hx]
  refine tab_ext fun y' x' hy' hx' => ?_
  unfold colW
  by_cases h : x' = x
  · subst h
    by_cases h2 : y' = y
    · subst h2; rw [if_pos ⟨rfl, rfl⟩, if_pos ⟨rfl, by omega⟩]
    · rw [if_neg (fun c => h2 c.1)]
      by_cases h3 : y' < y
      · rw [if_pos ⟨rfl, h3⟩, if_pos ⟨rfl, by omega⟩]
      · rw [if_neg (fun c => h3 c.2), if_neg (by omega)]
  · rw [if_neg (fun c => h c.2), if_neg (fun c => h c.1), if_neg (fun c => h c.1)]
/-- each number anew, up to the m-th -/
def eachP (m : Nat) (h : Int → Int) (C : List Int) : List Int := (List.range C.length).map fun i => if i < m then h (C.getD i 0) else C.getD i 0
theorem eachP_len (m : Nat) (h : Int → Int) (C : List Int) : (eachP m h C).length = C.length := by simp [eachP]
theorem eachP_get (m : Nat) (h : Int → Int) (C : List Int) (j : Nat) (hj : j < C.length) : (eachP m h C).getD j 0 = if j < m then h (C.getD j 0) else C.getD j 0 := by simp [eachP, hj]
theorem eachP_zero (h : Int → Int) (C : List Int) : eachP 0 h C = C := ext_getD (eachP_len _ _ _) fun j hj => by rw [eachP_len] at hj; rw [eachP_get _ _ _ _ hj, if_neg (by omega)]
theorem eachP_step (m : Nat) (h : Int → Int) (C : List Int) (hm : m < C.length) : (eachP m h C).set m (h (C.getD m 0)) = eachP (m + 1) h C := by
  refine ext_getD (by rw [List.length_set, eachP_len, eachP_len]) fun j hj => ?_
  rw [List.length_set, eachP_len] at hj
  rw [getD_set _ _ _ _ (by rw [eachP_len]; exact hm), eachP_get _ _ _ _ hj, eachP_get _ _ _ _ hj]
  by_cases e : m = j
  · subst e; rw [if_pos rfl, if_pos (by omega)]
  · rw [if_neg e]
    by_cases g : j < m
    · rw [if_pos g, if_pos (by omega)]
    · rw [if_neg g, if_neg (by omega)]
theorem eachP_tab (n : Nat) (h : Int → Int) (f : Nat → Nat → Int) : eachP (n * n) h (tab n f) = tab n (fun y x => h (f y x)) := tab_of (by rw [eachP_len, tab_len]) fun y x hy hx => by
  rw [eachP_get _ _ _ _ (by rw [tab_len]; exact ix_lt hy hx), if_pos (ix_lt hy hx), tab_at n f hy hx]

/-- to 16 bits -/
def clp (v : Int) : Int := min (max v (-32768)) 32767
theorem clp_le (v : Int) : -32768 ≤ clp v ∧ clp v ≤ 32767 := by unfold clp; omega
theorem clp_same {v : Int} (h : -32768 ≤ v ∧ v ≤ 32767) : clp v = v := by unfold clp; omega
theorem clp_clp (v : Int) : clp (clp v) = clp v := clp_same (clp_le v)
/-- behind a row; behind both; of forward -/
def btw (n : Nat) (v : Int) : Int := if n = 4 then clp v else if n = 8 then clp ((v + 1) / 2) else clp ((v + 2) / 4)
def les (v : Int) : Int := (v + 8) / 16
def sca (n : Nat) (v : Int) : Int := if n = 4 then clp (4 * v) else if n = 8 then clp (2 * v) else if n = 16 then clp v else if n = 32 then clp ((v + 2) / 4) else clp ((v + 8) / 16)
theorem btw_le (n : Nat) (v : Int) : -32768 ≤ btw n v ∧ btw n v ≤ 32767 := by unfold btw; split; exact clp_le _; split; exact clp_le _; exact clp_le _
theorem sca_le (n : Nat) (v : Int) : -32768 ≤ sca n v ∧ sca n v ≤ 32767 := by
  unfold sca; split; exact clp_le _; split; exact clp_le _; split; exact clp_le _; split; exact clp_le _; exact clp_le _
/-- kinds of rows and of columns -/
def kR (k : Nat) : Nat := if k = 9 then 3 else k % 3
def kC (k : Nat) : Nat := if k = 9 then 3 else k / 3
/-- the block that coefficients stand for, and the other way -/
def invG (n side k : Nat) (C : List Int) : Nat → Nat → Int := rowsF n side (invR (kR k)) (fun y x => clp (layF side C y x))
def invF (n side k : Nat) (C : List Int) : Nat → Nat → Int :=
  if k = 9 then colsF n (invR (kC k)) (invG n side k C) else fun y x => les (colsF n (invR (kC k)) (fun y x => btw n (invG n side k C y x)) y x)
def fwdG (n k : Nat) (C : List Int) : Nat → Nat → Int := rowsF n n (fwdR (kR k)) (colsF n (fwdR (kC k)) (layF n C))
def fwdF (n k : Nat) (C : List Int) : Nat → Nat → Int := if k = 9 then fwdG n k C else fun y x => sca n (fwdG n k C y x)

end Go.Proofs.YtddnnlofdicgkabDoor
