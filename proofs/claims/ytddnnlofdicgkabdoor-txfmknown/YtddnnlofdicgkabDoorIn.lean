/- DERIVED. The walk of TxfmLossless. -/
import Derived.Test.YtddnnlofdicgkabDoorHm
namespace Go.Proofs.YtddnnlofdicgkabDoor
open Go.RowKit

theorem four_of {C : List Int} (h : C.length = 4) : C = [C.getD 0 0, C.getD 1 0, C.getD 2 0, C.getD 3 0] := by
  match C, h with
  | [a, b, c, d], _ => rfl
theorem wht_back1 (a b c d : Int) : whtI ((whtF a b c d).getD 0 0) ((whtF a b c d).getD 1 0) ((whtF a b c d).getD 2 0) ((whtF a b c d).getD 3 0) = [a, b, c, d] := by
  simp only [whtI, whtF, List.getD_cons_zero, List.getD_cons_succ]
  congr 1; omega
  congr 1; omega
  congr 1; omega
  congr 1; omega
theorem wht_back {C : List Int} (h : C.length = 4) : invR 3 (fwdR 3 C) = C := (wht_back1 _ _ _ _).trans (four_of h).symm
/-- what was laid out of a block is the block -/
theorem lay_tab {n : Nat} {f : Nat → Nat → Int} {y x : Nat} (hy : y < n) (hx : x < n) : layF n (tab n f) y x = f y x := by unfold layF; rw [if_pos ⟨hy, hx⟩, tab_at n f hy hx]
theorem lay_self {n : Nat} {D : List Int} (h : D.length = n * n) : tab n (layF n D) = D := by
  refine (tab_of h fun y x hy hx => ?_).symm
  unfold layF; rw [if_pos ⟨hy, hx⟩]
theorem lay_le {n : Nat} {D : List Int} {M : Int} (hM : Mst D M) (h0 : 0 ≤ M) (y x : Nat) : -M ≤ layF n D y x ∧ layF n D y x ≤ M := by
  unfold layF
  split
  · by_cases hj : y * n + x < D.length
    · exact hM _ hj
    · rw [List.getD_eq_getElem?_getD, List.getElem?_eq_none (by omega)]; simp; omega
  · omega
theorem wht_lossless {D : List Int} (hD : D.length = 16) (hM : Mst D 255) : tab 4 (invF 4 4 9 (tab 4 (fwdF 4 9 D))) = D := by
  have h1 : ∀ y x, -(2048) ≤ colsF 4 (fwdR 3) (layF 4 D) y x ∧ colsF 4 (fwdR 3) (layF 4 D) y x ≤ 2048 := fun y x =>
    (wht_bd (A := 255) (mst_col fun y _ => lay_le hM (by omega) y x) (colL_len _ _ _) y).2
  have h2 : ∀ y x, y < 4 → -(16392) ≤ fwdF 4 9 D y x ∧ fwdF 4 9 D y x ≤ 16392 := fun y x hy => by
    rw [show fwdF 4 9 D = rowsF 4 4 (fwdR 3) (colsF 4 (fwdR 3) (layF 4 D)) from rfl]
    unfold rowsF
    rw [if_pos hy]
    exact (wht_bd (A := 2048) (mst_row fun x _ => h1 y x) (rowL_len _ _ _) x).2
  have h3 : ∀ y, y < 4 → rowL 4 (fun y x => clp (layF 4 (tab 4 (fwdF 4 9 D)) y x)) y = fwdR 3 (rowL 4 (colsF 4 (fwdR 3) (layF 4 D)) y) := fun y hy => by
    refine (row_of (by rfl) fun x hx => ?_).symm
    rw [lay_tab hy hx, clp_same (by have := h2 y x hy; omega)]
    rw [show fwdF 4 9 D = rowsF 4 4 (fwdR 3) (colsF 4 (fwdR 3) (layF 4 D)) from rfl]
    unfold rowsF
    rw [if_pos hy]
  have h4 : ∀ y x, y < 4 → x < 4 → invG 4 4 9 (tab 4 (fwdF 4 9 D)) y x = colsF 4 (fwdR 3) (layF 4 D) y x := fun y x hy hx => by
    show rowsF 4 4 (invR 3) (fun y x => clp (layF 4 (tab 4 (fwdF 4 9 D)) y x)) y x = _
    unfold rowsF
    rw [if_pos hy, h3 y hy, wht_back (rowL_len _ _ _), rowL_get _ _ _ _ hx]
  have h5 : ∀ x, x < 4 → colL 4 (invG 4 4 9 (tab 4 (fwdF 4 9 D))) x = fwdR 3 (colL 4 (layF 4 D) x) := fun x hx => by
    refine (col_of (by rfl) fun y hy => ?_).symm
    rw [h4 y x hy hx]
    rfl
  refine Eq.trans (tab_ext fun y x hy hx => ?_) (lay_self hD)
  show colsF 4 (invR 3) (invG 4 4 9 (tab 4 (fwdF 4 9 D))) y x = _
  unfold colsF
  rw [h5 x hx, wht_back (colL_len _ _ _), colL_get _ _ _ _ hy]
theorem Oi.sil {w : World} {B n c g : Nat} {C : List Int} (h : Oi w B (some ⟨g, 0, none⟩) n c C) : g < w.heap.size := (h.own.lt g rfl).2


end Go.Proofs.YtddnnlofdicgkabDoor
