/- DERIVED. The walk of TxfmLossless. -/
import Derived.Test.YtddnnlofdicgkaaDoorHm
namespace Go.Proofs.YtddnnlofdicgkaaDoor
open Go.RowKit

theorem four_of {C : List Int} (h : C.length = 4) : C = [C.getD 0 0, C.getD 1 0, C.getD 2 0, C.getD 3 0] := by
  match C, h with
  | [a, b, c, d], _ => rfl
theorem wht_back1 (a b c d : Int) : whtI ((whtF a b c d).getD 0 0) ((whtF a b c d).getD 1 0) ((whtF a b c d).getD 2 0) ((whtF a b c d).getD 3 0) = [a, b, c, d] := by
  simp only [whtI, whtF, List.getD_cons_zero, List.getD_cons_succ]
  congr 1; omega
  congr 1; omega
  congr 1; omega
  congr 1; omega
theorem wht_back {C : List Int} (h : C.length = 4) : invR 3 (fwdR 3 C) = C := (wht_back1 _ _ _ _).trans (four_of h).symm
/-- what was laid out of a block is the block -/
theorem lay_tab {n : Nat} {f : Nat → Nat → Int} {y x : Nat} (hy : y < n) (hx : x < n) : layF n (tab n f) y x = f y x := by unfold layF; rw [if_pos ⟨hy, hx⟩, tab_at n f hy hx]
theorem lay_self {n : Nat} {D : List Int} (h : D.length = n * n) : tab n (layF n D) = D := by
  refine (tab_of h fun y x hy hx => ?_).symm
  unfold layF; rw [if_pos ⟨hy, hx⟩]
theorem lay_le {n : Nat} {D : List Int} {M : Int} (hM : Mst D M) (h0 : 0 ≤ M) (y x : Nat) : -M ≤ layF n D y x ∧ layF n D y x ≤ M := by
  unfold layF
  split
  · by_cases hj : y * n + x < D.length
    · exact hM _ hj
    · rw [List.getD_eq_getElem?_getD, List.getElem?_eq_none (by omega)]; simp; omega
  · omega
theorem wht_lossless {D : List Int} (hD : D.length = 16) (hM : Mst D 255) : tab 4 (invF 4 4 9 (tab 4 (fwdF 4 9 D))) = D := by
  have h1 : ∀ y x, -(2048) ≤ colsF 4 (fwdR 3) (layF 4 D) y x ∧ colsF 4 (fwdR 3) (layF 4 D) y x ≤ 2048 := fun y x =>
    (wht_bd (A := 255) (mst_col fun y _ => lay_le hM (by omega) y x) (colL_len _ _ _) y).2
  have h2 : ∀ y x, y < 4 → -(16392) ≤ fwdF 4 9 D y x ∧ fwdF 4 9 D y x ≤ 16392 := fun y x hy => by
    rw [show fwdF 4 9 D = rowsF 4 4 (fwdR 3) (colsF 4 (fwdR 3) (layF 4 D)) from rfl]
    unfold rowsF
    rw [if_pos hy]
    exact (wht_bd (A := 2048) (mst_row fun x _ => h1 y x) (rowL_len _ _ _) x).2
  have h3 : ∀ y, y < 4 → rowL 4 (fun y x => clp (layF 4 (tab 4 (fwdF 4 9 D)) y x)) y = fwdR 3 (rowL 4 (colsF 4 (fwdR 3) (layF 4 D)) y) := fun y hy => by
    refine (row_of (by rfl) fun x hx => ?_).symm
    rw [lay_tab hy hx, clp_same (by have := h2 y x hy; omega)]
    rw [show fwdF 4 9 D = rowsF 4 4 (fwdR 3) (colsF 4 (fwdR 3) (layF 4 D)) from rfl]
    unfold rowsF
    rw [if_pos hy]
  have h4 : ∀ y x, y < 4 → x < 4 → invG 4 4 9 (tab 4 (fwdF 4 9 D)) y x = colsF 4 (fwdR 3) (layF 4 D) y x := fun y x hy hx => by
    show rowsF 4 4 (invR 3) (fun y x => clp (layF 4 (tab 4 (fwdF 4 9 D)) y x)) y x = _
    unfold rowsF
    rw [if_pos hy, h3 y hy, wht_back (rowL_len _ _ _), rowL_get _ _ _ _ hx]
  have h5 : ∀ x, x < 4 → colL 4 (invG 4 4 9 (tab 4 (fwdF 4 9 D))) x = fwdR 3 (colL 4 (layF 4 D) x) := fun x hx => by
    refine (col_of (by rfl) fun y hy => ?_).symm
    rw [h4 y x hy hx]
    rfl
  refine Eq.trans (tab_ext fun y x hy hx => ?_) (lay_self hD)
  show colsF 4 (invR 3) (invG 4 4 9 (tab 4 (fwdF 4 9 D))) y x = _
  unfold colsF
  rw [h5 x hx, wht_back (colL_len _ _ _), colL_get _ _ _ _ hy]
theorem Oi.sil {w : World} {B n c g : Nat} {C : List Int} (h : Oi w B (some ⟨g, 0, none⟩) n c C) : g < w.heap.size := (h.own.lt g rfl).2

set_option maxRecDepth 100000 in
set_option maxHeartbeats 400000 in
theorem lossless_walk {w : World} {a : Option Addr} {c : Nat} {C : List Int} (hq : Qt w) (hs : Si w a C) (hl : C.length ≤ 140737488355328) :
    Calls Tryd.prog 6 #[.slice a C.length c] w fun e w' => e = .returned (.bool true) ∧ Below w.heap.size w w' := by
  have HQ : Hid (Qt w) := hq
  have HS : Hid (Si w a C) := hs
  clear hq hs
  go_enter Tryd.func6, Tryd.ntmps6
  go_wp2_with fail
  refine (works_any HQ.out).mono ?_
  rintro e w1 ⟨rfl, hb1⟩
  have HB1 : Hid (Below w.heap.size w w1) := hb1
  have HQ1 : Hid (Qt w1) := HQ.out.to hb1
  have HR : Hid (Calls Tryd.prog 21 #[.slice a C.length c, .int .i64 4, .int .i64 255] w1 fun e w' => Nb w1 w' e 16 255) := block_any (n := 4) (HS.out.to hb1) hl (by omega) rfl (by omega) (by omega)
  clear hb1
  go_wp2_with fail
  refine HR.out.mono ?_
  rintro e w2 ⟨D, rfl, hD, hM, hx, hb2⟩
  have HN : Hid (D.length = 16) := hD
  have HM : Hid (Mst D 255) := hM
  have HX : Hid (Ri 3 w2 w1.heap.size D) := hx
  have HB2 : Hid (Below w.heap.size w w2) := below_to HB1.out hb2
  have HQ2 : Hid (Qt w2) := HQ1.out.to hb2
  have HMA : Hid (Mst (tab 4 (fwdF 4 9 D)) 1048576) := fun j hj => by
    rw [tab_len] at hj
    rw [tab_get 4 _ j hj]
    have h1 : ∀ y x, -(65288) ≤ colsF 4 (fwdR (kC 9)) (layF 4 D) y x ∧ colsF 4 (fwdR (kC 9)) (layF 4 D) y x ≤ 65288 := fwd_mid (k := 9) (bk_of (kin4 9 (by omega))).col hM
    have h2 := (wht_bd (A := 65288) (C := rowL 4 (colsF 4 (fwdR (kC 9)) (layF 4 D)) (j / 4)) (mst_row fun x _ => h1 _ x) (rowL_len _ _ _) (j % 4)).2
    have h3 : fwdF 4 9 D (j / 4) (j % 4) = (fwdR 3 (rowL 4 (colsF 4 (fwdR (kC 9)) (layF 4 D)) (j / 4))).getD (j % 4) 0 := by
      show rowsF 4 4 (fwdR 3) (colsF 4 (fwdR (kC 9)) (layF 4 D)) (j / 4) (j % 4) = _
      unfold rowsF
      rw [if_pos (by omega)]
    rw [h3]
    omega
  have HL : Hid (tab 4 (invF 4 4 9 (tab 4 (fwdF 4 9 D))) = D) := wht_lossless hD hM
  clear hD hM hx hb2
  go_wp2_with fail
  refine (tfwd_go (n := 4) (k := 9) (s := 4) (M := 16) (L := 16) (R := tab 4 (fwdF 4 9 D)) HQ2.out HX.out.si HN.out (by omega) HX.out.lt (kin4 9 (by omega)) rfl rfl HM.out rfl rfl).mono ?_
  rintro e w3 ⟨g3, c3, rfl, -, ho3, hb3⟩
  have HX3 : Hid (Ri 3 w3 w1.heap.size D) := HX.out.to hb3
  have HO3 : Hid (Oi w3 w2.heap.size (some ⟨g3, 0, none⟩) 16 c3 (tab 4 (fwdF 4 9 D))) := ho3
  have HB3 : Hid (Below w.heap.size w w3) := below_to HB2.out hb3
  have HQ3 : Hid (Qt w3) := HQ2.out.to hb3
  clear ho3 hb3
  go_wp2_with fail
  refine (tinv_go (n := 4) (k := 9) (s := 4) (M := 16) (L := 16) (R := D) HQ3.out HO3.out.si (by rw [tab_len]) HO3.out.cap HO3.out.sil (kin4 9 (by omega)) rfl rfl HMA.out HL.out rfl).mono ?_
  rintro e w4 ⟨g4, c4, rfl, -, ho4, hb4⟩
  have HX4 : Hid (Ri 3 w4 w1.heap.size D) := HX3.out.to hb4
  have HO4 : Hid (Si w4 (some ⟨g4, 0, none⟩) D) := ho4.si
  have HB4 : Hid (Below w.heap.size w w4) := below_to HB3.out hb4
  clear ho4 hb4
  go_wp2_with fail
  refine (eq_yes HO4.out HX4.out.si HN.out HN.out rfl (by omega)).mono ?_
  rintro e w5 ⟨rfl, hb5⟩
  have HB5 : Hid (Below w.heap.size w w5) := below_to HB4.out hb5
  clear hb5
  go_wp2_with fail
  go_ret
  exact ⟨rfl, HB5.out⟩

end Go.Proofs.YtddnnlofdicgkaaDoor
