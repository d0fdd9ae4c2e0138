/- DERIVED. The walks of a block's inverse and forward. -/
import Derived.Test.YtddnnlofdicgkabDoorHh
import Derived.Test.YtddnnlofdicgkabDoorHe
namespace Go.Proofs.YtddnnlofdicgkabDoor
open Go.RowKit

/-- a size that has a kind -/
structure Bk (n s k : Nat) : Prop where
  row : Tk (kR k) n
  col : Tk (kC k) n
  le : s ≤ n
  pos : 0 < s
  kk : k < 10
theorem Bk.n64 {n s k : Nat} (h : Bk n s k) : n ≤ 64 := h.row.le
theorem lo_of {v A : Int} (h : -A ≤ v ∧ v ≤ A) (hA : A ≤ 1125899906842624) : Lo v := ⟨by omega, by omega⟩
/-- a number of a list, of a block -/
theorem mst_row {n y : Nat} {f : Nat → Nat → Int} {A : Int} (h : ∀ x, x < n → -A ≤ f y x ∧ f y x ≤ A) : Mst (rowL n f y) A := fun j hj => by
  rw [rowL_len] at hj
  rw [rowL_get _ _ _ _ hj]; exact h j hj
theorem mst_col {n x : Nat} {f : Nat → Nat → Int} {A : Int} (h : ∀ y, y < n → -A ≤ f y x ∧ f y x ≤ A) : Mst (colL n f x) A := fun j hj => by
  rw [colL_len] at hj
  rw [colL_get _ _ _ _ hj]; exact h j hj
theorem mst_up {C : List Int} {A B : Int} (h : Mst C A) (hA : A ≤ B) : Mst C B := fun j hj => by have := h j hj; omega
theorem tab_each {n : Nat} {f : Nat → Nat → Int} {P : Int → Prop} (h : ∀ y x, y < n → x < n → P (f y x)) (i : Nat) (hi : i < (tab n f).length) : P ((tab n f).getD i 0) := by
  rw [tab_len] at hi
  rw [tab_get n f i hi]
  exact h _ _ (dv_lt hi) (md_lt hi)
theorem clp_row (n : Nat) (g : Nat → Nat → Int) (y : Nat) : Mst (rowL n (fun y x => clp (g y x)) y) 32768 := mst_row fun x _ => by have := clp_le (g y x); omega
theorem invG_bd {n s k : Nat} (h : Bk n s k) (C : List Int) (y x : Nat) : -(8388616) ≤ invG n s k C y x ∧ invG n s k C y x ≤ 8388616 := by
  unfold invG rowsF
  split
  · have := inv_bd h.row (A := 32768) (by omega) (rowL_len _ _ _) (clp_row n (layF s C) y) x
    omega
  · have := clp_le (layF s C y x); dsimp only; omega
theorem invG_wht {n s k : Nat} (h : Bk n s k) (hk : k = 9) (C : List Int) (y x : Nat) : -(1048576) ≤ invG n s k C y x ∧ invG n s k C y x ≤ 1048576 := by
  unfold invG rowsF
  subst hk
  have hn : n = 4 := Tk.wht h.row
  split
  · have := (wht_bd (clp_row n (layF s C) y) (by rw [rowL_len]; exact hn) x).1
    rw [show ((kR 9 : Nat) : Int) = 3 from rfl]
    omega
  · have := clp_le (layF s C y x); dsimp only; omega
theorem fwd_mid {n k : Nat} {C : List Int} (h : Tk (kC k) n) (hM : Mst C 255) (y x : Nat) : -(65288) ≤ colsF n (fwdR (kC k)) (layF n C) y x ∧ colsF n (fwdR (kC k)) (layF n C) y x ≤ 65288 := by
  unfold colsF
  have := fwd_bd h (A := 255) (by omega) (colL_len n (layF n C) x) (mst_col fun y hy => by
    unfold layF
    split
    · by_cases hj : y * n + x < C.length
      · exact hM _ hj
      · rw [List.getD_eq_getElem?_getD, List.getElem?_eq_none (by omega)]; simp
    · omega) y
  omega

set_option maxRecDepth 100000 in
set_option maxHeartbeats 1000000 in
theorem binv_any {w : World} {n g L s k : Nat} {C : List Int} (hK : Bk n s k) (hL : L = n * n) (hr : Ri 3 w g (tab n (layF s C))) (hq : Qt w) (hg : 0 < g) :
    Calls Tryd.prog 19 #[.agg #[.int .i64 (n : Int), .slice (some ⟨g, 0, none⟩) L L], .int .i64 (k : Int), .int .i64 (s : Int)] w fun e w' => e = .returned (.tuple #[]) ∧ Ri 3 w' g (tab n (invF n s k C)) ∧ Kf g w w' := by
  have HB : Hid (Below w.heap.size w (w.alloc (.cells #[.int .i64 (n : Int), .slice (some ⟨g, 0, none⟩) L L] 38))) := from_alloc _ _
  have HG : Hid (g < w.heap.size) := hr.lt
  have HR : Hid (Ri 3 (w.alloc (.cells #[.int .i64 (n : Int), .slice (some ⟨g, 0, none⟩) L L] 38)) g (tab n (layF s C))) := hr.to HB.out
  have HQ : Hid (Qt (w.alloc (.cells #[.int .i64 (n : Int), .slice (some ⟨g, 0, none⟩) L L] 38))) := hq.to HB.out
  have c0 : (w.alloc (.cells #[.int .i64 (n : Int), .slice (some ⟨g, 0, none⟩) L L] 38)).cell? ⟨w.heap.size, 0, none⟩ = some (.int .i64 (n : Int)) := by simp [go_sem]
  have c1 : (w.alloc (.cells #[.int .i64 (n : Int), .slice (some ⟨g, 0, none⟩) L L] 38)).cell? ⟨w.heap.size, 1, none⟩ = some (.slice (some ⟨g, 0, none⟩) L L) := by simp [go_sem]
  have HZ : Hid ((w.alloc (.cells #[.int .i64 (n : Int), .slice (some ⟨g, 0, none⟩) L L] 38)).heap.size = w.heap.size + 1) := by show _ = _; simp
  have HL : Hid (L = n * n) := hL
  have h2 : n * n ≤ 64 * 64 := Nat.mul_le_mul hK.n64 hK.n64
  rw [← hL] at h2
  have HL4 : Hid (L ≤ 4096) := h2
  have HBk : Hid (Bk n s k) := hK
  have HG0 : Hid (0 < g) := hg
  clear hr hL hq hK h2 hg
  go_enter Tryd.func19, Tryd.ntmps19
  go_wp2_with fail
  generalize (w.alloc (.cells #[.int .i64 (n : Int), .slice (some ⟨g, 0, none⟩) L L] 38)) = V at *
  have HK : Hid (∀ v : World, Kf g V v → (v.cell? ⟨w.heap.size, 0, none⟩ = some (.int .i64 (n : Int)) ∧ v.cell? ⟨w.heap.size, 1, none⟩ = some (.slice (some ⟨g, 0, none⟩) L L))) := fun v hv =>
    ⟨by rw [hv.cell _ _ (by have := HZ.out; omega) (by have := HG.out; omega)]; exact c0, by rw [hv.cell _ _ (by have := HZ.out; omega) (by have := HG.out; omega)]; exact c1⟩
  have HTL : Hid (∀ f, (tab n f).length = L) := fun f => by rw [tab_len, HL.out]
  refine (lines_any HBk.out.kk).mono ?_
  rintro e w1 ⟨rfl, rfl⟩
  go_wp2_with fail
  refine (each_fn (K := 26) (f := clp) (C := tab n (layF s C)) (HTL.out _) HL4.out HR.out enter45 (fun i _ u => clipped_any.mono (fun e w' h => ⟨h.1, by rw [h.2]; exact Below.refl _ _⟩))).mono ?_
  rintro e w2 ⟨rfl, hr2, hk2⟩
  have HR2 : Hid (Ri 3 w2 g (tab n (fun y x => clp (layF s C y x)))) := by show Ri _ _ _ _; rw [HL.out, eachP_tab] at hr2; exact hr2
  have HK2 : Hid (Kf g w1 w2) := hk2
  obtain ⟨a0, a1⟩ := HK.out w2 hk2
  clear hr2 hk2 c0 c1
  go_wp2_with fail
  refine (rows_any HL.out HBk.out.n64 (by have := HBk.out.le; have := HBk.out.pos; omega) HBk.out.le HR2.out (HQ.out.kf HK2.out HG0.out) HG0.out (tu_inv HBk.out.row) (fun y _ => mst_up (clp_row n _ y) (by omega))).mono ?_
  rintro e w3 ⟨rfl, hr3, hk3⟩
  have HR3 : Hid (Ri 3 w3 g (tab n (invG n s k C))) := hr3
  have HK3 : Hid (Kf g w1 w3) := HK2.out.trans hk3
  obtain ⟨d0, d1⟩ := HK.out w3 HK3.out
  clear hr3 hk3 a0 a1
  by_cases h9 : k = 9
  · have HF : Hid (invF n s k C = colsF n (invR (kC k)) (invG n s k C)) := by show _ = _; unfold invF; rw [if_pos h9]
    have HM : Hid (∀ y x, -(1048576) ≤ invG n s k C y x ∧ invG n s k C y x ≤ 1048576) := invG_wht HBk.out h9 C
    have z9 : ((k : Int) == 9) = true := by rw [beq_iff_eq]; omega
    clear h9
    go_wp2_with fail
    refine (columns_any HL.out HBk.out.n64 HR3.out (HQ.out.kf HK3.out HG0.out) HG0.out (tu_inv HBk.out.col) (fun x _ => mst_col fun y _ => HM.out y x)).mono ?_
    rintro e w4 ⟨rfl, hr4, hk4⟩
    have HR4 : Hid (Ri 3 w4 g (tab n (invF n s k C))) := by show Ri _ _ _ _; rw [HF.out]; exact hr4
    have HK4 : Hid (Kf g w w4) := Kf.old HB.out (HK3.out.trans hk4)
    clear hr4 hk4
    go_wp2_with fail
    go_returns
    exact ⟨rfl, HR4.out, HK4.out⟩
  · have HF : Hid (invF n s k C = fun y x => les (colsF n (invR (kC k)) (fun y x => btw n (invG n s k C y x)) y x)) := by show _ = _; unfold invF; rw [if_neg h9]
    have z9 : ((k : Int) == 9) = false := by rw [beq_eq_false_iff_ne]; omega
    have HM : Hid (∀ y x, -(8388616) ≤ invG n s k C y x ∧ invG n s k C y x ≤ 8388616) := invG_bd HBk.out C
    clear h9
    go_wp2_with fail
    refine (each_md (K := 30) (f := btw n) (C := tab n (invG n s k C)) (HTL.out _) HL4.out HR3.out enter49 (fun i hi u => between_any (tab_each (P := Lo) (fun y x _ _ => lo_of (HM.out y x) (by omega)) i hi) ⟨_, _, _, rfl⟩)).mono ?_
    rintro e w4 ⟨rfl, hr4, hk4⟩
    have HR4 : Hid (Ri 3 w4 g (tab n (fun y x => btw n (invG n s k C y x)))) := by show Ri _ _ _ _; rw [HL.out, eachP_tab] at hr4; exact hr4
    have HK4 : Hid (Kf g w1 w4) := HK3.out.trans hk4
    obtain ⟨a0, a1⟩ := HK.out w4 HK4.out
    clear hr4 hk4 d0 d1
    go_wp2_with fail
    have HMc : Hid (∀ x, Mst (colL n (fun y x => btw n (invG n s k C y x)) x) 32768) := fun x => mst_col fun y _ => by have := btw_le n (invG n s k C y x); omega
    refine (columns_any HL.out HBk.out.n64 HR4.out (HQ.out.kf HK4.out HG0.out) HG0.out (tu_inv HBk.out.col) (fun x _ => mst_up (HMc.out x) (by omega))).mono ?_
    rintro e w5 ⟨rfl, hr5, hk5⟩
    have HR5 : Hid (Ri 3 w5 g (tab n (colsF n (invR (kC k)) (fun y x => btw n (invG n s k C y x))))) := hr5
    have HK5 : Hid (Kf g w1 w5) := HK4.out.trans hk5
    have HM5 : Hid (∀ y x, Lo (colsF n (invR (kC k)) (fun y x => btw n (invG n s k C y x)) y x)) := fun y x => lo_of (inv_bd HBk.out.col (by omega) (colL_len _ _ _) (HMc.out x) y) (by omega)
    obtain ⟨d0, d1⟩ := HK.out w5 HK5.out
    clear hr5 hk5 a0 a1
    go_wp2_with fail
    refine (each_fn (K := 31) (f := les) (HTL.out _) HL4.out HR5.out enter50 (fun i hi u => (lessened_any (tab_each (P := Lo) (fun y x _ _ => HM5.out y x) i hi)).mono (fun e w' h => ⟨h.1, by rw [h.2]; exact Below.refl _ _⟩))).mono ?_
    rintro e w6 ⟨rfl, hr6, hk6⟩
    have HR6 : Hid (Ri 3 w6 g (tab n (invF n s k C))) := by show Ri _ _ _ _; rw [HL.out, eachP_tab] at hr6; rw [HF.out]; exact hr6
    have HK6 : Hid (Kf g w w6) := Kf.old HB.out (HK5.out.trans hk6)
    clear hr6 hk6
    go_wp2_with fail
    go_end0
    exact ⟨rfl, HR6.out, HK6.out⟩

set_option maxRecDepth 100000 in
set_option maxHeartbeats 1000000 in
theorem bfwd_any {w : World} {n g L s k : Nat} {C : List Int} (hK : Bk n s k) (hM : Mst C 255) (hL : L = n * n) (hr : Ri 3 w g (tab n (layF n C))) (hq : Qt w) (hg : 0 < g) :
    Calls Tryd.prog 20 #[.agg #[.int .i64 (n : Int), .slice (some ⟨g, 0, none⟩) L L], .int .i64 (k : Int)] w fun e w' => e = .returned (.tuple #[]) ∧ Ri 3 w' g (tab n (fwdF n k C)) ∧ Kf g w w' := by
  have HB : Hid (Below w.heap.size w (w.alloc (.cells #[.int .i64 (n : Int), .slice (some ⟨g, 0, none⟩) L L] 38))) := from_alloc _ _
  have HG : Hid (g < w.heap.size) := hr.lt
  have HR : Hid (Ri 3 (w.alloc (.cells #[.int .i64 (n : Int), .slice (some ⟨g, 0, none⟩) L L] 38)) g (tab n (layF n C))) := hr.to HB.out
  have HQ : Hid (Qt (w.alloc (.cells #[.int .i64 (n : Int), .slice (some ⟨g, 0, none⟩) L L] 38))) := hq.to HB.out
  have c0 : (w.alloc (.cells #[.int .i64 (n : Int), .slice (some ⟨g, 0, none⟩) L L] 38)).cell? ⟨w.heap.size, 0, none⟩ = some (.int .i64 (n : Int)) := by simp [go_sem]
  have c1 : (w.alloc (.cells #[.int .i64 (n : Int), .slice (some ⟨g, 0, none⟩) L L] 38)).cell? ⟨w.heap.size, 1, none⟩ = some (.slice (some ⟨g, 0, none⟩) L L) := by simp [go_sem]
  have HZ : Hid ((w.alloc (.cells #[.int .i64 (n : Int), .slice (some ⟨g, 0, none⟩) L L] 38)).heap.size = w.heap.size + 1) := by show _ = _; simp
  have HL : Hid (L = n * n) := hL
  have h2 : n * n ≤ 64 * 64 := Nat.mul_le_mul hK.n64 hK.n64
  rw [← hL] at h2
  have HL4 : Hid (L ≤ 4096) := h2
  have HBk : Hid (Bk n s k) := hK
  have HG0 : Hid (0 < g) := hg
  have HMd : Hid (∀ y x, -(65288) ≤ colsF n (fwdR (kC k)) (layF n C) y x ∧ colsF n (fwdR (kC k)) (layF n C) y x ≤ 65288) := fwd_mid hK.col hM
  have HM0 : Hid (∀ x, Mst (colL n (layF n C) x) 1048576) := fun x => mst_col fun y hy => by
    unfold layF
    split
    · by_cases hj : y * n + x < C.length
      · have := hM _ hj; omega
      · rw [List.getD_eq_getElem?_getD, List.getElem?_eq_none (by omega)]; simp
    · omega
  clear hr hL hq hK h2 hg hM
  go_enter Tryd.func20, Tryd.ntmps20
  go_wp2_with fail
  generalize (w.alloc (.cells #[.int .i64 (n : Int), .slice (some ⟨g, 0, none⟩) L L] 38)) = V at *
  have HK : Hid (∀ v : World, Kf g V v → (v.cell? ⟨w.heap.size, 0, none⟩ = some (.int .i64 (n : Int)) ∧ v.cell? ⟨w.heap.size, 1, none⟩ = some (.slice (some ⟨g, 0, none⟩) L L))) := fun v hv =>
    ⟨by rw [hv.cell _ _ (by have := HZ.out; omega) (by have := HG.out; omega)]; exact c0, by rw [hv.cell _ _ (by have := HZ.out; omega) (by have := HG.out; omega)]; exact c1⟩
  have HTL : Hid (∀ f, (tab n f).length = L) := fun f => by rw [tab_len, HL.out]
  refine (lines_any HBk.out.kk).mono ?_
  rintro e w1 ⟨rfl, rfl⟩
  go_wp2_with fail
  refine (columns_any HL.out HBk.out.n64 HR.out HQ.out HG0.out (tu_fwd HBk.out.col) (fun x _ => HM0.out x)).mono ?_
  rintro e w2 ⟨rfl, hr2, hk2⟩
  have HR2 : Hid (Ri 3 w2 g (tab n (colsF n (fwdR (kC k)) (layF n C)))) := hr2
  have HK2 : Hid (Kf g w1 w2) := hk2
  obtain ⟨a0, a1⟩ := HK.out w2 hk2
  clear hr2 hk2 c0 c1
  go_wp2_with fail
  have HMr : Hid (∀ y, Mst (rowL n (colsF n (fwdR (kC k)) (layF n C)) y) 65288) := fun y => mst_row fun x _ => HMd.out y x
  refine (rows_any HL.out HBk.out.n64 (by have := HBk.out.le; have := HBk.out.pos; omega) (Nat.le_refl _) HR2.out (HQ.out.kf HK2.out HG0.out) HG0.out (tu_fwd HBk.out.row) (fun y _ => mst_up (HMr.out y) (by omega))).mono ?_
  rintro e w3 ⟨rfl, hr3, hk3⟩
  have HR3 : Hid (Ri 3 w3 g (tab n (fwdG n k C))) := hr3
  have HK3 : Hid (Kf g w1 w3) := HK2.out.trans hk3
  have HM3 : Hid (∀ y x, y < n → Lo (fwdG n k C y x)) := fun y x hy => by
    unfold fwdG rowsF
    rw [if_pos hy]
    exact lo_of (fwd_bd HBk.out.row (by omega) (rowL_len _ _ _) (HMr.out y) x) (by omega)
  obtain ⟨d0, d1⟩ := HK.out w3 HK3.out
  clear hr3 hk3 a0 a1
  by_cases h9 : k = 9
  · have HF : Hid (fwdF n k C = fwdG n k C) := by show _ = _; unfold fwdF; rw [if_pos h9]
    have z9 : ((k : Int) != 9) = false := by simp; omega
    have HK4 : Hid (Kf g w w3) := Kf.old HB.out HK3.out
    clear h9
    go_wp2_with fail
    go_end0
    exact ⟨rfl, by rw [HF.out]; exact HR3.out, HK4.out⟩
  · have HF : Hid (fwdF n k C = fun y x => sca n (fwdG n k C y x)) := by show _ = _; unfold fwdF; rw [if_neg h9]
    have z9 : ((k : Int) != 9) = true := by rw [bne_iff_ne]; omega
    clear h9
    go_wp2_with fail
    refine (each_md (K := 33) (f := sca n) (C := tab n (fwdG n k C)) (HTL.out _) HL4.out HR3.out enter54 (fun i hi u => scaled_any (tab_each (P := Lo) (fun y x hy _ => HM3.out y x hy) i hi) ⟨_, _, _, rfl⟩)).mono ?_
    rintro e w4 ⟨rfl, hr4, hk4⟩
    have HR4 : Hid (Ri 3 w4 g (tab n (fwdF n k C))) := by show Ri _ _ _ _; rw [HL.out, eachP_tab] at hr4; rw [HF.out]; exact hr4
    have HK4 : Hid (Kf g w w4) := Kf.old HB.out (HK3.out.trans hk4)
    clear hr4 hk4
    go_wp2_with fail
    go_end0
    exact ⟨rfl, HR4.out, HK4.out⟩

end Go.Proofs.YtddnnlofdicgkabDoor
