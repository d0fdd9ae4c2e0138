/- DERIVED. The walk of the document's Inverse. -/
import Derived.Test.YtddnnlofdicgkaaDoorJb
import Derived.Deep.DeepCutAuto
import Derived.Deep.CutBlock
namespace Go.Proofs.YtddnnlofdicgkaaDoor
open Go.RowKit

/-- a block that is written row by row: up to row y, place m -/
def prR (y m : Nat) (F Z : Nat → Nat → Int) : Nat → Nat → Int := fun y' x' => if y' < y ∨ (y' = y ∧ x' < m) then F y' x' else Z y' x'
def prC (x m : Nat) (F Z : Nat → Nat → Int) : Nat → Nat → Int := fun y' x' => if x' < x ∨ (x' = x ∧ y' < m) then F y' x' else Z y' x'
theorem prR_zero (n : Nat) (F Z : Nat → Nat → Int) : tab n (prR 0 0 F Z) = tab n Z := tab_ext fun y x _ _ => by unfold prR; rw [if_neg (by omega)]
theorem prC_zero (n : Nat) (F Z : Nat → Nat → Int) : tab n (prC 0 0 F Z) = tab n Z := tab_ext fun y x _ _ => by unfold prC; rw [if_neg (by omega)]
theorem prR_row (n y : Nat) (F Z : Nat → Nat → Int) : tab n (prR y n F Z) = tab n (prR (y + 1) 0 F Z) := tab_ext fun y' x' _ hx => by
  unfold prR
  by_cases h : y' < y ∨ (y' = y ∧ x' < n)
  · rw [if_pos h, if_pos (by omega)]
  · rw [if_neg h, if_neg (by omega)]
theorem prC_col (n x : Nat) (F Z : Nat → Nat → Int) : tab n (prC x n F Z) = tab n (prC (x + 1) 0 F Z) := tab_ext fun y' x' hy _ => by
  unfold prC
  by_cases h : x' < x ∨ (x' = x ∧ y' < n)
  · rw [if_pos h, if_pos (by omega)]
  · rw [if_neg h, if_neg (by omega)]
theorem prR_set (n : Nat) (F Z : Nat → Nat → Int) {y x : Nat} (hy : y < n) (hx : x < n) : (tab n (prR y x F Z)).set (y * n + x) (F y x) = tab n (prR y (x + 1) F Z) := by
  rw [tab_set n _ hy hx]
  refine tab_ext fun y' x' _ _ => ?_
  unfold prR
  by_cases e : y' = y ∧ x' = x
  · obtain ⟨rfl, rfl⟩ := e; rw [if_pos ⟨rfl, rfl⟩, if_pos (by omega)]
  · rw [if_neg e]
    by_cases h : y' < y ∨ (y' = y ∧ x' < x)
    · rw [if_pos h, if_pos (by omega)]
    · rw [if_neg h, if_neg (by omega)]
theorem prC_set (n : Nat) (F Z : Nat → Nat → Int) {y x : Nat} (hy : y < n) (hx : x < n) : (tab n (prC x y F Z)).set (y * n + x) (F y x) = tab n (prC x (y + 1) F Z) := by
  rw [tab_set n _ hy hx]
  refine tab_ext fun y' x' _ _ => ?_
  unfold prC
  by_cases e : y' = y ∧ x' = x
  · obtain ⟨rfl, rfl⟩ := e; rw [if_pos ⟨rfl, rfl⟩, if_pos (by omega)]
  · rw [if_neg e]
    by_cases h : x' < x ∨ (x' = x ∧ y' < y)
    · rw [if_pos h, if_pos (by omega)]
    · rw [if_neg h, if_neg (by omega)]
theorem prC_colL (n x : Nat) (F Z : Nat → Nat → Int) : colL n (prC x 0 F Z) x = colL n Z x := by simp [colL, prC]
/-- bits by a size; what becomes of a number behind its row, behind both -/
def bN (n : Nat) : Nat := if n = 4 then 0 else if n = 8 then 1 else 2
def h1F (n k : Nat) (v : Int) : Int := if k = 9 then v else btw n v
def h2F (k : Nat) (v : Int) : Int := if k = 9 then v else les v
theorem btw_bits (n : Nat) (v : Int) : clp (rdv v (bN n)) = btw n v := by
  unfold btw bN rdv
  by_cases h4 : n = 4
  · rw [if_pos h4, if_pos h4]; rfl
  · rw [if_neg h4, if_neg h4]
    by_cases h8 : n = 8
    · rw [if_pos h8, if_pos h8]; rfl
    · rw [if_neg h8, if_neg h8]; rfl
theorem bN_ok (n : Nat) : bN n = 0 ∨ bN n = 1 ∨ bN n = 2 ∨ bN n = 4 := by unfold bN; split; omega; split; omega; omega
/-- the block between the ways, and behind both -/
def g1F (n s k : Nat) (C : List Int) : Nat → Nat → Int := fun y x => h1F n k (invG n s k C y x)
theorem invF_eq (n s k : Nat) (C : List Int) (y x : Nat) : invF n s k C y x = h2F k ((invR (kC k) (colL n (g1F n s k C) x)).getD y 0) := by
  unfold invF h2F g1F h1F
  by_cases h9 : k = 9
  · simp only [if_pos h9]; rfl
  · simp only [if_neg h9]; rfl
theorem g1F_bd {n s k : Nat} (h : Bk n s k) (C : List Int) (y x : Nat) : -(1048576) ≤ g1F n s k C y x ∧ g1F n s k C y x ≤ 1048576 := by
  unfold g1F h1F
  by_cases h9 : k = 9
  · rw [if_pos h9]; exact invG_wht h h9 C y x
  · rw [if_neg h9]; have := btw_le n (invG n s k C y x); omega
theorem g1F_low {n s k : Nat} (C : List Int) {y : Nat} (hy : ¬ y < s) (x : Nat) : g1F n s k C y x = 0 := by
  have h0 : invG n s k C y x = 0 := by
    unfold invG rowsF layF
    rw [if_neg hy]
    dsimp only
    rw [if_neg (fun c => hy c.1)]; rfl
  unfold g1F h1F
  rw [h0]
  split
  · rfl
  · unfold btw clp; split; rfl; split; rfl; rfl
theorem inv_row {n s k : Nat} (C : List Int) {y : Nat} (hy : y < s) (x : Nat) : (invR (kR k) (rowL n (fun y x => clp (layF s C y x)) y)).getD x 0 = invG n s k C y x := by
  unfold invG rowsF; rw [if_pos hy]
theorem mx_row {n s : Nat} (C : List Int) {y : Nat} (hy : y < s) : mx n s (fun x => clp (C.getD (y * s + x) 0)) zf = rowL n (fun y x => clp (layF s C y x)) y := row_of (mx_len _ _ _ _) fun x hx => by
  rw [mx_get _ _ _ _ _ hx]
  unfold layF
  by_cases h : x < s
  · rw [if_pos h, if_pos ⟨hy, h⟩]
  · rw [if_neg h, if_neg (fun c => h c.2)]; rfl

set_option maxRecDepth 100000 in
set_option maxHeartbeats 4000000 in
theorem rinv_ok {w : World} {b o c s : Nat} {n k : Nat} {C : List Int} (hs : Si w (some ⟨b, o, none⟩) C) (hk : (k : Int) ∈ tys (n : Int)) (hsd : s = min n 32) (hC : C.length = s * s) (hM : Mst C 1048576) :
    Calls Tryd.prog 17 #[.int .i64 (n : Int), .int .i64 (k : Int), .slice (some ⟨b, o, none⟩) C.length c] w fun e w' => ∃ g, e = .returned (.tuple #[.slice (some ⟨g, 0, none⟩) (n * n) (n * n), .int .i64 0]) ∧ Ri 3 w' g (tab n (invF n s k C)) ∧ Below w.heap.size w w' := by
  have hBk : Bk n s k := by rw [hsd]; exact bk_of hk
  obtain ⟨hs1, hs2⟩ := sd_of hk
  rw [← hsd] at hs1
  have hn := hBk.n64
  have hss : s * s ≤ 64 * 64 := Nat.mul_le_mul (Nat.le_trans hBk.le hn) (Nat.le_trans hBk.le hn)
  have HSd : Hid (Calls Tryd.prog 11 #[.int .i64 (n : Int)] w fun e w' => e = .returned (.tuple #[.int .i64 (s : Int), .int .i64 0]) ∧ Below w.heap.size w w') := by
    have := rside_any (w := w) (n := (n : Int))
    rw [hs1, hs2] at this
    exact this
  have HW : Hid (∀ v, Below w.heap.size w v → Calls Tryd.prog 30 #[.int .i64 (n : Int), .int .i64 (k : Int), .slice (some ⟨b, o, none⟩) C.length c, .int .i64 (s : Int), .int .i64 1048576] v fun e w' => e = .returned (.int .i64 0) ∧ Below v.heap.size v w') := fun v hv => by
    have h1 := asked_any (c := c) (n := (n : Int)) (k := (k : Int)) (side := (s : Int)) (M := 1048576) (hs.to hv) (by omega) (by omega) (by omega) (fun _ => ⟨s, rfl, Nat.le_trans hBk.le hn⟩)
    have h2 : wrg n k C ((s : Int)).toNat 1048576 = 0 := by unfold wrg; rw [if_neg (List.ne_nil_of_mem hk), if_pos hk, Int.toNat_natCast, if_pos hC, if_pos (bdB_yes hM)]
    rw [h2] at h1
    exact h1
  have HBk : Hid (Bk n s k) := hBk
  have HC : Hid (C.length = s * s) := hC
  have hsz := tys_size (List.ne_nil_of_mem hk)
  have HN5 : Hid (n = 4 ∨ n = 8 ∨ n = 16 ∨ n = 32 ∨ n = 64) := by show _ ∨ _; omega
  obtain ⟨L, hL⟩ : ∃ L, L = n * n := ⟨_, rfl⟩
  have HL : Hid (L = n * n) := hL
  have h2 : n * n ≤ 64 * 64 := Nat.mul_le_mul hn hn
  rw [← hL] at h2
  have HL4 : Hid (L ≤ 4096) := h2
  have e1 : (n : Int) * (n : Int) = (L : Int) := by rw [hL, Int.natCast_mul]
  have L1 : (L : Int) ≤ 4096 := by omega
  have n64 : (n : Int) ≤ 64 := by omega
  have s64 : (s : Int) ≤ 64 := by have := hBk.le; omega
  have sn : (s : Int) ≤ (n : Int) := by have := hBk.le; omega
  have hmk1 := mk_ints (n := L) (by omega)
  have hmk2 := mk_ints (n := n) (by omega)
  have HCl : Hid ((C.length : Int) ≤ 4096) := by show _ ≤ _; omega
  obtain ⟨b', o', he, hbl, hcc⟩ := hs.form (by rw [hC]; exact Nat.mul_pos hBk.pos hBk.pos)
  simp only [Option.some.injEq, Addr.mk.injEq, and_true] at he
  obtain ⟨rfl, rfl⟩ := he
  have HCc : Hid (∀ v, Below w.heap.size w v → ∀ j, j < C.length → v.cell? ⟨b, o + j, none⟩ = some (.int .i64 (C.getD j 0))) := fun v hv j hj => by rw [newCell hv _ _ hbl]; exact hcc j hj
  clear hs hBk hs1 hs2 hn hss hk hsd hC hM hsz h2 hcc hbl
  rw [← hL]
  clear hL
  go_enter Tryd.func17, Tryd.ntmps17
  go_wp2_with fail
  refine HSd.out.mono ?_
  rintro e w1 ⟨rfl, hb1⟩
  have HB1 : Hid (Below w.heap.size w w1) := hb1
  clear hb1
  go_wp2_with fail
  refine (HW.out _ HB1.out).mono ?_
  rintro e w2 ⟨rfl, hb2⟩
  have HB2 : Hid (Below w.heap.size w w2) := below_to HB1.out hb2
  clear hb2
  go_wp2_with fail
  refine (rkinds_any HBk.out.kk).mono ?_
  rintro e w3 ⟨rfl, rfl⟩
  go_upto_block 0 with fail
  go_cut [13] (fun s13 wx => s13 = .int .i64 ((bN n : Nat) : Int) ∧ wx = w3)
  case first =>
    rcases HN5.out with rfl | rfl | rfl | rfl | rfl
    all_goals
      go_wp2_with fail
      go_meet
      exact ⟨rfl, rfl⟩
  obtain ⟨rfl, rfl⟩ := hcut
  --REST
  go_wp2_with fail
  refine (weights_wm (kR_lt HBk.out.kk) HBk.out.row).mono ?_
  rintro e w5 ⟨v1, rfl, hm5, hb5⟩
  have HM5 : Hid (Wm w5 v1 (kR k) n) := hm5
  have HB5 : Hid (Below w.heap.size w w5) := below_to HB2.out hb5
  clear hm5 hb5
  go_wp2_with fail
  refine (weights_wm (kC_lt HBk.out.kk) HBk.out.col).mono ?_
  rintro e w6 ⟨v2, rfl, hm6, hb6⟩
  have HM6 : Hid (∀ v, Below w6.heap.size w6 v → Wm v v1 (kR k) n) := fun v hv => (HM5.out.to hb6).to hv
  have HM7 : Hid (∀ v, Below w6.heap.size w6 v → Wm v v2 (kC k) n) := fun v hv => hm6.to hv
  have HB6 : Hid (Below w.heap.size w w6) := below_to HB5.out hb6
  have HCd : Hid (∀ v, Below w6.heap.size w6 v → ∀ j, j < C.length → v.cell? ⟨b, o + j, none⟩ = some (.int .i64 (C.getD j 0))) := fun v hv => HCc.out v (below_to HB6.out hv)
  clear hm6 hb6
  go_wp2_with fail
  have HRo : Hid (Ri 3 (w6.alloc (.cells (madeCells #[.int .i64 0] L) 3)) w6.heap.size (tab n (prR 0 0 (g1F n s k C) (fun _ _ => 0)))) := by
    show Ri _ _ _ _
    rw [prR_zero, ← zero_tab, ← HL.out]
    exact Ri.made 3 w6 L rfl
  have HBo : Hid (Below w6.heap.size w6 (w6.alloc (.cells (madeCells #[.int .i64 0] L) 3))) := from_alloc _ _
  generalize (w6.alloc (.cells (madeCells #[.int .i64 0] L) 3)) = V at *
  generalize hgo : w6.heap.size = go at *
  have HGo : Hid (w6.heap.size = go) := hgo
  clear hgo
  go_loopw [17] (fun i wr => ∃ y : Nat, y ≤ s ∧ i = .int .i64 y ∧ Ri 3 wr go (tab n (prR y 0 (g1F n s k C) (fun _ _ => 0))) ∧ Below go w6 wr) (fun i _ => s - (intOf i).toNat)
  case atStart => exact ⟨0, by omega, rfl, HRo.out, HBo.out⟩
  case round =>
    obtain ⟨y, hy, rfl, hr, hb⟩ := hrel
    have y0 : (0 : Int) ≤ (y : Int) := by omega
    by_cases hlt : y < s
    · have y1 : (y : Int) < (s : Int) := by omega
      have HY : Hid (y < s) := hlt
      have HYn : Hid (y < n) := by show _ < _; have := HBk.out.le; omega
      have HGr : Hid (go < wr.heap.size) := hr.lt
      have HR1 : Hid (Ri 3 (wr.alloc (.cells (madeCells #[.int .i64 0] n) 3)) go (tab n (prR y 0 (g1F n s k C) (fun _ _ => 0)))) := hr.to (from_alloc _ _)
      have HB7 : Hid (Below go w6 (wr.alloc (.cells (madeCells #[.int .i64 0] n) 3))) := hb.trans ((from_alloc wr _).mono (Nat.le_of_lt hr.lt))
      obtain ⟨FF, hFF⟩ : ∃ FF : Nat → Int, ∀ x, FF x = clp (C.getD (y * s + x) 0) := ⟨_, fun _ => rfl⟩
      have HFF : Hid (∀ x, FF x = clp (C.getD (y * s + x) 0)) := hFF
      clear hFF
      have HW1 : Hid (Ri 3 (wr.alloc (.cells (madeCells #[.int .i64 0] n) 3)) wr.heap.size (mx n 0 FF zf)) := by
        show Ri _ _ _ _
        rw [← mx_zero n _ zf (fun _ _ => rfl)]
        exact Ri.made 3 wr n rfl
      clear hr hb hlt hy
      go_wp2_with fail
      generalize (wr.alloc (.cells (madeCells #[.int .i64 0] n) 3)) = V1 at *
      generalize wr.heap.size = gr at *
      go_loopw [19] (fun i wv => ∃ x : Nat, x ≤ s ∧ i = .int .i64 x ∧ Ri 3 wv gr (mx n x FF zf) ∧ Ri 3 wv go (tab n (prR y 0 (g1F n s k C) (fun _ _ => 0))) ∧ Below go w6 wv) (fun i _ => s - (intOf i).toNat)
      case atStart => exact ⟨0, by omega, rfl, HW1.out, HR1.out, HB7.out⟩
      case round =>
        clear HW1 HR1 HB7
        obtain ⟨x, hx, rfl, hw, hr, hb⟩ := hrel
        have x0 : (0 : Int) ≤ (x : Int) := by omega
        by_cases hxs : x < s
        · have x1 : (x : Int) < (s : Int) := by omega
          have x2 : (x : Int) < (n : Int) := by omega
          have hz := ix_lt (n := s) HY.out hxs
          rw [← HC.out] at hz
          have c0 := HCd.out wr hb (y * s + x) hz
          have d1 := hw.thaw x
          have d2 := hw.cell x (by rw [mx_len]; omega)
          have HW2 : Hid (Ri 3 (wr.setCell ⟨gr, x, none⟩ (.int .i64 (clp (C.getD (y * s + x) 0)))) gr (mx n (x + 1) FF zf)) := by
            show Ri _ _ _ _
            rw [← HFF.out x, ← mx_set n x FF zf (by omega)]
            exact hw.set x _
          have HR2 : Hid (∀ v, Ri 3 (wr.setCell ⟨gr, x, none⟩ v) go (tab n (prR y 0 (g1F n s k C) (fun _ _ => 0)))) := fun v => hr.far (by have := HGr.out; simp; omega) _
          have HB8 : Hid (∀ v, Below go w6 (wr.setCell ⟨gr, x, none⟩ v)) := fun v => below_set hb (by have := HGr.out; simp; omega) _
          have HX : Hid (x < s) := hxs
          have f1 : (y : Int) * (s : Int) = ((y * s : Nat) : Int) := by rw [Int.natCast_mul]
          have f2 : ((y * s : Nat) : Int) + (x : Int) = ((y * s + x : Nat) : Int) := rfl
          have q0 : (0 : Int) ≤ ((y * s + x : Nat) : Int) := by omega
          have q1 : ((y * s + x : Nat) : Int) < (C.length : Int) := by omega
          have q2 : ((y * s : Nat) : Int) ≤ 4096 := by have := HCl.out; omega
          have q3 : (0 : Int) ≤ ((y * s : Nat) : Int) := by omega
          generalize C.getD (y * s + x) 0 = cv at c0 HW2
          generalize y * s + x = z at c0 f2 q0 q1
          generalize y * s = p at f1 f2 q2 q3
          clear hw hr hb hxs hx hz
          go_wp2_with (go_at_call 33; refine rclipped_any.mono ?_; rintro e w' ⟨rfl, rfl⟩)
          have hxs := HX.out
          go_roundw
          case rel => exact ⟨x + 1, by omega, by go_num, HW2.out, HR2.out _, HB8.out _⟩
          case measure => simp [intOf]; omega
        · obtain rfl : x = s := by omega
          rw [show FF = (fun x_1 => clp (C.getD (y * x + x_1) 0)) from funext HFF.out, mx_row C HY.out] at hw
          have HCall : Hid (Calls Tryd.prog 34 #[v1, .slice (some ⟨gr, 0, none⟩) n n] wr fun e w' => ∃ g, e = .returned (.slice (some ⟨g, 0, none⟩) n n) ∧ wr.heap.size ≤ g ∧ Ri 3 w' g (invR (kR k) (rowL n (fun y x_1 => clp (layF x C y x_1)) y)) ∧ Below wr.heap.size wr w') :=
            rback_go (HM6.out wr hb) HBk.out.row hw.si (rowL_len _ _ _) (mst_up (clp_row n _ y) (by omega))
          have HR2 : Hid (Ri 3 wr go (tab n (prR y 0 (g1F n x k C) (fun _ _ => 0)))) := hr
          have HB8 : Hid (Below go w6 wr) := hb
          clear hw hr hb
          go_wp2_with fail
          refine HCall.out.mono ?_
          rintro e w7 ⟨g7, rfl, hg7, hr7, hb7⟩
          have HG7 : Hid (go < g7) := by show _ < _; have := HR2.out.lt; omega
          have HR7 : Hid (Ri 3 w7 g7 (invR (kR k) (rowL n (fun y x_1 => clp (layF x C y x_1)) y))) := hr7
          have HO7 : Hid (Ri 3 w7 go (tab n (prR y 0 (g1F n x k C) (fun _ _ => 0)))) := HR2.out.to hb7
          have HB9 : Hid (Below go w6 w7) := HB8.out.trans (hb7.mono (Nat.le_of_lt HR2.out.lt))
          have HLr : Hid ((invR (kR k) (rowL n (fun y x_1 => clp (layF x C y x_1)) y)).length = n) := inv_len HBk.out.row (rowL_len _ _ _)
          have HGt : Hid (∀ j, (invR (kR k) (rowL n (fun y x_1 => clp (layF x C y x_1)) y)).getD j 0 = invG n x k C y j) := fun j => inv_row C HY.out j
          clear hg7 hr7 hb7 HR2 HB8
          generalize invR (kR k) (rowL n (fun y x_1 => clp (layF x C y x_1)) y) = RR at *
          go_wp2_with fail
          go_loopw [20] (fun i wv => ∃ t : Nat, t ≤ n ∧ i = .int .i64 t ∧ Ri 3 wv g7 RR ∧ Ri 3 wv go (tab n (prR y t (g1F n x k C) (fun _ _ => 0))) ∧ Below go w6 wv) (fun i _ => n - (intOf i).toNat)
          case atStart => exact ⟨0, by omega, rfl, HR7.out, HO7.out, HB9.out⟩
          case round =>
            clear HR7 HO7 HB9
            obtain ⟨t, ht, rfl, hw, hr, hb⟩ := hrel
            have t0 : (0 : Int) ≤ (t : Int) := by omega
            by_cases htn : t < n
            · have t1 : (t : Int) < (n : Int) := by omega
              have hz := ix_lt (n := n) HYn.out htn
              have c0 := hw.cell t (by rw [HLr.out]; exact htn)
              rw [HGt.out t] at c0
              have d1 := hr.thaw (y * n + t)
              have d2 := hr.cell (y * n + t) (by rw [tab_len]; exact hz)
              rw [← HL.out] at hz
              have hT := hr.set (y * n + t) (g1F n x k C y t)
              rw [prR_set n _ _ HYn.out htn] at hT
              have hT2 := (hr.set (y * n + t) (invG n x k C y t)).set (y * n + t) (g1F n x k C y t)
              rw [List.set_set, prR_set n _ _ HYn.out htn] at hT2
              have HT1 : Hid (Ri 3 (wr.setCell ⟨go, y * n + t, none⟩ (.int .i64 (g1F n x k C y t))) go (tab n (prR y (t + 1) (g1F n x k C) (fun _ _ => 0)))) := hT
              have HT2 : Hid (Ri 3 ((wr.setCell ⟨go, y * n + t, none⟩ (.int .i64 (invG n x k C y t))).setCell ⟨go, y * n + t, none⟩ (.int .i64 (g1F n x k C y t))) go (tab n (prR y (t + 1) (g1F n x k C) (fun _ _ => 0)))) := hT2
              have HF : Hid (∀ p v, Ri 3 (wr.setCell ⟨go, p, none⟩ v) g7 RR) := fun p v => hw.far (by have := HG7.out; simp; omega) _
              have HF2 : Hid (∀ p v p' v', Ri 3 ((wr.setCell ⟨go, p, none⟩ v).setCell ⟨go, p', none⟩ v') g7 RR) := fun p v p' v' => (HF.out p v).far (by have := HG7.out; simp; omega) _
              have HB8 : Hid (∀ p v, Below go w6 (wr.setCell ⟨go, p, none⟩ v)) := fun p v => below_set hb (by simp) _
              have HB9 : Hid (∀ p v p' v', Below go w6 ((wr.setCell ⟨go, p, none⟩ v).setCell ⟨go, p', none⟩ v')) := fun p v p' v' => below_set (HB8.out p v) (by simp) _
              have HTn : Hid (t < n) := htn
              have f1 : (y : Int) * (n : Int) = ((y * n : Nat) : Int) := by rw [Int.natCast_mul]
              have f2 : ((y * n : Nat) : Int) + (t : Int) = ((y * n + t : Nat) : Int) := rfl
              have q0 : (0 : Int) ≤ ((y * n + t : Nat) : Int) := by omega
              have q1 : ((y * n + t : Nat) : Int) < (L : Int) := by omega
              have q2 : ((y * n : Nat) : Int) ≤ 4096 := by have := HL4.out; omega
              have q3 : (0 : Int) ≤ ((y * n : Nat) : Int) := by omega
              have HLo : Hid (Lo (invG n x k C y t)) := lo_of (invG_bd HBk.out C y t) (by omega)
              have HG1 : Hid (g1F n x k C y t = h1F n k (invG n x k C y t)) := rfl
              generalize (tab n (prR y t (g1F n x k C) (fun _ _ => 0))).getD (y * n + t) 0 = old at d2
              generalize invG n x k C y t = gv at c0 HT2 HLo HG1
              generalize g1F n x k C y t = hv at HT1 HT2 HG1
              generalize y * n + t = z at d1 d2 f2 q0 q1 HT1 HT2
              generalize y * n = p at f1 f2 q2 q3
              clear hw hr hb htn ht hz hT hT2
              by_cases h9 : k = 9
              · have z9 : ((k : Int) != 9) = false := by simp; omega
                obtain rfl : hv = gv := by rw [HG1.out]; unfold h1F; rw [if_pos h9]
                clear h9
                go_wp2_with fail
                have htn := HTn.out
                go_roundw
                case rel => exact ⟨t + 1, by omega, by go_num, HF.out _ _, HT1.out, HB8.out _ _⟩
                case measure => simp [intOf]; omega
              · have z9 : ((k : Int) != 9) = true := by rw [bne_iff_ne]; omega
                have HE : Hid (clp (rdv gv (bN n)) = hv) := by show _ = _; rw [HG1.out, btw_bits]; unfold h1F; rw [if_neg h9]
                clear h9
                have d3 : (wr.setCell ⟨go, z, none⟩ (.int .i64 gv)).cell? ⟨go, z, none⟩ = some (.int .i64 gv) := World.cell?_setCell_same _ _ _ d2
                have d4 : (wr.setCell ⟨go, z, none⟩ (.int .i64 gv)).cell? ⟨g7, t, none⟩ = some (.int .i64 gv) := by rw [World.cell?_setCell_other _ _ _ _ (by have := HG7.out; simp; try omega)]; exact c0
                have d5 : (wr.setCell ⟨go, z, none⟩ (.int .i64 gv)).frozen? ⟨go, z, none⟩ = false := by rw [World.frozen?_setCell]; exact d1
                go_wp2_with (first | (go_at_call 35; refine (rround_any HLo.out (bN_ok n)).mono ?_; rintro e w' ⟨rfl, rfl⟩) | (go_at_call 33; refine rclipped_any.mono ?_; rintro e w' ⟨rfl, rfl⟩; rw [HE.out]))
                have htn := HTn.out
                go_roundw
                case rel => exact ⟨t + 1, by omega, by go_num, by first | exact HF2.out _ _ _ _ | exact HF.out _ _, by first | exact HT2.out | exact HT1.out, by first | exact HB9.out _ _ _ _ | exact HB8.out _ _⟩
                case measure => simp [intOf]; omega
            · obtain rfl : t = n := by omega
              rw [prR_row] at hr
              have HR2 : Hid (Ri 3 wr go (tab t (prR (y + 1) 0 (g1F t x k C) (fun _ _ => 0)))) := hr
              have HB8 : Hid (Below go w6 wr) := hb
              clear hw hr hb
              go_wp2_with fail
              have hlt := HY.out
              go_roundw
              case rel => exact ⟨y + 1, by omega, by go_num, HR2.out, HB8.out⟩
              case measure => simp [intOf]; omega
    · obtain rfl : y = s := by omega
      have HR2 : Hid (Ri 3 wr go (tab n (prC 0 0 (invF n y k C) (g1F n y k C)))) := by
        show Ri _ _ _ _
        rw [prC_zero, ← tab_ext (n := n) (f := prR y 0 (g1F n y k C) (fun _ _ => 0)) (h := g1F n y k C) (fun y' x' _ _ => by
          unfold prR
          by_cases h : y' < y
          · rw [if_pos (Or.inl h)]
          · rw [if_neg (by omega), g1F_low C h])]
        exact hr
      have HB8 : Hid (Below go w6 wr) := hb
      clear hr hb
      go_wp2_with fail
      go_loopw [21] (fun i wv => ∃ x : Nat, x ≤ n ∧ i = .int .i64 x ∧ Ri 3 wv go (tab n (prC x 0 (invF n y k C) (g1F n y k C))) ∧ Below go w6 wv) (fun i _ => n - (intOf i).toNat)
      case atStart => exact ⟨0, by omega, rfl, HR2.out, HB8.out⟩
      case round =>
        clear HR2 HB8
        obtain ⟨x, hx, rfl, hr, hb⟩ := hrel
        have x0 : (0 : Int) ≤ (x : Int) := by omega
        by_cases hxn : x < n
        · have x1 : (x : Int) < (n : Int) := by omega
          have HX : Hid (x < n) := hxn
          have HR3 : Hid (Ri 3 wr go (tab n (prC x 0 (invF n y k C) (g1F n y k C)))) := hr
          have HB3 : Hid (Below go w6 wr) := hb
          have HCo : Hid (Calls Tryd.prog 36 #[.slice (some ⟨go, 0, none⟩) L L, .int .i64 (n : Int), .int .i64 (x : Int)] wr fun e w' => ∃ a c', e = .returned (.slice a n c') ∧ Oi w' wr.heap.size a n c' (colL n (g1F n y k C) x) ∧ Below wr.heap.size wr w') := by
            have h1 := column_any (c := L) hr.si HL.out HBk.out.n64 hxn
            rw [prC_colL] at h1
            exact h1
          clear hr hb hxn hx
          go_wp2_with fail
          refine HCo.out.mono ?_
          rintro e w7 ⟨a7, c7, rfl, ho7, hb7⟩
          have HS7 : Hid (Si w7 a7 (colL n (g1F n y k C) x)) := ho7.si
          have HR7 : Hid (Ri 3 w7 go (tab n (prC x 0 (invF n y k C) (g1F n y k C)))) := HR3.out.to hb7
          have HB7 : Hid (Below go w6 w7) := HB3.out.trans (hb7.mono (Nat.le_of_lt HR3.out.lt))
          clear ho7 hb7 HCo
          go_wp2_with fail
          refine (rback_go (HM7.out w7 HB7.out) HBk.out.col HS7.out (colL_len _ _ _) (mst_col fun y' _ => g1F_bd HBk.out C y' x)).mono ?_
          rintro e w8 ⟨g8, rfl, hg8, hr8, hb8⟩
          have HG8 : Hid (go < g8) := by show _ < _; have := HR7.out.lt; omega
          have HR8 : Hid (Ri 3 w8 g8 (invR (kC k) (colL n (g1F n y k C) x))) := hr8
          have HO8 : Hid (Ri 3 w8 go (tab n (prC x 0 (invF n y k C) (g1F n y k C)))) := HR7.out.to hb8
          have HB8 : Hid (Below go w6 w8) := HB7.out.trans (hb8.mono (Nat.le_of_lt HR7.out.lt))
          have HLr : Hid ((invR (kC k) (colL n (g1F n y k C) x)).length = n) := inv_len HBk.out.col (colL_len _ _ _)
          have HGt : Hid (∀ j, h2F k ((invR (kC k) (colL n (g1F n y k C) x)).getD j 0) = invF n y k C j x) := fun j => (invF_eq n y k C j x).symm
          have HLo : Hid (∀ j, Lo ((invR (kC k) (colL n (g1F n y k C) x)).getD j 0)) := fun j => lo_of (inv_bd HBk.out.col (A := 1048576) (by omega) (colL_len _ _ _) (mst_col fun y' _ => g1F_bd HBk.out C y' x) j) (by omega)
          clear hg8 hr8 hb8 HR3 HB3 HR7 HB7 HS7
          generalize invR (kC k) (colL n (g1F n y k C) x) = CC at *
          go_wp2_with fail
          go_loopw [23] (fun i wv => ∃ t : Nat, t ≤ n ∧ i = .int .i64 t ∧ Ri 3 wv g8 CC ∧ Ri 3 wv go (tab n (prC x t (invF n y k C) (g1F n y k C))) ∧ Below go w6 wv) (fun i _ => n - (intOf i).toNat)
          case atStart => exact ⟨0, by omega, rfl, HR8.out, HO8.out, HB8.out⟩
          case round =>
            clear HR8 HO8 HB8
            obtain ⟨t, ht, rfl, hw, hr, hb⟩ := hrel
            have t0 : (0 : Int) ≤ (t : Int) := by omega
            by_cases htn : t < n
            · have t1 : (t : Int) < (n : Int) := by omega
              have hz := ix_lt (n := n) htn HX.out
              have c0 := hw.cell t (by rw [HLr.out]; exact htn)
              have d1 := hr.thaw (t * n + x)
              have d2 := hr.cell (t * n + x) (by rw [tab_len]; exact hz)
              rw [← HL.out] at hz
              have hT := hr.set (t * n + x) (invF n y k C t x)
              rw [prC_set n _ _ htn HX.out] at hT
              have hT2 := (hr.set (t * n + x) (CC.getD t 0)).set (t * n + x) (invF n y k C t x)
              rw [List.set_set, prC_set n _ _ htn HX.out] at hT2
              have HT1 : Hid (Ri 3 (wr.setCell ⟨go, t * n + x, none⟩ (.int .i64 (invF n y k C t x))) go (tab n (prC x (t + 1) (invF n y k C) (g1F n y k C)))) := hT
              have HT2 : Hid (Ri 3 ((wr.setCell ⟨go, t * n + x, none⟩ (.int .i64 (CC.getD t 0))).setCell ⟨go, t * n + x, none⟩ (.int .i64 (invF n y k C t x))) go (tab n (prC x (t + 1) (invF n y k C) (g1F n y k C)))) := hT2
              have HF : Hid (∀ p v, Ri 3 (wr.setCell ⟨go, p, none⟩ v) g8 CC) := fun p v => hw.far (by have := HG8.out; simp; omega) _
              have HF2 : Hid (∀ p v p' v', Ri 3 ((wr.setCell ⟨go, p, none⟩ v).setCell ⟨go, p', none⟩ v') g8 CC) := fun p v p' v' => (HF.out p v).far (by have := HG8.out; simp; omega) _
              have HB8 : Hid (∀ p v, Below go w6 (wr.setCell ⟨go, p, none⟩ v)) := fun p v => below_set hb (by simp) _
              have HB9 : Hid (∀ p v p' v', Below go w6 ((wr.setCell ⟨go, p, none⟩ v).setCell ⟨go, p', none⟩ v')) := fun p v p' v' => below_set (HB8.out p v) (by simp) _
              have HTn : Hid (t < n) := htn
              have f1 : (t : Int) * (n : Int) = ((t * n : Nat) : Int) := by rw [Int.natCast_mul]
              have f2 : ((t * n : Nat) : Int) + (x : Int) = ((t * n + x : Nat) : Int) := rfl
              have q0 : (0 : Int) ≤ ((t * n + x : Nat) : Int) := by omega
              have q1 : ((t * n + x : Nat) : Int) < (L : Int) := by omega
              have q2 : ((t * n : Nat) : Int) ≤ 4096 := by have := HL4.out; omega
              have q3 : (0 : Int) ≤ ((t * n : Nat) : Int) := by omega
              have HL2 := HLo.out t
              have HG1 := HGt.out t
              have HLo2 : Hid (Lo (CC.getD t 0)) := HL2
              have HG2 : Hid (h2F k (CC.getD t 0) = invF n y k C t x) := HG1
              clear HL2 HG1
              generalize (tab n (prC x t (invF n y k C) (g1F n y k C))).getD (t * n + x) 0 = old at d2
              generalize CC.getD t 0 = gv at c0 HT2 HLo2 HG2
              generalize invF n y k C t x = hv at HT1 HT2 HG2
              generalize t * n + x = z at d1 d2 f2 q0 q1 HT1 HT2
              generalize t * n = p at f1 f2 q2 q3
              clear hw hr hb htn ht hz hT hT2
              by_cases h9 : k = 9
              · have z9 : ((k : Int) != 9) = false := by simp; omega
                obtain rfl : hv = gv := by rw [← HG2.out]; unfold h2F; rw [if_pos h9]
                clear h9
                go_wp2_with fail
                have htn := HTn.out
                go_roundw
                case rel => exact ⟨t + 1, by omega, by go_num, HF.out _ _, HT1.out, HB8.out _ _⟩
                case measure => simp [intOf]; omega
              · have z9 : ((k : Int) != 9) = true := by rw [bne_iff_ne]; omega
                have HE : Hid (rdv gv 4 = hv) := by show _ = _; rw [← HG2.out]; unfold h2F; rw [if_neg h9]; rfl
                clear h9
                have d3 : (wr.setCell ⟨go, z, none⟩ (.int .i64 gv)).cell? ⟨go, z, none⟩ = some (.int .i64 gv) := World.cell?_setCell_same _ _ _ d2
                have d4 : (wr.setCell ⟨go, z, none⟩ (.int .i64 gv)).cell? ⟨g8, t, none⟩ = some (.int .i64 gv) := by rw [World.cell?_setCell_other _ _ _ _ (by have := HG8.out; simp; try omega)]; exact c0
                have d5 : (wr.setCell ⟨go, z, none⟩ (.int .i64 gv)).frozen? ⟨go, z, none⟩ = false := by rw [World.frozen?_setCell]; exact d1
                go_wp2_with (go_at_call 35; refine (rround_any (b := 4) HLo2.out (by omega)).mono ?_; rintro e w' ⟨rfl, rfl⟩; rw [HE.out])
                have htn := HTn.out
                go_roundw
                case rel => exact ⟨t + 1, by omega, by go_num, by first | exact HF2.out _ _ _ _ | exact HF.out _ _, by first | exact HT2.out | exact HT1.out, by first | exact HB9.out _ _ _ _ | exact HB8.out _ _⟩
                case measure => simp [intOf]; omega
            · obtain rfl : t = n := by omega
              rw [prC_col] at hr
              have HR2 : Hid (Ri 3 wr go (tab t (prC (x + 1) 0 (invF t y k C) (g1F t y k C)))) := hr
              have HB8 : Hid (Below go w6 wr) := hb
              clear hw hr hb
              go_wp2_with fail
              have hxn := HX.out
              go_roundw
              case rel => exact ⟨x + 1, by omega, by go_num, HR2.out, HB8.out⟩
              case measure => simp [intOf]; omega
        · obtain rfl : x = n := by omega
          have HR3 : Hid (Ri 3 wr go (tab x (invF x y k C))) := by
            show Ri _ _ _ _
            rw [← tab_ext (n := x) (f := prC x 0 (invF x y k C) (g1F x y k C)) (h := invF x y k C) (fun y' x' _ hx' => by unfold prC; rw [if_pos (Or.inl hx')])]
            exact hr
          have HB3 : Hid (Below w.heap.size w wr) := HB6.out.trans (hb.mono (by have := HB6.out.size; have := HGo.out; omega))
          clear hr hb
          go_wp2_with fail
          go_ret2
          exact ⟨go, rfl, HR3.out, HB3.out⟩

end Go.Proofs.YtddnnlofdicgkaaDoor
