/- DERIVED. The walk of the document's Forward; TxfmForwards. -/
import Derived.Test.YtddnnlofdicgkaaDoorJd
import Derived.Test.YtddnnlofdicgkaaDoorIn
namespace Go.Proofs.YtddnnlofdicgkaaDoor
open Go.RowKit

set_option maxRecDepth 100000 in
set_option maxHeartbeats 400000 in
theorem rfwd_bad {w : World} {a : Option Addr} {c : Nat} {n k : Int} {C : List Int} (hs : Si w a C) (hl : C.length ≤ 140737488355328) (hx : wrg n k C n.toNat 255 ≠ 0) :
    Calls Tryd.prog 20 #[.int .i64 n, .int .i64 k, .slice a C.length c] w fun e w' => N4 w w' e (wrg n k C n.toNat 255) := by
  have HW : Hid (Calls Tryd.prog 30 #[.int .i64 n, .int .i64 k, .slice a C.length c, .int .i64 n, .int .i64 255] w fun e w' => e = .returned (.int .i64 (wrg n k C n.toNat 255)) ∧ Below w.heap.size w w') :=
    asked_any hs hl (by omega) (by omega) (fun h => by
      have := tys_size h
      exact ⟨n.toNat, by omega, by omega⟩)
  have z : (wrg n k C n.toNat 255 != 0) = true := by rw [bne_iff_ne]; exact hx
  clear hs hx
  generalize wrg n k C n.toNat 255 = W at *
  go_enter Tryd.func20, Tryd.ntmps20
  go_wp2_with fail
  refine HW.out.mono ?_
  rintro e w2 ⟨rfl, hb2⟩
  have HB2 : Hid (Below w.heap.size w w2) := hb2
  clear hb2
  go_wp2_with fail
  go_ret2
  exact ⟨rfl, HB2.out⟩

/-- s rows of s numbers, up to row y, place x -/
def upT (s y x : Nat) (f : Nat → Nat → Int) : List Int := (List.range (y * s + x)).map fun i => f (i / s) (i % s)
theorem upT_len (s y x : Nat) (f : Nat → Nat → Int) : (upT s y x f).length = y * s + x := by simp [upT]
theorem upT_step (s y x : Nat) (f : Nat → Nat → Int) (hx : x < s) : upT s y x f ++ [f y x] = upT s y (x + 1) f := by
  unfold upT
  rw [← Nat.add_assoc, List.range_succ, List.map_append]
  simp only [List.map_cons, List.map_nil, ix_div hx, ix_mod hx]
theorem upT_row (s y : Nat) (f : Nat → Nat → Int) : upT s y s f = upT s (y + 1) 0 f := by unfold upT; rw [Nat.succ_mul]; rfl
theorem upT_all (s : Nat) (f : Nat → Nat → Int) : upT s s 0 f = tab s f := rfl

/-- 'append(c, x)': what else there is stays -/
theorem wpList_append_keep (wr : World) {ops : Array Oper} {rest : List Oper} {o : Oper} {a : Act} {Q : Exit → Act → World → Prop} (hgd : o.guard = none) (s x : Operand)
    (ho : o.op = .call { callee := .builtin .append, args := #[s, x], argTypes := #[22, 22] })
    (B n c : Nat) (C : List Int) (ad : Option Addr) (y : Int) (hown : Oi wr B ad n c C) (hB : B ≤ wr.heap.size) (hL : n < 1099511627776)
    (hs : a.eval s = .slice ad n c) (hx : a.eval x = .slice (some ⟨wr.heap.size, 0, none⟩) 1 1)
    (h : ∀ g cap w', Oi w' B (some ⟨g, 0, none⟩) (n + 1) cap (C ++ [y]) → Below B wr w' → B ≤ w'.heap.size → (∀ i, i < wr.heap.size → (Value.slice ad n c).ownBlock ≠ some i → i ≠ g ∧ w'.heap[i]? = wr.heap[i]?) → wpList Tryd.prog ops Q rest (a.put o.dst (.slice (some ⟨g, 0, none⟩) (n + 1) cap)) w') :
    wpList Tryd.prog ops Q (o :: rest) a (wr.alloc (.cells #[.int .i64 y] 3)) := by
  obtain ⟨i, hi, hz0, hz1, hz2⟩ := info_parts Tryd.info3
  have hnews : ∀ j u, (is [y])[j]? = some u → (wr.alloc (.cells #[.int .i64 y] 3)).cell? ((⟨wr.heap.size, 0, none⟩ : Addr).add j) = some u := World.news_of_block (cs := #[.int .i64 y]) (heap_alloc_new wr _)
  refine wpList_append_lies _ hgd s x 22 ho B 3 i (.int .i64 0) 1 8 Tryd.underlying22 hi hz0 hz1 hz2 rfl (by omega) (.slice ad n c) n (is C) hs (hown.own.alloc _) ⟨wr.heap.size, 0, none⟩ 1 1 (is [y]) hx (by rfl) hnews (is_one _) (by omega) (by unfold maxLen; omega) (by omega) (by simp; omega) (wr.heap.size + 1) (by simp) ?_
  intro g cap w' hown' hgrow hat _
  have hgr := grown_trans (below_grown (from_alloc wr _) (Value.slice ad n c).ownBlock) hgrow (fun g hg => Or.inl hg)
  have hbb := grown_below hgr hB (fun g hg => (hown.own.lt g hg).1)
  refine h g cap w' ⟨by rw [is_append]; exact hown'⟩ hbb (Nat.le_trans hB hbb.size) fun i hi hne => ⟨fun e => ?_, hgr.block i hi (fun e => hne e.symm)⟩
  rcases hat with h1 | h1
  · exact hne (by rw [e]; exact h1)
  · omega
/-- the answer grows, behind the row y -/
structure FoI (w0 : World) (go s n : Nat) (f G : Nat → Nat → Int) (l i : Value) (wr : World) : Prop where
  ex : ∃ (y c : Nat) (a : Option Addr), y ≤ s ∧ i = .int .i64 y ∧ l = .slice a (y * s) c ∧ Oi wr (go + 1) a (y * s) c (upT s y 0 f) ∧ Ri 3 wr go (tab n G) ∧ Below go w0 wr ∧ go + 1 ≤ wr.heap.size
/-- within a row -/
structure FiI (w0 : World) (go s n y g8 : Nat) (f G : Nat → Nat → Int) (RR : List Int) (l i : Value) (wr : World) : Prop where
  ex : ∃ (x c : Nat) (a : Option Addr), x ≤ s ∧ i = .int .i64 x ∧ l = .slice a (y * s + x) c ∧ Oi wr (go + 1) a (y * s + x) c (upT s y x f) ∧ Ri 3 wr go (tab n G) ∧ Ri 3 wr g8 RR ∧ (Value.slice a (y * s + x) c).ownBlock ≠ some g8 ∧ Below go w0 wr ∧ go + 1 ≤ wr.heap.size

theorem fwd_row {n k : Nat} (C : List Int) {y : Nat} (hy : y < n) (x : Nat) : (fwdR (kR k) (rowL n (colsF n (fwdR (kC k)) (layF n C)) y)).getD x 0 = fwdG n k C y x := by
  unfold fwdG rowsF; rw [if_pos hy]
theorem fwdF_eq (n k : Nat) (C : List Int) (y x : Nat) : fwdF n k C y x = if k = 9 then fwdG n k C y x else sca n (fwdG n k C y x) := by
  unfold fwdF
  by_cases h9 : k = 9
  · rw [if_pos h9, if_pos h9]
  · rw [if_neg h9, if_neg h9]

set_option maxRecDepth 100000 in
set_option maxHeartbeats 4000000 in
theorem rfwd_ok {w : World} {b o c s : Nat} {n k : Nat} {C : List Int} (hs : Si w (some ⟨b, o, none⟩) C) (hk : (k : Int) ∈ tys (n : Int)) (hsd : s = min n 32) (hC : C.length = n * n) (hM : Mst C 255) :
    Calls Tryd.prog 20 #[.int .i64 (n : Int), .int .i64 (k : Int), .slice (some ⟨b, o, none⟩) C.length c] w fun e w' => ∃ a c', e = .returned (.tuple #[.slice a (s * s) c', .int .i64 0]) ∧ Si w' a (tab s (fwdF n k C)) ∧ Below w.heap.size w w' := by
  have hBk : Bk n s k := by rw [hsd]; exact bk_of hk
  obtain ⟨hs1, hs2⟩ := sd_of hk
  rw [← hsd] at hs1
  have hn := hBk.n64
  have HSd : Hid (∀ v : World, Calls Tryd.prog 11 #[.int .i64 (n : Int)] v fun e w' => e = .returned (.tuple #[.int .i64 (s : Int), .int .i64 0]) ∧ Below v.heap.size v w') := fun v => by
    have := rside_any (w := v) (n := (n : Int))
    rw [hs1, hs2] at this
    exact this
  have h2 : n * n ≤ 64 * 64 := Nat.mul_le_mul hn hn
  have HW : Hid (Calls Tryd.prog 30 #[.int .i64 (n : Int), .int .i64 (k : Int), .slice (some ⟨b, o, none⟩) C.length c, .int .i64 (n : Int), .int .i64 255] w fun e w' => e = .returned (.int .i64 0) ∧ Below w.heap.size w w') := by
    have h1 := asked_any (c := c) (n := (n : Int)) (k := (k : Int)) (side := (n : Int)) (M := 255) hs (by omega) (by omega) (by omega) (fun _ => ⟨n, rfl, hn⟩)
    have h2 : wrg n k C ((n : Int)).toNat 255 = 0 := by unfold wrg; rw [if_neg (List.ne_nil_of_mem hk), if_pos hk, Int.toNat_natCast, if_pos hC, if_pos (bdB_yes hM)]
    rw [h2] at h1
    exact h1
  have HBk : Hid (Bk n s k) := hBk
  have hsz := tys_size (List.ne_nil_of_mem hk)
  have HN5 : Hid (n = 4 ∨ n = 8 ∨ n = 16 ∨ n = 32 ∨ n = 64) := by show _ ∨ _; omega
  obtain ⟨L, hL⟩ : ∃ L, L = n * n := ⟨_, rfl⟩
  have HL : Hid (L = n * n) := hL
  have hCL : C.length = L := by rw [hC, hL]
  have hCt : tab n (layF n C) = C := by
    refine (tab_of hC fun y x hy hx => ?_).symm
    unfold layF; rw [if_pos ⟨hy, hx⟩]
  have HSi : Hid (∀ v, Below w.heap.size w v → Si v (some ⟨b, o, none⟩) (tab n (layF n C))) := fun v hv => by rw [hCt]; exact hs.to hv
  rw [← hL] at h2
  have HL4 : Hid (L ≤ 4096) := h2
  have e1 : (n : Int) * (n : Int) = (L : Int) := by rw [hL, Int.natCast_mul]
  have L1 : (L : Int) ≤ 4096 := by omega
  have n64 : (n : Int) ≤ 64 := by omega
  have s64 : (s : Int) ≤ 64 := by have := hBk.le; omega
  have sn : (s : Int) ≤ (n : Int) := by have := hBk.le; omega
  have hmk1 := mk_ints (n := L) (by omega)
  have HMd : Hid (∀ y x, -(65288) ≤ colsF n (fwdR (kC k)) (layF n C) y x ∧ colsF n (fwdR (kC k)) (layF n C) y x ≤ 65288) := fwd_mid hBk.col hM
  have HM0 : Hid (∀ x, Mst (colL n (layF n C) x) 1048576) := fun x => mst_col fun y hy => by have := lay_le (n := n) hM (by omega) y x; omega
  clear hs hBk hs1 hs2 hn hk hsd hC hM hsz h2 hL hCt
  rw [hCL] at HW ⊢
  clear hCL
  go_enter Tryd.func20, Tryd.ntmps20
  go_wp2_with fail
  refine HW.out.mono ?_
  rintro e w1 ⟨rfl, hb1⟩
  have HB1 : Hid (Below w.heap.size w w1) := hb1
  clear hb1
  go_wp2_with fail
  refine (HSd.out _).mono ?_
  rintro e w2 ⟨rfl, hb2⟩
  have HB2 : Hid (Below w.heap.size w w2) := below_to HB1.out hb2
  clear hb2
  go_wp2_with fail
  refine (rkinds_any HBk.out.kk).mono ?_
  rintro e w3 ⟨rfl, rfl⟩
  go_wp2_with fail
  refine (weights_wm (kR_lt HBk.out.kk) HBk.out.row).mono ?_
  rintro e w5 ⟨v1, rfl, hm5, hb5⟩
  have HM5 : Hid (Wm w5 v1 (kR k) n) := hm5
  have HB5 : Hid (Below w.heap.size w w5) := below_to HB2.out hb5
  clear hm5 hb5
  go_wp2_with fail
  refine (weights_wm (kC_lt HBk.out.kk) HBk.out.col).mono ?_
  rintro e w6 ⟨v2, rfl, hm6, hb6⟩
  have HM6 : Hid (∀ v, Below w6.heap.size w6 v → Wm v v1 (kR k) n) := fun v hv => (HM5.out.to hb6).to hv
  have HM7 : Hid (∀ v, Below w6.heap.size w6 v → Wm v v2 (kC k) n) := fun v hv => hm6.to hv
  have HB6 : Hid (Below w.heap.size w w6) := below_to HB5.out hb6
  have HSd6 : Hid (∀ v, Below w6.heap.size w6 v → Si v (some ⟨b, o, none⟩) (tab n (layF n C))) := fun v hv => HSi.out v (below_to HB6.out hv)
  clear hm6 hb6
  go_wp2_with fail
  have HRo : Hid (Ri 3 (w6.alloc (.cells (madeCells #[.int .i64 0] L) 3)) w6.heap.size (tab n (prC 0 0 (colsF n (fwdR (kC k)) (layF n C)) (fun _ _ => 0)))) := by
    show Ri _ _ _ _
    rw [prC_zero, ← zero_tab, ← HL.out]
    exact Ri.made 3 w6 L rfl
  have HBo : Hid (Below w6.heap.size w6 (w6.alloc (.cells (madeCells #[.int .i64 0] L) 3))) := from_alloc _ _
  generalize (w6.alloc (.cells (madeCells #[.int .i64 0] L) 3)) = V at *
  generalize hgo : w6.heap.size = go at *
  have HGo : Hid (w6.heap.size = go) := hgo
  clear hgo
  go_loopw [16] (fun i wr => ∃ x : Nat, x ≤ n ∧ i = .int .i64 x ∧ Ri 3 wr go (tab n (prC x 0 (colsF n (fwdR (kC k)) (layF n C)) (fun _ _ => 0))) ∧ Below go w6 wr) (fun i _ => n - (intOf i).toNat)
  case atStart => exact ⟨0, by omega, rfl, HRo.out, HBo.out⟩
  case round =>
    clear HRo HBo
    obtain ⟨x, hx, rfl, hr, hb⟩ := hrel
    have x0 : (0 : Int) ≤ (x : Int) := by omega
    by_cases hxn : x < n
    · have x1 : (x : Int) < (n : Int) := by omega
      have HX : Hid (x < n) := hxn
      have HR3 : Hid (Ri 3 wr go (tab n (prC x 0 (colsF n (fwdR (kC k)) (layF n C)) (fun _ _ => 0)))) := hr
      have HB3 : Hid (Below go w6 wr) := hb
      have HCo : Hid (Calls Tryd.prog 36 #[.slice (some ⟨b, o, none⟩) L c, .int .i64 (n : Int), .int .i64 (x : Int)] wr fun e w' => ∃ a c', e = .returned (.slice a n c') ∧ Oi w' wr.heap.size a n c' (colL n (layF n C) x) ∧ Below wr.heap.size wr w') :=
        column_any (HSd6.out wr hb) HL.out HBk.out.n64 hxn
      clear hr hb hxn hx
      go_wp2_with fail
      refine HCo.out.mono ?_
      rintro e w7 ⟨a7, c7, rfl, ho7, hb7⟩
      have HS7 : Hid (Si w7 a7 (colL n (layF n C) x)) := ho7.si
      have HR7 : Hid (Ri 3 w7 go (tab n (prC x 0 (colsF n (fwdR (kC k)) (layF n C)) (fun _ _ => 0)))) := HR3.out.to hb7
      have HB7 : Hid (Below go w6 w7) := HB3.out.trans (hb7.mono (Nat.le_of_lt HR3.out.lt))
      clear ho7 hb7 HCo
      go_wp2_with fail
      refine (ron_go (HM7.out w7 HB7.out) HBk.out.col HS7.out (colL_len _ _ _) (HM0.out x)).mono ?_
      rintro e w8 ⟨g8, rfl, hg8, hr8, hb8⟩
      have HG8 : Hid (go < g8) := by show _ < _; have := HR7.out.lt; omega
      have HR8 : Hid (Ri 3 w8 g8 (fwdR (kC k) (colL n (layF n C) x))) := hr8
      have HO8 : Hid (Ri 3 w8 go (tab n (prC x 0 (colsF n (fwdR (kC k)) (layF n C)) (fun _ _ => 0)))) := HR7.out.to hb8
      have HB8 : Hid (Below go w6 w8) := HB7.out.trans (hb8.mono (Nat.le_of_lt HR7.out.lt))
      have HLr : Hid ((fwdR (kC k) (colL n (layF n C) x)).length = n) := fwd_len HBk.out.col (colL_len _ _ _)
      have HGt : Hid (∀ j, (fwdR (kC k) (colL n (layF n C) x)).getD j 0 = colsF n (fwdR (kC k)) (layF n C) j x) := fun j => rfl
      clear hg8 hr8 hb8 HR3 HB3 HR7 HB7 HS7
      generalize fwdR (kC k) (colL n (layF n C) x) = CC at *
      go_wp2_with fail
      go_loopw [18] (fun i wv => ∃ t : Nat, t ≤ n ∧ i = .int .i64 t ∧ Ri 3 wv g8 CC ∧ Ri 3 wv go (tab n (prC x t (colsF n (fwdR (kC k)) (layF n C)) (fun _ _ => 0))) ∧ Below go w6 wv) (fun i _ => n - (intOf i).toNat)
      case atStart => exact ⟨0, by omega, rfl, HR8.out, HO8.out, HB8.out⟩
      case round =>
        clear HR8 HO8 HB8
        obtain ⟨t, ht, rfl, hw, hr, hb⟩ := hrel
        have t0 : (0 : Int) ≤ (t : Int) := by omega
        by_cases htn : t < n
        · have t1 : (t : Int) < (n : Int) := by omega
          have hz := ix_lt (n := n) htn HX.out
          have c0 := hw.cell t (by rw [HLr.out]; exact htn)
          rw [HGt.out t] at c0
          have d1 := hr.thaw (t * n + x)
          have d2 := hr.cell (t * n + x) (by rw [tab_len]; exact hz)
          rw [← HL.out] at hz
          have hT := hr.set (t * n + x) (colsF n (fwdR (kC k)) (layF n C) t x)
          rw [prC_set n _ _ htn HX.out] at hT
          have HT1 : Hid (Ri 3 (wr.setCell ⟨go, t * n + x, none⟩ (.int .i64 (colsF n (fwdR (kC k)) (layF n C) t x))) go (tab n (prC x (t + 1) (colsF n (fwdR (kC k)) (layF n C)) (fun _ _ => 0)))) := hT
          have HF : Hid (∀ p v, Ri 3 (wr.setCell ⟨go, p, none⟩ v) g8 CC) := fun p v => hw.far (by have := HG8.out; simp; omega) _
          have HB8 : Hid (∀ p v, Below go w6 (wr.setCell ⟨go, p, none⟩ v)) := fun p v => below_set hb (by simp) _
          have HTn : Hid (t < n) := htn
          have f1 : (t : Int) * (n : Int) = ((t * n : Nat) : Int) := by rw [Int.natCast_mul]
          have f2 : ((t * n : Nat) : Int) + (x : Int) = ((t * n + x : Nat) : Int) := rfl
          have q0 : (0 : Int) ≤ ((t * n + x : Nat) : Int) := by omega
          have q1 : ((t * n + x : Nat) : Int) < (L : Int) := by omega
          have q2 : ((t * n : Nat) : Int) ≤ 4096 := by have := HL4.out; omega
          have q3 : (0 : Int) ≤ ((t * n : Nat) : Int) := by omega
          generalize (tab n (prC x t (colsF n (fwdR (kC k)) (layF n C)) (fun _ _ => 0))).getD (t * n + x) 0 = old at d2
          generalize colsF n (fwdR (kC k)) (layF n C) t x = gv at c0 HT1
          generalize t * n + x = z at d1 d2 f2 q0 q1 HT1
          generalize t * n = p at f1 f2 q2 q3
          clear hw hr hb htn ht hz hT
          go_wp2_with fail
          have htn := HTn.out
          go_roundw
          case rel => exact ⟨t + 1, by omega, by go_num, HF.out _ _, HT1.out, HB8.out _ _⟩
          case measure => simp [intOf]; omega
        · obtain rfl : t = n := by omega
          rw [prC_col] at hr
          have HR2 : Hid (Ri 3 wr go (tab t (prC (x + 1) 0 (colsF t (fwdR (kC k)) (layF t C)) (fun _ _ => 0)))) := hr
          have HB8 : Hid (Below go w6 wr) := hb
          clear hw hr hb
          go_wp2_with fail
          have hxn := HX.out
          go_roundw
          case rel => exact ⟨x + 1, by omega, by go_num, HR2.out, HB8.out⟩
          case measure => simp [intOf]; omega
    · obtain rfl : x = n := by omega
      have HR3 : Hid (Ri 3 wr go (tab x (colsF x (fwdR (kC k)) (layF x C)))) := by
        show Ri _ _ _ _
        rw [← tab_ext (n := x) (f := prC x 0 (colsF x (fwdR (kC k)) (layF x C)) (fun _ _ => 0)) (h := colsF x (fwdR (kC k)) (layF x C)) (fun y' x' _ hx' => by unfold prC; rw [if_pos (Or.inl hx')])]
        exact hr
      have HB3 : Hid (Below go w6 wr) := hb
      have HBg : Hid (go < wr.heap.size) := hr.lt
      clear hr hb
      go_wp2_with fail
      go_loopw [19, 20] (fun l i wv => FoI w6 go s x (fwdF x k C) (colsF x (fwdR (kC k)) (layF x C)) l i wv) (fun _ i _ => s - (intOf i).toNat)
      case atStart => exact ⟨⟨0, 0, none, by omega, rfl, by rw [Nat.zero_mul], by rw [Nat.zero_mul]; exact (show upT s 0 0 (fwdF x k C) = [] from by simp [upT]) ▸ Oi.nil _ _, HR3.out, HB3.out, HBg.out⟩⟩
      case round =>
        clear HR3 HB3 HBg
        obtain ⟨y, ca, aa, hy, rfl, rfl, ho, hr, hb, hBw⟩ := hrel
        have y0 : (0 : Int) ≤ (y : Int) := by omega
        by_cases hlt : y < s
        · have y1 : (y : Int) < (s : Int) := by omega
          have HY : Hid (y < s) := hlt
          have HYn : Hid (y < x) := by show _ < _; have := HBk.out.le; omega
          have hp := ix_le (n := x) HYn.out
          rw [← HL.out] at hp
          have HRw : Hid (Si wr (some ⟨go, y * x, none⟩) (rowL x (colsF x (fwdR (kC k)) (layF x C)) y)) := by
            have h1 := hr.si.seg (y * x) x (by rw [tab_len, ← HL.out]; exact hp)
            rw [sg_row x _ HYn.out, Nat.zero_add] at h1
            exact h1
          have HO3 : Hid (Oi wr (go + 1) aa (y * s) ca (upT s y 0 (fwdF x k C))) := ho
          have HR3 : Hid (Ri 3 wr go (tab x (colsF x (fwdR (kC k)) (layF x C)))) := hr
          have HB3 : Hid (Below go w6 wr) := hb
          have HBw : Hid (go + 1 ≤ wr.heap.size) := hBw
          have f1 : (y : Int) * (x : Int) = ((y * x : Nat) : Int) := by rw [Int.natCast_mul]
          have f2 : ((y * x : Nat) : Int) + (x : Int) = ((y * x + x : Nat) : Int) := rfl
          have q0 : (0 : Int) ≤ ((y * x : Nat) : Int) := by omega
          have q1 : ((y * x + x : Nat) : Int) ≤ (L : Int) := by omega
          have q2 : ((y * x : Nat) : Int) ≤ ((y * x + x : Nat) : Int) := by omega
          have q3 : ((y * x + x : Nat) : Int) ≤ 4096 := by have := HL4.out; omega
          have q4 : ¬ y * x = L := by have := HYn.out; omega
          have q5 : y * x + x - y * x = x := by omega
          have HMr : Hid (Mst (rowL x (colsF x (fwdR (kC k)) (layF x C)) y) 65288) := mst_row fun x' _ => HMd.out y x'
          clear ho hr hb hlt hy hp hBw
          generalize hP2 : y * x + x = p2 at *
          generalize hP1 : y * x = p1 at *
          clear hP1 hP2
          go_wp2_with fail
          refine (ron_go (HM6.out wr HB3.out) HBk.out.row HRw.out (rowL_len _ _ _) (mst_up HMr.out (by omega))).mono ?_
          rintro e w8 ⟨g8, rfl, hg8, hr8, hb8⟩
          have HR8 : Hid (Ri 3 w8 g8 (fwdR (kR k) (rowL x (colsF x (fwdR (kC k)) (layF x C)) y))) := hr8
          have HO8 : Hid (Ri 3 w8 go (tab x (colsF x (fwdR (kC k)) (layF x C)))) := HR3.out.to hb8
          have HA8 : Hid (Oi w8 (go + 1) aa (y * s + 0) ca (upT s y 0 (fwdF x k C))) := HO3.out.to hb8
          have HN8 : Hid ((Value.slice aa (y * s + 0) ca).ownBlock ≠ some g8) := fun e => by
            have := (HO3.out.own.lt g8 e).2
            omega
          have HB8 : Hid (Below go w6 w8) := HB3.out.trans (hb8.mono (Nat.le_of_lt HR3.out.lt))
          have HBw8 : Hid (go + 1 ≤ w8.heap.size) := Nat.le_trans HBw.out hb8.size
          have HLr : Hid ((fwdR (kR k) (rowL x (colsF x (fwdR (kC k)) (layF x C)) y)).length = x) := fwd_len HBk.out.row (rowL_len _ _ _)
          have HGt : Hid (∀ j, (fwdR (kR k) (rowL x (colsF x (fwdR (kC k)) (layF x C)) y)).getD j 0 = fwdG x k C y j) := fun j => fwd_row C HYn.out j
          have HLo : Hid (∀ j, Lo (fwdG x k C y j)) := fun j => by
            rw [← HGt.out j]
            exact lo_of (fwd_bd HBk.out.row (by omega) (rowL_len _ _ _) HMr.out j) (by omega)
          clear hg8 hr8 hb8 HO3 HR3 HB3 HBw HRw HMr f1 f2 q0 q1 q2 q3 q4 q5
          generalize fwdR (kR k) (rowL x (colsF x (fwdR (kC k)) (layF x C)) y) = RR at *
          go_wp2_with fail
          go_loopw [19, 22] (fun l i wv => FiI w6 go s x y g8 (fwdF x k C) (colsF x (fwdR (kC k)) (layF x C)) RR l i wv) (fun _ i _ => s - (intOf i).toNat)
          case atStart => exact ⟨⟨0, ca, aa, by omega, rfl, rfl, HA8.out, HO8.out, HR8.out, HN8.out, HB8.out, HBw8.out⟩⟩
          case round =>
            clear HA8 HO8 HR8 HN8 HB8 HBw8
            obtain ⟨t, cc, al, ht, rfl, rfl, ho, hr, hw, hne, hb, hBw⟩ := hrel
            have t0 : (0 : Int) ≤ (t : Int) := by omega
            by_cases htn : t < s
            · have t1 : (t : Int) < (s : Int) := by omega
              have t2 : (t : Int) < (x : Int) := by omega
              have c0 := hw.cell t (by rw [HLr.out]; omega)
              rw [HGt.out t] at c0
              have HTn : Hid (t < s) := htn
              have HO9 : Hid (Oi wr (go + 1) al (y * s + t) cc (upT s y t (fwdF x k C))) := ho
              have HBw9 : Hid (go + 1 ≤ wr.heap.size) := hBw
              have HLn9 : Hid (y * s + t < 1099511627776) := by
                show _ < _
                have h1 := ix_lt (n := s) HY.out htn
                have h2 : s * s ≤ 64 * 64 := Nat.mul_le_mul (by omega) (by omega)
                omega
              have HRel : Hid (∀ (g cap : Nat) (w' : World), Oi w' (go + 1) (some ⟨g, 0, none⟩) (y * s + t + 1) cap (upT s y t (fwdF x k C) ++ [fwdF x k C y t]) → Below (go + 1) wr w' → go + 1 ≤ w'.heap.size → (∀ i, i < wr.heap.size → (Value.slice al (y * s + t) cc).ownBlock ≠ some i → i ≠ g ∧ w'.heap[i]? = wr.heap[i]?) → FiI w6 go s x y g8 (fwdF x k C) (colsF x (fwdR (kC k)) (layF x C)) RR (.slice (some ⟨g, 0, none⟩) (y * s + t + 1) cap) (.int .i64 ((t : Int) + 1)) w') := fun g cap w' h1 h2 h3 h4 => by
                rw [upT_step s y t _ htn] at h1
                obtain ⟨n1, n2⟩ := h4 g8 hw.lt hne
                exact ⟨⟨t + 1, cap, _, by omega, by go_num, rfl, h1, hr.below h2 (by omega), hw.carry n2, fun e => n1 (by simpa [Value.ownBlock] using e.symm), hb.trans (h2.mono (by omega)), h3⟩⟩
              have HV := fwdF_eq x k C y t
              have HVV : Hid (fwdF x k C y t = if k = 9 then fwdG x k C y t else sca x (fwdG x k C y t)) := HV
              have HL9 := HLo.out t
              have HLL : Hid (Lo (fwdG x k C y t)) := HL9
              clear HV HL9 ho hr hw hne hb hBw htn ht
              generalize fwdG x k C y t = gv at *
              by_cases h9 : k = 9
              · have z9 : ((k : Int) == 9) = true := by rw [beq_iff_eq]; omega
                have HE : Hid (fwdF x k C y t = gv) := by show _ = _; rw [HVV.out, if_pos h9]
                rw [HE.out] at HRel
                clear h9
                go_wp2_with (at_builtin; refine wpList_append_keep _ (by rfl) _ _ (by rfl) (go + 1) (y * s + t) cc (upT s y t (fwdF x k C)) al _ HO9.out HBw9.out HLn9.out (by rfl) (by rfl) ?_; intro g cap w9 h1 h2 h3 h4)
                have htn := HTn.out
                go_roundw
                case rel => exact HRel.out g cap w9 h1 h2 h3 h4
                case measure => simp [intOf]; omega
              · have z9 : ((k : Int) == 9) = false := by rw [beq_eq_false_iff_ne]; omega
                have HE : Hid (fwdF x k C y t = sca x gv) := by show _ = _; rw [HVV.out, if_neg h9]
                rw [HE.out] at HRel
                clear h9
                go_wp2_with (first | (go_at_call 40; refine (rscaled_any HLL.out HN5.out).mono ?_; rintro e w' ⟨rfl, rfl⟩) | (at_builtin; refine wpList_append_keep _ (by rfl) _ _ (by rfl) (go + 1) (y * s + t) cc (upT s y t (fwdF x k C)) al _ HO9.out HBw9.out HLn9.out (by rfl) (by rfl) ?_; intro g cap w9 h1 h2 h3 h4))
                have htn := HTn.out
                go_roundw
                case rel => exact HRel.out g cap w9 h1 h2 h3 h4
                case measure => simp [intOf]; omega
            · obtain rfl : t = s := by omega
              rw [upT_row] at ho
              have HF : Hid (FoI w6 go t x (fwdF x k C) (colsF x (fwdR (kC k)) (layF x C)) (.slice al (y * t + t) cc) (.int .i64 ((y : Int) + 1)) wr) := ⟨⟨y + 1, cc, al, HY.out, by go_num, by rw [Nat.succ_mul], by rw [Nat.succ_mul]; exact ho, hr, hb, hBw⟩⟩
              clear ho hr hw hne hb hBw
              go_wp2_with fail
              have hlt := HY.out
              go_roundw
              case rel => exact HF.out
              case measure => simp [intOf]; omega
        · obtain rfl : y = s := by omega
          have HS9 : Hid (Si wr aa (tab y (fwdF x k C))) := ho.si
          have HB9 : Hid (Below w.heap.size w wr) := HB6.out.trans (hb.mono (by have := HB6.out.size; have := HGo.out; omega))
          clear ho hr hb hBw
          go_wp2_with fail
          go_ret2
          exact ⟨aa, ca, rfl, HS9.out, HB9.out⟩

set_option maxRecDepth 100000 in
set_option maxHeartbeats 1000000 in
theorem forwards_walk {w : World} {a : Option Addr} {c : Nat} {n k : Int} {C : List Int} (hq : Qt w) (hs : Si w a C) (hl : C.length ≤ 17592186043904) :
    Calls Tryd.prog 5 #[.int .i64 n, .int .i64 k, .slice a C.length c] w fun e w' => e = .returned (.bool true) ∧ Below w.heap.size w w' := by
  have HQ : Hid (Qt w) := hq
  have HS : Hid (Si w a C) := hs
  clear hq hs
  go_enter Tryd.func5, Tryd.ntmps5
  go_wp2_with fail
  refine (copy_any HS.out hl).mono ?_
  rintro e w1 ⟨a1, c1, rfl, ho1, hb1⟩
  have HO1 : Hid (Oi w1 w.heap.size a1 C.length c1 C) := ho1
  have HB1 : Hid (Below w.heap.size w w1) := hb1
  have HS1 : Hid (Si w1 a C) := HS.out.to hb1
  have HQ1 : Hid (Qt w1) := HQ.out.to hb1
  clear ho1 hb1
  by_cases hx : wrg n k C n.toNat 255 = 0
  · obtain ⟨hk, hC, hM⟩ := wrg_ok hx
    have hsz := tys_size (List.ne_nil_of_mem hk)
    have hk0 := tys_lt hk
    obtain ⟨nn, rfl⟩ : ∃ nn : Nat, n = (nn : Int) := ⟨n.toNat, by omega⟩
    obtain ⟨kk, rfl⟩ : ∃ kk : Nat, k = (kk : Int) := ⟨k.toNat, by omega⟩
    rw [Int.toNat_natCast] at hC
    obtain ⟨s, hs⟩ : ∃ s, s = min nn 32 := ⟨_, rfl⟩
    have hBk := bk_of hk
    rw [← hs] at hBk
    have hnn : s * s ≤ 64 * 64 := Nat.mul_le_mul (Nat.le_trans hBk.le hBk.n64) (Nat.le_trans hBk.le hBk.n64)
    have h0 : 0 < C.length := by rw [hC]; have := hBk.row.four; exact Nat.mul_pos (by omega) (by omega)
    obtain ⟨g1, cap1, hv1, hg1, hl1⟩ := HO1.out.own.form h0
    simp only [Value.slice.injEq] at hv1
    obtain ⟨rfl, -, -⟩ := hv1
    obtain ⟨b0, o0, rfl, hb0, _⟩ := HS.out.form h0
    have HT : Hid (Calls Tryd.prog 19 #[.int .i64 (nn : Int), .int .i64 (kk : Int), .slice (some ⟨g1, 0, none⟩) C.length c1] w1 fun e w' => N3 w1 w' e (tab s (fwdF nn kk C))) := tfwd_ok HQ1.out HO1.out.si HO1.out.cap HO1.out.lt.2 hk hs hC hM
    have HR : Hid (∀ v, Below w1.heap.size w1 v → Calls Tryd.prog 20 #[.int .i64 (nn : Int), .int .i64 (kk : Int), .slice (some ⟨b0, o0, none⟩) C.length c] v fun e w' => ∃ a c', e = .returned (.tuple #[.slice a (s * s) c', .int .i64 0]) ∧ Si w' a (tab s (fwdF nn kk C)) ∧ Below v.heap.size v w') := fun v hv => rfwd_ok (HS1.out.to hv) hk hs hC hM
    have HG1 : Hid (g1 < w1.heap.size) := HO1.out.lt.2
    have HB0 : Hid (b0 < w1.heap.size) := by show _ < _; have := HB1.out.size; omega
    have HLn : Hid ((tab s (fwdF nn kk C)).length = s * s) := tab_len _ _
    have HN4 : Hid (s * s ≤ 4096) := hnn
    clear hx hk hC hM hsz hk0 hs hBk hnn h0 hg1 hl1 hb0
    generalize tab s (fwdF nn kk C) = R at *
    go_wp2_with fail
    refine HT.out.mono ?_
    rintro e w2 ⟨g2, c2, rfl, ho2, hb2⟩
    have HO2 : Hid (Oi w2 w1.heap.size (some ⟨g2, 0, none⟩) R.length c2 R) := ho2
    have HB2 : Hid (Below w1.heap.size w1 w2) := hb2
    clear ho2 hb2
    go_wp2_with fail
    refine (HR.out w2 HB2.out).mono ?_
    rintro e w3 ⟨a3, c3, rfl, hr3, hb3⟩
    rw [← HLn.out]
    have HO3 : Hid (Oi w3 w1.heap.size (some ⟨g2, 0, none⟩) R.length c2 R) := HO2.out.to hb3
    have HR3 : Hid (Si w3 a3 R) := hr3
    have HB3 : Hid (Below w1.heap.size w1 w3) := below_to HB2.out hb3
    clear hr3 hb3
    go_wp2_with fail
    refine (turned_any HO3.out HB3.out.size HR3.out (HO1.out.si.to HB3.out) (HS1.out.to HB3.out) (by rw [HLn.out]; exact HN4.out) (by omega) (Or.inr fun g o e => by simp only [Option.some.injEq, Addr.mk.injEq] at e; have := HG1.out; omega) (Or.inr fun g o e => by simp only [Option.some.injEq, Addr.mk.injEq] at e; have := HB0.out; omega)).mono ?_
    rintro e w4 ⟨rfl, hb4⟩
    have HB4 : Hid (Below w.heap.size w w4) := below_to HB1.out (HB3.out.trans hb4)
    have HQ4 : Hid (Qt w4) := HQ.out.to HB4.out
    clear hb4
    go_wp2_with fail
    refine (works_any HQ4.out).mono ?_
    rintro e w5 ⟨rfl, hb5⟩
    have HB5 : Hid (Below w.heap.size w w5) := below_to HB4.out hb5
    clear hb5
    go_wp2_with fail
    go_ret
    exact ⟨rfl, HB5.out⟩
  · have HT : Hid (Calls Tryd.prog 19 #[.int .i64 n, .int .i64 k, .slice a1 C.length c1] w1 fun e w' => N4 w1 w' e (wrg n k C n.toNat 255)) := fwd_bad HO1.out.si (by omega) hx
    have HR : Hid (∀ v, Below w1.heap.size w1 v → Calls Tryd.prog 20 #[.int .i64 n, .int .i64 k, .slice a C.length c] v fun e w' => N4 v w' e (wrg n k C n.toNat 255)) := fun v hv => rfwd_bad (HS1.out.to hv) (by omega) hx
    clear hx
    generalize wrg n k C n.toNat 255 = W at *
    go_wp2_with fail
    refine HT.out.mono ?_
    rintro e w2 ⟨rfl, hb2⟩
    have HB2 : Hid (Below w1.heap.size w1 w2) := hb2
    clear hb2
    go_wp2_with fail
    refine (HR.out w2 HB2.out).mono ?_
    rintro e w3 ⟨rfl, hb3⟩
    have HB3 : Hid (Below w1.heap.size w1 w3) := below_to HB2.out hb3
    clear hb3
    go_wp2_with fail
    have HIn : Hid (Si w3 a1 C) := HO1.out.si.to HB3.out
    have HLl : Hid (Si w3 a C) := HS1.out.to HB3.out
    have HTu : Hid (Calls Tryd.prog 18 #[.slice none 0 0, .int .i64 W, .slice none 0 0, .int .i64 W, .slice a1 C.length c1, .slice a C.length c] w3 fun e w' => e = .returned (.bool true) ∧ Below w3.heap.size w3 w') := by
      refine turned_any (R := []) (Oi.nil _ _) (Nat.le_refl _) (Si.nil _ _) HIn.out HLl.out (by simp) (by omega) ?_ ?_
      · rcases HIn.out with h | ⟨b', o', e', hb', _⟩
        · exact Or.inl h
        · refine Or.inr fun g o e => ?_
          rw [e] at e'
          simp only [Option.some.injEq, Addr.mk.injEq] at e'
          omega
      · rcases HLl.out with h | ⟨b', o', e', hb', _⟩
        · exact Or.inl h
        · refine Or.inr fun g o e => ?_
          rw [e] at e'
          simp only [Option.some.injEq, Addr.mk.injEq] at e'
          omega
    refine HTu.out.mono ?_
    rintro e w4 ⟨rfl, hb4⟩
    have HB4 : Hid (Below w.heap.size w w4) := below_to HB1.out (below_to HB3.out hb4)
    have HQ4 : Hid (Qt w4) := HQ.out.to HB4.out
    clear hb4
    go_wp2_with fail
    refine (works_any HQ4.out).mono ?_
    rintro e w5 ⟨rfl, hb5⟩
    have HB5 : Hid (Below w.heap.size w w5) := below_to HB4.out hb5
    clear hb5
    go_wp2_with fail
    go_ret
    exact ⟨rfl, HB5.out⟩

end Go.Proofs.YtddnnlofdicgkaaDoor
