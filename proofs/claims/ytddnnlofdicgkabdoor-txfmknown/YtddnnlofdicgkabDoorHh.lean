/- DERIVED. What rows come to, in numbers; what turns rows; the walk of corner. -/
import Derived.Test.YtddnnlofdicgkabDoorHg
import Derived.Lib.JoinLaws
namespace Go.Proofs.YtddnnlofdicgkabDoor
open Go.RowKit

theorem kW_le (k : Int) (n i j : Nat) : -16384 ≤ kW k n i j ∧ kW k n i j ≤ 16384 := by
  unfold kW
  split
  · have := dctW_le n i j; omega
  · split
    · have := adstW_le n i j; omega
    · exact idW_le n i j
theorem wr_bd {W : Nat → Nat → Int} {C : List Int} {A : Int} (hC : Mst C A) (hA : 0 ≤ A) (hn : C.length ≤ 64) (hW : ∀ k i, -16384 ≤ W k i ∧ W k i ≤ 16384) (j : Nat) : -(A * 256 + 1) ≤ (wr W C).getD j 0 ∧ (wr W C).getD j 0 ≤ A * 256 + 1 := by
  by_cases hj : j < C.length
  · rw [wr_get _ _ _ hj]
    have h1 := ws_le (W := W) (C := C) (m := C.length) (t := j) (A := A) (B := 16384) (Nat.le_refl _) hC hW
    have h2 : A * 16384 * (C.length : Int) ≤ A * 16384 * 64 := Int.mul_le_mul_of_nonneg_left (by omega) (by omega)
    omega
  · have h0 : (wr W C).getD j 0 = 0 := by rw [List.getD_eq_getElem?_getD, List.getElem?_eq_none (by rw [wr_len]; omega)]; rfl
    rw [h0]
    omega
theorem wht_bd {C : List Int} {A : Int} (hC : Mst C A) (hn : C.length = 4) (j : Nat) : (-(A * 8 + 8) ≤ (invR 3 C).getD j 0 ∧ (invR 3 C).getD j 0 ≤ A * 8 + 8) ∧ (-(A * 8 + 8) ≤ (fwdR 3 C).getD j 0 ∧ (fwdR 3 C).getD j 0 ≤ A * 8 + 8) := by
  have b0 := hC 0 (by omega)
  have b1 := hC 1 (by omega)
  have b2 := hC 2 (by omega)
  have b3 := hC 3 (by omega)
  rw [show invR 3 C = whtI (C.getD 0 0) (C.getD 1 0) (C.getD 2 0) (C.getD 3 0) from rfl, show fwdR 3 C = whtF (C.getD 0 0) (C.getD 1 0) (C.getD 2 0) (C.getD 3 0) from rfl]
  generalize C.getD 0 0 = p0 at *
  generalize C.getD 1 0 = p1 at *
  generalize C.getD 2 0 = p2 at *
  generalize C.getD 3 0 = p3 at *
  match j with
  | 0 => simp only [whtI, whtF, List.getD_cons_zero]; omega
  | 1 => simp only [whtI, whtF, List.getD_cons_zero, List.getD_cons_succ]; omega
  | 2 => simp only [whtI, whtF, List.getD_cons_zero, List.getD_cons_succ]; omega
  | 3 => simp only [whtI, whtF, List.getD_cons_zero, List.getD_cons_succ]; omega
  | j + 4 => simp [whtI, whtF]; omega

/-- a size of rows that a kind takes -/
structure Tk (k n : Nat) : Prop where
  four : 4 ≤ n
  most : n ≤ kL k
  pow : p2 n = true
theorem Tk.le {k n : Nat} (h : Tk k n) : n ≤ 64 := Nat.le_trans h.most (kL_le _)
theorem Tk.ok {k n : Nat} (h : Tk k n) {C : List Int} (hC : C.length = n) (hM : Mst C 1048576) : tkB (kL k) C = true := tkB_mk (by rw [hC]; exact h.four) (by rw [hC]; exact h.most) (by rw [hC]; exact h.pow) hM
theorem Tk.wht {n : Nat} (h : Tk 3 n) : n = 4 := by have h1 := h.four; have h2 := h.most; have : kL ((3 : Nat) : Int) = 4 := rfl; omega
theorem inv_len {k n : Nat} (h : Tk k n) {C : List Int} (hC : C.length = n) : (invR k C).length = n := by
  unfold invR
  split
  · rename_i e
    obtain rfl : k = 3 := by omega
    rw [h.wht]; rfl
  · rw [wr_len]; exact hC
theorem fwd_len {k n : Nat} (h : Tk k n) {C : List Int} (hC : C.length = n) : (fwdR k C).length = n := by
  unfold fwdR
  split
  · rename_i e
    obtain rfl : k = 3 := by omega
    rw [h.wht]; rfl
  · rw [wr_len]; exact hC
theorem inv_bd {k n : Nat} (h : Tk k n) {C : List Int} {A : Int} (hA : 0 ≤ A) (hC : C.length = n) (hM : Mst C A) (j : Nat) : -(A * 256 + 8) ≤ (invR k C).getD j 0 ∧ (invR k C).getD j 0 ≤ A * 256 + 8 := by
  by_cases e : k = 3
  · subst e
    have := (wht_bd hM (by rw [hC]; exact h.wht) j).1
    rw [show ((3 : Nat) : Int) = 3 from rfl]
    omega
  · have h1 := wr_bd (W := kW k C.length) hM hA (by rw [hC]; exact h.le) (fun a b => kW_le _ _ _ _) j
    rw [show invR k C = wr (kW k C.length) C from by unfold invR; rw [if_neg (by omega)]]
    omega
theorem fwd_bd {k n : Nat} (h : Tk k n) {C : List Int} {A : Int} (hA : 0 ≤ A) (hC : C.length = n) (hM : Mst C A) (j : Nat) : -(A * 256 + 8) ≤ (fwdR k C).getD j 0 ∧ (fwdR k C).getD j 0 ≤ A * 256 + 8 := by
  by_cases e : k = 3
  · subst e
    have := (wht_bd hM (by rw [hC]; exact h.wht) j).2
    rw [show ((3 : Nat) : Int) = 3 from rfl]
    omega
  · have h1 := wr_bd (W := fun a b => kW k C.length b a) hM hA (by rw [hC]; exact h.le) (fun a b => kW_le _ _ _ _) j
    rw [show fwdR k C = wr (fun a b => kW k C.length b a) C from by unfold fwdR; rw [if_neg (by omega)]]
    omega
theorem enter47 (xs : Array Value) (u : World) : (callFunc 28 xs).run Tryd.prog u = .ok (.enter 28 xs) u := enter_go Tryd.func28 (by kernel_rfl) (by kernel_rfl) xs u
theorem enter53 (xs : Array Value) (u : World) : (callFunc 32 xs).run Tryd.prog u = .ok (.enter 32 xs) u := enter_go Tryd.func32 (by kernel_rfl) (by kernel_rfl) xs u
theorem enter45 (xs : Array Value) (u : World) : (callFunc 26 xs).run Tryd.prog u = .ok (.enter 26 xs) u := enter_go Tryd.func26 (by kernel_rfl) (by kernel_rfl) xs u
theorem enter50 (xs : Array Value) (u : World) : (callFunc 31 xs).run Tryd.prog u = .ok (.enter 31 xs) u := enter_go Tryd.func31 (by kernel_rfl) (by kernel_rfl) xs u
theorem enter49 (xs : Array Value) (u : World) : (callFunc 30 xs).run Tryd.prog u = .ok (.enter 30 xs) u := enter_go Tryd.func30 (by kernel_rfl) (by kernel_rfl) xs u
theorem enter54 (xs : Array Value) (u : World) : (callFunc 33 xs).run Tryd.prog u = .ok (.enter 33 xs) u := enter_go Tryd.func33 (by kernel_rfl) (by kernel_rfl) xs u
theorem tu_inv {k n : Nat} (h : Tk k n) : Tu 28 (k : Int) n (invR k) :=
  ⟨enter47, fun C hC => inv_len h hC, fun u a c C hq hC hs hM => by
    have h1 := linv_any (k := (k : Int)) (c := c) hq hs (h.ok hC hM)
    rw [hC] at h1
    refine h1.mono ?_
    rintro e w' ⟨g, rfl, hg, hr, hb⟩
    exact ⟨g, by rw [inv_len h hC], hg, hr, hb⟩⟩
theorem tu_fwd {k n : Nat} (h : Tk k n) : Tu 32 (k : Int) n (fwdR k) :=
  ⟨enter53, fun C hC => fwd_len h hC, fun u a c C hq hC hs hM => by
    have h1 := lfwd_any (k := (k : Int)) (c := c) hq hs (h.ok hC hM)
    rw [hC] at h1
    refine h1.mono ?_
    rintro e w' ⟨g, rfl, hg, hr, hb⟩
    exact ⟨g, by rw [fwd_len h hC], hg, hr, hb⟩⟩

/-- m rows of s numbers -/
def tbm (s m : Nat) (f : Nat → Nat → Int) : List Int := (List.range (m * s)).map fun i => f (i / s) (i % s)
theorem tbm_len (s m : Nat) (f : Nat → Nat → Int) : (tbm s m f).length = m * s := by simp [tbm]
theorem tbm_get (s m : Nat) (f : Nat → Nat → Int) (i : Nat) (h : i < m * s) : (tbm s m f).getD i 0 = f (i / s) (i % s) := by simp [tbm, h]
theorem tbm_step (s m : Nat) (f : Nat → Nat → Int) : tbm s m f ++ rowL s f m = tbm s (m + 1) f := by
  refine ext_getD (by simp [tbm_len, rowL_len, Nat.succ_mul]) fun j hj => ?_
  rw [List.length_append, tbm_len, rowL_len] at hj
  rw [tbm_get _ _ _ _ (by rw [Nat.succ_mul]; exact hj)]
  by_cases h : j < m * s
  · rw [List.getD_eq_getElem?_getD, List.getElem?_append_left (by rw [tbm_len]; exact h), ← List.getD_eq_getElem?_getD, tbm_get _ _ _ _ h]
  · rw [List.getD_eq_getElem?_getD, List.getElem?_append_right (by rw [tbm_len]; omega), ← List.getD_eq_getElem?_getD, tbm_len, rowL_get _ _ _ _ (by omega)]
    obtain ⟨i, rfl⟩ : ∃ i, j = m * s + i := ⟨j - m * s, by omega⟩
    rw [ix_div (by omega), ix_mod (by omega), Nat.add_sub_cancel_left]

/-- 'append(c, r...)' on a row of numbers -/
theorem wpList_append_seg (wr : World) {ops : Array Oper} {rest : List Oper} {o : Oper} {a : Act} {Q : Exit → Act → World → Prop} (hgd : o.guard = none) (s x : Operand)
    (ho : o.op = .call { callee := .builtin .append, args := #[s, x], argTypes := #[22, 22] })
    (B n c : Nat) (C : List Int) (ad : Option Addr) (b off m cx : Nat) (D : List Int) (hown : Oi wr B ad n c C) (hB : B ≤ wr.heap.size) (hL : n + m ≤ 1099511627776) (hm : 0 < m) (hD : D.length = m)
    (hcell : ∀ j, j < m → wr.cell? ⟨b, off + j, none⟩ = some (.int .i64 (D.getD j 0)))
    (hs : a.eval s = .slice ad n c) (hx : a.eval x = .slice (some ⟨b, off, none⟩) m cx)
    (h : ∀ g cap w', Oi w' B (some ⟨g, 0, none⟩) (n + m) cap (C ++ D) → Below B wr w' → B ≤ w'.heap.size → wpList Tryd.prog ops Q rest (a.put o.dst (.slice (some ⟨g, 0, none⟩) (n + m) cap)) w') :
    wpList Tryd.prog ops Q (o :: rest) a wr := by
  obtain ⟨i, hi, hz0, hz1, hz2⟩ := info_parts Tryd.info3
  have hnews : ∀ j u, (is D)[j]? = some u → wr.cell? ((⟨b, off, none⟩ : Addr).add j) = some u := fun j u hj => by
    have hjl : j < D.length := by have := List.getElem?_eq_some_iff.1 hj; obtain ⟨h1, _⟩ := this; rw [is_length] at h1; exact h1
    rw [is_get D j hjl] at hj
    rw [← hj, addr_add]
    exact hcell j (by omega)
  refine wpList_append_lies _ hgd s x 22 ho B 3 i (.int .i64 0) 1 8 Tryd.underlying22 hi hz0 hz1 hz2 rfl (by omega) (.slice ad n c) n (is C) hs hown.own ⟨b, off, none⟩ m cx (is D) hx (by rw [is_length]; omega) hnews (is_one _) hm (by unfold maxLen; omega) (by omega) hB wr.heap.size rfl ?_
  intro g cap w' hown' hgrow hat _
  have hbb := grown_below hgrow hB (fun g hg => (hown.own.lt g hg).1)
  exact h g cap w' ⟨by rw [is_append]; exact hown'⟩ hbb (Nat.le_trans hB hbb.size)

theorem mk_room {n : Nat} (hn : n ≤ 1048576) (u : World) : (Instr.makeSlice 22 (.int .i64 0) (.int .i64 (n : Int))).run Tryd.prog u = .ok (.slice (some ⟨u.heap.size, 0, none⟩) 0 n) (u.alloc (.cells (madeCells #[.int .i64 0] n) 3)) :=
  run_make_room 22 3 (.int .i64 0) 8 Tryd.underlying22 Tryd.info3 rfl .i64 .i64 n (by omega) (by omega) u

theorem own_mono {w : World} {B B' e size n : Nat} {v : Value} {xs : List Value} (h : w.ownsRow B e size v n xs) (hb : B' ≤ B) : w.ownsRow B' e size v n xs := by
  refine ⟨h.1, ?_⟩
  rcases h.2 with h1 | ⟨g, cap, cur, rfl, h2, h3⟩
  · exact Or.inl h1
  · exact Or.inr ⟨g, cap, cur, rfl, Nat.le_trans hb h2, h3⟩
structure CoI (V : World) (s : Nat) (f : Nat → Nat → Int) (l i : Value) (wr : World) : Prop where
  ex : ∃ (y c g : Nat), y ≤ s ∧ i = .int .i64 y ∧ l = .slice (some ⟨g, 0, none⟩) (y * s) c ∧ Oi wr V.heap.size (some ⟨g, 0, none⟩) (y * s) c (tbm s y f) ∧ Below V.heap.size V wr

set_option maxRecDepth 100000 in
set_option maxHeartbeats 1000000 in
theorem corner_any {w : World} {n g L s M : Nat} {f : Nat → Nat → Int} (hL : L = n * n) (hn : n ≤ 64) (h0 : 0 < s) (hs : s ≤ n) (hM : M = s * s) (hr : Ri 3 w g (tab n f)) :
    Calls Tryd.prog 21 #[.agg #[.int .i64 (n : Int), .slice (some ⟨g, 0, none⟩) L L], .int .i64 (s : Int)] w fun e w' => ∃ g' c, e = .returned (.slice (some ⟨g', 0, none⟩) M c) ∧ Oi w' w.heap.size (some ⟨g', 0, none⟩) M c (tab s f) ∧ Below w.heap.size w w' := by
  have HB : Hid (Below w.heap.size w (w.alloc (.cells #[.int .i64 (n : Int), .slice (some ⟨g, 0, none⟩) L L] 38))) := from_alloc _ _
  have HG : Hid (g < w.heap.size) := hr.lt
  have HR : Hid (Ri 3 (w.alloc (.cells #[.int .i64 (n : Int), .slice (some ⟨g, 0, none⟩) L L] 38)) g (tab n f)) := hr.to HB.out
  have c0 : (w.alloc (.cells #[.int .i64 (n : Int), .slice (some ⟨g, 0, none⟩) L L] 38)).cell? ⟨w.heap.size, 0, none⟩ = some (.int .i64 (n : Int)) := by simp [go_sem]
  have c1 : (w.alloc (.cells #[.int .i64 (n : Int), .slice (some ⟨g, 0, none⟩) L L] 38)).cell? ⟨w.heap.size, 1, none⟩ = some (.slice (some ⟨g, 0, none⟩) L L) := by simp [go_sem]
  have HZ : Hid ((w.alloc (.cells #[.int .i64 (n : Int), .slice (some ⟨g, 0, none⟩) L L] 38)).heap.size = w.heap.size + 1) := by show _ = _; simp
  have s64 : (s : Int) ≤ 64 := by omega
  have h2 : s * s ≤ 64 * 64 := Nat.mul_le_mul (by omega) (by omega)
  rw [← hM] at h2
  have e1 : (s : Int) * (s : Int) = (M : Int) := by rw [hM, Int.natCast_mul]
  have m1 : (M : Int) ≤ 4096 := by omega
  have m0 : (0 : Int) ≤ (M : Int) := by omega
  have hmk := mk_room (n := M) (by omega)
  have HMM : Hid (M = s * s) := hM
  have HM4 : Hid (M ≤ 4096) := h2
  have HL : Hid (L = n * n) := hL
  have HN : Hid (n ≤ 64) := hn
  have HSN : Hid (s ≤ n) := hs
  have HS0 : Hid (0 < s) := h0
  clear hr hL hn hs hM h2 h0
  go_enter Tryd.func21, Tryd.ntmps21
  go_wp2_with fail
  generalize (w.alloc (.cells #[.int .i64 (n : Int), .slice (some ⟨g, 0, none⟩) L L] 38)) = V at *
  have HK : Hid (∀ v : World, Below V.heap.size V v → (v.cell? ⟨w.heap.size, 0, none⟩ = some (.int .i64 (n : Int)) ∧ v.cell? ⟨w.heap.size, 1, none⟩ = some (.slice (some ⟨g, 0, none⟩) L L))) := fun v hv =>
    ⟨by rw [newCell hv _ _ (by have := HZ.out; omega)]; exact c0, by rw [newCell hv _ _ (by have := HZ.out; omega)]; exact c1⟩
  clear c0 c1
  have HO : Hid (Oi (V.alloc (.cells (madeCells #[.int .i64 0] M) 3)) V.heap.size (some ⟨w.heap.size + 1, 0, none⟩) (0 * s) M (tbm s 0 f)) := ⟨by
    have h1 := World.ownsRow_made (base := V.heap.size) (e := 3) (size := 1) V (madeCells #[.int .i64 0] M) M (Nat.le_refl _) (by unfold maxLen; have := HM4.out; omega) (by simp [size_madeCells])
    rw [HZ.out] at h1
    rw [Nat.zero_mul, show tbm s 0 f = [] from by simp [tbm], HZ.out]
    exact h1⟩
  go_loopw [5, 12] (fun l i wr => CoI V s f l i wr) (fun _ i _ => s - (intOf i).toNat)
  case atStart => exact ⟨⟨0, M, w.heap.size + 1, by omega, rfl, by rw [Nat.zero_mul], HO.out, from_alloc _ _⟩⟩
  case round =>
    obtain ⟨y, c, gl, hy, rfl, rfl, ho, hb⟩ := hrel
    have y0 : (0 : Int) ≤ (y : Int) := by omega
    clear HO
    by_cases hlt : y < s
    · have y1 : (y : Int) < (s : Int) := by omega
      obtain ⟨x0, x1⟩ := HK.out wr hb
      have hyn : y < n := by have := HSN.out; omega
      have hp := ix_le (n := n) hyn
      have HRow : Hid (Calls Tryd.prog 23 #[.agg #[.int .i64 (n : Int), .slice (some ⟨g, 0, none⟩) L L], .int .i64 (y : Int)] wr fun e w' => e = .returned (.slice (some ⟨g, y * n, none⟩) n (L - y * n)) ∧ Below wr.heap.size wr w') := row_any HL.out HN.out hyn
      have HRb : Hid (n ≤ L - y * n) := by show _ ≤ _; rw [HL.out]; omega
      have HO1 : Hid (Oi wr V.heap.size (some ⟨gl, 0, none⟩) (y * s) c (tbm s y f)) := ho
      have HB1 : Hid (Below V.heap.size V wr) := hb
      have HY : Hid (y < s) := hlt
      have HRR : Hid (Ri 3 wr g (tab n f)) := HR.out.to hb
      clear hb ho hp hlt hy
      go_wp2_with fail
      refine HRow.out.mono ?_
      rintro e w5 ⟨rfl, hb5⟩
      have HO5 : Hid (Oi w5 V.heap.size (some ⟨gl, 0, none⟩) (y * s) c (tbm s y f)) := HO1.out.to hb5
      have HB5 : Hid (Below V.heap.size V w5) := below_to HB1.out hb5
      have HV5 : Hid (V.heap.size ≤ w5.heap.size) := HB5.out.size
      have HC5 : Hid (∀ j, j < s → w5.cell? ⟨g, y * n + j, none⟩ = some (.int .i64 ((rowL s f y).getD j 0))) := fun j hj => by
        have hjn : j < n := by have := HSN.out; omega
        rw [(HRR.out.to hb5).cell _ (by rw [tab_len]; exact ix_lt hyn hjn), tab_at n f hyn hjn, rowL_get _ _ _ _ hj]
      have r0 : (s : Int) ≤ (n : Int) := by have := HSN.out; omega
      have r1 : (s : Int) ≤ ((L - y * n : Nat) : Int) := by have := HSN.out; have := HRb.out; omega
      have r2 : (0 : Int) ≤ (s : Int) := by omega
      have HLs : Hid (y * s + s ≤ 1099511627776) := by show _ ≤ _; have := ix_le (n := s) HY.out; have h3 := HMM.out; have := HM4.out; omega
      clear hb5 HRow hyn
      generalize L - y * n = cR at *
      go_wp2_with (at_builtin; refine wpList_append_seg _ (by rfl) _ _ (by rfl) V.heap.size (y * s) c (tbm s y f) _ g (y * n) s _ (rowL s f y) HO5.out HV5.out HLs.out HS0.out (rowL_len _ _ _) HC5.out (by rfl) (by rfl) ?_; intro g6 cap6 w6 ho6 hb6 _)
      have hlt := HY.out
      go_roundw
      case rel => exact ⟨⟨y + 1, cap6, g6, by omega, by go_num, by rw [Nat.succ_mul], by rw [← tbm_step, Nat.succ_mul]; exact ho6, HB5.out.trans hb6⟩⟩
      case measure => simp [intOf]; omega
    · obtain rfl : y = s := by omega
      have HO2 : Hid (Oi wr w.heap.size (some ⟨gl, 0, none⟩) (y * y) c (tab y f)) := ⟨own_mono ho.own (by have := HZ.out; omega)⟩
      have HB2 : Hid (Below w.heap.size w wr) := below_to HB.out hb
      clear ho hb
      go_wp2_with fail
      go_ret
      exact ⟨gl, c, by rw [HMM.out]; rfl, by rw [HMM.out]; exact HO2.out, HB2.out⟩

end Go.Proofs.YtddnnlofdicgkabDoor
