/- DERIVED. The walk of the statement BitsBack: what is written is read, and nothing else is left. -/
import Derived.Test.YtiheldakkpbkgaaMc
import Derived.Test.YtiheldakkpbkgaaLwC
namespace Go.Proofs.Ytiheldakkpbkgaa
open Go.RowKit

/-- calls that were written, one behind the other, and what they came to -/
inductive Wrote : List (Int × Int × Nat) → Nat → Nat → Prop
  | nil : Wrote [] 0 0
  | snoc {D : List (Int × Int × Nat)} {t V t' V' : Nat} {K N : Int} {v : Nat} (h : Wrote D t V) (hw : wrOne t V K N v = (0, t', V')) (hv : v < 4294967296) : Wrote (D ++ [(K, N, v)]) t' V'

theorem Wrote.pos {D : List (Int × Int × Nat)} {t V : Nat} (h : Wrote D t V) : ∃ pos : Nat → Nat, pos 0 = 0 ∧ pos D.length = t ∧
    ∀ (zs : List Nat) (T X : Nat), Wv zs T X → Pre t V T X → ∀ j, j < D.length → Reads zs (pos j) (D.getD j (0, 0, 0)).1 (D.getD j (0, 0, 0)).2.1 (D.getD j (0, 0, 0)).2.2 (pos (j + 1)) := by
  induction h with
  | nil => exact ⟨fun _ => 0, rfl, rfl, fun zs T X _ _ j hj => by simp at hj⟩
  | @snoc D t V t' V' K N v _ hw hv ih =>
    obtain ⟨pos, p0, p1, hr⟩ := ih
    refine ⟨fun j => if j ≤ D.length then pos j else t', by simp [p0], by rw [List.length_append, List.length_singleton]; exact if_neg (by omega), fun zs T X hz hp j hj => ?_⟩
    obtain ⟨q1, q2⟩ := back_one hv hz hw hp
    simp only [List.length_append, List.length_singleton] at hj
    by_cases hlt : j < D.length
    · have e : (D ++ [(K, N, v)]).getD j (0, 0, 0) = D.getD j (0, 0, 0) := by
        rw [List.getD_eq_getElem?_getD, List.getD_eq_getElem?_getD, List.getElem?_append_left hlt]
      dsimp only
      rw [e, if_pos (by omega), if_pos (by omega)]
      exact hr zs T X hz (q1.trans hp) j hlt
    · obtain rfl : j = D.length := by omega
      have e : (D ++ [(K, N, v)]).getD D.length (0, 0, 0) = (K, N, v) := by simp [List.getD_eq_getElem?_getD]
      dsimp only
      rw [e, if_pos (Nat.le_refl _), if_neg (by omega), p1]
      exact q2

/-- calls, as cells -/
def ds (D : List (Int × Int × Nat)) : List Value := D.flatMap fun e => [.int .i64 e.1, .int .i64 e.2.1, .int .u32 (e.2.2 : Nat)]
theorem ds_length (D : List (Int × Int × Nat)) : (ds D).length = D.length * 3 := by
  induction D with
  | nil => rfl
  | cons e D ih => simp only [ds, List.flatMap_cons, List.length_append, List.length_cons, List.length_nil] at *; omega
theorem ds_append (A C : List (Int × Int × Nat)) : ds (A ++ C) = ds A ++ ds C := by simp [ds]
theorem ds_one (D : List (Int × Int × Nat)) : ∀ u ∈ ds D, u.oneCell' = true := by
  intro u hu
  obtain ⟨e, _, h⟩ := List.mem_flatMap.1 hu
  simp only [List.mem_cons, List.not_mem_nil, or_false] at h
  rcases h with rfl | rfl | rfl <;> rfl
theorem ds_get (D : List (Int × Int × Nat)) (j : Nat) (h : j < D.length) : (ds D)[j * 3]? = some (.int .i64 (D.getD j (0, 0, 0)).1) ∧ (ds D)[j * 3 + 1]? = some (.int .i64 (D.getD j (0, 0, 0)).2.1) ∧ (ds D)[j * 3 + 2]? = some (.int .u32 ((D.getD j (0, 0, 0)).2.2 : Nat)) := by
  induction D generalizing j with
  | nil => simp at h
  | cons e D ih =>
    have hc : ds (e :: D) = [.int .i64 e.1, .int .i64 e.2.1, .int .u32 (e.2.2 : Nat)] ++ ds D := by simp [ds]
    cases j with
    | zero => rw [hc]; simp
    | succ j =>
      simp at h
      obtain ⟨h0, h1, h2⟩ := ih j h
      rw [hc]
      refine ⟨?_, ?_, ?_⟩
      · rw [List.getElem?_append_right (by simp; omega)]; simpa [show (j + 1) * 3 - 3 = j * 3 from by omega] using h0
      · rw [List.getElem?_append_right (by simp; omega)]; simpa [show (j + 1) * 3 + 1 - 3 = j * 3 + 1 from by omega] using h1
      · rw [List.getElem?_append_right (by simp; omega)]; simpa [show (j + 1) * 3 + 2 - 3 = j * 3 + 2 from by omega] using h2
theorem Try.info34 : (Try.prog.info? 34).map (fun i => (i.zero, i.size, i.bytes)) = some (some (.agg #[.int .i64 0, .int .i64 0, .int .u32 0]), 3, 24) := by kernel_rfl

/-- a row's block is neither of a writer's -/
def Sep2 (x : Nat) (d dv : Value) : Prop := ∀ g, dv.ownBlock = some g → g ≠ x ∧ d.ownBlock ≠ some g
theorem own_kw {a b : World} {C e size n x : Nat} {u d d' : Value} {xs : List Value} (h : a.ownsRow C e size u n xs) (hk : Kw x d d' a b) (hs : Sep2 x d u) : b.ownsRow C e size u n xs := by
  have hlt := h.lt
  refine ⟨h.1, ?_⟩
  rcases h.2 with h1 | ⟨g, cap, cur, rfl, h2, h3, h4⟩
  · exact Or.inl h1
  · exact Or.inr ⟨g, cap, cur, rfl, h2, by rw [hk.block g (hlt g rfl).2 (hs g rfl).1 (hs g rfl).2]; exact h3, h4⟩
theorem Sep2.kw {a b : World} {C e size n x : Nat} {u d d' : Value} {xs : List Value} (h : a.ownsRow C e size u n xs) (hk : Kw x d d' a b) (hs : Sep2 x d u) : Sep2 x d' u :=
  fun g hg => ⟨(hs g hg).1, fun e => by rcases hk.new g e with e | e; exact (hs g hg).2 e; have := (h.lt g hg).2; omega⟩
theorem own_below {a b : World} {C e size n : Nat} {u : Value} {xs : List Value} (h : a.ownsRow C e size u n xs) (hb : Below a.heap.size a b) : b.ownsRow C e size u n xs := by
  have hlt := h.lt
  refine ⟨h.1, ?_⟩
  rcases h.2 with h1 | ⟨g, cap, cur, rfl, h2, h3, h4⟩
  · exact Or.inl h1
  · exact Or.inr ⟨g, cap, cur, rfl, h2, by rw [hb.block g (hlt g rfl).2]; exact h3, h4⟩
theorem own_kq {a b : World} {C e size n r : Nat} {u : Value} {xs : List Value} (h : a.ownsRow C e size u n xs) (hk : Kq r a b) (hr : u.ownBlock ≠ some r) : b.ownsRow C e size u n xs := by
  have hlt := h.lt
  refine ⟨h.1, ?_⟩
  rcases h.2 with h1 | ⟨g, cap, cur, rfl, h2, h3, h4⟩
  · exact Or.inl h1
  · exact Or.inr ⟨g, cap, cur, rfl, h2, by rw [hk.block g (hlt g rfl).2 (fun e => hr (by rw [← e]; rfl))]; exact h3, h4⟩

theorem Wr.grown {a b : World} {o : Obj} {row : Option Nat} {B x : Nat} {d : Value} {ys : List Nat} {t V : Nat} (h : Wr a B x d ys t V) (hg : (a.alloc o).grownBy b row) (hx : row ≠ some x) (hd : ∀ g, d.ownBlock = some g → row ≠ some g) : Wr b B x d ys t V := by
  have hl := h.low
  refine h.carry ?_ (fun g hgg => ?_) (by have := hg.size; simp at this; omega)
  · rw [hg.block x (by simp; omega) (Ne.symm hx), Below.heap_alloc _ _ _ hl.2]
  · have hlt := (h.own.lt g hgg).2
    rw [hg.block g (by simp; omega) (Ne.symm (hd g hgg)), Below.heap_alloc _ _ _ hlt]

def Bk2Inv (W : World) (r : Nat) (v : Value) (zs : List Nat) (pos : Nat → Nat) (D : List (Int × Int × Nat)) (dv i : Value) (wr : World) : Prop :=
  ∃ k : Nat, i = .int .i64 k ∧ k ≤ D.length ∧ Rd wr r v zs (pos k) ∧ Below W.heap.size W wr ∧ wr.ownsRow W.heap.size 34 3 dv D.length (ds D)

theorem keptCells {a b : World} {r g o : Nat} {u0 u1 u2 : Value} (hk : Kq r a b) (hg : g < a.heap.size) (hne : g ≠ r) (h0 : a.cell? ⟨g, o, none⟩ = some u0) (h1 : a.cell? ⟨g, o + 1, none⟩ = some u1) (h2 : a.cell? ⟨g, o + 2, none⟩ = some u2) :
    b.cell? ⟨g, o, none⟩ = some u0 ∧ b.cell? ⟨g, o + 1, none⟩ = some u1 ∧ b.cell? ⟨g, o + 2, none⟩ = some u2 := by
  have e : ∀ j, b.cell? ⟨g, j, none⟩ = a.cell? ⟨g, j, none⟩ := fun j => World.cell?_of_block (w := a) (a := ⟨g, j, none⟩) (hk.block g hg hne)
  rw [e, e, e]
  exact ⟨h0, h1, h2⟩

def BkInv (W : World) (n x : Nat) (dv i : Value) (wr : World) : Prop :=
  ∃ (k t V : Nat) (d : Value) (ys : List Nat) (D : List (Int × Int × Nat)), i = .int .i64 k ∧ k ≤ n ∧ k ≤ 100 ∧ Wr wr W.heap.size x d ys t V ∧ t ≤ 64 * k ∧ Below W.heap.size W wr ∧ D.length ≤ k ∧ wr.ownsRow W.heap.size 34 3 dv D.length (ds D) ∧ Sep2 x d dv ∧ Wrote D t V

set_option maxHeartbeats 4000000 in
set_option maxRecDepth 100000 in
theorem back_walk (W : World) (a : Option Addr) (c : Nat) (L : List (Int × Int × Nat)) (hL : DoAt W (.slice a L.length c) L) (hLl : L.length ≤ 140737488355328) :
    Calls Try.prog 5 #[.slice a L.length c] W fun e w' => e = .returned (.bool true) ∧ Below W.heap.size W w' := by
  have HDo : Hid (DoAt W (.slice a L.length c) L) := hL
  clear hL
  obtain ⟨i, hi, hz0, hz1, hz2⟩ := info_parts Try.info34
  go_enter Try.func5, Try.ntmps5
  go_wp2_with fail
  refine (works_true W).mono ?_; rintro e u1 ⟨rfl, hu1⟩
  go_wp2_with fail
  refine (write_new u1).mono ?_; rintro e u3 ⟨rfl, hw3, hb3⟩
  have HU3 : Hid (Below W.heap.size W u3) := hu1.trans (hb3.mono hu1.size)
  have hW2 : W.heap.size ≤ u1.heap.size := hu1.size
  have hw3' : Wr u3 W.heap.size u1.heap.size (.slice none 0 0) [] 0 0 := ⟨hw3.made, hw3.data, World.ownsRow_nil _ _ _ _, hw3.apart, hw3.free, hw3.thaw1, hw3.thaw2, ⟨hW2, hw3.low.2⟩, hw3.wv⟩
  clear hw3 hb3
  generalize u1.heap.size = x at *
  go_wp2_with fail
  go_loopw [4, 5] (fun dv i wr => BkInv W L.length x dv i wr) (fun _ i _ => L.length - (intOf i).toNat)
  case atStart => exact ⟨0, 0, 0, _, [], [], rfl, by omega, by omega, hw3', by omega, HU3.out, by simp, World.ownsRow_nil _ _ _ _, fun g hg => by simp [Value.ownBlock] at hg, Wrote.nil⟩
  case round =>
    clear hw3' HU3 hu1
    obtain ⟨k, t, V, d, ys, D, rfl, hk1, hk2, hw, ht, hbW, hDk, hown, hs, hwr⟩ := hrel
    have HB : Hid (Below W.heap.size W wr) := hbW
    have HWr : Hid (Wrote D t V) := hwr
    obtain ⟨a4, c4, rfl⟩ := own_slice hown
    clear hbW hwr
    by_cases hlt : k < L.length ∧ k < 100
    · obtain ⟨hlt1, hlt2⟩ := hlt
      obtain ⟨b, off, rfl, hbl, hq0, hq1, hq2, hVV⟩ := HDo.out.cells k hlt1
      generalize L.getD k (0, 0, 0) = el at hq0 hq1 hq2 hVV
      obtain ⟨K, N, VV⟩ := el
      simp only at hq0 hq1 hq2 hVV
      replace hq0 : Hid _ := hq0
      replace hq1 : Hid _ := hq1
      replace hq2 : Hid _ := hq2
      obtain ⟨q0, q1, q2⟩ := doCells HB.out hbl hq0 hq1 hq2
      have hsays := wrOne_says t V K N VV
      have hle := wrOne_le t V K N VV hVV
      obtain ⟨⟨fe, t', V'⟩, hwd⟩ : ∃ y, wrOne t V K N VV = y := ⟨_, rfl⟩
      rw [hwd] at hsays hle
      simp only at hsays hle
      have HWD : Hid (wrOne t V K N VV = (fe, t', V')) := hwd
      have HSy : Hid (fe = 0 ∨ (fe, t', V') = (2, t, V)) := hsays
      clear hwd hsays
      by_cases hfe : fe = 0
      · subst hfe
        go_wp2_with fail
        have c6 := write_wr hw (by omega) K N VV hVV
        rw [HWD.out] at c6
        refine c6.mono ?_; rintro e w6 ⟨rfl, d6, y6, hw6, hk6⟩
        have hown6 := own_kw hown hk6 hs
        have hs6 := Sep2.kw hown hk6 hs
        have HB6 : Hid (Below W.heap.size W w6) := HB.out.trans (hw.kwBelow hk6)
        clear q0 q1 q2 c6 hw hk6 hown hs HB
        obtain ⟨q0, q1, q2⟩ := doCells HB6.out hbl hq0 hq1 hq2
        have hBs : W.heap.size ≤ w6.heap.size := HB6.out.size
        have hownA : (w6.alloc (.cells #[.int .i64 K, .int .i64 N, .int .u32 (VV : Nat)] 34)).ownsRow W.heap.size 34 3 (.slice a4 D.length c4) D.length (ds D) := hown6.alloc _
        have hnews : ∀ j u, (ds [(K, N, VV)])[j]? = some u → (w6.alloc (.cells #[.int .i64 K, .int .i64 N, .int .u32 (VV : Nat)] 34)).cell? ((⟨w6.heap.size, 0, none⟩ : Addr).add j) = some u := World.news_of_block (cs := #[.int .i64 K, .int .i64 N, .int .u32 (VV : Nat)]) (heap_alloc_new w6 _)
        go_wp2_with (at_builtin; refine wpList_append_lies _ (by rfl) _ _ _ (by rfl) W.heap.size 34 i (.agg #[.int .i64 0, .int .i64 0, .int .u32 0]) 3 24 Try.underlying23 hi hz0 hz1 hz2 rfl (by omega) _ D.length (ds D) (by rfl) hownA ⟨w6.heap.size, 0, none⟩ 1 1 (ds [(K, N, VV)]) (by rfl) (by rfl) hnews (ds_one _) (by omega) (by unfold maxLen; omega) (by omega) (by simp; omega) (w6.heap.size + 1) (by simp) ?_; intro g cap w7 hown7 hgrow hat hlt)
        go_roundw
        case rel =>
          have hrow : (Value.slice a4 D.length c4).ownBlock ≠ some x := fun e => (hs6 x e).1 rfl
          have hd6 : ∀ g', d6.ownBlock = some g' → (Value.slice a4 D.length c4).ownBlock ≠ some g' := fun g' h1 h2 => (hs6 g' h2).2 h1
          have hx6 := hw6.low
          refine ⟨k + 1, t', V', d6, y6, D ++ [(K, N, VV)], by go_num, by omega, by omega, hw6.grown hgrow hrow hd6, by omega, ?_, by simp; omega, ?_, fun g' hg' => ?_, HWr.out.snoc HWD.out hVV⟩
          · exact (HB6.out.alloc hBs _).grown hgrow (by simp; omega) (fun g' hg' => (hown6.lt g' hg').1)
          · rw [List.length_append, ds_append]; exact hown7
          · simp [Value.ownBlock] at hg'
            subst hg'
            rcases hat with e | e
            · exact hs6 g e
            · exact ⟨by omega, fun e2 => by have := (hw6.own.lt g e2).2; omega⟩
        case measure => simp [intOf]; omega
      · obtain ⟨rfl, rfl, rfl⟩ : fe = 2 ∧ t' = t ∧ V' = V := by
          rcases HSy.out with e | e
          · exact absurd e hfe
          · simpa using e
        clear hfe
        go_wp2_with fail
        have c6 := write_wr hw (by omega) K N VV hVV
        rw [HWD.out] at c6
        refine c6.mono ?_; rintro e w6 ⟨rfl, d6, y6, hw6, hk6⟩
        have hown6 := own_kw hown hk6 hs
        have hs6 := Sep2.kw hown hk6 hs
        have HB6 : Hid (Below W.heap.size W w6) := HB.out.trans (hw.kwBelow hk6)
        clear q0 q1 q2 c6 hw hk6 hown hs HB
        go_wp2_with fail
        go_roundw
        case rel => exact ⟨k + 1, t', V', d6, y6, D, by go_num, by omega, by omega, hw6, by omega, HB6.out, by omega, hown6, hs6, HWr.out⟩
        case measure => simp [intOf]; omega
    · have hcond : k < L.length → ¬ k < 100 := by omega
      have HC : Hid (k < L.length → ¬ k < 100) := hcond
      clear hcond hlt
      obtain ⟨pos, p0, p1, hpos⟩ := HWr.out.pos
      have HP : Hid (∀ j, j < D.length → Reads ys (pos j) (D.getD j (0, 0, 0)).1 (D.getD j (0, 0, 0)).2.1 (D.getD j (0, 0, 0)).2.2 (pos (j + 1))) := hpos ys t V hw.wv (Pre.refl _ _)
      have HP1 : Hid (pos D.length = t) := p1
      have HP0 : Hid (pos 0 = 0) := p0
      have HT : Hid (num ys t (8 * ys.length - t) = 0) := hw.wv.tail
      have HLn : Hid (ys.length = (t + 7) / 8) := hw.wv.len
      clear hpos p1 p0
      by_cases h1 : k < L.length
      all_goals
        have h2 : k < L.length → ¬ k < 100 := HC.out
        first | (have h3 : ¬ k < 100 := h2 h1; clear h2) | clear h2
        go_wp2_with fail
        refine (bytes_wr hw (by omega)).mono ?_; rintro e w2 ⟨a2, c2, rfl, ho2, hb2⟩
        have hown2 := own_below hown hb2
        have HB2 : Hid (Below W.heap.size W w2) := HB.out.trans (hb2.mono HB.out.size)
        go_wp2_with fail
        refine (new_any (SrcOf.ofOwn ho2) hw.wv.byt (by have := HLn.out; omega)).mono ?_; rintro e w3 ⟨r, v, rfl, hr3, hrl, hvl, hb3⟩
        have hown3 := own_below hown2 hb3
        have HB3 : Hid (Below W.heap.size W w3) := HB2.out.trans (hb3.mono HB2.out.size)
        have hBr : W.heap.size ≤ r := Nat.le_trans HB2.out.size hrl
        have hdr : (Value.slice a4 D.length c4).ownBlock ≠ some r := fun e => by have := (hown2.lt r e).2; omega
        clear hvl hb3 hb2 ho2 hown2 hown HB HB2 hw hs HWr hrl
        go_wp2_with fail
        go_loopw [7] (fun i wr => Bk2Inv W r v ys pos D (.slice a4 D.length c4) i wr) (fun i _ => D.length - (intOf i).toNat)
        case atStart => exact ⟨0, rfl, by omega, by rw [HP0.out]; exact hr3, HB3.out, hown3⟩
        case round =>
          clear hr3 hown3 HB3
          obtain ⟨j, rfl, hj, hr, hbW, hown⟩ := hrel
          have HB : Hid (Below W.heap.size W wr) := hbW
          clear hbW
          by_cases hlt : j < D.length
          · obtain ⟨g, cap, e1, hg1, hg2⟩ := hown.form (by omega)
            simp only [Value.slice.injEq, true_and] at e1
            obtain ⟨rfl, rfl⟩ := e1
            have hrd0 := HP.out j hlt
            obtain ⟨g0, g1, g2⟩ := ds_get D j hlt
            rw [← hown.cellAt (j * 3) (by omega)] at g0
            rw [← hown.cellAt (j * 3 + 1) (by omega)] at g1
            rw [← hown.cellAt (j * 3 + 2) (by omega)] at g2
            generalize D.getD j (0, 0, 0) = el at hrd0 g0 g1 g2
            obtain ⟨K, N, VV⟩ := el
            simp only at hrd0 g0 g1 g2
            obtain ⟨⟨val, er, p'⟩, hrd⟩ : ∃ y, rdOne ys (pos j) K N = y := ⟨_, rfl⟩
            unfold Reads at hrd0
            rw [hrd] at hrd0
            simp only [Prod.mk.injEq] at hrd0
            obtain ⟨⟨rfl, rfl⟩, hval⟩ := hrd0
            have HRD : Hid (rdOne ys (pos j) K N = (val, 0, pos (j + 1))) := hrd
            have HVal : Hid (bring5 K < 4 → val = VV) := hval
            have hb5 := bring5_lt K
            clear hrd hval
            go_wp2_with fail
            have c4 := read_rd hr K N (VV : Nat)
            rw [HRD.out] at c4
            refine c4.mono ?_; rintro e w4 ⟨rfl, hr4, hk4⟩
            have hown4 := own_kq hown hk4 hdr
            have HB4 : Hid (Below W.heap.size W w4) := HB.out.trans (hk4.toBelow hBr (by have := HB.out.size; omega))
            obtain ⟨y0, y1, y2⟩ := keptCells hk4 hg2 (fun e => hdr (by rw [← e]; rfl)) g0 g1 g2
            clear c4 hk4 hown hr g0 g1 g2 HB hg2
            go_wp2_with fail
            refine (bring_five K _).mono ?_; rintro e w5 ⟨rfl, rfl⟩
            by_cases hb4 : bring5 K < 4
            · obtain rfl := HVal.out hb4
              go_wp2_with fail
              go_roundw
              case rel => exact ⟨j + 1, by go_num, by omega, hr4, HB4.out, hown4⟩
              case measure => simp [intOf]; omega
            · have hb4' : decide (((bring5 K : Nat) : Int) < 4) = false := by simp; omega
              go_wp2_with fail
              go_roundw
              case rel => exact ⟨j + 1, by go_num, by omega, hr4, HB4.out, hown4⟩
              case measure => simp [intOf]; omega
          · obtain rfl : j = D.length := by omega
            rw [HP1.out] at hr
            have h7 : 8 * ys.length - t ≤ 7 := by have := HLn.out; omega
            have hal : rAlign ys t = (0, 8 * ys.length) := by
              unfold rAlign
              have e : (t + 7) / 8 * 8 = 8 * ys.length := by have := HLn.out; omega
              rw [e, if_pos HT.out]
            have HAl : Hid (rAlign ys t = (0, 8 * ys.length)) := hal
            clear hal
            go_wp2_with fail
            refine (left_rd hr).mono ?_; rintro e w4 ⟨rfl, hr4, hk4⟩
            have HB4 : Hid (Below W.heap.size W w4) := HB.out.trans (hk4.toBelow hBr)
            clear hr hk4 HB hown
            go_wp2_with fail
            have c5 := align_rd hr4
            rw [HAl.out] at c5
            refine c5.mono ?_; rintro e w5 ⟨rfl, hr5, hk5⟩
            have HB5 : Hid (Below W.heap.size W w5) := HB4.out.trans (hk5.toBelow hBr)
            clear c5 hr4 hk5 HB4
            go_wp2_with fail
            have c6 := left_rd hr5
            rw [show 8 * ys.length - (0, 8 * ys.length).2 = 0 from Nat.sub_self _] at c6
            refine c6.mono ?_; rintro e w6 ⟨rfl, hr6, hk6⟩
            have HB6 : Hid (Below W.heap.size W w6) := HB5.out.trans (hk6.toBelow hBr)
            clear c6 hr5 hk6 HB5
            go_wp2_with fail
            have c7 := rest_rd hr6
            rw [show ys.length - ((0, 8 * ys.length).2 + 7) / 8 = 0 from by show ys.length - (8 * ys.length + 7) / 8 = 0; omega] at c7
            refine c7.mono ?_; rintro e w7 ⟨a7, c7', rfl, ho7, hb7⟩
            have HB7 : Hid (Below W.heap.size W w7) := HB6.out.trans (hb7.mono HB6.out.size)
            clear c7 hr6 hb7 HB6 ho7
            go_wp2_with fail
            go_ret
            exact ⟨rfl, HB7.out⟩

end Go.Proofs.Ytiheldakkpbkgaa
