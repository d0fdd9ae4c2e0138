/- DERIVED. The walk of the statement RacTakes: a decoder does as the document's. -/
import Derived.Test.YtogaekjohnbbiaaDoorRtC
import Derived.Test.YtogaekjohnbbiaaDoorLwF
namespace Go.Proofs.YtogaekjohnbbiaaDoor
open Go.RowKit

/-- what Take answers, and what it makes of a decoder -/
def dDo (zs : List Nat) (c g q lo hi : Nat) : Nat × Nat × Nat × Nat := if dMay c g lo hi then (0, (dTake zs c g q lo hi).1, (dTake zs c g q lo hi).2.1, (dTake zs c g q lo hi).2.2) else (2, c, g, q)
theorem dDo_ok {zs : List Nat} (hz : ∀ i, zs.getD i 0 < 256) {c g q lo hi : Nat} (hk : Dk c g) : Dk (dDo zs c g q lo hi).2.1 (dDo zs c g q lo hi).2.2.1 ∧ (dDo zs c g q lo hi).2.2.2 ≤ q + 2 := by
  unfold dDo
  split
  · rename_i h
    have ho := dTake_ok (q := q) hz h hk.below hk.least hk.most
    exact ⟨⟨ho.1, ho.2.1, ho.2.2.1⟩, ho.2.2.2.2⟩
  · exact ⟨hk, by simp⟩
theorem take_do {w : World} {x b : Nat} {zs : List Nat} {q c g : Nat} (h : Ds w x b zs q c g) (lo hi : Nat) :
    Calls Tryd.prog 23 #[.pointer (some ⟨x, 0, none⟩), .int .u32 lo, .int .u32 hi] w fun e w' => e = .returned (.int .i64 (dDo zs c g q lo hi).1) ∧ Ds w' x b zs (dDo zs c g q lo hi).2.2.2 (dDo zs c g q lo hi).2.1 (dDo zs c g q lo hi).2.2.1 ∧ Kp x w w' := by
  by_cases hm : dMay c g lo hi
  · unfold dDo
    rw [if_pos hm]
    exact take_ds h lo hi hm
  · unfold dDo
    rw [if_neg hm]
    refine (take_no h.1 h.2 lo hi hm).mono ?_
    rintro e w' ⟨rfl, n, rfl⟩
    exact ⟨rfl, h.same rfl, (Kp.refl _ _).drewN n⟩
theorem rtake_do {w : World} {x b : Nat} {zs : List Nat} {q c g : Nat} (h : Df w x b zs q c g) (hk : Dk c g) (hq : q + 2 < 1099511627776) (lo hi : Nat) :
    Calls Tryd.prog 24 #[.pointer (some ⟨x, 0, none⟩), .int .u32 lo, .int .u32 hi] w fun e w' => e = .returned (.int .i64 (dDo zs c g q lo hi).1) ∧ Df w' x b zs (dDo zs c g q lo hi).2.2.2 (dDo zs c g q lo hi).2.1 (dDo zs c g q lo hi).2.2.1 ∧ Kp x w w' := by
  by_cases hm : dMay c g lo hi
  · unfold dDo
    rw [if_pos hm]
    exact rtake_yes h hk hq lo hi hm
  · unfold dDo
    rw [if_neg hm]
    refine (rtake_no h hk lo hi hm).mono ?_
    rintro e w' ⟨rfl, n, rfl⟩
    exact ⟨rfl, h.same rfl, (Kp.refl _ _).drewN n⟩

/-- both decoders beside one another -/
structure Tk (W w : World) (zs : List Nat) (x1 b1 x2 b2 q1 c1 g1 q2 c2 g2 : Nat) : Prop where
  d : Ds w x1 b1 zs q1 c1 g1
  f : Df w x2 b2 zs q2 c2 g2
  a12 : ¬ DB x2 b2 zs x1
  a21 : ¬ DB x1 b1 zs x2
  l1 : W.heap.size ≤ x1
  l2 : W.heap.size ≤ x2
  m1 : zs ≠ [] → b1 < w.heap.size
  m2 : zs ≠ [] → b2 < w.heap.size
  bel : Below W.heap.size W w
section
variable {W w w' : World} {zs : List Nat} {x1 b1 x2 b2 q1 c1 g1 q2 c2 g2 : Nat}
theorem Tk.below (h : Tk W w zs x1 b1 x2 b2 q1 c1 g1 q2 c2 g2) (hb : Below w.heap.size w w') : Tk W w' zs x1 b1 x2 b2 q1 c1 g1 q2 c2 g2 :=
  ⟨h.d.below hb, h.f.below hb, h.a12, h.a21, h.l1, h.l2, fun e => Nat.lt_of_lt_of_le (h.m1 e) hb.size, fun e => Nat.lt_of_lt_of_le (h.m2 e) hb.size, h.bel.trans (hb.mono h.bel.size)⟩
theorem Tk.drewN (h : Tk W w zs x1 b1 x2 b2 q1 c1 g1 q2 c2 g2) (n : Nat) : Tk W (w.drewN n) zs x1 b1 x2 b2 q1 c1 g1 q2 c2 g2 := h.below (below_drewN (Below.refl _ _) n)
theorem Tk.step1 (h : Tk W w zs x1 b1 x2 b2 q1 c1 g1 q2 c2 g2) {q c g : Nat} (hk : Kp x1 w w') (hd : Ds w' x1 b1 zs q c g) : Tk W w' zs x1 b1 x2 b2 q c g q2 c2 g2 :=
  ⟨hd, h.f.kp hk (fun e => h.a12 (Or.inl e.symm)) (fun hz e => h.a12 (Or.inr ⟨hz, e.symm⟩)), h.a12, h.a21, h.l1, h.l2, by rw [hk.size]; exact h.m1, by rw [hk.size]; exact h.m2, h.bel.trans (hk.toBelow h.l1)⟩
theorem Tk.step2 (h : Tk W w zs x1 b1 x2 b2 q1 c1 g1 q2 c2 g2) {q c g : Nat} (hk : Kp x2 w w') (hd : Df w' x2 b2 zs q c g) : Tk W w' zs x1 b1 x2 b2 q1 c1 g1 q c g :=
  ⟨h.d.kp2 hk h.a21, hd, h.a12, h.a21, h.l1, h.l2, by rw [hk.size]; exact h.m1, by rw [hk.size]; exact h.m2, h.bel.trans (hk.toBelow h.l2)⟩
/-- a third thing's block turns -/
theorem Tk.kp (h : Tk W w zs x1 b1 x2 b2 q1 c1 g1 q2 c2 g2) {y : Nat} (hk : Kp y w w') (h1 : ¬ DB x1 b1 zs y) (h2 : ¬ DB x2 b2 zs y) (hy : W.heap.size ≤ y) : Tk W w' zs x1 b1 x2 b2 q1 c1 g1 q2 c2 g2 :=
  ⟨h.d.kp2 hk h1, h.f.kp hk (fun e => h2 (Or.inl e.symm)) (fun hz e => h2 (Or.inr ⟨hz, e.symm⟩)), h.a12, h.a21, h.l1, h.l2, by rw [hk.size]; exact h.m1, by rw [hk.size]; exact h.m2, h.bel.trans (hk.toBelow hy)⟩
theorem Tk.nd1 (h : Tk W w zs x1 b1 x2 b2 q1 c1 g1 q2 c2 g2) : ¬ DB x1 b1 zs w.heap.size := by
  rintro (e | ⟨hz, e⟩)
  · have := h.d.1.low; omega
  · have := h.m1 hz; omega
theorem Tk.nd2 (h : Tk W w zs x1 b1 x2 b2 q1 c1 g1 q2 c2 g2) : ¬ DB x2 b2 zs w.heap.size := by
  rintro (e | ⟨hz, e⟩)
  · have := h.f.low; omega
  · have := h.m2 hz; omega
end

theorem own_below {a b : World} {C n : Nat} {u : Value} {xs : List Value} (h : a.ownsRow C 5 1 u n xs) (hb : Below a.heap.size a b) : b.ownsRow C 5 1 u n xs := by
  have hlt := h.lt
  refine ⟨h.1, ?_⟩
  rcases h.2 with h1 | ⟨g, cap, cur, rfl, h2, h3, h4⟩
  · exact Or.inl h1
  · exact Or.inr ⟨g, cap, cur, rfl, h2, by rw [hb.block g (hlt g rfl).2]; exact h3, h4⟩
theorem u8_xor255 : ∀ z : Nat, z < 256 → bits .xor .u8 (z : Int) 255 = ((255 - z : Nat) : Int) := by decide +kernel

/-- the bytes that were handed in turn about -/
def XoInv (W : World) (zs : List Nat) (x1 b1 x2 b2 : Nat) (a : Option Addr) (n cc : Nat) (C : Nat) (i : Value) (wr : World) : Prop :=
  ∃ (k : Nat) (ys : List Nat), i = .int .i64 k ∧ k ≤ n ∧ wr.ownsRow C 5 1 (.slice a n cc) n (bs ys) ∧ ys.length = n ∧ (∀ i, ys.getD i 0 < 256) ∧ Tk W wr zs x1 b1 x2 b2 4 (dFirst zs) 4294967295 4 (dFirst zs) 4294967295
def TkInv (W : World) (n : Nat) (zs : List Nat) (x1 b1 x2 b2 : Nat) (i : Value) (wr : World) : Prop :=
  ∃ (k q c g : Nat), i = .int .i64 k ∧ k ≤ n ∧ k ≤ 300 ∧ Dk c g ∧ q ≤ 4 + 2 * k ∧ Tk W wr zs x1 b1 x2 b2 q c g q c g

set_option maxHeartbeats 2000000 in
set_option maxRecDepth 100000 in
theorem takes_walk (W : World) (vb : Value) (zs : List Nat) (a : Option Addr) (cp : Nat) (L : List (Nat × Nat)) (hb : SrcOf W vb zs) (hz : ∀ i, zs.getD i 0 < 256) (hzl : zs.length ≤ 140737488355328) (hL : PtAt W (.slice a L.length cp) L) (hLl : L.length ≤ 140737488355328) :
    Calls Tryd.prog 4 #[vb, .slice a L.length cp] W fun e w' => e = .returned (.bool true) ∧ Below W.heap.size W w' := by
  have HPt : Hid (PtAt W (.slice a L.length cp) L) := hL
  have HSr : Hid (SrcOf W vb zs) := hb
  have HZ : Hid (∀ i, zs.getD i 0 < 256) := hz
  clear hL hb hz
  go_enter Tryd.func4, Tryd.ntmps4
  go_wp2_with fail
  refine (copy_any HSr.out hzl).mono ?_; rintro e u1 ⟨a1, c1, rfl, ho1, hu1⟩
  go_wp2_with fail
  refine (read_core (SrcOf.ofOwn ho1) HZ.out hzl).mono ?_; rintro e u2 ⟨x1, rfl, b1, hd2, hx1, hb1, hb1l, hbel2⟩
  have HU2 : Hid (Below W.heap.size W u2) := hu1.trans (hbel2.mono hu1.size)
  have ho2 := own_below ho1 hbel2
  have hlt1 := ho1.lt
  have hsz1 := hu1.size
  have hs1 := hd2.low
  clear ho1 hbel2
  go_wp2_with fail
  refine (rread_any (HSr.out.below HU2.out) HZ.out hzl).mono ?_; rintro e u3 ⟨x2, rfl, b2, hd3, hx2, hb2, hb2l, hbel3⟩
  have ho3 := own_below ho2 hbel3
  have hT : Tk W u3 zs x1 b1 x2 b2 4 (dFirst zs) 4294967295 4 (dFirst zs) 4294967295 := by
    refine ⟨⟨hd2.below hbel3, dFirst_ok⟩, hd3, ?_, ?_, by omega, Nat.le_trans HU2.out.size hx2, fun e => Nat.lt_of_lt_of_le (hb1l e) hbel3.size, hb2l, HU2.out.trans (hbel3.mono HU2.out.size)⟩
    · rintro (e | ⟨hz, e⟩)
      · omega
      · omega
    · rintro (e | ⟨hz, e⟩)
      · omega
      · have := hb1l hz; omega
  have HF : Hid (∀ y, (Value.slice a1 zs.length c1).ownBlock = some y → ¬ DB x1 b1 zs y ∧ ¬ DB x2 b2 zs y ∧ W.heap.size ≤ y) := fun y hy => by
    have h1 := hlt1 y hy
    have h2 := hbel3.size
    have h3 := HU2.out.size
    refine ⟨?_, ?_, h1.1⟩
    · rintro (e | ⟨hz, e⟩)
      · omega
      · omega
    · rintro (e | ⟨hz, e⟩)
      · omega
      · omega
  clear hd2 hd3 hx1 hb1 hb1l hx2 hb2 hb2l hbel3 ho2 hlt1 hsz1 hs1 HU2 HSr hu1
  go_wp2_with fail
  go_loopw [8] (fun i wr => XoInv W zs x1 b1 x2 b2 a1 zs.length c1 W.heap.size i wr) (fun i _ => zs.length - (intOf i).toNat)
  case atStart => exact ⟨0, zs, rfl, by omega, ho3, rfl, HZ.out, hT⟩
  case round =>
    clear hT ho3
    obtain ⟨k, ys, rfl, hk, hown, hyl, hyb, hT⟩ := hrel
    by_cases hlt : k < zs.length
    · obtain ⟨gb, cap, hfm, _, hgb⟩ := hown.form (by omega)
      simp only [Value.slice.injEq, true_and] at hfm
      obtain ⟨rfl, rfl⟩ := hfm
      have hfar := HF.out gb rfl
      have hc := hown.cellAt k (by omega)
      rw [bs_get ys k (by omega)] at hc
      have hf := hown.frozenAt k
      have hzk := hyb k
      have hst := fun v => (hown.stored k v).1
      have HST : Hid _ := hst
      have HYB : Hid _ := hyb
      have HYL : Hid _ := hyl
      have HT : Hid _ := hT
      clear hst hown hyb hyl hT
      generalize ys.getD k 0 = z at *
      have HX : Hid _ := u8_xor255 z hzk
      go_wp2_with fail
      go_roundw
      case rel =>
        rw [HX.out]
        refine ⟨k + 1, ys.set k (255 - z), by go_num, by omega, ?_, by rw [List.length_set]; exact HYL.out, byt_set HYB.out (by have := HYL.out; omega) (by omega), HT.out.kp (Kp.set _ _ _ _) hfar.1 hfar.2.1 hfar.2.2⟩
        rw [bs_set]
        exact HST.out _
      case measure => simp [intOf]; omega
    · go_wp2_with fail
      clear hown hyb hyl HF
      go_loopw [9] (fun i wr => TkInv W L.length zs x1 b1 x2 b2 i wr) (fun i _ => L.length - (intOf i).toNat)
      case atStart => exact ⟨0, 4, _, _, rfl, by omega, by omega, dFirst_ok, by omega, hT⟩
      case round =>
        clear hT hlt hk
        obtain ⟨k, q, c, g, rfl, hk1, hk2, hdk, hqk, hT⟩ := hrel
        have HDK : Hid _ := hdk
        have HQK : Hid _ := hqk
        have HVA1 : Hid (∀ u, Ds u x1 b1 zs q c g → Calls Tryd.prog 20 #[.pointer (some ⟨x1, 0, none⟩)] u fun e w' => e = .returned (.tuple #[.int .u32 (dVal c g : Nat), .int .i64 0]) ∧ ∃ k, w' = u.drewN k) := fun u h => value_dc h.1 h.2
        have HVA2 : Hid (∀ u, Df u x2 b2 zs q c g → Calls Tryd.prog 21 #[.pointer (some ⟨x2, 0, none⟩)] u fun e w' => e = .returned (.tuple #[.int .u32 (dVal c g : Nat), .int .i64 0]) ∧ ∃ k, w' = u.drewN k) := fun u h => value_df h HDK.out
        have HDL : Hid _ := dVal_lt c g
        generalize dVal c g = v at *
        clear hdk hqk
        by_cases hlt : k < L.length ∧ k < 300
        · obtain ⟨hlt1, hlt2⟩ := hlt
          obtain ⟨pb, off, rfl, hbl, hq0, hq1, hP, hQ⟩ := HPt.out.cells k hlt1
          generalize L.getD k (0, 0) = el at hq0 hq1 hP hQ
          obtain ⟨P, Q⟩ := el
          simp only at hq0 hq1 hP hQ
          replace hq0 : Hid _ := hq0
          replace hq1 : Hid _ := hq1
          have HTK : Hid (∀ u lo hi, Ds u x1 b1 zs q c g → Calls Tryd.prog 23 #[.pointer (some ⟨x1, 0, none⟩), .int .u32 (lo : Nat), .int .u32 (hi : Nat)] u fun e w' => e = .returned (.int .i64 (dDo zs c g q lo hi).1) ∧ Ds w' x1 b1 zs (dDo zs c g q lo hi).2.2.2 (dDo zs c g q lo hi).2.1 (dDo zs c g q lo hi).2.2.1 ∧ Kp x1 u w') := fun u lo hi h => take_do h lo hi
          have HTR : Hid (∀ u lo hi, Df u x2 b2 zs q c g → Calls Tryd.prog 24 #[.pointer (some ⟨x2, 0, none⟩), .int .u32 (lo : Nat), .int .u32 (hi : Nat)] u fun e w' => e = .returned (.int .i64 (dDo zs c g q lo hi).1) ∧ Df w' x2 b2 zs (dDo zs c g q lo hi).2.2.2 (dDo zs c g q lo hi).2.1 (dDo zs c g q lo hi).2.2.1 ∧ Kp x2 u w') := fun u lo hi h => rtake_do h HDK.out (by have := HQK.out; omega) lo hi
          have HOK : Hid (∀ lo hi, Dk (dDo zs c g q lo hi).2.1 (dDo zs c g q lo hi).2.2.1 ∧ (dDo zs c g q lo hi).2.2.2 ≤ q + 2) := fun lo hi => dDo_ok HZ.out HDK.out
          go_wp2_with fail
          refine (HVA1.out _ hT.d).mono ?_; rintro e w1 ⟨rfl, n1, rfl⟩
          have hT1 := hT.drewN n1
          clear hT
          generalize wr.drewN n1 = w1 at *
          go_wp2_with fail
          refine (HVA2.out _ hT1.f).mono ?_; rintro e w2 ⟨rfl, n2, rfl⟩
          have hT2 := hT1.drewN n2
          clear hT1
          generalize w1.drewN n2 = w2 at *
          obtain ⟨cc0, cc1⟩ := ptCells hT2.bel hbl hq0 hq1
          have hTp := hT2.below ((Below.refl _ _).alloc (Nat.le_refl _) (.cells #[.int .u32 (P : Nat), .int .u32 (Q : Nat)] 31))
          have hp1 : w2.heap.size ≠ x1 := by have := hT2.d.1.low; omega
          have hp2 : w2.heap.size ≠ x2 := by have := hT2.f.low; omega
          have HPW : Hid (W.heap.size ≤ w2.heap.size) := hT2.bel.size
          have hpb1 : ¬ DB x1 b1 zs w2.heap.size := hT2.nd1
          have hpb2 : ¬ DB x2 b2 zs w2.heap.size := hT2.nd2
          have HN1 : Hid _ := hpb1
          have HN2 : Hid _ := hpb2
          have hPv := Pv.made (w := w2) (S1 := fun _ => False) (S2 := fun _ => False) P Q (fun _ h => h.elim) (fun _ h => h.elim)
          clear hT2 hpb1 hpb2
          by_cases h4 : k % 4 = 0
          · have h4' : decide ((0 : Int) < (k : Int) % 4) = false := by simp; omega
            have hTx := hTp
            have hPx := hPv
            clear hTp hPv
            go_wp2_with fail
            have hTd := hTx.below (Below.drew (Below.refl _ _))
            have hPd := hPx.below (Below.drew (Below.refl _ _))
            clear hTx hPx
            have d0 := hPd.c0
            have d1 := hPd.c1
            go_region_held3 (fun u => u.cell? ⟨w2.heap.size, 0, none⟩ = some (.int .u32 (P : Nat)) ∧ u.cell? ⟨w2.heap.size, 1, none⟩ = some (.int .u32 (Q : Nat))) (((try dsimp only); first | assumption | (refine ⟨?_, ?_⟩ <;> first | assumption | go_keep) | go_keep)) (first
              | (go_at_call 23; refine (HTK.out _ P Q (Tk.d (by assumption))).mono ?_; rintro e wA ⟨rfl, hdA, hkA⟩; have hTA := Tk.step1 (by assumption) hkA hdA; have hPA := Pv.kp (by assumption) hkA hp1; have pA0 := hPA.c0; have pA1 := hPA.c1)
              | (go_at_call 24; refine (HTR.out _ P Q (Tk.f (by assumption))).mono ?_; rintro e wB ⟨rfl, hdB, hkB⟩; have hTB := Tk.step2 (by assumption) hkB hdB; have hPB := Pv.kp (by assumption) hkB hp2; have pB0 := hPB.c0; have pB1 := hPB.c1))
            all_goals
              have HOK2 : Hid _ := HOK.out P Q
              generalize dDo zs c g q P Q = s at *
              obtain ⟨R, c', g', q'⟩ := s
              have hRR : ((R : Int) != (R : Int)) = false := by simp
              go_wp2_with fail
              refine ⟨⟨k + 1, q', c', g', by go_num, by omega, by omega, HOK2.out.1, by have h1 := HOK2.out.2; have h2 := HQK.out; simp only at h1; omega, ?_⟩, by simp [intOf]; omega⟩
              first | exact hTB | exact hTA
          · have h4' : decide ((0 : Int) < (k : Int) % 4) = true := by simp; omega
            have HAB : Hid _ := fun u => about_any v P Q u HDL.out hP hQ
            generalize aLo v P = al at *
            generalize aHi v Q = ah at *
            go_wp2_with fail
            refine (HAB.out _).mono ?_; rintro e wb ⟨rfl, hbb⟩
            have hTb := hTp.below hbb
            have hPb := hPv.below hbb
            have p0 := hPb.c0
            have p1 := hPb.c1
            have f0 := newFrozen hbb w2.heap.size 0 (by simp)
            have f1 := newFrozen hbb w2.heap.size 1 (by simp)
            simp at f0 f1
            clear hTp hPv
            have hTx := hTb.kp ((Kp.set w2.heap.size 0 wb (.int .u32 (al : Nat))).trans (Kp.set w2.heap.size 1 _ (.int .u32 (ah : Nat)))) HN1.out HN2.out HPW.out
            have hPx : Pv ((wb.setCell ⟨w2.heap.size, 0, none⟩ (.int .u32 (al : Nat))).setCell ⟨w2.heap.size, 1, none⟩ (.int .u32 (ah : Nat))) w2.heap.size (fun _ => False) (fun _ => False) al ah :=
              ⟨by rw [World.cell?_setCell_other _ _ _ _ (by simp)]; exact World.cell?_setCell_same _ _ _ p0, World.cell?_setCell_same _ _ _ ((World.cell?_setCell_other _ _ _ _ (by simp)).trans p1), by have := hPb.lt; simpa [World.setCell] using this, id, id⟩
            clear hTb hPb
            go_wp2_with fail
            generalize (wb.setCell ⟨w2.heap.size, 0, none⟩ (.int .u32 (al : Nat))).setCell ⟨w2.heap.size, 1, none⟩ (.int .u32 (ah : Nat)) = wx at *
            clear p0 p1
            have p0 := hPx.c0
            have p1 := hPx.c1
            have hTd := hTx.below (Below.drew (Below.refl _ _))
            have hPd := hPx.below (Below.drew (Below.refl _ _))
            clear hTx hPx
            have d0 := hPd.c0
            have d1 := hPd.c1
            go_region_held3 (fun u => u.cell? ⟨w2.heap.size, 0, none⟩ = some (.int .u32 (al : Nat)) ∧ u.cell? ⟨w2.heap.size, 1, none⟩ = some (.int .u32 (ah : Nat))) (((try dsimp only); first | assumption | (refine ⟨?_, ?_⟩ <;> first | assumption | go_keep) | go_keep)) (first
              | (go_at_call 23; refine (HTK.out _ al ah (Tk.d (by assumption))).mono ?_; rintro e wA ⟨rfl, hdA, hkA⟩; have hTA := Tk.step1 (by assumption) hkA hdA; have hPA := Pv.kp (by assumption) hkA hp1; have pA0 := hPA.c0; have pA1 := hPA.c1)
              | (go_at_call 24; refine (HTR.out _ al ah (Tk.f (by assumption))).mono ?_; rintro e wB ⟨rfl, hdB, hkB⟩; have hTB := Tk.step2 (by assumption) hkB hdB; have hPB := Pv.kp (by assumption) hkB hp2; have pB0 := hPB.c0; have pB1 := hPB.c1))
            all_goals
              have HOK2 : Hid _ := HOK.out al ah
              generalize dDo zs c g q al ah = s at *
              obtain ⟨R, c', g', q'⟩ := s
              have hRR : ((R : Int) != (R : Int)) = false := by simp
              go_wp2_with fail
              refine ⟨⟨k + 1, q', c', g', by go_num, by omega, by omega, HOK2.out.1, by have h1 := HOK2.out.2; have h2 := HQK.out; simp only at h1; omega, ?_⟩, by simp [intOf]; omega⟩
              first | exact hTB | exact hTA
        · by_cases h1 : k < L.length
          · have h2 : ¬ k < 300 := by omega
            clear hlt
            go_wp2_with fail
            refine (HVA1.out _ hT.d).mono ?_; rintro e w1 ⟨rfl, n1, rfl⟩
            have hT1 := hT.drewN n1
            clear hT
            generalize wr.drewN n1 = w1 at *
            go_wp2_with fail
            refine (HVA2.out _ hT1.f).mono ?_; rintro e w2 ⟨rfl, n2, rfl⟩
            have hT2 := hT1.drewN n2
            clear hT1
            generalize w1.drewN n2 = w2 at *
            go_wp2_with fail
            refine (works_true w2).mono ?_; rintro e w3 ⟨rfl, hb3⟩
            have HB3 : Hid (Below W.heap.size W w3) := hT2.bel.trans (hb3.mono hT2.bel.size)
            clear hT2 hb3
            go_wp2_with fail
            go_ret
            exact ⟨rfl, HB3.out⟩
          · clear hlt
            go_wp2_with fail
            refine (HVA1.out _ hT.d).mono ?_; rintro e w1 ⟨rfl, n1, rfl⟩
            have hT1 := hT.drewN n1
            clear hT
            generalize wr.drewN n1 = w1 at *
            go_wp2_with fail
            refine (HVA2.out _ hT1.f).mono ?_; rintro e w2 ⟨rfl, n2, rfl⟩
            have hT2 := hT1.drewN n2
            clear hT1
            generalize w1.drewN n2 = w2 at *
            go_wp2_with fail
            refine (works_true w2).mono ?_; rintro e w3 ⟨rfl, hb3⟩
            have HB3 : Hid (Below W.heap.size W w3) := hT2.bel.trans (hb3.mono hT2.bel.size)
            clear hT2 hb3
            go_wp2_with fail
            go_ret
            exact ⟨rfl, HB3.out⟩

end Go.Proofs.YtogaekjohnbbiaaDoor
