/- DERIVED. The walk of the statement BitsReads: a reader answers as the document's own. -/
import Derived.Test.YtiheldakkpbkgaaRgA
import Derived.Test.YtiheldakkpbkgaaRgC
import Derived.Test.YtiheldakkpbkgaaLwC
namespace Go.Proofs.Ytiheldakkpbkgaa
open Go.RowKit

theorem own_below2 {a b : World} {C e size n : Nat} {u : Value} {xs : List Value} (h : a.ownsRow C e size u n xs) (hb : Below a.heap.size a b) : b.ownsRow C e size u n xs := by
  have hlt := h.lt
  refine ⟨h.1, ?_⟩
  rcases h.2 with h1 | ⟨g, cap, cur, rfl, h2, h3, h4⟩
  · exact Or.inl h1
  · exact Or.inr ⟨g, cap, cur, rfl, h2, by rw [hb.block g (hlt g rfl).2]; exact h3, h4⟩
theorem u8_xor255 : ∀ z : Nat, z < 256 → bits .xor .u8 (z : Int) 255 = ((255 - z : Nat) : Int) := by decide +kernel
theorem own_cap2 {w : World} {B n g cap : Nat} {xs : List Value} (h : w.ownsRow B 5 1 (.slice (some ⟨g, 0, none⟩) n cap) n xs) : n ≤ cap := by
  rcases h.2 with ⟨h1, _⟩ | ⟨g', cap', cur, h1, _, _, h4, _⟩
  · simp at h1
  · simp only [Value.slice.injEq] at h1
    omega
theorem SrcOf.below {w w' : World} {v : Value} {zs : List Nat} (h : SrcOf w v zs) (hb : Below w.heap.size w w') : SrcOf w' v zs := by
  rcases h with h | ⟨ad, c, hv, hc⟩
  · exact Or.inl h
  · exact Or.inr ⟨ad, c, hv, fun j hj => by rw [hb.cell (World.block_lt_of_cell? w _ (hc j hj))]; exact hc j hj⟩
/-- a row in block G is turned about, as far as j -/
def XoG (w4 : World) (B G M cap N : Nat) (kv : Value) (wq : World) : Prop :=
  ∃ (j : Nat) (D : List Nat), kv = .int .i64 j ∧ j ≤ N ∧ D.length = M ∧ (∀ i, D.getD i 0 < 256) ∧ wq.ownsRow B 5 1 (.slice (some ⟨G, 0, none⟩) M cap) M (bs D) ∧ Kq G w4 wq
def XoI (w4 : World) (N : Nat) (a5 : Option Addr) (c5 : Nat) (kv : Value) (wq : World) : Prop :=
  ∃ (j : Nat) (D : List Nat), kv = .int .i64 j ∧ j ≤ N ∧ D.length = N ∧ (∀ i, D.getD i 0 < 256) ∧ wq.ownsRow w4.heap.size 5 1 (.slice a5 N c5) N (bs D) ∧ Below w4.heap.size w4 wq
theorem Kq.refl (r : Nat) (w : World) : Kq r w w := ⟨rfl, rfl, rfl, Nat.le_refl _, fun _ _ _ => rfl⟩
theorem Kq.set {r : Nat} {w w' : World} (h : Kq r w w') (j : Nat) (u : Value) : Kq r w (w'.setCell ⟨r, j, none⟩ u) :=
  h.trans ⟨rfl, rfl, rfl, by simp [World.setCell], fun k _ hk => Below.heap_setCell _ _ _ _ (by exact hk)⟩

/-- both readers, apart -/
structure Rp (w wr : World) (r : Nat) (v : Value) (x g c : Nat) (zs : List Nat) (p q : Nat) : Prop where
  rd : Rd wr r v zs p
  rf : Rf wr x g c zs q
  b : Below w.heap.size w wr
  a1 : r ≠ x
  a2 : r ≠ g
  a3 : v.ownBlock ≠ some x
  a4 : w.heap.size ≤ r
  a5 : w.heap.size ≤ x
theorem Rp.to {w wr w2 : World} {r x g c p q : Nat} {v : Value} {zs : List Nat} (h : Rp w wr r v x g c zs p q) (hb : Below wr.heap.size wr w2) : Rp w w2 r v x g c zs p q :=
  ⟨h.rd.below hb, h.rf.below hb, h.b.trans (hb.mono h.b.size), h.a1, h.a2, h.a3, h.a4, h.a5⟩
theorem Rp.kr {w wr w2 : World} {r x g c p q p2 : Nat} {v : Value} {zs : List Nat} (h : Rp w wr r v x g c zs p q) (hk : Kq r wr w2) (hr : Rd w2 r v zs p2) : Rp w w2 r v x g c zs p2 q :=
  ⟨hr, h.rf.carry (hk.block x h.rf.low h.a1.symm) (hk.block g h.rf.glow h.a2.symm) hk.size, h.b.trans (hk.toBelow h.a4 h.b.size), h.a1, h.a2, h.a3, h.a4, h.a5⟩
theorem Rp.kx {w wr w2 : World} {r x g c p q q2 : Nat} {v : Value} {zs : List Nat} (h : Rp w wr r v x g c zs p q) (hk : Kq x wr w2) (hf : Rf w2 x g c zs q2) : Rp w w2 r v x g c zs p q2 :=
  ⟨h.rd.carry (hk.block r h.rd.low h.a1) (fun g' hg => hk.block g' (h.rd.own_lt g' hg).1 (fun e => h.a3 (by rw [hg, e]))) hk.size, hf, h.b.trans (hk.toBelow h.a5 h.b.size), h.a1, h.a2, h.a3, h.a4, h.a5⟩
def RI (w : World) (n r : Nat) (v : Value) (x g c : Nat) (zs : List Nat) (iv : Value) (wr : World) : Prop :=
  ∃ k p : Nat, iv = .int .i64 k ∧ k ≤ n ∧ k ≤ 200 ∧ Rp w wr r v x g c zs p p
theorem drop_byte {zs : List Nat} (h : ∀ i, zs.getD i 0 < 256) (q : Nat) : ∀ i, (zs.drop q).getD i 0 < 256 := fun i => by rw [getD_drop]; exact h _
theorem own_len {w : World} {B : Nat} {a : Option Addr} {c n : Nat} {xs : List Nat} (h : w.ownsRow B 5 1 (.slice a n c) n (bs xs)) : xs.length = n := by have := h.1; rw [bs_length] at this; omega

set_option maxHeartbeats 8000000 in
set_option maxRecDepth 100000 in
theorem reads_walk {w : World} {a la : Option Addr} {c lc : Nat} {zs : List Nat} {L : List (Int × Int × Nat)} (h : SrcOf w (.slice a zs.length c) zs) (hz : ∀ i, zs.getD i 0 < 256) (hl : zs.length ≤ 1048576) (hd : DoAt w (.slice la L.length lc) L) (hLl : L.length ≤ 140737488355328) :
    Calls Try.prog 3 #[.slice a zs.length c, .slice la L.length lc] w fun e w' => e = .returned (.bool true) ∧ Below w.heap.size w w' := by
  obtain ⟨i, hi, hz0, hz1, hz2⟩ := info_parts Try.info5
  have HSRC : Hid (SrcOf w (.slice a zs.length c) zs) := h
  have HDo : Hid (DoAt w (.slice la L.length lc) L) := hd
  have HZ : Hid (∀ i, zs.getD i 0 < 256) := hz
  clear hd hz
  go_enter Try.func3, Try.ntmps3
  go_wp2_with fail
  refine (copy_any h (by omega)).mono ?_
  rintro e w1 ⟨a1, c1, rfl, ho1, hb1⟩
  have HB1 : Hid (Below w.heap.size w w1) := hb1
  have hb1s := hb1.size
  have hownA : (w1.alloc (.cells #[.int .u8 170, .int .u8 170] 5)).ownsRow w.heap.size 5 1 (.slice a1 zs.length c1) zs.length (bs zs) := ho1.alloc _
  have hnews : ∀ q u, (bs [170, 170])[q]? = some u → (w1.alloc (.cells #[.int .u8 170, .int .u8 170] 5)).cell? ((⟨w1.heap.size, 0, none⟩ : Addr).add q) = some u := World.news_of_block (cs := #[.int .u8 170, .int .u8 170]) (heap_alloc_new w1 _)
  have s0 : (0 : Int) ≤ (zs.length : Int) := by omega
  clear h hb1
  go_wp2_with (at_builtin; refine wpList_append_lies _ (by rfl) _ _ _ (by rfl) w.heap.size 5 i (.int .u8 0) 1 1 Try.underlying22 hi hz0 hz1 hz2 rfl (by omega) _ zs.length (bs zs) (by rfl) hownA ⟨w1.heap.size, 0, none⟩ 2 2 (bs [170, 170]) (by rfl) (by rfl) hnews (bs_one _) (by omega) (by unfold maxLen; omega) (by omega) (by simp; omega) (w1.heap.size + 1) (by simp) ?_; intro G cap w2 hown2 hgrow hat hlt1; have hcap : zs.length + 2 ≤ cap := own_cap2 hown2; have s1 : (zs.length : Int) ≤ (cap : Int) := by omega)
  have HO2 : Hid (w2.ownsRow w.heap.size 5 1 (.slice (some ⟨G, 0, none⟩) (zs.length + 2) cap) (zs.length + 2) (bs (zs ++ [170, 170]))) := by unfold Hid; rw [bs_append]; exact hown2
  have HB2 : Hid (Below w.heap.size w w2) := (HB1.out.alloc HB1.out.size _).grown hgrow (by simp; omega) (fun k hk => (ho1.lt k hk).1)
  have hsrc2 : SrcOf w2 (.slice (some ⟨G, 0, none⟩) zs.length cap) zs := Or.inr ⟨⟨G, 0, none⟩, cap, rfl, fun j hj => by
    rw [addr_add, Nat.zero_add, HO2.out.cellAt j (by omega), bs_get _ j (by rw [List.length_append]; simp; omega)]
    rw [List.getD_eq_getElem?_getD, List.getD_eq_getElem?_getD, List.getElem?_append_left hj]⟩
  clear hown2 hgrow hat hownA hnews ho1 HB1 hb1s
  refine (new_any hsrc2 HZ.out (by omega)).mono ?_
  rintro e w3 ⟨r, v', rfl, hrd, hrlo, hvlo, hb3⟩
  have HB3 : Hid (Below w2.heap.size w2 w3) := hb3
  have HRD : Hid _ := hrd
  have HVL : Hid (∀ g, v'.ownBlock = some g → w2.heap.size ≤ g) := hvlo
  clear hsrc2 hrd hvlo hb3
  go_wp2_with fail
  refine (rnew_any (HSRC.out.below (HB2.out.trans (HB3.out.mono HB2.out.size))) HZ.out hl).mono ?_
  rintro e w4 ⟨x, g, c4, rfl, hrf, hxlo, hglo, hb4⟩
  have hGl := (HO2.out.lt G rfl).2
  have hs3 := HB3.out.size
  have hs2 := HB2.out.size
  have hrl := HRD.out.low
  have HRP : Hid (Rp w w4 r v' x g c4 zs 0 0) := by
    refine ⟨HRD.out.below hb4, hrf, (HB2.out.trans (HB3.out.mono HB2.out.size)).trans (hb4.mono (Nat.le_trans hs2 hs3)), by omega, by omega, fun e => ?_, by omega, by omega⟩
    have := (HRD.out.own_lt x e).1
    omega
  have HO4 : Hid (w4.ownsRow w.heap.size 5 1 (.slice (some ⟨G, 0, none⟩) (zs.length + 2) cap) (zs.length + 2) (bs (zs ++ [170, 170]))) := own_below2 (own_below2 HO2.out HB3.out) hb4
  have HGN : Hid (G ≠ r ∧ v'.ownBlock ≠ some G ∧ G ≠ x ∧ G ≠ g ∧ w.heap.size ≤ G) := by
    refine ⟨by omega, fun e => ?_, by omega, by omega, (HO2.out.lt G rfl).1⟩
    have := HVL.out G e
    omega
  clear hrf hb4 HRD HVL HO2 HB2 HB3 hxlo hglo hGl hs3 hs2 hrl hrlo
  go_wp2_with fail
  go_loopw [8] (fun kv wq => XoG w4 w.heap.size G (zs.length + 2) cap zs.length kv wq) (fun kv _ => zs.length - (intOf kv).toNat)
  case atStart => exact ⟨0, zs ++ [170, 170], rfl, by omega, by simp, fun q => by
      by_cases hq : q < zs.length
      · rw [List.getD_eq_getElem?_getD, List.getElem?_append_left hq, ← List.getD_eq_getElem?_getD]; exact HZ.out q
      · rw [List.getD_eq_getElem?_getD, List.getElem?_append_right (by omega)]
        rcases (show q - zs.length = 0 ∨ q - zs.length = 1 ∨ 2 ≤ q - zs.length by omega) with e | e | e
        · simp [e]
        · simp [e]
        · rw [List.getElem?_eq_none (by simp; omega)]; simp, HO4.out, Kq.refl _ _⟩
  case round =>
    clear HO4
    obtain ⟨j, D, rfl, hj, hzl, hzb, hoz, hkq⟩ := hrel
    have HZL : Hid (D.length = zs.length + 2) := hzl
    have HKQ : Hid (Kq G w4 wr) := hkq
    clear hkq
    by_cases hjl : j < zs.length
    · skip
      have y1 : wr.cell? ⟨G, j, none⟩ = some (.int .u8 (D.getD j 0 : Nat)) := by rw [hoz.cellAt j (by omega)]; exact bs_get D j (by omega)
      have y3 : wr.frozen? ⟨G, j, none⟩ = false := hoz.frozenAt j
      have b1 := hzb j
      have HXR : Hid _ := u8_xor255 _ b1
      have HZB : Hid (∀ i, D.getD i 0 < 256) := hzb
      have HJL : Hid (j < zs.length) := hjl
      clear hzb hzl
      generalize hzj : D.getD j 0 = zj at *
      clear hzj
      have j0 : 0 ≤ (j : Int) := by omega
      have j1 : (j : Int) < (zs.length : Int) := by have := HJL.out; omega
      go_wp2_with fail
      go_roundw
      case rel =>
        refine ⟨j + 1, D.set j (255 - zj), by go_num, by have := HJL.out; omega, by rw [List.length_set]; exact HZL.out, ?_, ?_, HKQ.out.set j _⟩
        · intro q
          by_cases hq : q = j
          · subst hq
            rw [List.getD_eq_getElem?_getD, List.getElem?_set_self (by have := HZL.out; have := HJL.out; omega)]
            simp; omega
          · rw [List.getD_eq_getElem?_getD, List.getElem?_set_ne (Ne.symm hq), ← List.getD_eq_getElem?_getD]
            exact HZB.out q
        · rw [bs_set, ← HXR.out]
          exact (hoz.stored j _).1
      case measure => have := HJL.out; simp [intOf]; omega

    · have j1 : ¬ (j : Int) < (zs.length : Int) := by omega
      have HRW : Hid (Rp w wr r v' x g c4 zs 0 0) := by
        obtain ⟨n1, n2, n3, n4, n5⟩ := HGN.out
        have hk := HKQ.out
        have hp := HRP.out
        exact ⟨hp.rd.carry (hk.block r hp.rd.low (Ne.symm n1)) (fun g' hg => hk.block g' (hp.rd.own_lt g' hg).1 (fun e => n2 (by rw [hg, e]))) hk.size, hp.rf.carry (hk.block x hp.rf.low (Ne.symm n3)) (hk.block g hp.rf.glow (Ne.symm n4)) hk.size, hp.b.trans (hk.toBelow n5 hp.b.size), hp.a1, hp.a2, hp.a3, hp.a4, hp.a5⟩
      clear HRP HKQ hoz hzb hzl HZL HGN
      generalize wr = wo at *
      go_wp2_with fail
      go_loopw [9] (fun iv wr => RI w L.length r v' x g c4 zs iv wr) (fun iv _ => L.length - (intOf iv).toNat)
      case atStart => exact ⟨0, 0, rfl, by omega, by omega, HRW.out⟩
      case round =>
        clear HRW
        obtain ⟨k, p, rfl, hk1, hk2, hrp⟩ := hrel
        have HRP : Hid _ := hrp
        clear hrp
        by_cases hlt : k < L.length ∧ k < 200
        · obtain ⟨hlt1, hlt2⟩ := hlt
          obtain ⟨b, off, rfl, hbl, hq0, hq1, hq2, hVV⟩ := HDo.out.cells k hlt1
          generalize L.getD k (0, 0, 0) = el at hq0 hq1 hq2 hVV
          obtain ⟨K, NN, VV⟩ := el
          simp only at hq0 hq1 hq2 hVV
          replace hq0 : Hid _ := hq0
          replace hq1 : Hid _ := hq1
          replace hq2 : Hid _ := hq2
          obtain ⟨q0, q1, q2⟩ := doCells HRP.out.b hbl hq0 hq1 hq2
          have k0 : 0 ≤ (k : Int) := by omega
          have k1 : (k : Int) < (L.length : Int) := by omega
          have k2 : (k : Int) < 200 := by omega
          go_wp2_with fail
          refine (read_rd HRP.out.rd K NN VV).mono ?_
          rintro e w5 ⟨rfl, hr5, hk5⟩
          have HR5 : Hid _ := HRP.out.kr hk5 hr5
          clear hr5 hk5 q0 q1 q2
          obtain ⟨q0, q1, q2⟩ := doCells HR5.out.b hbl hq0 hq1 hq2
          go_wp2_with fail
          refine (want_rf HR5.out.rf K NN VV).mono ?_
          rintro e w6 ⟨rfl, hr6, hk6⟩
          have HR6 : Hid _ := HR5.out.kx hk6 hr6
          clear hr6 hk6 HR5 HRP q0 q1 q2
          generalize rdOne zs p K NN = R at *
          obtain ⟨rv, re, p2⟩ := R
          simp only at HR6 ⊢
          have t1 : ((rv : Int) != (rv : Int)) = false := by simp
          have t2 : ((re : Int) != (re : Int)) = false := by simp
          go_wp2_with fail
          refine (left_rd HR6.out.rd).mono ?_
          rintro e w7 ⟨rfl, hr7, hk7⟩
          have HR7 : Hid _ := HR6.out.kr hk7.kq hr7
          clear hr7 hk7 HR6
          go_wp2_with fail
          refine (left_rf HR7.out.rf).mono ?_
          rintro e w8 ⟨rfl, hr8, hk8⟩
          have HR8 : Hid _ := HR7.out.kx hk8.kq hr8
          clear hr8 hk8 HR7
          have t3 : (((8 * zs.length - p2 : Nat) : Int) != ((8 * zs.length - p2 : Nat) : Int)) = false := by simp
          generalize 8 * zs.length - p2 = lf at *
          by_cases h16 : k % 16 = 0
          · have t4 : ((k : Int).tmod 16 == 0) = true := by rw [Int.tmod_eq_emod_of_nonneg (by omega), beq_iff_eq]; omega
            go_wp2_with fail
            refine (rest_rd HR8.out.rd).mono ?_
            rintro e w9 ⟨a9, c9, rfl, ho9, hb9⟩
            have HR9 : Hid _ := HR8.out.to hb9
            have HO9 : Hid _ := ho9
            have HB9 : Hid (Below w8.heap.size w8 w9) := hb9
            clear ho9 hb9
            go_wp2_with fail
            refine (rrest_any HR9.out.rf).mono ?_
            rintro e w10 ⟨a10, c10, rfl, ho10, hb10⟩
            have ho910 := own_below2 HO9.out hb10
            have HB10 : Hid (Below w8.heap.size w8 w10) := HB9.out.trans (hb10.mono HB9.out.size)
            have hln := own_len ho910
            have c11 := eqBytes_own (xs := zs.drop ((p2 + 7) / 8)) (ys := zs.drop ((p2 + 7) / 8)) (va := .slice a9 (zs.length - (p2 + 7) / 8) c9) (vb := .slice a10 (zs.length - (p2 + 7) / 8) c10) (by rw [hln]; exact ho910) (by rw [hln]; exact ho10) (by omega) (drop_byte HZ.out _) (drop_byte HZ.out _)
            rw [show decide (zs.drop ((p2 + 7) / 8) = zs.drop ((p2 + 7) / 8)) = true from by simp] at c11
            go_wp2_with fail
            refine c11.mono ?_
            rintro e w11 ⟨rfl, hb11⟩
            have HB11 : Hid (Below w8.heap.size w8 w11) := HB10.out.trans (hb11.mono HB10.out.size)
            have HO11 : Hid (w11.ownsRow w8.heap.size 5 1 (.slice a9 (zs.length - (p2 + 7) / 8) c9) (zs.length - (p2 + 7) / 8) (bs (zs.drop ((p2 + 7) / 8)))) := own_below2 ho910 hb11
            have HDB : Hid (∀ i, (zs.drop ((p2 + 7) / 8)).getD i 0 < 256) := drop_byte HZ.out _
            have HLN : Hid ((zs.drop ((p2 + 7) / 8)).length = zs.length - (p2 + 7) / 8) := hln
            clear c11 ho910 ho10 hb10 hb11 HB10 HB9 HO9 HR9 hln
            have hNl : zs.length - (p2 + 7) / 8 ≤ 1048576 := by omega
            generalize zs.drop ((p2 + 7) / 8) = D0 at *
            generalize zs.length - (p2 + 7) / 8 = N at *
            go_wp2_with fail
            go_loopw [15] (fun kv wq => XoI w8 N a9 c9 kv wq) (fun kv _ => N - (intOf kv).toNat)
            case atStart => exact ⟨0, D0, rfl, by omega, HLN.out, HDB.out, HO11.out, HB11.out⟩
            case round =>
              clear HO11 HB11 HDB HLN
              obtain ⟨j, D, rfl, hj, hzl, hzb, hoz, hbz⟩ := hrel
              have HCz : Hid (Below w8.heap.size w8 wr) := hbz
              have HZL : Hid (D.length = N) := hzl
              clear hbz
              by_cases hjl : j < N
              · obtain ⟨G, cap, e1, hg1, hg2⟩ := hoz.form (by omega)
                simp only [Value.slice.injEq, true_and] at e1
                obtain ⟨rfl, rfl⟩ := e1
                have HG1 : Hid _ := hg1
                have y1 : wr.cell? ⟨G, j, none⟩ = some (.int .u8 (D.getD j 0 : Nat)) := by rw [hoz.cellAt j (by omega)]; exact bs_get D j (by omega)
                have y3 : wr.frozen? ⟨G, j, none⟩ = false := hoz.frozenAt j
                have b1 := hzb j
                have HXR : Hid _ := u8_xor255 _ b1
                have HZB : Hid (∀ i, D.getD i 0 < 256) := hzb
                have HJL : Hid (j < N) := hjl
                clear hzb hzl
                generalize hzj : D.getD j 0 = zj at *
                clear hzj
                have j0 : 0 ≤ (j : Int) := by omega
                have j1 : (j : Int) < (N : Int) := by have := HJL.out; omega
                go_wp2_with fail
                go_roundw
                case rel =>
                  refine ⟨j + 1, D.set j (255 - zj), by go_num, by have := HJL.out; omega, by rw [List.length_set]; exact HZL.out, ?_, ?_, HCz.out.setCell HG1.out _⟩
                  · intro q
                    by_cases hq : q = j
                    · subst hq
                      rw [List.getD_eq_getElem?_getD, List.getElem?_set_self (by have := HZL.out; have := HJL.out; omega)]
                      simp; omega
                    · rw [List.getD_eq_getElem?_getD, List.getElem?_set_ne (Ne.symm hq), ← List.getD_eq_getElem?_getD]
                      exact HZB.out q
                  · rw [bs_set, ← HXR.out]
                    exact (hoz.stored j _).1
                case measure => have := HJL.out; simp [intOf]; omega

              · have j1 : ¬ (j : Int) < (N : Int) := by omega
                go_wp2_with fail
                go_roundw
                case rel => exact ⟨k + 1, p2, by go_num, by omega, by omega, HR8.out.to HCz.out⟩
                case measure => simp [intOf]; omega
          · have t4 : ((k : Int).tmod 16 == 0) = false := by rw [Int.tmod_eq_emod_of_nonneg (by omega), beq_eq_false_iff_ne]; omega
            go_wp2_with fail
            go_roundw
            case rel => exact ⟨k + 1, p2, by go_num, by omega, by omega, HR8.out⟩
            case measure => simp [intOf]; omega
        · by_cases h1 : k < L.length
          all_goals
            first | (have h2 : ¬ (k : Int) < 200 := by omega) | skip
            first | (have h3 : (k : Int) < (L.length : Int) := by omega) | (have h3 : ¬ (k : Int) < (L.length : Int) := by omega)
            go_wp2_with fail
            refine (rest_rd HRP.out.rd).mono ?_
            rintro e w9 ⟨a9, c9, rfl, ho9, hb9⟩
            have HR9 : Hid _ := HRP.out.to hb9
            have HO9 : Hid _ := ho9
            clear ho9 hb9
            go_wp2_with fail
            refine (rrest_any HR9.out.rf).mono ?_
            rintro e w10 ⟨a10, c10, rfl, ho10, hb10⟩
            have ho910 := own_below2 HO9.out hb10
            have hln := own_len ho910
            have HB10 : Hid (Below w.heap.size w w10) := HR9.out.b.trans (hb10.mono HR9.out.b.size)
            have c11 := eqBytes_own (xs := zs.drop ((p + 7) / 8)) (ys := zs.drop ((p + 7) / 8)) (va := .slice a9 (zs.length - (p + 7) / 8) c9) (vb := .slice a10 (zs.length - (p + 7) / 8) c10) (by rw [hln]; exact ho910) (by rw [hln]; exact ho10) (by omega) (drop_byte HZ.out _) (drop_byte HZ.out _)
            rw [show decide (zs.drop ((p + 7) / 8) = zs.drop ((p + 7) / 8)) = true from by simp] at c11
            go_wp2_with fail
            refine c11.mono ?_
            rintro e w11 ⟨rfl, hb11⟩
            have HB11 : Hid (Below w.heap.size w w11) := HB10.out.trans (hb11.mono HB10.out.size)
            clear c11 ho910 ho10 hb10 hb11 HB10 HO9 HR9 hln HRP
            go_wp2_with fail
            refine (works_true _).mono ?_
            rintro e w12 ⟨rfl, hb12⟩
            have HB12 : Hid (Below w.heap.size w w12) := HB11.out.trans (hb12.mono HB11.out.size)
            clear hb12 HB11
            go_wp2_with fail
            go_ret
            exact ⟨rfl, HB12.out⟩

end Go.Proofs.Ytiheldakkpbkgaa
