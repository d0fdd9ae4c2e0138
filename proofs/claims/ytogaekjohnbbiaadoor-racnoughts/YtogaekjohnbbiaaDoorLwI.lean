/- DERIVED. The walk of the statement RacNoughts: noughts at the end do not count. -/
import Derived.Test.YtogaekjohnbbiaaDoorRnB
namespace Go.Proofs.YtogaekjohnbbiaaDoor
open Go.RowKit

def NoInv (W : World) (n : Nat) (z1 z2 z3 : List Nat) (x1 b1 x2 b2 x3 b3 : Nat) (i : Value) (wr : World) : Prop :=
  ∃ (k q c g : Nat), i = .int .i64 k ∧ k ≤ n ∧ k ≤ 200 ∧ N3 W wr z1 z2 z3 x1 b1 x2 b2 x3 b3 q c g q c g q c g

theorem replicate_bs (m : Nat) : List.replicate m (Value.int .u8 0) = bs (List.replicate m 0) := by simp [bs]
theorem byt_alike {xs ys : List Nat} (h : ∀ i, xs.getD i 0 = ys.getD i 0) (hy : ∀ i, ys.getD i 0 < 256) : ∀ i, xs.getD i 0 < 256 := fun i => by rw [h]; exact hy i

set_option maxHeartbeats 400000 in
set_option maxRecDepth 100000 in
theorem noughts_some (W : World) (bb o0 c0 : Nat) (zs : List Nat) (nn : Int) (a : Option Addr) (cp : Nat) (L : List (Nat × Nat)) (hc : ∀ j, j < zs.length → W.cell? ⟨bb, o0 + j, none⟩ = some (.int .u8 (zs.getD j 0 : Nat))) (hcap : zs.length ≤ c0) (h0 : 0 < zs.length) (hz : ∀ i, zs.getD i 0 < 256) (hzl : zs.length ≤ 140737488351232) (hL : PtAt W (.slice a L.length cp) L) (hLl : L.length ≤ 140737488355328) :
    Calls Tryd.prog 7 #[.slice (some ⟨bb, o0, none⟩) zs.length c0, .int .i64 nn, .slice a L.length cp] W fun e w' => e = .returned (.bool true) ∧ Below W.heap.size W w' := by
  have HPt : Hid (PtAt W (.slice a L.length cp) L) := hL
  have HC : Hid (∀ j, j < zs.length → W.cell? ⟨bb, o0 + j, none⟩ = some (.int .u8 (zs.getD j 0 : Nat))) := hc
  have HZ : Hid (∀ i, zs.getD i 0 < 256) := hz
  have hbb : bb < W.heap.size := World.block_lt_of_cell? W _ (hc 0 h0)
  have HTL : Hid _ := tl_ok zs zs.length
  clear hL hc hz
  go_enter Tryd.func7, Tryd.ntmps7
  go_wp2_with fail
  refine (works_true W).mono ?_; rintro e u1 ⟨rfl, hu1⟩
  have HU1 : Hid _ := hu1
  clear hu1
  go_wp2_with fail
  go_loop [7] (fun i => ∃ m : Nat, i = .int .i64 m ∧ m ≤ zs.length ∧ Hid (tl zs m = tl zs zs.length)) (fun i => (intOf i).toNat)
  case atStart => exact ⟨zs.length, rfl, Nat.le_refl _, rfl⟩
  case round =>
    obtain ⟨m, rfl, hm, HT⟩ := hrel
    by_cases hcont : 0 < m ∧ zs.getD (m - 1) 0 = 0
    · obtain ⟨hm0, hzm⟩ := hcont
      obtain ⟨m, rfl⟩ : ∃ m', m = m' + 1 := ⟨m - 1, by omega⟩
      rw [Nat.add_sub_cancel] at hzm
      have hcm := (HU1.out.cell (p := ⟨bb, o0 + m, none⟩) hbb).trans (HC.out m (by omega))
      rw [hzm] at hcm
      have h0' : ((0 : Int) < ((m + 1 : Nat) : Int)) := by omega
      go_wp2_with fail
      go_round
      case rel =>
        have ht := HT.out
        rw [tl, if_pos hzm] at ht
        exact ⟨m, by go_num, by omega, ht⟩
      case measure => simp [intOf]
    · have hsh : m = tl zs zs.length := by
        have ht := HT.out
        rcases m with _ | m
        · rw [tl] at ht; exact ht
        · have hzm : ¬ zs.getD m 0 = 0 := fun e => hcont ⟨by omega, by simpa using e⟩
          rw [tl, if_neg hzm] at ht
          exact ht
      have HSH : Hid _ := hsh
      have hcases : m = 0 ∨ ∃ p, m = p + 1 ∧ ¬ zs.getD p 0 = 0 := by
        rcases m with _ | m
        · exact Or.inl rfl
        · exact Or.inr ⟨m, rfl, fun e => hcont ⟨by omega, by simpa using e⟩⟩
      clear hcont hsh HT
      rcases hcases with rfl | ⟨p, rfl, hzp⟩
      · go_wp2_with fail
        have hsrc : SrcOf u1 (.slice (some ⟨bb, o0, none⟩) zs.length c0) zs := Or.inr ⟨⟨bb, o0, none⟩, c0, rfl, fun j hj => by rw [show (⟨bb, o0, none⟩ : Addr).add j = ⟨bb, o0 + j, none⟩ from (by unfold Addr.add; split <;> simp_all), HU1.out.cell (p := ⟨bb, o0 + j, none⟩) hbb]; exact HC.out j hj⟩
        refine (copy_any hsrc (by omega)).mono ?_; rintro e u2 ⟨a2, c2, rfl, ho2, hb2⟩
        have HU2 : Hid (Below W.heap.size W u2) := HU1.out.trans (hb2.mono HU1.out.size)
        have HS2 : Hid (SrcOf u2 (.slice (some ⟨bb, o0, none⟩) zs.length c0) zs) := hsrc.below hb2
        have hub : u1.heap.size ≤ u2.heap.size := hb2.size
        clear hsrc hb2
        go_wp2_with fail
        refine (bring_nine nn _).mono ?_; rintro e u3 ⟨rfl, rfl⟩
        obtain ⟨i, hi, hz0, hz1, hz2⟩ := info_parts Tryd.info5
        have hb9 := bring9_lt nn
        generalize bring9 nn = nt at *
        go_wp2_with (at_builtin; refine wpList_noughts _ (by rfl) _ _ (by rfl) u1.heap.size i hi hz0 hz1 hz2 _ zs.length (bs zs) (by rfl) ho2 nt (by rfl) (by omega) (by omega) (by omega) ?_; intro v4 u4 ho4 hg4)
        have HU4 : Hid (Below W.heap.size W u4) := HU2.out.grown hg4 HU2.out.size (fun k hk => by have h1 := (ho2.lt k hk).1; have h2 := HU1.out.size; omega)
        have hlen4 : (zs ++ List.replicate nt 0).length = zs.length + nt := by simp
        rw [replicate_bs, ← bs_append, ← hlen4] at ho4
        have hs3 := SrcOf.ofOwn ho4
        have hs1 : SrcOf u4 (.slice (some ⟨bb, o0, none⟩) zs.length c0) zs := Or.inr ⟨⟨bb, o0, none⟩, c0, rfl, fun j hj => by rw [show (⟨bb, o0, none⟩ : Addr).add j = ⟨bb, o0 + j, none⟩ from (by unfold Addr.add; split <;> simp_all), HU4.out.cell (p := ⟨bb, o0 + j, none⟩) hbb]; exact HC.out j hj⟩
        have hs2 : SrcOf u4 (.slice (some ⟨bb, o0, none⟩) 0 c0) (zs.take (0)) := Or.inr ⟨⟨bb, o0, none⟩, c0, by rw [List.length_take, Nat.min_eq_left (by omega)], fun j hj => by rw [List.length_take] at hj; rw [show (⟨bb, o0, none⟩ : Addr).add j = ⟨bb, o0 + j, none⟩ from (by unfold Addr.add; split <;> simp_all), HU4.out.cell (p := ⟨bb, o0 + j, none⟩) hbb, HC.out j (by omega), getD_take, if_pos (by omega)]⟩
        have HAL2 : Hid (∀ i, (zs.take (0)).getD i 0 = zs.getD i 0) := fun i => by have h := take_alike zs i; rw [← HSH.out] at h; exact h
        have HAL3 : Hid (∀ i, (zs ++ List.replicate nt 0).getD i 0 = zs.getD i 0) := more_alike zs nt
        have HR1 : Hid (∀ u s2 s3, R3 W u4 u zs (zs.take (0)) (zs ++ List.replicate nt 0) none s2 s3 → Calls Tryd.prog 18 #[.slice (some ⟨bb, o0, none⟩) zs.length c0] u fun e w' => ∃ x, e = .returned (.pointer (some ⟨x, 0, none⟩)) ∧ ∃ b, R3 W u4 w' zs (zs.take (0)) (zs ++ List.replicate nt 0) (some (x, b)) s2 s3) := fun u s2 s3 h => (read_core (hs1.below h.bel) HZ.out (by omega)).mono (by rintro e w' ⟨x, rfl, hm⟩; exact ⟨x, rfl, h.one hm⟩)
        have HR2 : Hid (∀ u s1 s3, R3 W u4 u zs (zs.take (0)) (zs ++ List.replicate nt 0) s1 none s3 → Calls Tryd.prog 18 #[.slice (some ⟨bb, o0, none⟩) 0 c0] u fun e w' => ∃ x, e = .returned (.pointer (some ⟨x, 0, none⟩)) ∧ ∃ b, R3 W u4 w' zs (zs.take (0)) (zs ++ List.replicate nt 0) s1 (some (x, b)) s3) := fun u s1 s3 h => (read_core (hs2.below h.bel) (byt_alike HAL2.out HZ.out) (by rw [List.length_take]; omega)).mono (by rintro e w' ⟨x, rfl, hm⟩; exact ⟨x, rfl, h.two hm⟩)
        have HR3 : Hid (∀ u s1 s2, R3 W u4 u zs (zs.take (0)) (zs ++ List.replicate nt 0) s1 s2 none → Calls Tryd.prog 18 #[v4] u fun e w' => ∃ x, e = .returned (.pointer (some ⟨x, 0, none⟩)) ∧ ∃ b, R3 W u4 w' zs (zs.take (0)) (zs ++ List.replicate nt 0) s1 s2 (some (x, b))) := fun u s1 s2 h => (read_core (hs3.below h.bel) (byt_alike HAL3.out HZ.out) (by rw [hlen4]; omega)).mono (by rintro e w' ⟨x, rfl, hm⟩; exact ⟨x, rfl, h.three hm⟩)
        have hR0 : R3 W u4 u4.drew zs (zs.take (0)) (zs ++ List.replicate nt 0) none none none := ⟨On.none _ _ _, On.none _ _ _, On.none _ _ _, fun _ _ _ _ e => (by cases e), fun _ _ _ _ e => (by cases e), fun _ _ _ _ e => (by cases e), Below.drew (Below.refl _ _), HU4.out.size⟩
        clear hs1 hs2 hs3 ho4 hg4 ho2 HU2 HS2 hlen4
        skip

        go_region_held3 (fun _ => True) (trivial) (first
          | (go_at_call 18; with_reducible refine (HR1.out _ _ _ (by assumption)).mono ?_; rintro e wA ⟨x1, rfl, b1, hRA⟩)
          | (go_at_call 18; with_reducible refine (HR2.out _ _ _ (by assumption)).mono ?_; rintro e wB ⟨x2, rfl, b2, hRB⟩)
          | (go_at_call 18; with_reducible refine (HR3.out _ _ _ (by assumption)).mono ?_; rintro e wC ⟨x3, rfl, b3, hRC⟩))
        all_goals
          have hN0 := hRC.n3 HU4.out
          have hN : N3 W wC zs (zs.take (0)) (zs ++ List.replicate nt 0) x1 b1 x2 b2 x3 b3 4 (dFirst zs) 4294967295 4 (dFirst zs) 4294967295 4 (dFirst zs) 4294967295 := by
            have e2 := dFirst_congr HAL2.out
            have e3 := dFirst_congr HAL3.out
            rw [e2, e3] at hN0
            exact hN0
          clear hN0 hRA hRB hRC hR0 HR1 HR2 HR3
          go_wp2_with fail
          go_loopw [12] (fun i wr => NoInv W L.length zs (zs.take (0)) (zs ++ List.replicate nt 0) x1 b1 x2 b2 x3 b3 i wr) (fun i _ => L.length - (intOf i).toNat)
          case atStart => exact ⟨0, 4, _, _, rfl, by omega, by omega, hN⟩
          case round =>
            clear hN
            obtain ⟨k, q, c, g, rfl, hk1, hk2, hT⟩ := hrel
            by_cases hlt : k < L.length ∧ k < 200
            · obtain ⟨hlt1, hlt2⟩ := hlt
              obtain ⟨pb, off, rfl, hbl, hq0, hq1, hP, hQ⟩ := HPt.out.cells k hlt1
              generalize L.getD k (0, 0) = el at hq0 hq1 hP hQ
              obtain ⟨P, Q⟩ := el
              simp only at hq0 hq1 hP hQ
              replace hq0 : Hid _ := hq0
              replace hq1 : Hid _ := hq1
              have HVA1 : Hid (∀ u, Ds u x1 b1 (zs) q c g → Calls Tryd.prog 20 #[.pointer (some ⟨x1, 0, none⟩)] u fun e w' => e = .returned (.tuple #[.int .u32 (dVal c g : Nat), .int .i64 0]) ∧ ∃ k, w' = u.drewN k) := fun u h => value_dc h.1 h.2
              have HVA2 : Hid (∀ u, Ds u x2 b2 ((zs.take (0))) q c g → Calls Tryd.prog 20 #[.pointer (some ⟨x2, 0, none⟩)] u fun e w' => e = .returned (.tuple #[.int .u32 (dVal c g : Nat), .int .i64 0]) ∧ ∃ k, w' = u.drewN k) := fun u h => value_dc h.1 h.2
              have HVA3 : Hid (∀ u, Ds u x3 b3 ((zs ++ List.replicate nt 0)) q c g → Calls Tryd.prog 20 #[.pointer (some ⟨x3, 0, none⟩)] u fun e w' => e = .returned (.tuple #[.int .u32 (dVal c g : Nat), .int .i64 0]) ∧ ∃ k, w' = u.drewN k) := fun u h => value_dc h.1 h.2
              have HTK1 : Hid (∀ u, Ds u x1 b1 (zs) q c g → Calls Tryd.prog 23 #[.pointer (some ⟨x1, 0, none⟩), .int .u32 (aLo (dVal c g) P : Nat), .int .u32 (aHi (dVal c g) Q : Nat)] u fun e w' => e = .returned (.int .i64 0) ∧ Ds w' x1 b1 (zs) (dTake zs c g q (aLo (dVal c g) P) (aHi (dVal c g) Q)).2.2 (dTake zs c g q (aLo (dVal c g) P) (aHi (dVal c g) Q)).1 (dTake zs c g q (aLo (dVal c g) P) (aHi (dVal c g) Q)).2.1 ∧ Kp x1 u w') := fun u hh => take_ds hh _ _ (about_may P Q)
              have HTK2 : Hid (∀ u, Ds u x2 b2 ((zs.take (0))) q c g → Calls Tryd.prog 23 #[.pointer (some ⟨x2, 0, none⟩), .int .u32 (aLo (dVal c g) P : Nat), .int .u32 (aHi (dVal c g) Q : Nat)] u fun e w' => e = .returned (.int .i64 0) ∧ Ds w' x2 b2 ((zs.take (0))) (dTake zs c g q (aLo (dVal c g) P) (aHi (dVal c g) Q)).2.2 (dTake zs c g q (aLo (dVal c g) P) (aHi (dVal c g) Q)).1 (dTake zs c g q (aLo (dVal c g) P) (aHi (dVal c g) Q)).2.1 ∧ Kp x2 u w') := fun u hh => by rw [← dTake_congr HAL2.out]; exact take_ds hh _ _ (about_may P Q)
              have HTK3 : Hid (∀ u, Ds u x3 b3 ((zs ++ List.replicate nt 0)) q c g → Calls Tryd.prog 23 #[.pointer (some ⟨x3, 0, none⟩), .int .u32 (aLo (dVal c g) P : Nat), .int .u32 (aHi (dVal c g) Q : Nat)] u fun e w' => e = .returned (.int .i64 0) ∧ Ds w' x3 b3 ((zs ++ List.replicate nt 0)) (dTake zs c g q (aLo (dVal c g) P) (aHi (dVal c g) Q)).2.2 (dTake zs c g q (aLo (dVal c g) P) (aHi (dVal c g) Q)).1 (dTake zs c g q (aLo (dVal c g) P) (aHi (dVal c g) Q)).2.1 ∧ Kp x3 u w') := fun u hh => by rw [← dTake_congr HAL3.out]; exact take_ds hh _ _ (about_may P Q)
              have hv := dVal_lt c g
              have HAB : Hid _ := fun u => about_any (dVal c g) P Q u hv hP hQ
              clear hv
              generalize dTake zs c g q (aLo (dVal c g) P) (aHi (dVal c g) Q) = o at *
              obtain ⟨c', g', q'⟩ := o
              generalize aLo (dVal c g) P = al at *
              generalize aHi (dVal c g) Q = ah at *
              generalize dVal c g = v at *
              simp only at HTK1 HTK2 HTK3
              go_wp2_with fail
              refine (HVA1.out _ hT.d1).mono ?_; rintro ee w1 ⟨rfl, n1, rfl⟩
              have hT1 := hT.drewN n1
              clear hT
              generalize wr.drewN n1 = w1 at *
              go_wp2_with fail
              refine (HVA2.out _ hT1.d2).mono ?_; rintro ee w2 ⟨rfl, n2, rfl⟩
              have hT2 := hT1.drewN n2
              clear hT1
              generalize w1.drewN n2 = w2 at *
              go_wp2_with fail
              refine (HVA3.out _ hT2.d3).mono ?_; rintro ee w3 ⟨rfl, n3, rfl⟩
              have hT3 := hT2.drewN n3
              clear hT2
              generalize w2.drewN n3 = w3 at *
              obtain ⟨cc0, cc1⟩ := ptCells hT3.bel hbl hq0 hq1
              go_wp2_with fail
              refine (HAB.out _).mono ?_; rintro ee wb ⟨rfl, hbb⟩
              have hTb := hT3.below hbb
              clear hT3 hbb cc0 cc1
              have hTq := hTb.below ((Below.refl _ _).alloc (Nat.le_refl _) (.cells #[.int .u32 (al : Nat), .int .u32 (ah : Nat)] 31))
              have hPq := Pv.made (w := wb) (S1 := fun _ => False) (S2 := fun _ => False) al ah (fun _ h => h.elim) (fun _ h => h.elim)
              have hp1 : wb.heap.size ≠ x1 := by have := hTb.d1.1.low; omega
              have hp2 : wb.heap.size ≠ x2 := by have := hTb.d2.1.low; omega
              have hp3 : wb.heap.size ≠ x3 := by have := hTb.d3.1.low; omega
              clear hTb
              go_wp2_with fail
              refine (HTK1.out _ hTq.d1).mono ?_; rintro ee w4 ⟨rfl, hD4, hK4⟩
              have hT4 := hTq.step1 hK4 hD4
              have hP4 := hPq.kp hK4 hp1
              have cc0 := hP4.c0
              have cc1 := hP4.c1
              clear hTq hPq hK4 hD4
              go_wp2_with fail
              refine (HTK2.out _ hT4.d2).mono ?_; rintro ee w5 ⟨rfl, hD5, hK5⟩
              have hT5 := hT4.step2 hK5 hD5
              have hP5 := hP4.kp hK5 hp2
              clear cc0 cc1
              have cc0 := hP5.c0
              have cc1 := hP5.c1
              clear hT4 hP4 hK5 hD5
              go_wp2_with fail
              refine (HTK3.out _ hT5.d3).mono ?_; rintro ee w6 ⟨rfl, hD6, hK6⟩
              have hT6 := hT5.step3 hK6 hD6
              clear hT5 hP5 hK6 hD6 cc0 cc1
              go_wp2_with fail
              go_roundw
              case rel => exact ⟨k + 1, q', c', g', by go_num, by omega, by omega, hT6⟩
              case measure => simp [intOf]; omega
            · by_cases h1 : k < L.length
              · have h2 : ¬ k < 200 := by omega
                have HB : Hid _ := hT.bel
                clear hT
                go_wp2_with fail
                go_ret
                exact ⟨rfl, HB.out⟩
              · have HB : Hid _ := hT.bel
                clear hT
                go_wp2_with fail
                go_ret
                exact ⟨rfl, HB.out⟩
      · have hcm := (HU1.out.cell (p := ⟨bb, o0 + p, none⟩) hbb).trans (HC.out p (by omega))
        have h0' : ((0 : Int) < ((p + 1 : Nat) : Int)) := by omega
        have hz' : (((zs.getD p 0 : Nat) : Int) == 0) = false := by rw [beq_eq_false_iff_ne]; omega
        have hzb := HZ.out p
        generalize zs.getD p 0 = z at *
        go_wp2_with fail
        have hsrc : SrcOf u1 (.slice (some ⟨bb, o0, none⟩) zs.length c0) zs := Or.inr ⟨⟨bb, o0, none⟩, c0, rfl, fun j hj => by rw [show (⟨bb, o0, none⟩ : Addr).add j = ⟨bb, o0 + j, none⟩ from (by unfold Addr.add; split <;> simp_all), HU1.out.cell (p := ⟨bb, o0 + j, none⟩) hbb]; exact HC.out j hj⟩
        refine (copy_any hsrc (by omega)).mono ?_; rintro e u2 ⟨a2, c2, rfl, ho2, hb2⟩
        have HU2 : Hid (Below W.heap.size W u2) := HU1.out.trans (hb2.mono HU1.out.size)
        have HS2 : Hid (SrcOf u2 (.slice (some ⟨bb, o0, none⟩) zs.length c0) zs) := hsrc.below hb2
        have hub : u1.heap.size ≤ u2.heap.size := hb2.size
        clear hsrc hb2
        go_wp2_with fail
        refine (bring_nine nn _).mono ?_; rintro e u3 ⟨rfl, rfl⟩
        obtain ⟨i, hi, hz0, hz1, hz2⟩ := info_parts Tryd.info5
        have hb9 := bring9_lt nn
        generalize bring9 nn = nt at *
        go_wp2_with (at_builtin; refine wpList_noughts _ (by rfl) _ _ (by rfl) u1.heap.size i hi hz0 hz1 hz2 _ zs.length (bs zs) (by rfl) ho2 nt (by rfl) (by omega) (by omega) (by omega) ?_; intro v4 u4 ho4 hg4)
        have HU4 : Hid (Below W.heap.size W u4) := HU2.out.grown hg4 HU2.out.size (fun k hk => by have h1 := (ho2.lt k hk).1; have h2 := HU1.out.size; omega)
        have hlen4 : (zs ++ List.replicate nt 0).length = zs.length + nt := by simp
        rw [replicate_bs, ← bs_append, ← hlen4] at ho4
        have hs3 := SrcOf.ofOwn ho4
        have hs1 : SrcOf u4 (.slice (some ⟨bb, o0, none⟩) zs.length c0) zs := Or.inr ⟨⟨bb, o0, none⟩, c0, rfl, fun j hj => by rw [show (⟨bb, o0, none⟩ : Addr).add j = ⟨bb, o0 + j, none⟩ from (by unfold Addr.add; split <;> simp_all), HU4.out.cell (p := ⟨bb, o0 + j, none⟩) hbb]; exact HC.out j hj⟩
        have hs2 : SrcOf u4 (.slice (some ⟨bb, o0, none⟩) (p + 1) c0) (zs.take (p + 1)) := Or.inr ⟨⟨bb, o0, none⟩, c0, by rw [List.length_take, Nat.min_eq_left (by omega)], fun j hj => by rw [List.length_take] at hj; rw [show (⟨bb, o0, none⟩ : Addr).add j = ⟨bb, o0 + j, none⟩ from (by unfold Addr.add; split <;> simp_all), HU4.out.cell (p := ⟨bb, o0 + j, none⟩) hbb, HC.out j (by omega), getD_take, if_pos (by omega)]⟩
        have HAL2 : Hid (∀ i, (zs.take (p + 1)).getD i 0 = zs.getD i 0) := fun i => by have h := take_alike zs i; rw [← HSH.out] at h; exact h
        have HAL3 : Hid (∀ i, (zs ++ List.replicate nt 0).getD i 0 = zs.getD i 0) := more_alike zs nt
        have HR1 : Hid (∀ u s2 s3, R3 W u4 u zs (zs.take (p + 1)) (zs ++ List.replicate nt 0) none s2 s3 → Calls Tryd.prog 18 #[.slice (some ⟨bb, o0, none⟩) zs.length c0] u fun e w' => ∃ x, e = .returned (.pointer (some ⟨x, 0, none⟩)) ∧ ∃ b, R3 W u4 w' zs (zs.take (p + 1)) (zs ++ List.replicate nt 0) (some (x, b)) s2 s3) := fun u s2 s3 h => (read_core (hs1.below h.bel) HZ.out (by omega)).mono (by rintro e w' ⟨x, rfl, hm⟩; exact ⟨x, rfl, h.one hm⟩)
        have HR2 : Hid (∀ u s1 s3, R3 W u4 u zs (zs.take (p + 1)) (zs ++ List.replicate nt 0) s1 none s3 → Calls Tryd.prog 18 #[.slice (some ⟨bb, o0, none⟩) (p + 1) c0] u fun e w' => ∃ x, e = .returned (.pointer (some ⟨x, 0, none⟩)) ∧ ∃ b, R3 W u4 w' zs (zs.take (p + 1)) (zs ++ List.replicate nt 0) s1 (some (x, b)) s3) := fun u s1 s3 h => (read_core (hs2.below h.bel) (byt_alike HAL2.out HZ.out) (by rw [List.length_take]; omega)).mono (by rintro e w' ⟨x, rfl, hm⟩; exact ⟨x, rfl, h.two hm⟩)
        have HR3 : Hid (∀ u s1 s2, R3 W u4 u zs (zs.take (p + 1)) (zs ++ List.replicate nt 0) s1 s2 none → Calls Tryd.prog 18 #[v4] u fun e w' => ∃ x, e = .returned (.pointer (some ⟨x, 0, none⟩)) ∧ ∃ b, R3 W u4 w' zs (zs.take (p + 1)) (zs ++ List.replicate nt 0) s1 s2 (some (x, b))) := fun u s1 s2 h => (read_core (hs3.below h.bel) (byt_alike HAL3.out HZ.out) (by rw [hlen4]; omega)).mono (by rintro e w' ⟨x, rfl, hm⟩; exact ⟨x, rfl, h.three hm⟩)
        have hR0 : R3 W u4 u4.drew zs (zs.take (p + 1)) (zs ++ List.replicate nt 0) none none none := ⟨On.none _ _ _, On.none _ _ _, On.none _ _ _, fun _ _ _ _ e => (by cases e), fun _ _ _ _ e => (by cases e), fun _ _ _ _ e => (by cases e), Below.drew (Below.refl _ _), HU4.out.size⟩
        clear hs1 hs2 hs3 ho4 hg4 ho2 HU2 HS2 hlen4
        have hsl1 : (p : Int) + 1 ≤ (c0 : Int) := by omega
        have hsl2 : (0 : Int) ≤ (p : Int) + 1 := by omega
        have hsl3 : ((p : Int) + 1).toNat = p + 1 := by omega
        have hsl4 : p + 1 ≤ c0 := by omega
        clear hcm hz' hzb h0'

        go_region_held3 (fun _ => True) (trivial) (first
          | (go_at_call 18; with_reducible refine (HR1.out _ _ _ (by assumption)).mono ?_; rintro e wA ⟨x1, rfl, b1, hRA⟩)
          | (go_at_call 18; with_reducible refine (HR2.out _ _ _ (by assumption)).mono ?_; rintro e wB ⟨x2, rfl, b2, hRB⟩)
          | (go_at_call 18; with_reducible refine (HR3.out _ _ _ (by assumption)).mono ?_; rintro e wC ⟨x3, rfl, b3, hRC⟩))
        all_goals
          have hN0 := hRC.n3 HU4.out
          have hN : N3 W wC zs (zs.take (p + 1)) (zs ++ List.replicate nt 0) x1 b1 x2 b2 x3 b3 4 (dFirst zs) 4294967295 4 (dFirst zs) 4294967295 4 (dFirst zs) 4294967295 := by
            have e2 := dFirst_congr HAL2.out
            have e3 := dFirst_congr HAL3.out
            rw [e2, e3] at hN0
            exact hN0
          clear hN0 hRA hRB hRC hR0 HR1 HR2 HR3
          go_wp2_with fail
          go_loopw [12] (fun i wr => NoInv W L.length zs (zs.take (p + 1)) (zs ++ List.replicate nt 0) x1 b1 x2 b2 x3 b3 i wr) (fun i _ => L.length - (intOf i).toNat)
          case atStart => exact ⟨0, 4, _, _, rfl, by omega, by omega, hN⟩
          case round =>
            clear hN
            obtain ⟨k, q, c, g, rfl, hk1, hk2, hT⟩ := hrel
            by_cases hlt : k < L.length ∧ k < 200
            · obtain ⟨hlt1, hlt2⟩ := hlt
              obtain ⟨pb, off, rfl, hbl, hq0, hq1, hP, hQ⟩ := HPt.out.cells k hlt1
              generalize L.getD k (0, 0) = el at hq0 hq1 hP hQ
              obtain ⟨P, Q⟩ := el
              simp only at hq0 hq1 hP hQ
              replace hq0 : Hid _ := hq0
              replace hq1 : Hid _ := hq1
              have HVA1 : Hid (∀ u, Ds u x1 b1 (zs) q c g → Calls Tryd.prog 20 #[.pointer (some ⟨x1, 0, none⟩)] u fun e w' => e = .returned (.tuple #[.int .u32 (dVal c g : Nat), .int .i64 0]) ∧ ∃ k, w' = u.drewN k) := fun u h => value_dc h.1 h.2
              have HVA2 : Hid (∀ u, Ds u x2 b2 ((zs.take (p + 1))) q c g → Calls Tryd.prog 20 #[.pointer (some ⟨x2, 0, none⟩)] u fun e w' => e = .returned (.tuple #[.int .u32 (dVal c g : Nat), .int .i64 0]) ∧ ∃ k, w' = u.drewN k) := fun u h => value_dc h.1 h.2
              have HVA3 : Hid (∀ u, Ds u x3 b3 ((zs ++ List.replicate nt 0)) q c g → Calls Tryd.prog 20 #[.pointer (some ⟨x3, 0, none⟩)] u fun e w' => e = .returned (.tuple #[.int .u32 (dVal c g : Nat), .int .i64 0]) ∧ ∃ k, w' = u.drewN k) := fun u h => value_dc h.1 h.2
              have HTK1 : Hid (∀ u, Ds u x1 b1 (zs) q c g → Calls Tryd.prog 23 #[.pointer (some ⟨x1, 0, none⟩), .int .u32 (aLo (dVal c g) P : Nat), .int .u32 (aHi (dVal c g) Q : Nat)] u fun e w' => e = .returned (.int .i64 0) ∧ Ds w' x1 b1 (zs) (dTake zs c g q (aLo (dVal c g) P) (aHi (dVal c g) Q)).2.2 (dTake zs c g q (aLo (dVal c g) P) (aHi (dVal c g) Q)).1 (dTake zs c g q (aLo (dVal c g) P) (aHi (dVal c g) Q)).2.1 ∧ Kp x1 u w') := fun u hh => take_ds hh _ _ (about_may P Q)
              have HTK2 : Hid (∀ u, Ds u x2 b2 ((zs.take (p + 1))) q c g → Calls Tryd.prog 23 #[.pointer (some ⟨x2, 0, none⟩), .int .u32 (aLo (dVal c g) P : Nat), .int .u32 (aHi (dVal c g) Q : Nat)] u fun e w' => e = .returned (.int .i64 0) ∧ Ds w' x2 b2 ((zs.take (p + 1))) (dTake zs c g q (aLo (dVal c g) P) (aHi (dVal c g) Q)).2.2 (dTake zs c g q (aLo (dVal c g) P) (aHi (dVal c g) Q)).1 (dTake zs c g q (aLo (dVal c g) P) (aHi (dVal c g) Q)).2.1 ∧ Kp x2 u w') := fun u hh => by rw [← dTake_congr HAL2.out]; exact take_ds hh _ _ (about_may P Q)
              have HTK3 : Hid (∀ u, Ds u x3 b3 ((zs ++ List.replicate nt 0)) q c g → Calls Tryd.prog 23 #[.pointer (some ⟨x3, 0, none⟩), .int .u32 (aLo (dVal c g) P : Nat), .int .u32 (aHi (dVal c g) Q : Nat)] u fun e w' => e = .returned (.int .i64 0) ∧ Ds w' x3 b3 ((zs ++ List.replicate nt 0)) (dTake zs c g q (aLo (dVal c g) P) (aHi (dVal c g) Q)).2.2 (dTake zs c g q (aLo (dVal c g) P) (aHi (dVal c g) Q)).1 (dTake zs c g q (aLo (dVal c g) P) (aHi (dVal c g) Q)).2.1 ∧ Kp x3 u w') := fun u hh => by rw [← dTake_congr HAL3.out]; exact take_ds hh _ _ (about_may P Q)
              have hv := dVal_lt c g
              have HAB : Hid _ := fun u => about_any (dVal c g) P Q u hv hP hQ
              clear hv
              generalize dTake zs c g q (aLo (dVal c g) P) (aHi (dVal c g) Q) = o at *
              obtain ⟨c', g', q'⟩ := o
              generalize aLo (dVal c g) P = al at *
              generalize aHi (dVal c g) Q = ah at *
              generalize dVal c g = v at *
              simp only at HTK1 HTK2 HTK3
              go_wp2_with fail
              refine (HVA1.out _ hT.d1).mono ?_; rintro ee w1 ⟨rfl, n1, rfl⟩
              have hT1 := hT.drewN n1
              clear hT
              generalize wr.drewN n1 = w1 at *
              go_wp2_with fail
              refine (HVA2.out _ hT1.d2).mono ?_; rintro ee w2 ⟨rfl, n2, rfl⟩
              have hT2 := hT1.drewN n2
              clear hT1
              generalize w1.drewN n2 = w2 at *
              go_wp2_with fail
              refine (HVA3.out _ hT2.d3).mono ?_; rintro ee w3 ⟨rfl, n3, rfl⟩
              have hT3 := hT2.drewN n3
              clear hT2
              generalize w2.drewN n3 = w3 at *
              obtain ⟨cc0, cc1⟩ := ptCells hT3.bel hbl hq0 hq1
              go_wp2_with fail
              refine (HAB.out _).mono ?_; rintro ee wb ⟨rfl, hbb⟩
              have hTb := hT3.below hbb
              clear hT3 hbb cc0 cc1
              have hTq := hTb.below ((Below.refl _ _).alloc (Nat.le_refl _) (.cells #[.int .u32 (al : Nat), .int .u32 (ah : Nat)] 31))
              have hPq := Pv.made (w := wb) (S1 := fun _ => False) (S2 := fun _ => False) al ah (fun _ h => h.elim) (fun _ h => h.elim)
              have hp1 : wb.heap.size ≠ x1 := by have := hTb.d1.1.low; omega
              have hp2 : wb.heap.size ≠ x2 := by have := hTb.d2.1.low; omega
              have hp3 : wb.heap.size ≠ x3 := by have := hTb.d3.1.low; omega
              clear hTb
              go_wp2_with fail
              refine (HTK1.out _ hTq.d1).mono ?_; rintro ee w4 ⟨rfl, hD4, hK4⟩
              have hT4 := hTq.step1 hK4 hD4
              have hP4 := hPq.kp hK4 hp1
              have cc0 := hP4.c0
              have cc1 := hP4.c1
              clear hTq hPq hK4 hD4
              go_wp2_with fail
              refine (HTK2.out _ hT4.d2).mono ?_; rintro ee w5 ⟨rfl, hD5, hK5⟩
              have hT5 := hT4.step2 hK5 hD5
              have hP5 := hP4.kp hK5 hp2
              clear cc0 cc1
              have cc0 := hP5.c0
              have cc1 := hP5.c1
              clear hT4 hP4 hK5 hD5
              go_wp2_with fail
              refine (HTK3.out _ hT5.d3).mono ?_; rintro ee w6 ⟨rfl, hD6, hK6⟩
              have hT6 := hT5.step3 hK6 hD6
              clear hT5 hP5 hK6 hD6 cc0 cc1
              go_wp2_with fail
              go_roundw
              case rel => exact ⟨k + 1, q', c', g', by go_num, by omega, by omega, hT6⟩
              case measure => simp [intOf]; omega
            · by_cases h1 : k < L.length
              · have h2 : ¬ k < 200 := by omega
                have HB : Hid _ := hT.bel
                clear hT
                go_wp2_with fail
                go_ret
                exact ⟨rfl, HB.out⟩
              · have HB : Hid _ := hT.bel
                clear hT
                go_wp2_with fail
                go_ret
                exact ⟨rfl, HB.out⟩

set_option maxHeartbeats 1000000 in
set_option maxRecDepth 100000 in
theorem noughts_nil (W : World) (nn : Int) (a : Option Addr) (cp : Nat) (L : List (Nat × Nat)) (hL : PtAt W (.slice a L.length cp) L) (hLl : L.length ≤ 140737488355328) :
    Calls Tryd.prog 7 #[.slice none 0 0, .int .i64 nn, .slice a L.length cp] W fun e w' => e = .returned (.bool true) ∧ Below W.heap.size W w' := by
  have HPt : Hid (PtAt W (.slice a L.length cp) L) := hL
  clear hL
  go_enter Tryd.func7, Tryd.ntmps7
  go_wp2_with fail
  refine (works_true W).mono ?_; rintro e u1 ⟨rfl, hu1⟩
  have HU1 : Hid _ := hu1
  clear hu1
  go_wp2_with fail
  go_loop [7] (fun i => i = .int .i64 0) (fun _ => 0)
  case atStart => rfl
  case round =>
    subst hrel
    go_wp2_with fail
    refine (copy_none _ _ u1).mono ?_; rintro e u2 ⟨rfl, rfl⟩
    go_wp2_with fail
    refine (bring_nine nn _).mono ?_; rintro e u3 ⟨rfl, rfl⟩
    obtain ⟨i, hi, hz0, hz1, hz2⟩ := info_parts Tryd.info5
    have hb9 := bring9_lt nn
    generalize bring9 nn = nt at *
    have ho2 : u3.ownsRow u3.heap.size 5 1 (.slice none 0 0) 0 [] := World.ownsRow_nil _ _ _ _
    go_wp2_with (at_builtin; refine wpList_noughts _ (by rfl) _ _ (by rfl) u3.heap.size i hi hz0 hz1 hz2 _ 0 [] (by rfl) ho2 nt (by rfl) (by omega) (by omega) (by omega) ?_; intro v4 u4 ho4 hg4)
    have HU4 : Hid (Below W.heap.size W u4) := HU1.out.grown hg4 HU1.out.size (fun k hk => by simp [Value.ownBlock] at hk)
    have hlen4 : (List.replicate nt 0 : List Nat).length = 0 + nt := by simp
    rw [List.nil_append, replicate_bs, ← hlen4] at ho4
    have hs3 := SrcOf.ofOwn ho4
    obtain ⟨zs, hzs⟩ : ∃ zs : List Nat, zs = [] := ⟨_, rfl⟩
    obtain ⟨z2, hz2'⟩ : ∃ z2 : List Nat, z2 = [] := ⟨_, rfl⟩
    obtain ⟨z3, hz3⟩ : ∃ z3 : List Nat, z3 = List.replicate nt 0 := ⟨_, rfl⟩
    have HAL2 : Hid (∀ i, z2.getD i 0 = zs.getD i 0) := fun i => by rw [hzs, hz2']
    have HAL3 : Hid (∀ i, z3.getD i 0 = zs.getD i 0) := fun i => by have h := more_alike [] nt i; rw [List.nil_append] at h; rw [hzs, hz3]; exact h
    have HZ : Hid (∀ i, zs.getD i 0 < 256) := fun i => by rw [hzs]; simp
    have hs1 : SrcOf u4 (.slice none 0 0) zs := by rw [hzs]; exact Or.inl ⟨rfl, rfl⟩
    have hs2 : SrcOf u4 (.slice none 0 0) z2 := by rw [hz2']; exact Or.inl ⟨rfl, rfl⟩
    rw [← hz3] at hs3
    have hl3 : z3.length ≤ 8 := by rw [hz3]; simp; omega
    have hl1 : zs.length ≤ 8 := by rw [hzs]; simp
    have hl2 : z2.length ≤ 8 := by rw [hz2']; simp
    have HR1 : Hid (∀ u s2 s3, R3 W u4 u zs z2 z3 none s2 s3 → Calls Tryd.prog 18 #[.slice none 0 0] u fun e w' => ∃ x, e = .returned (.pointer (some ⟨x, 0, none⟩)) ∧ ∃ b, R3 W u4 w' zs z2 z3 (some (x, b)) s2 s3) := fun u s2 s3 h => (read_core (hs1.below h.bel) HZ.out (by omega)).mono (by rintro e w' ⟨x, rfl, hm⟩; exact ⟨x, rfl, h.one hm⟩)
    have HR2 : Hid (∀ u s1 s3, R3 W u4 u zs z2 z3 s1 none s3 → Calls Tryd.prog 18 #[.slice none 0 0] u fun e w' => ∃ x, e = .returned (.pointer (some ⟨x, 0, none⟩)) ∧ ∃ b, R3 W u4 w' zs z2 z3 s1 (some (x, b)) s3) := fun u s1 s3 h => (read_core (hs2.below h.bel) (byt_alike HAL2.out HZ.out) (by omega)).mono (by rintro e w' ⟨x, rfl, hm⟩; exact ⟨x, rfl, h.two hm⟩)
    have HR3 : Hid (∀ u s1 s2, R3 W u4 u zs z2 z3 s1 s2 none → Calls Tryd.prog 18 #[v4] u fun e w' => ∃ x, e = .returned (.pointer (some ⟨x, 0, none⟩)) ∧ ∃ b, R3 W u4 w' zs z2 z3 s1 s2 (some (x, b))) := fun u s1 s2 h => (read_core (hs3.below h.bel) (byt_alike HAL3.out HZ.out) (by omega)).mono (by rintro e w' ⟨x, rfl, hm⟩; exact ⟨x, rfl, h.three hm⟩)
    have hR0 : R3 W u4 u4.drew zs z2 z3 none none none := ⟨On.none _ _ _, On.none _ _ _, On.none _ _ _, fun _ _ _ _ e => (by cases e), fun _ _ _ _ e => (by cases e), fun _ _ _ _ e => (by cases e), Below.drew (Below.refl _ _), HU4.out.size⟩
    clear hs1 hs2 hs3 ho4 hg4 ho2 hlen4 hzs hz2' hz3 hl1 hl2 hl3
    go_region_held3 (fun _ => True) (trivial) (first
      | (go_at_call 18; with_reducible refine (HR1.out _ _ _ (by assumption)).mono ?_; rintro e wA ⟨x1, rfl, b1, hRA⟩)
      | (go_at_call 18; with_reducible refine (HR2.out _ _ _ (by assumption)).mono ?_; rintro e wB ⟨x2, rfl, b2, hRB⟩)
      | (go_at_call 18; with_reducible refine (HR3.out _ _ _ (by assumption)).mono ?_; rintro e wC ⟨x3, rfl, b3, hRC⟩))
    all_goals
      have hN0 := hRC.n3 HU4.out
      have hN : N3 W wC zs z2 z3 x1 b1 x2 b2 x3 b3 4 (dFirst zs) 4294967295 4 (dFirst zs) 4294967295 4 (dFirst zs) 4294967295 := by
        have e2 := dFirst_congr HAL2.out
        have e3 := dFirst_congr HAL3.out
        rw [e2, e3] at hN0
        exact hN0
      clear hN0 hRA hRB hRC hR0 HR1 HR2 HR3
      go_wp2_with fail
      go_loopw [12] (fun i wr => NoInv W L.length zs z2 z3 x1 b1 x2 b2 x3 b3 i wr) (fun i _ => L.length - (intOf i).toNat)
      case atStart => exact ⟨0, 4, _, _, rfl, by omega, by omega, hN⟩
      case round =>
        clear hN
        obtain ⟨k, q, c, g, rfl, hk1, hk2, hT⟩ := hrel
        by_cases hlt : k < L.length ∧ k < 200
        · obtain ⟨hlt1, hlt2⟩ := hlt
          obtain ⟨pb, off, rfl, hbl, hq0, hq1, hP, hQ⟩ := HPt.out.cells k hlt1
          generalize L.getD k (0, 0) = el at hq0 hq1 hP hQ
          obtain ⟨P, Q⟩ := el
          simp only at hq0 hq1 hP hQ
          replace hq0 : Hid _ := hq0
          replace hq1 : Hid _ := hq1
          have HVA1 : Hid (∀ u, Ds u x1 b1 (zs) q c g → Calls Tryd.prog 20 #[.pointer (some ⟨x1, 0, none⟩)] u fun e w' => e = .returned (.tuple #[.int .u32 (dVal c g : Nat), .int .i64 0]) ∧ ∃ k, w' = u.drewN k) := fun u h => value_dc h.1 h.2
          have HVA2 : Hid (∀ u, Ds u x2 b2 (z2) q c g → Calls Tryd.prog 20 #[.pointer (some ⟨x2, 0, none⟩)] u fun e w' => e = .returned (.tuple #[.int .u32 (dVal c g : Nat), .int .i64 0]) ∧ ∃ k, w' = u.drewN k) := fun u h => value_dc h.1 h.2
          have HVA3 : Hid (∀ u, Ds u x3 b3 (z3) q c g → Calls Tryd.prog 20 #[.pointer (some ⟨x3, 0, none⟩)] u fun e w' => e = .returned (.tuple #[.int .u32 (dVal c g : Nat), .int .i64 0]) ∧ ∃ k, w' = u.drewN k) := fun u h => value_dc h.1 h.2
          have HTK1 : Hid (∀ u, Ds u x1 b1 (zs) q c g → Calls Tryd.prog 23 #[.pointer (some ⟨x1, 0, none⟩), .int .u32 (aLo (dVal c g) P : Nat), .int .u32 (aHi (dVal c g) Q : Nat)] u fun e w' => e = .returned (.int .i64 0) ∧ Ds w' x1 b1 (zs) (dTake zs c g q (aLo (dVal c g) P) (aHi (dVal c g) Q)).2.2 (dTake zs c g q (aLo (dVal c g) P) (aHi (dVal c g) Q)).1 (dTake zs c g q (aLo (dVal c g) P) (aHi (dVal c g) Q)).2.1 ∧ Kp x1 u w') := fun u hh => take_ds hh _ _ (about_may P Q)
          have HTK2 : Hid (∀ u, Ds u x2 b2 (z2) q c g → Calls Tryd.prog 23 #[.pointer (some ⟨x2, 0, none⟩), .int .u32 (aLo (dVal c g) P : Nat), .int .u32 (aHi (dVal c g) Q : Nat)] u fun e w' => e = .returned (.int .i64 0) ∧ Ds w' x2 b2 (z2) (dTake zs c g q (aLo (dVal c g) P) (aHi (dVal c g) Q)).2.2 (dTake zs c g q (aLo (dVal c g) P) (aHi (dVal c g) Q)).1 (dTake zs c g q (aLo (dVal c g) P) (aHi (dVal c g) Q)).2.1 ∧ Kp x2 u w') := fun u hh => by rw [← dTake_congr HAL2.out]; exact take_ds hh _ _ (about_may P Q)
          have HTK3 : Hid (∀ u, Ds u x3 b3 (z3) q c g → Calls Tryd.prog 23 #[.pointer (some ⟨x3, 0, none⟩), .int .u32 (aLo (dVal c g) P : Nat), .int .u32 (aHi (dVal c g) Q : Nat)] u fun e w' => e = .returned (.int .i64 0) ∧ Ds w' x3 b3 (z3) (dTake zs c g q (aLo (dVal c g) P) (aHi (dVal c g) Q)).2.2 (dTake zs c g q (aLo (dVal c g) P) (aHi (dVal c g) Q)).1 (dTake zs c g q (aLo (dVal c g) P) (aHi (dVal c g) Q)).2.1 ∧ Kp x3 u w') := fun u hh => by rw [← dTake_congr HAL3.out]; exact take_ds hh _ _ (about_may P Q)
          have hv := dVal_lt c g
          have HAB : Hid _ := fun u => about_any (dVal c g) P Q u hv hP hQ
          clear hv
          generalize dTake zs c g q (aLo (dVal c g) P) (aHi (dVal c g) Q) = o at *
          obtain ⟨c', g', q'⟩ := o
          generalize aLo (dVal c g) P = al at *
          generalize aHi (dVal c g) Q = ah at *
          generalize dVal c g = v at *
          simp only at HTK1 HTK2 HTK3
          go_wp2_with fail
          refine (HVA1.out _ hT.d1).mono ?_; rintro ee w1 ⟨rfl, n1, rfl⟩
          have hT1 := hT.drewN n1
          clear hT
          generalize wr.drewN n1 = w1 at *
          go_wp2_with fail
          refine (HVA2.out _ hT1.d2).mono ?_; rintro ee w2 ⟨rfl, n2, rfl⟩
          have hT2 := hT1.drewN n2
          clear hT1
          generalize w1.drewN n2 = w2 at *
          go_wp2_with fail
          refine (HVA3.out _ hT2.d3).mono ?_; rintro ee w3 ⟨rfl, n3, rfl⟩
          have hT3 := hT2.drewN n3
          clear hT2
          generalize w2.drewN n3 = w3 at *
          obtain ⟨cc0, cc1⟩ := ptCells hT3.bel hbl hq0 hq1
          go_wp2_with fail
          refine (HAB.out _).mono ?_; rintro ee wb ⟨rfl, hbb⟩
          have hTb := hT3.below hbb
          clear hT3 hbb cc0 cc1
          have hTq := hTb.below ((Below.refl _ _).alloc (Nat.le_refl _) (.cells #[.int .u32 (al : Nat), .int .u32 (ah : Nat)] 31))
          have hPq := Pv.made (w := wb) (S1 := fun _ => False) (S2 := fun _ => False) al ah (fun _ h => h.elim) (fun _ h => h.elim)
          have hp1 : wb.heap.size ≠ x1 := by have := hTb.d1.1.low; omega
          have hp2 : wb.heap.size ≠ x2 := by have := hTb.d2.1.low; omega
          have hp3 : wb.heap.size ≠ x3 := by have := hTb.d3.1.low; omega
          clear hTb
          go_wp2_with fail
          refine (HTK1.out _ hTq.d1).mono ?_; rintro ee w4 ⟨rfl, hD4, hK4⟩
          have hT4 := hTq.step1 hK4 hD4
          have hP4 := hPq.kp hK4 hp1
          have cc0 := hP4.c0
          have cc1 := hP4.c1
          clear hTq hPq hK4 hD4
          go_wp2_with fail
          refine (HTK2.out _ hT4.d2).mono ?_; rintro ee w5 ⟨rfl, hD5, hK5⟩
          have hT5 := hT4.step2 hK5 hD5
          have hP5 := hP4.kp hK5 hp2
          clear cc0 cc1
          have cc0 := hP5.c0
          have cc1 := hP5.c1
          clear hT4 hP4 hK5 hD5
          go_wp2_with fail
          refine (HTK3.out _ hT5.d3).mono ?_; rintro ee w6 ⟨rfl, hD6, hK6⟩
          have hT6 := hT5.step3 hK6 hD6
          clear hT5 hP5 hK6 hD6 cc0 cc1
          go_wp2_with fail
          go_roundw
          case rel => exact ⟨k + 1, q', c', g', by go_num, by omega, by omega, hT6⟩
          case measure => simp [intOf]; omega
        · by_cases h1 : k < L.length
          · have h2 : ¬ k < 200 := by omega
            have HB : Hid _ := hT.bel
            clear hT
            go_wp2_with fail
            go_ret
            exact ⟨rfl, HB.out⟩
          · have HB : Hid _ := hT.bel
            clear hT
            go_wp2_with fail
            go_ret
            exact ⟨rfl, HB.out⟩

set_option maxHeartbeats 1000000 in
set_option maxRecDepth 100000 in
theorem noughts_empty (W : World) (ad : Addr) (c0 : Nat) (nn : Int) (a : Option Addr) (cp : Nat) (L : List (Nat × Nat)) (hL : PtAt W (.slice a L.length cp) L) (hLl : L.length ≤ 140737488355328) :
    Calls Tryd.prog 7 #[.slice (some ad) 0 c0, .int .i64 nn, .slice a L.length cp] W fun e w' => e = .returned (.bool true) ∧ Below W.heap.size W w' := by
  have HPt : Hid (PtAt W (.slice a L.length cp) L) := hL
  clear hL
  go_enter Tryd.func7, Tryd.ntmps7
  go_wp2_with fail
  refine (works_true W).mono ?_; rintro e u1 ⟨rfl, hu1⟩
  have HU1 : Hid _ := hu1
  clear hu1
  go_wp2_with fail
  go_loop [7] (fun i => i = .int .i64 0) (fun _ => 0)
  case atStart => rfl
  case round =>
    subst hrel
    go_wp2_with fail
    refine (copy_none _ _ u1).mono ?_; rintro e u2 ⟨rfl, rfl⟩
    go_wp2_with fail
    refine (bring_nine nn _).mono ?_; rintro e u3 ⟨rfl, rfl⟩
    obtain ⟨i, hi, hz0, hz1, hz2⟩ := info_parts Tryd.info5
    have hb9 := bring9_lt nn
    generalize bring9 nn = nt at *
    have ho2 : u3.ownsRow u3.heap.size 5 1 (.slice none 0 0) 0 [] := World.ownsRow_nil _ _ _ _
    go_wp2_with (at_builtin; refine wpList_noughts _ (by rfl) _ _ (by rfl) u3.heap.size i hi hz0 hz1 hz2 _ 0 [] (by rfl) ho2 nt (by rfl) (by omega) (by omega) (by omega) ?_; intro v4 u4 ho4 hg4)
    have HU4 : Hid (Below W.heap.size W u4) := HU1.out.grown hg4 HU1.out.size (fun k hk => by simp [Value.ownBlock] at hk)
    have hlen4 : (List.replicate nt 0 : List Nat).length = 0 + nt := by simp
    rw [List.nil_append, replicate_bs, ← hlen4] at ho4
    have hs3 := SrcOf.ofOwn ho4
    obtain ⟨zs, hzs⟩ : ∃ zs : List Nat, zs = [] := ⟨_, rfl⟩
    obtain ⟨z2, hz2'⟩ : ∃ z2 : List Nat, z2 = [] := ⟨_, rfl⟩
    obtain ⟨z3, hz3⟩ : ∃ z3 : List Nat, z3 = List.replicate nt 0 := ⟨_, rfl⟩
    have HAL2 : Hid (∀ i, z2.getD i 0 = zs.getD i 0) := fun i => by rw [hzs, hz2']
    have HAL3 : Hid (∀ i, z3.getD i 0 = zs.getD i 0) := fun i => by have h := more_alike [] nt i; rw [List.nil_append] at h; rw [hzs, hz3]; exact h
    have HZ : Hid (∀ i, zs.getD i 0 < 256) := fun i => by rw [hzs]; simp
    have hs1 : SrcOf u4 (.slice (some ad) 0 c0) zs := by rw [hzs]; exact Or.inr ⟨ad, c0, rfl, fun j hj => by simp at hj⟩
    have hs2 : SrcOf u4 (.slice (some ad) 0 c0) z2 := by rw [hz2']; exact Or.inr ⟨ad, c0, rfl, fun j hj => by simp at hj⟩
    rw [← hz3] at hs3
    have hl3 : z3.length ≤ 8 := by rw [hz3]; simp; omega
    have hl1 : zs.length ≤ 8 := by rw [hzs]; simp
    have hl2 : z2.length ≤ 8 := by rw [hz2']; simp
    have HR1 : Hid (∀ u s2 s3, R3 W u4 u zs z2 z3 none s2 s3 → Calls Tryd.prog 18 #[.slice (some ad) 0 c0] u fun e w' => ∃ x, e = .returned (.pointer (some ⟨x, 0, none⟩)) ∧ ∃ b, R3 W u4 w' zs z2 z3 (some (x, b)) s2 s3) := fun u s2 s3 h => (read_core (hs1.below h.bel) HZ.out (by omega)).mono (by rintro e w' ⟨x, rfl, hm⟩; exact ⟨x, rfl, h.one hm⟩)
    have HR2 : Hid (∀ u s1 s3, R3 W u4 u zs z2 z3 s1 none s3 → Calls Tryd.prog 18 #[.slice (some ad) 0 c0] u fun e w' => ∃ x, e = .returned (.pointer (some ⟨x, 0, none⟩)) ∧ ∃ b, R3 W u4 w' zs z2 z3 s1 (some (x, b)) s3) := fun u s1 s3 h => (read_core (hs2.below h.bel) (byt_alike HAL2.out HZ.out) (by omega)).mono (by rintro e w' ⟨x, rfl, hm⟩; exact ⟨x, rfl, h.two hm⟩)
    have HR3 : Hid (∀ u s1 s2, R3 W u4 u zs z2 z3 s1 s2 none → Calls Tryd.prog 18 #[v4] u fun e w' => ∃ x, e = .returned (.pointer (some ⟨x, 0, none⟩)) ∧ ∃ b, R3 W u4 w' zs z2 z3 s1 s2 (some (x, b))) := fun u s1 s2 h => (read_core (hs3.below h.bel) (byt_alike HAL3.out HZ.out) (by omega)).mono (by rintro e w' ⟨x, rfl, hm⟩; exact ⟨x, rfl, h.three hm⟩)
    have hR0 : R3 W u4 u4.drew zs z2 z3 none none none := ⟨On.none _ _ _, On.none _ _ _, On.none _ _ _, fun _ _ _ _ e => (by cases e), fun _ _ _ _ e => (by cases e), fun _ _ _ _ e => (by cases e), Below.drew (Below.refl _ _), HU4.out.size⟩
    clear hs1 hs2 hs3 ho4 hg4 ho2 hlen4 hzs hz2' hz3 hl1 hl2 hl3
    go_region_held3 (fun _ => True) (trivial) (first
      | (go_at_call 18; with_reducible refine (HR1.out _ _ _ (by assumption)).mono ?_; rintro e wA ⟨x1, rfl, b1, hRA⟩)
      | (go_at_call 18; with_reducible refine (HR2.out _ _ _ (by assumption)).mono ?_; rintro e wB ⟨x2, rfl, b2, hRB⟩)
      | (go_at_call 18; with_reducible refine (HR3.out _ _ _ (by assumption)).mono ?_; rintro e wC ⟨x3, rfl, b3, hRC⟩))
    all_goals
      have hN0 := hRC.n3 HU4.out
      have hN : N3 W wC zs z2 z3 x1 b1 x2 b2 x3 b3 4 (dFirst zs) 4294967295 4 (dFirst zs) 4294967295 4 (dFirst zs) 4294967295 := by
        have e2 := dFirst_congr HAL2.out
        have e3 := dFirst_congr HAL3.out
        rw [e2, e3] at hN0
        exact hN0
      clear hN0 hRA hRB hRC hR0 HR1 HR2 HR3
      go_wp2_with fail
      go_loopw [12] (fun i wr => NoInv W L.length zs z2 z3 x1 b1 x2 b2 x3 b3 i wr) (fun i _ => L.length - (intOf i).toNat)
      case atStart => exact ⟨0, 4, _, _, rfl, by omega, by omega, hN⟩
      case round =>
        clear hN
        obtain ⟨k, q, c, g, rfl, hk1, hk2, hT⟩ := hrel
        by_cases hlt : k < L.length ∧ k < 200
        · obtain ⟨hlt1, hlt2⟩ := hlt
          obtain ⟨pb, off, rfl, hbl, hq0, hq1, hP, hQ⟩ := HPt.out.cells k hlt1
          generalize L.getD k (0, 0) = el at hq0 hq1 hP hQ
          obtain ⟨P, Q⟩ := el
          simp only at hq0 hq1 hP hQ
          replace hq0 : Hid _ := hq0
          replace hq1 : Hid _ := hq1
          have HVA1 : Hid (∀ u, Ds u x1 b1 (zs) q c g → Calls Tryd.prog 20 #[.pointer (some ⟨x1, 0, none⟩)] u fun e w' => e = .returned (.tuple #[.int .u32 (dVal c g : Nat), .int .i64 0]) ∧ ∃ k, w' = u.drewN k) := fun u h => value_dc h.1 h.2
          have HVA2 : Hid (∀ u, Ds u x2 b2 (z2) q c g → Calls Tryd.prog 20 #[.pointer (some ⟨x2, 0, none⟩)] u fun e w' => e = .returned (.tuple #[.int .u32 (dVal c g : Nat), .int .i64 0]) ∧ ∃ k, w' = u.drewN k) := fun u h => value_dc h.1 h.2
          have HVA3 : Hid (∀ u, Ds u x3 b3 (z3) q c g → Calls Tryd.prog 20 #[.pointer (some ⟨x3, 0, none⟩)] u fun e w' => e = .returned (.tuple #[.int .u32 (dVal c g : Nat), .int .i64 0]) ∧ ∃ k, w' = u.drewN k) := fun u h => value_dc h.1 h.2
          have HTK1 : Hid (∀ u, Ds u x1 b1 (zs) q c g → Calls Tryd.prog 23 #[.pointer (some ⟨x1, 0, none⟩), .int .u32 (aLo (dVal c g) P : Nat), .int .u32 (aHi (dVal c g) Q : Nat)] u fun e w' => e = .returned (.int .i64 0) ∧ Ds w' x1 b1 (zs) (dTake zs c g q (aLo (dVal c g) P) (aHi (dVal c g) Q)).2.2 (dTake zs c g q (aLo (dVal c g) P) (aHi (dVal c g) Q)).1 (dTake zs c g q (aLo (dVal c g) P) (aHi (dVal c g) Q)).2.1 ∧ Kp x1 u w') := fun u hh => take_ds hh _ _ (about_may P Q)
          have HTK2 : Hid (∀ u, Ds u x2 b2 (z2) q c g → Calls Tryd.prog 23 #[.pointer (some ⟨x2, 0, none⟩), .int .u32 (aLo (dVal c g) P : Nat), .int .u32 (aHi (dVal c g) Q : Nat)] u fun e w' => e = .returned (.int .i64 0) ∧ Ds w' x2 b2 (z2) (dTake zs c g q (aLo (dVal c g) P) (aHi (dVal c g) Q)).2.2 (dTake zs c g q (aLo (dVal c g) P) (aHi (dVal c g) Q)).1 (dTake zs c g q (aLo (dVal c g) P) (aHi (dVal c g) Q)).2.1 ∧ Kp x2 u w') := fun u hh => by rw [← dTake_congr HAL2.out]; exact take_ds hh _ _ (about_may P Q)
          have HTK3 : Hid (∀ u, Ds u x3 b3 (z3) q c g → Calls Tryd.prog 23 #[.pointer (some ⟨x3, 0, none⟩), .int .u32 (aLo (dVal c g) P : Nat), .int .u32 (aHi (dVal c g) Q : Nat)] u fun e w' => e = .returned (.int .i64 0) ∧ Ds w' x3 b3 (z3) (dTake zs c g q (aLo (dVal c g) P) (aHi (dVal c g) Q)).2.2 (dTake zs c g q (aLo (dVal c g) P) (aHi (dVal c g) Q)).1 (dTake zs c g q (aLo (dVal c g) P) (aHi (dVal c g) Q)).2.1 ∧ Kp x3 u w') := fun u hh => by rw [← dTake_congr HAL3.out]; exact take_ds hh _ _ (about_may P Q)
          have hv := dVal_lt c g
          have HAB : Hid _ := fun u => about_any (dVal c g) P Q u hv hP hQ
          clear hv
          generalize dTake zs c g q (aLo (dVal c g) P) (aHi (dVal c g) Q) = o at *
          obtain ⟨c', g', q'⟩ := o
          generalize aLo (dVal c g) P = al at *
          generalize aHi (dVal c g) Q = ah at *
          generalize dVal c g = v at *
          simp only at HTK1 HTK2 HTK3
          go_wp2_with fail
          refine (HVA1.out _ hT.d1).mono ?_; rintro ee w1 ⟨rfl, n1, rfl⟩
          have hT1 := hT.drewN n1
          clear hT
          generalize wr.drewN n1 = w1 at *
          go_wp2_with fail
          refine (HVA2.out _ hT1.d2).mono ?_; rintro ee w2 ⟨rfl, n2, rfl⟩
          have hT2 := hT1.drewN n2
          clear hT1
          generalize w1.drewN n2 = w2 at *
          go_wp2_with fail
          refine (HVA3.out _ hT2.d3).mono ?_; rintro ee w3 ⟨rfl, n3, rfl⟩
          have hT3 := hT2.drewN n3
          clear hT2
          generalize w2.drewN n3 = w3 at *
          obtain ⟨cc0, cc1⟩ := ptCells hT3.bel hbl hq0 hq1
          go_wp2_with fail
          refine (HAB.out _).mono ?_; rintro ee wb ⟨rfl, hbb⟩
          have hTb := hT3.below hbb
          clear hT3 hbb cc0 cc1
          have hTq := hTb.below ((Below.refl _ _).alloc (Nat.le_refl _) (.cells #[.int .u32 (al : Nat), .int .u32 (ah : Nat)] 31))
          have hPq := Pv.made (w := wb) (S1 := fun _ => False) (S2 := fun _ => False) al ah (fun _ h => h.elim) (fun _ h => h.elim)
          have hp1 : wb.heap.size ≠ x1 := by have := hTb.d1.1.low; omega
          have hp2 : wb.heap.size ≠ x2 := by have := hTb.d2.1.low; omega
          have hp3 : wb.heap.size ≠ x3 := by have := hTb.d3.1.low; omega
          clear hTb
          go_wp2_with fail
          refine (HTK1.out _ hTq.d1).mono ?_; rintro ee w4 ⟨rfl, hD4, hK4⟩
          have hT4 := hTq.step1 hK4 hD4
          have hP4 := hPq.kp hK4 hp1
          have cc0 := hP4.c0
          have cc1 := hP4.c1
          clear hTq hPq hK4 hD4
          go_wp2_with fail
          refine (HTK2.out _ hT4.d2).mono ?_; rintro ee w5 ⟨rfl, hD5, hK5⟩
          have hT5 := hT4.step2 hK5 hD5
          have hP5 := hP4.kp hK5 hp2
          clear cc0 cc1
          have cc0 := hP5.c0
          have cc1 := hP5.c1
          clear hT4 hP4 hK5 hD5
          go_wp2_with fail
          refine (HTK3.out _ hT5.d3).mono ?_; rintro ee w6 ⟨rfl, hD6, hK6⟩
          have hT6 := hT5.step3 hK6 hD6
          clear hT5 hP5 hK6 hD6 cc0 cc1
          go_wp2_with fail
          go_roundw
          case rel => exact ⟨k + 1, q', c', g', by go_num, by omega, by omega, hT6⟩
          case measure => simp [intOf]; omega
        · by_cases h1 : k < L.length
          · have h2 : ¬ k < 200 := by omega
            have HB : Hid _ := hT.bel
            clear hT
            go_wp2_with fail
            go_ret
            exact ⟨rfl, HB.out⟩
          · have HB : Hid _ := hT.bel
            clear hT
            go_wp2_with fail
            go_ret
            exact ⟨rfl, HB.out⟩


/-- the statement's walk, of whatever bytes -/
theorem noughts_walk (W : World) (a0 : Option Addr) (c0 : Nat) (zs : List Nat) (nn : Int) (a : Option Addr) (cp : Nat) (L : List (Nat × Nat)) (hb : SrcOf W (.slice a0 zs.length c0) zs) (hcap : zs.length ≤ c0) (hz : ∀ i, zs.getD i 0 < 256) (hzl : zs.length ≤ 140737488351232) (hL : PtAt W (.slice a L.length cp) L) (hLl : L.length ≤ 140737488355328) :
    Calls Tryd.prog 7 #[.slice a0 zs.length c0, .int .i64 nn, .slice a L.length cp] W fun e w' => e = .returned (.bool true) ∧ Below W.heap.size W w' := by
  rcases hb with ⟨rfl, hv⟩ | ⟨ad, c, hv, hc⟩
  · simp only [List.length_nil] at hv ⊢
    rw [hv]
    exact noughts_nil W nn a cp L hL hLl
  · simp only [Value.slice.injEq] at hv
    obtain ⟨rfl, _, rfl⟩ := hv
    by_cases h0 : zs.length = 0
    · rw [h0]
      exact noughts_empty W ad c0 nn a cp L hL hLl
    · obtain ⟨bb, o0, spot⟩ := ad
      have hc0 := hc 0 (by omega)
      have hspot : spot = none := by simpa [Addr.add] using World.cell?_spot hc0
      subst hspot
      refine noughts_some W bb o0 c0 zs nn a cp L (fun j hj => ?_) hcap (by omega) hz hzl hL hLl
      have := hc j hj
      rw [show (⟨bb, o0, none⟩ : Addr).add j = ⟨bb, o0 + j, none⟩ from (by unfold Addr.add; split <;> simp_all)] at this
      exact this

end Go.Proofs.YtogaekjohnbbiaaDoor
