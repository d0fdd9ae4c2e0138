/- DERIVED. The document's read. -/
import Derived.Test.YtkippnfijjhobaaTr
namespace Go.Proofs.Ytkippnfijjhobaa
open Go.RowKit

set_option maxHeartbeats 4000000 in
set_option maxRecDepth 100000 in
theorem read_any {w : World} {N : Nat} {v : Value} {b : List Nat} {q : Nat} (h : By w N v b) (hN : N ≤ w.heap.size) (hL : b.length ≤ 1099511627776) (hlt : q < b.length) :
    Calls Try.prog 26 #[v, .int .i64 (q : Int)] w fun e w' => RdQ w b q e w' := by
  obtain ⟨a, c, rfl, hc, hnc, hsb⟩ := h.ex
  have HH : Hid (By w N (.slice a b.length c) b) := h
  clear h hsb
  have HP0 : Hid (pick (b.drop q) = _) := pick_at
  obtain ⟨bb, oo, rfl, hbN, hcell⟩ := HH.out.cell (by omega)
  have hx : w.cell? ⟨bb, oo + q, none⟩ = some (.int .u8 (b.getD q 0 : Nat)) := hcell q hlt
  have hbw : bb < w.heap.size := by omega
  have hxb := HH.out.byt q
  have hi1 : (0 : Int) ≤ (q : Int) := by omega
  have hi2 : (q : Int) < (b.length : Int) := by omega
  obtain ⟨n1, hn1⟩ : ∃ n1, n1 = min (b.length - (q + 1)) 5 := ⟨_, rfl⟩
  have e5 : (b.drop (q + 1)).take n1 = (b.drop (q + 1)).take 5 := by
    rw [hn1]
    rcases Nat.le_total (b.length - (q + 1)) 5 with h1 | h1
    · rw [Nat.min_eq_left h1, List.take_of_length_le (by rw [List.length_drop]; omega), List.take_of_length_le (by rw [List.length_drop]; omega)]
    · rw [Nat.min_eq_right h1]
  have hby : By w N (.slice (pa (some ⟨bb, oo, none⟩) c (q + 1) 1) n1 (c - (q + 1))) ((b.drop (q + 1)).take 5) := by
    have := HH.out.part (q + 1) n1 (by omega)
    rw [e5] at this
    exact this
  have hln : ((b.drop (q + 1)).take 5).length = n1 := by rw [← e5, List.length_take, List.length_drop]; omega
  have hct1 : ∀ t : World, (Instr.sliceAt 22 (.slice (some ⟨bb, oo, none⟩) b.length c) (some (.int .i64 ((q : Int) + 1))) (some (.int .i64 (min ((q : Int) + 6) (b.length : Int)))) none).run Try.prog t = .ok (.slice (pa (some ⟨bb, oo, none⟩) c (q + 1) 1) n1 (c - (q + 1))) t := fun t => by
    have := cut_in (a := some ⟨bb, oo, none⟩) (n := b.length) (c := c) (lo := q + 1) (hi := q + 1 + n1) (k := .i64) (k' := .i64) (x := (q : Int) + 1) (y := min ((q : Int) + 6) (b.length : Int)) (by omega) (by omega) (by omega) (by omega) t
    rw [Nat.add_sub_cancel_left] at this
    exact this
  obtain ⟨s1, s2, s3, s4⟩ := rLeb_says hby.byt
  rw [hln] at s3
  have hn5 : n1 ≤ 5 := by omega
  have hn6 : n1 ≤ b.length - (q + 1) := by omega
  have HLN : Hid (((b.drop (q + 1)).take 5).length = n1) := hln
  have HBY : Hid (By w N (.slice (pa (some ⟨bb, oo, none⟩) c (q + 1) 1) n1 (c - (q + 1))) ((b.drop (q + 1)).take 5)) := hby
  clear hby hcell hn1 e5 hln
  generalize pa (some ⟨bb, oo, none⟩) c (q + 1) 1 = A1 at *
  generalize c - (q + 1) = c1 at *
  generalize hD : (b.drop (q + 1)).take 5 = D at *
  have HD : Hid ((b.drop (q + 1)).take 5 = D) := hD
  clear hD
  have HNW : Hid (∀ u : World, Below w.heap.size w u → Calls Try.prog 35 #[.slice A1 n1 c1] u fun e w' => ∃ x g c', e = .returned (.pointer (some ⟨x, 0, none⟩)) ∧ Rf w' x g c' D 0 ∧ u.heap.size ≤ x ∧ Below u.heap.size u w') := fun u hu => by
    have h1 := (HBY.out.below hu hN).src
    have h2 := HLN.out
    rw [← h2] at h1 ⊢
    refine (rnew_any h1 HBY.out.byt (by omega)).mono ?_
    rintro e w' ⟨x, g, c', h3, h4, h5, _, h6⟩
    exact ⟨x, g, c', h3, h4, h5, h6⟩
  have HLB : Hid (∀ (x g c' : Nat) (u : World), Rf u x g c' D 0 → Calls Try.prog 36 #[.pointer (some ⟨x, 0, none⟩)] u fun e w' => e = .returned (.tuple #[.int .u32 (rLeb D 0).1, .int .i64 (rLeb D 0).2.1]) ∧ Rf w' x g c' D (rLeb D 0).2.2 ∧ Kp x u w') := fun x g c' u hr => leb_rf hr
  have HLF : Hid (∀ (x g c' : Nat) (u : World), Rf u x g c' D (rLeb D 0).2.2 → Calls Try.prog 37 #[.pointer (some ⟨x, 0, none⟩)] u fun e w' => e = .returned (.int .i64 (8 * n1 - (rLeb D 0).2.2 : Nat)) ∧ Kp x u w') := fun x g c' u hr => by
    refine (left_rf hr).mono ?_
    rintro e w' ⟨rfl, h2, h3⟩
    exact ⟨by rw [HLN.out], h3⟩
  have HPK : Hid (pick (b.drop q) = if ¬ (b.getD q 0 = 16 ∨ b.getD q 0 = 32 ∨ b.getD q 0 = 48) then (4, 0, 0) else if (rLeb D 0).2.1 ≠ 0 then ((rLeb D 0).2.1, 0, 0) else if 16777216 < (rLeb D 0).1 then (5, 0, 0) else if b.length - (q + 1 + (rLeb D 0).2.2 / 8) < (rLeb D 0).1 then (3, 0, 0) else (0, 1 + (rLeb D 0).2.2 / 8, (rLeb D 0).1)) := by
    exact HP0.out
  clear HP0
  have hdv := left_div s2 s3
  generalize (rLeb D 0).1 = sz at *
  generalize (rLeb D 0).2.1 = er at *
  generalize (rLeb D 0).2.2 = p at *
  generalize hqq : 8 * n1 - p = lf at *
  have hlf : lf ≤ 40 := by omega
  generalize hkk : p / 8 = kk at *
  have HDV : Hid _ := hdv
  clear hqq hkk hdv s2
  generalize hxe : b.getD q 0 = x at *
  have HXE : Hid (b.getD q 0 = x) := hxe
  clear hxe
  have HT : Hid (∀ t : World, Below (w.heap.size + 1) (w.alloc (.cells #[.int .i64 0, .slice none 0 0] 44)) t → (t.cell? ⟨w.heap.size, 0, none⟩ = some (.int .i64 0) ∧ t.cell? ⟨w.heap.size, 1, none⟩ = some (.slice none 0 0) ∧ t.frozen? ⟨w.heap.size, 0, none⟩ = false ∧ t.frozen? ⟨w.heap.size, 1, none⟩ = false) ∧ Below w.heap.size w t ∧ t.cell? ⟨bb, oo + q, none⟩ = some (.int .u8 x) ∧ w.heap.size + 1 ≤ t.heap.size ∧ (∀ c0, (t.setCell ⟨w.heap.size, 0, none⟩ c0).cell? ⟨w.heap.size, 0, none⟩ = some c0) ∧ ∀ c0 c1, ((t.setCell ⟨w.heap.size, 0, none⟩ c0).setCell ⟨w.heap.size, 1, none⟩ c1).cell? ⟨w.heap.size, 1, none⟩ = some c1) := fun t ht => by
    have y0 : t.cell? ⟨w.heap.size, 0, none⟩ = some (.int .i64 0) := by rw [newCell ht _ _ (by omega)]; simp
    have y1 : t.cell? ⟨w.heap.size, 1, none⟩ = some (.slice none 0 0) := by rw [newCell ht _ _ (by omega)]; simp
    refine ⟨⟨y0, y1, ?_, ?_⟩, (from_alloc w _).trans (ht.mono (by omega)), ?_, ?_, fun c0 => World.cell?_setCell_same _ _ _ y0, fun c0 c1 => World.cell?_setCell_same _ _ c1 (by rw [World.cell?_setCell_other _ _ _ _ (by simp)]; exact y1)⟩
    · rw [newFrozen ht _ _ (by omega)]; simp
    · rw [newFrozen ht _ _ (by omega)]; simp
    · rw [newCell ((from_alloc w _).trans (ht.mono (by omega))) _ _ hbw]; exact hx
    · have := ht.size; simpa using this
  have HTX : Hid (IntKind.i64.wrap (IntKind.u8.wrap ((x : Int) / 16)) = ((x / 16 : Nat) : Int)) := by
    show _ = _
    rw [IntKind.wrap_u8, IntKind.wrap_i64]
    omega
  by_cases hxx : x = 16 ∨ x = 32 ∨ x = 48
  · have HXX : Hid _ := hxx
    have HST : Hid (∀ (t : World) (c0 c1 : Value), Below w.heap.size w t → Below w.heap.size w ((t.setCell ⟨w.heap.size, 0, none⟩ c0).setCell ⟨w.heap.size, 1, none⟩ c1)) := fun t c0 c1 ht => below_set (below_set ht (by simp) _) (by simp) _
    by_cases her : er = 0
    · subst her
      by_cases hmx : 16777216 < sz
      · rcases hxx with hc | hc | hc
        · have h16 : ((x : Int) != 16) = false := by rw [bne_eq_false_iff_eq]; omega
          clear hc
          go_enter Try.func26, Try.ntmps26
          go_wp2_with fail
          refine (HNW.out _ (from_alloc _ _)).mono ?_; rintro e w1 ⟨r, g, c', rfl, hr1, hlo, hb1⟩
          have hB1 : Below (w.heap.size + 1) (w.alloc (.cells #[.int .i64 0, .slice none 0 0] 44)) w1 := by simpa using hb1
          have hlo' : w.heap.size + 1 ≤ r := by simpa using hlo
          go_wp2_with fail
          refine (HLB.out r g c' _ hr1).mono ?_; rintro e w2 ⟨rfl, hr2, hk2⟩
          have hB2 : Below (w.heap.size + 1) (w.alloc (.cells #[.int .i64 0, .slice none 0 0] 44)) w2 := hB1.trans (hk2.toBelow' hlo')
          obtain ⟨⟨z0, z1, z2, z3⟩, hbT, hxT, hsT, y0, y1⟩ := HT.out _ hB2
          go_wp2_with fail
          (try simp only [Exit.inBlock, Exit.then])
          refine bodyPost_ret (by simp [results, Try.results26, go_sem, y0, y1]; try rfl) rfl ?_
          exact rdq_no (er := 5) rfl (by rw [HPK.out, if_neg (fun k => k HXX.out), if_neg (by simp), if_pos hmx]) (by omega) (by first | exact hbT | exact HST.out _ _ _ hbT)
        · have h16 : ((x : Int) != 16) = true := by rw [bne_iff_ne]; omega
          have h32 : ((x : Int) != 32) = false := by rw [bne_eq_false_iff_eq]; omega
          clear hc
          go_enter Try.func26, Try.ntmps26
          go_wp2_with fail
          refine (HNW.out _ (from_alloc _ _)).mono ?_; rintro e w1 ⟨r, g, c', rfl, hr1, hlo, hb1⟩
          have hB1 : Below (w.heap.size + 1) (w.alloc (.cells #[.int .i64 0, .slice none 0 0] 44)) w1 := by simpa using hb1
          have hlo' : w.heap.size + 1 ≤ r := by simpa using hlo
          go_wp2_with fail
          refine (HLB.out r g c' _ hr1).mono ?_; rintro e w2 ⟨rfl, hr2, hk2⟩
          have hB2 : Below (w.heap.size + 1) (w.alloc (.cells #[.int .i64 0, .slice none 0 0] 44)) w2 := hB1.trans (hk2.toBelow' hlo')
          obtain ⟨⟨z0, z1, z2, z3⟩, hbT, hxT, hsT, y0, y1⟩ := HT.out _ hB2
          go_wp2_with fail
          (try simp only [Exit.inBlock, Exit.then])
          refine bodyPost_ret (by simp [results, Try.results26, go_sem, y0, y1]; try rfl) rfl ?_
          exact rdq_no (er := 5) rfl (by rw [HPK.out, if_neg (fun k => k HXX.out), if_neg (by simp), if_pos hmx]) (by omega) (by first | exact hbT | exact HST.out _ _ _ hbT)
        · have h16 : ((x : Int) != 16) = true := by rw [bne_iff_ne]; omega
          have h32 : ((x : Int) != 32) = true := by rw [bne_iff_ne]; omega
          have h48 : ((x : Int) != 48) = false := by rw [bne_eq_false_iff_eq]; omega
          clear hc
          go_enter Try.func26, Try.ntmps26
          go_wp2_with fail
          refine (HNW.out _ (from_alloc _ _)).mono ?_; rintro e w1 ⟨r, g, c', rfl, hr1, hlo, hb1⟩
          have hB1 : Below (w.heap.size + 1) (w.alloc (.cells #[.int .i64 0, .slice none 0 0] 44)) w1 := by simpa using hb1
          have hlo' : w.heap.size + 1 ≤ r := by simpa using hlo
          go_wp2_with fail
          refine (HLB.out r g c' _ hr1).mono ?_; rintro e w2 ⟨rfl, hr2, hk2⟩
          have hB2 : Below (w.heap.size + 1) (w.alloc (.cells #[.int .i64 0, .slice none 0 0] 44)) w2 := hB1.trans (hk2.toBelow' hlo')
          obtain ⟨⟨z0, z1, z2, z3⟩, hbT, hxT, hsT, y0, y1⟩ := HT.out _ hB2
          go_wp2_with fail
          (try simp only [Exit.inBlock, Exit.then])
          refine bodyPost_ret (by simp [results, Try.results26, go_sem, y0, y1]; try rfl) rfl ?_
          exact rdq_no (er := 5) rfl (by rw [HPK.out, if_neg (fun k => k HXX.out), if_neg (by simp), if_pos hmx]) (by omega) (by first | exact hbT | exact HST.out _ _ _ hbT)
      · by_cases htr : b.length - (q + 1 + kk) < sz
        · have htr' : (b.length : Int) - ((q : Int) + 1 + (n1 : Int) - (lf : Int) / 8) < (sz : Int) := by have := HDV.out; omega
          rcases hxx with hc | hc | hc
          · have h16 : ((x : Int) != 16) = false := by rw [bne_eq_false_iff_eq]; omega
            clear hc
            go_enter Try.func26, Try.ntmps26
            go_wp2_with fail
            refine (HNW.out _ (from_alloc _ _)).mono ?_; rintro e w1 ⟨r, g, c', rfl, hr1, hlo, hb1⟩
            have hB1 : Below (w.heap.size + 1) (w.alloc (.cells #[.int .i64 0, .slice none 0 0] 44)) w1 := by simpa using hb1
            have hlo' : w.heap.size + 1 ≤ r := by simpa using hlo
            go_wp2_with fail
            refine (HLB.out r g c' _ hr1).mono ?_; rintro e w2 ⟨rfl, hr2, hk2⟩
            have hB2 : Below (w.heap.size + 1) (w.alloc (.cells #[.int .i64 0, .slice none 0 0] 44)) w2 := hB1.trans (hk2.toBelow' hlo')
            obtain ⟨⟨z0, z1, z2, z3⟩, hbT, hxT, hsT, y0, y1⟩ := HT.out _ hB2
            go_wp2_with fail
            refine (HLF.out r g c' _ hr2).mono ?_; rintro e w3 ⟨rfl, hk3⟩
            have hB3 : Below (w.heap.size + 1) (w.alloc (.cells #[.int .i64 0, .slice none 0 0] 44)) w3 := hB2.trans (hk3.toBelow' hlo')
            obtain ⟨⟨z0, z1, z2, z3⟩, hbT, hxT, hsT, y0, y1⟩ := HT.out _ hB3
            go_wp2_with fail
            (try simp only [Exit.inBlock, Exit.then])
            refine bodyPost_ret (by simp [results, Try.results26, go_sem, y0, y1]; try rfl) rfl ?_
            exact rdq_no (er := 3) rfl (by rw [HPK.out, if_neg (fun k => k HXX.out), if_neg (by simp), if_neg hmx, if_pos htr]) (by omega) (by first | exact hbT | exact HST.out _ _ _ hbT)
          · have h16 : ((x : Int) != 16) = true := by rw [bne_iff_ne]; omega
            have h32 : ((x : Int) != 32) = false := by rw [bne_eq_false_iff_eq]; omega
            clear hc
            go_enter Try.func26, Try.ntmps26
            go_wp2_with fail
            refine (HNW.out _ (from_alloc _ _)).mono ?_; rintro e w1 ⟨r, g, c', rfl, hr1, hlo, hb1⟩
            have hB1 : Below (w.heap.size + 1) (w.alloc (.cells #[.int .i64 0, .slice none 0 0] 44)) w1 := by simpa using hb1
            have hlo' : w.heap.size + 1 ≤ r := by simpa using hlo
            go_wp2_with fail
            refine (HLB.out r g c' _ hr1).mono ?_; rintro e w2 ⟨rfl, hr2, hk2⟩
            have hB2 : Below (w.heap.size + 1) (w.alloc (.cells #[.int .i64 0, .slice none 0 0] 44)) w2 := hB1.trans (hk2.toBelow' hlo')
            obtain ⟨⟨z0, z1, z2, z3⟩, hbT, hxT, hsT, y0, y1⟩ := HT.out _ hB2
            go_wp2_with fail
            refine (HLF.out r g c' _ hr2).mono ?_; rintro e w3 ⟨rfl, hk3⟩
            have hB3 : Below (w.heap.size + 1) (w.alloc (.cells #[.int .i64 0, .slice none 0 0] 44)) w3 := hB2.trans (hk3.toBelow' hlo')
            obtain ⟨⟨z0, z1, z2, z3⟩, hbT, hxT, hsT, y0, y1⟩ := HT.out _ hB3
            go_wp2_with fail
            (try simp only [Exit.inBlock, Exit.then])
            refine bodyPost_ret (by simp [results, Try.results26, go_sem, y0, y1]; try rfl) rfl ?_
            exact rdq_no (er := 3) rfl (by rw [HPK.out, if_neg (fun k => k HXX.out), if_neg (by simp), if_neg hmx, if_pos htr]) (by omega) (by first | exact hbT | exact HST.out _ _ _ hbT)
          · have h16 : ((x : Int) != 16) = true := by rw [bne_iff_ne]; omega
            have h32 : ((x : Int) != 32) = true := by rw [bne_iff_ne]; omega
            have h48 : ((x : Int) != 48) = false := by rw [bne_eq_false_iff_eq]; omega
            clear hc
            go_enter Try.func26, Try.ntmps26
            go_wp2_with fail
            refine (HNW.out _ (from_alloc _ _)).mono ?_; rintro e w1 ⟨r, g, c', rfl, hr1, hlo, hb1⟩
            have hB1 : Below (w.heap.size + 1) (w.alloc (.cells #[.int .i64 0, .slice none 0 0] 44)) w1 := by simpa using hb1
            have hlo' : w.heap.size + 1 ≤ r := by simpa using hlo
            go_wp2_with fail
            refine (HLB.out r g c' _ hr1).mono ?_; rintro e w2 ⟨rfl, hr2, hk2⟩
            have hB2 : Below (w.heap.size + 1) (w.alloc (.cells #[.int .i64 0, .slice none 0 0] 44)) w2 := hB1.trans (hk2.toBelow' hlo')
            obtain ⟨⟨z0, z1, z2, z3⟩, hbT, hxT, hsT, y0, y1⟩ := HT.out _ hB2
            go_wp2_with fail
            refine (HLF.out r g c' _ hr2).mono ?_; rintro e w3 ⟨rfl, hk3⟩
            have hB3 : Below (w.heap.size + 1) (w.alloc (.cells #[.int .i64 0, .slice none 0 0] 44)) w3 := hB2.trans (hk3.toBelow' hlo')
            obtain ⟨⟨z0, z1, z2, z3⟩, hbT, hxT, hsT, y0, y1⟩ := HT.out _ hB3
            go_wp2_with fail
            (try simp only [Exit.inBlock, Exit.then])
            refine bodyPost_ret (by simp [results, Try.results26, go_sem, y0, y1]; try rfl) rfl ?_
            exact rdq_no (er := 3) rfl (by rw [HPK.out, if_neg (fun k => k HXX.out), if_neg (by simp), if_neg hmx, if_pos htr]) (by omega) (by first | exact hbT | exact HST.out _ _ _ hbT)
        · have hms : q + 1 + kk + sz ≤ b.length := by omega
          obtain ⟨A3, c3, hA3, hB3y⟩ : ∃ A3 c3, (∀ F : Int, F = ((q + 1 + kk : Nat) : Int) → ∀ t : World, (Instr.sliceAt 22 (.slice (some ⟨bb, oo, none⟩) b.length c) (some (.int .i64 F)) (some (.int .i64 (F + (sz : Int)))) none).run Try.prog t = .ok (.slice A3 sz c3) t) ∧ By w N (.slice A3 sz c3) (((b.drop q).drop (1 + kk)).take sz) := by
            refine ⟨pa (some ⟨bb, oo, none⟩) c (q + 1 + kk) 1, c - (q + 1 + kk), fun F hF t => ?_, ?_⟩
            · have := cut_in (a := some ⟨bb, oo, none⟩) (n := b.length) (c := c) (lo := q + 1 + kk) (hi := q + 1 + kk + sz) (k := .i64) (k' := .i64) (x := F) (y := F + (sz : Int)) hF (by omega) (by omega) (by omega) t
              rw [Nat.add_sub_cancel_left] at this
              exact this
            · rw [List.drop_drop, ← Nat.add_assoc]
              exact HH.out.part (q + 1 + kk) sz (by omega)
          have HCT3 : Hid (∀ F : Int, F = ((q + 1 + kk : Nat) : Int) → ∀ t : World, (Instr.sliceAt 22 (.slice (some ⟨bb, oo, none⟩) b.length c) (some (.int .i64 F)) (some (.int .i64 (F + (sz : Int)))) none).run Try.prog t = .ok (.slice A3 sz c3) t) := hA3
          have hl3 : (((b.drop q).drop (1 + kk)).take sz).length = sz := by rw [List.length_take, List.length_drop, List.length_drop]; omega
          have HCP : Hid (∀ (t s : World), w.heap.size + 1 ≤ s.heap.size → Below w.heap.size w s → Below s.heap.size s t → Calls Try.prog 9 #[.slice A3 sz c3] t fun e w' => ∃ a5 c5, e = .returned (.slice a5 sz c5) ∧ w'.ownsRow w.heap.size 5 1 (.slice a5 sz c5) sz (bs (((b.drop q).drop (1 + kk)).take sz)) ∧ (∀ k, (Value.slice a5 sz c5).ownBlock = some k → w.heap.size + 1 ≤ k) ∧ Below s.heap.size s w') := fun t s h1 h2 h3 => by
            refine (rcopy_any (hB3y.below (h2.trans (h3.mono (by omega))) hN)).mono ?_
            rintro e w' ⟨a5, c5, rfl, h4, h5⟩
            rw [hl3] at h4 ⊢
            have h6 := h3.size
            exact ⟨a5, c5, rfl, own_mono h4 (by omega), fun k hk => by have := (h4.lt k hk).1; omega, below_to h3 h5⟩
          have HPK3 : Hid (pick (b.drop q) = (0, 1 + kk, sz)) := by
            show _ = _
            rw [HPK.out, if_neg (fun k => k HXX.out), if_neg (by simp), if_neg hmx, if_neg htr]
          have htr3 : (sz : Int) ≤ (b.length : Int) - ((q : Int) + 1 + (n1 : Int) - (lf : Int) / 8) := by have := HDV.out; omega
          have hsz3 : sz ≤ 1099511627776 := by omega
          have hkk3 : q + 1 + kk ≤ 1099511627776 := by omega
          clear hA3 hB3y hl3
          rcases hxx with hc | hc | hc
          · have h16 : ((x : Int) != 16) = false := by rw [bne_eq_false_iff_eq]; omega
            clear hc
            go_enter Try.func26, Try.ntmps26
            go_wp2_with fail
            refine (HNW.out _ (from_alloc _ _)).mono ?_; rintro e w1 ⟨r, g, c', rfl, hr1, hlo, hb1⟩
            have hB1 : Below (w.heap.size + 1) (w.alloc (.cells #[.int .i64 0, .slice none 0 0] 44)) w1 := by simpa using hb1
            have hlo' : w.heap.size + 1 ≤ r := by simpa using hlo
            go_wp2_with fail
            refine (HLB.out r g c' _ hr1).mono ?_; rintro e w2 ⟨rfl, hr2, hk2⟩
            have hB2 : Below (w.heap.size + 1) (w.alloc (.cells #[.int .i64 0, .slice none 0 0] 44)) w2 := hB1.trans (hk2.toBelow' hlo')
            obtain ⟨⟨z0, z1, z2, z3⟩, hbT, hxT, hsT, y0, y1⟩ := HT.out _ hB2
            go_wp2_with fail
            refine (HLF.out r g c' _ hr2).mono ?_; rintro e w3 ⟨rfl, hk3⟩
            have hB3 : Below (w.heap.size + 1) (w.alloc (.cells #[.int .i64 0, .slice none 0 0] 44)) w3 := hB2.trans (hk3.toBelow' hlo')
            obtain ⟨⟨z0, z1, z2, z3⟩, hbT, hxT, hsT, y0, y1⟩ := HT.out _ hB3
            go_wp2_with fail
            obtain ⟨F, hF⟩ : ∃ F : Int, F = (q : Int) + 1 + (n1 : Int) - (lf : Int) / 8 := ⟨_, rfl⟩
            rw [← hF]
            have hFk : F = ((q + 1 + kk : Nat) : Int) := by have := HDV.out; omega
            have HFk : Hid (F = ((q + 1 + kk : Nat) : Int)) := hFk
            have hct3 : ∀ t : World, (Instr.sliceAt 22 (.slice (some ⟨bb, oo, none⟩) b.length c) (some (.int .i64 F)) (some (.int .i64 (F + (sz : Int)))) none).run Try.prog t = .ok (.slice A3 sz c3) t := fun t => HCT3.out F hFk t
            have W1 : IntKind.i64.wrap (F + (sz : Int)) = F + (sz : Int) := by rw [IntKind.wrap_i64]; omega
            have W1' : wrap64 (F + (sz : Int)) = F + (sz : Int) := by unfold wrap64; omega
            have W2 : IntKind.i64.wrap (sz : Int) = (sz : Int) := by rw [IntKind.wrap_i64]; omega
            have HBT : Hid (Below w.heap.size w w3) := hbT
            have HB3 : Hid _ := hB3
            have HC3 : Hid (∀ t : World, Below w3.heap.size w3 t → Calls Try.prog 9 #[.slice A3 sz c3] t fun e w' => ∃ a5 c5, e = .returned (.slice a5 sz c5) ∧ w'.ownsRow w.heap.size 5 1 (.slice a5 sz c5) sz (bs (((b.drop q).drop (1 + kk)).take sz)) ∧ (∀ k, (Value.slice a5 sz c5).ownBlock = some k → w.heap.size + 1 ≤ k) ∧ Below w3.heap.size w3 w') := fun t ht => HCP.out t w3 hsT HBT.out ht
            clear hF hFk hbT hB1 hB2 hB3 hk2 hk3 hr1 hr2 hb1 hsT
            go_region_with (go_at_call 9; (with_reducible refine (HC3.out _ ?_).mono ?_); (first | exact Below.refl _ _ | exact below_drew (Below.refl _ _)); rintro e w5 ⟨a5, c5, rfl, hown5, hap5, hb5⟩; obtain ⟨⟨z0, z1, z2, z3⟩, hbT5, hxT5, hsT5, y0, y1⟩ := HT.out _ (HB3.out.trans (hb5.mono (by have := HB3.out.size; simpa using this))))
            all_goals
              go_wp2_with fail
              (try simp only [Exit.inBlock, Exit.then])
              refine bodyPost_ret (by simp [results, Try.results26, go_sem, y0, y1]; try rfl) rfl ?_
              refine rdq_yes HPK3.out (by rw [HXE.out]; exact HTX.out) ?_ rfl ?_ ?_
              · have := HFk.out
                try rw [W1]
                try rw [W1']
                omega
              · exact own_carry hown5 (fun k hk => by
                  have hk' := hap5 k hk
                  first
                    | (rw [Below.heap_setCell _ _ _ _ (by simp; omega), Below.heap_setCell _ _ _ _ (by simp; omega)]; done)
                    | (show _ = _; rw [show (World.drew _).heap = _ from rfl, Below.heap_setCell _ _ _ _ (by simp; omega), Below.heap_setCell _ _ _ _ (by simp; omega)]))
              · first
                  | exact HST.out _ _ _ hbT5
                  | exact below_drew (HST.out _ _ _ hbT5)
                  | exact HST.out _ _ _ (below_drew hbT5)
          · have h16 : ((x : Int) != 16) = true := by rw [bne_iff_ne]; omega
            have h32 : ((x : Int) != 32) = false := by rw [bne_eq_false_iff_eq]; omega
            clear hc
            go_enter Try.func26, Try.ntmps26
            go_wp2_with fail
            refine (HNW.out _ (from_alloc _ _)).mono ?_; rintro e w1 ⟨r, g, c', rfl, hr1, hlo, hb1⟩
            have hB1 : Below (w.heap.size + 1) (w.alloc (.cells #[.int .i64 0, .slice none 0 0] 44)) w1 := by simpa using hb1
            have hlo' : w.heap.size + 1 ≤ r := by simpa using hlo
            go_wp2_with fail
            refine (HLB.out r g c' _ hr1).mono ?_; rintro e w2 ⟨rfl, hr2, hk2⟩
            have hB2 : Below (w.heap.size + 1) (w.alloc (.cells #[.int .i64 0, .slice none 0 0] 44)) w2 := hB1.trans (hk2.toBelow' hlo')
            obtain ⟨⟨z0, z1, z2, z3⟩, hbT, hxT, hsT, y0, y1⟩ := HT.out _ hB2
            go_wp2_with fail
            refine (HLF.out r g c' _ hr2).mono ?_; rintro e w3 ⟨rfl, hk3⟩
            have hB3 : Below (w.heap.size + 1) (w.alloc (.cells #[.int .i64 0, .slice none 0 0] 44)) w3 := hB2.trans (hk3.toBelow' hlo')
            obtain ⟨⟨z0, z1, z2, z3⟩, hbT, hxT, hsT, y0, y1⟩ := HT.out _ hB3
            go_wp2_with fail
            obtain ⟨F, hF⟩ : ∃ F : Int, F = (q : Int) + 1 + (n1 : Int) - (lf : Int) / 8 := ⟨_, rfl⟩
            rw [← hF]
            have hFk : F = ((q + 1 + kk : Nat) : Int) := by have := HDV.out; omega
            have HFk : Hid (F = ((q + 1 + kk : Nat) : Int)) := hFk
            have hct3 : ∀ t : World, (Instr.sliceAt 22 (.slice (some ⟨bb, oo, none⟩) b.length c) (some (.int .i64 F)) (some (.int .i64 (F + (sz : Int)))) none).run Try.prog t = .ok (.slice A3 sz c3) t := fun t => HCT3.out F hFk t
            have W1 : IntKind.i64.wrap (F + (sz : Int)) = F + (sz : Int) := by rw [IntKind.wrap_i64]; omega
            have W1' : wrap64 (F + (sz : Int)) = F + (sz : Int) := by unfold wrap64; omega
            have W2 : IntKind.i64.wrap (sz : Int) = (sz : Int) := by rw [IntKind.wrap_i64]; omega
            have HBT : Hid (Below w.heap.size w w3) := hbT
            have HB3 : Hid _ := hB3
            have HC3 : Hid (∀ t : World, Below w3.heap.size w3 t → Calls Try.prog 9 #[.slice A3 sz c3] t fun e w' => ∃ a5 c5, e = .returned (.slice a5 sz c5) ∧ w'.ownsRow w.heap.size 5 1 (.slice a5 sz c5) sz (bs (((b.drop q).drop (1 + kk)).take sz)) ∧ (∀ k, (Value.slice a5 sz c5).ownBlock = some k → w.heap.size + 1 ≤ k) ∧ Below w3.heap.size w3 w') := fun t ht => HCP.out t w3 hsT HBT.out ht
            clear hF hFk hbT hB1 hB2 hB3 hk2 hk3 hr1 hr2 hb1 hsT
            go_region_with (go_at_call 9; (with_reducible refine (HC3.out _ ?_).mono ?_); (first | exact Below.refl _ _ | exact below_drew (Below.refl _ _)); rintro e w5 ⟨a5, c5, rfl, hown5, hap5, hb5⟩; obtain ⟨⟨z0, z1, z2, z3⟩, hbT5, hxT5, hsT5, y0, y1⟩ := HT.out _ (HB3.out.trans (hb5.mono (by have := HB3.out.size; simpa using this))))
            all_goals
              go_wp2_with fail
              (try simp only [Exit.inBlock, Exit.then])
              refine bodyPost_ret (by simp [results, Try.results26, go_sem, y0, y1]; try rfl) rfl ?_
              refine rdq_yes HPK3.out (by rw [HXE.out]; exact HTX.out) ?_ rfl ?_ ?_
              · have := HFk.out
                try rw [W1]
                try rw [W1']
                omega
              · exact own_carry hown5 (fun k hk => by
                  have hk' := hap5 k hk
                  first
                    | (rw [Below.heap_setCell _ _ _ _ (by simp; omega), Below.heap_setCell _ _ _ _ (by simp; omega)]; done)
                    | (show _ = _; rw [show (World.drew _).heap = _ from rfl, Below.heap_setCell _ _ _ _ (by simp; omega), Below.heap_setCell _ _ _ _ (by simp; omega)]))
              · first
                  | exact HST.out _ _ _ hbT5
                  | exact below_drew (HST.out _ _ _ hbT5)
                  | exact HST.out _ _ _ (below_drew hbT5)
          · have h16 : ((x : Int) != 16) = true := by rw [bne_iff_ne]; omega
            have h32 : ((x : Int) != 32) = true := by rw [bne_iff_ne]; omega
            have h48 : ((x : Int) != 48) = false := by rw [bne_eq_false_iff_eq]; omega
            clear hc
            go_enter Try.func26, Try.ntmps26
            go_wp2_with fail
            refine (HNW.out _ (from_alloc _ _)).mono ?_; rintro e w1 ⟨r, g, c', rfl, hr1, hlo, hb1⟩
            have hB1 : Below (w.heap.size + 1) (w.alloc (.cells #[.int .i64 0, .slice none 0 0] 44)) w1 := by simpa using hb1
            have hlo' : w.heap.size + 1 ≤ r := by simpa using hlo
            go_wp2_with fail
            refine (HLB.out r g c' _ hr1).mono ?_; rintro e w2 ⟨rfl, hr2, hk2⟩
            have hB2 : Below (w.heap.size + 1) (w.alloc (.cells #[.int .i64 0, .slice none 0 0] 44)) w2 := hB1.trans (hk2.toBelow' hlo')
            obtain ⟨⟨z0, z1, z2, z3⟩, hbT, hxT, hsT, y0, y1⟩ := HT.out _ hB2
            go_wp2_with fail
            refine (HLF.out r g c' _ hr2).mono ?_; rintro e w3 ⟨rfl, hk3⟩
            have hB3 : Below (w.heap.size + 1) (w.alloc (.cells #[.int .i64 0, .slice none 0 0] 44)) w3 := hB2.trans (hk3.toBelow' hlo')
            obtain ⟨⟨z0, z1, z2, z3⟩, hbT, hxT, hsT, y0, y1⟩ := HT.out _ hB3
            go_wp2_with fail
            obtain ⟨F, hF⟩ : ∃ F : Int, F = (q : Int) + 1 + (n1 : Int) - (lf : Int) / 8 := ⟨_, rfl⟩
            rw [← hF]
            have hFk : F = ((q + 1 + kk : Nat) : Int) := by have := HDV.out; omega
            have HFk : Hid (F = ((q + 1 + kk : Nat) : Int)) := hFk
            have hct3 : ∀ t : World, (Instr.sliceAt 22 (.slice (some ⟨bb, oo, none⟩) b.length c) (some (.int .i64 F)) (some (.int .i64 (F + (sz : Int)))) none).run Try.prog t = .ok (.slice A3 sz c3) t := fun t => HCT3.out F hFk t
            have W1 : IntKind.i64.wrap (F + (sz : Int)) = F + (sz : Int) := by rw [IntKind.wrap_i64]; omega
            have W1' : wrap64 (F + (sz : Int)) = F + (sz : Int) := by unfold wrap64; omega
            have W2 : IntKind.i64.wrap (sz : Int) = (sz : Int) := by rw [IntKind.wrap_i64]; omega
            have HBT : Hid (Below w.heap.size w w3) := hbT
            have HB3 : Hid _ := hB3
            have HC3 : Hid (∀ t : World, Below w3.heap.size w3 t → Calls Try.prog 9 #[.slice A3 sz c3] t fun e w' => ∃ a5 c5, e = .returned (.slice a5 sz c5) ∧ w'.ownsRow w.heap.size 5 1 (.slice a5 sz c5) sz (bs (((b.drop q).drop (1 + kk)).take sz)) ∧ (∀ k, (Value.slice a5 sz c5).ownBlock = some k → w.heap.size + 1 ≤ k) ∧ Below w3.heap.size w3 w') := fun t ht => HCP.out t w3 hsT HBT.out ht
            clear hF hFk hbT hB1 hB2 hB3 hk2 hk3 hr1 hr2 hb1 hsT
            go_region_with (go_at_call 9; (with_reducible refine (HC3.out _ ?_).mono ?_); (first | exact Below.refl _ _ | exact below_drew (Below.refl _ _)); rintro e w5 ⟨a5, c5, rfl, hown5, hap5, hb5⟩; obtain ⟨⟨z0, z1, z2, z3⟩, hbT5, hxT5, hsT5, y0, y1⟩ := HT.out _ (HB3.out.trans (hb5.mono (by have := HB3.out.size; simpa using this))))
            all_goals
              go_wp2_with fail
              (try simp only [Exit.inBlock, Exit.then])
              refine bodyPost_ret (by simp [results, Try.results26, go_sem, y0, y1]; try rfl) rfl ?_
              refine rdq_yes HPK3.out (by rw [HXE.out]; exact HTX.out) ?_ rfl ?_ ?_
              · have := HFk.out
                try rw [W1]
                try rw [W1']
                omega
              · exact own_carry hown5 (fun k hk => by
                  have hk' := hap5 k hk
                  first
                    | (rw [Below.heap_setCell _ _ _ _ (by simp; omega), Below.heap_setCell _ _ _ _ (by simp; omega)]; done)
                    | (show _ = _; rw [show (World.drew _).heap = _ from rfl, Below.heap_setCell _ _ _ _ (by simp; omega), Below.heap_setCell _ _ _ _ (by simp; omega)]))
              · first
                  | exact HST.out _ _ _ hbT5
                  | exact below_drew (HST.out _ _ _ hbT5)
                  | exact HST.out _ _ _ (below_drew hbT5)
    · have her' : ((er : Int) != 0) = true := by rw [bne_iff_ne]; omega
      rcases hxx with hc | hc | hc
      · have h16 : ((x : Int) != 16) = false := by rw [bne_eq_false_iff_eq]; omega
        clear hc
        go_enter Try.func26, Try.ntmps26
        go_wp2_with fail
        refine (HNW.out _ (from_alloc _ _)).mono ?_; rintro e w1 ⟨r, g, c', rfl, hr1, hlo, hb1⟩
        have hB1 : Below (w.heap.size + 1) (w.alloc (.cells #[.int .i64 0, .slice none 0 0] 44)) w1 := by simpa using hb1
        have hlo' : w.heap.size + 1 ≤ r := by simpa using hlo
        go_wp2_with fail
        refine (HLB.out r g c' _ hr1).mono ?_; rintro e w2 ⟨rfl, hr2, hk2⟩
        have hB2 : Below (w.heap.size + 1) (w.alloc (.cells #[.int .i64 0, .slice none 0 0] 44)) w2 := hB1.trans (hk2.toBelow' hlo')
        obtain ⟨⟨z0, z1, z2, z3⟩, hbT, hxT, hsT, y0, y1⟩ := HT.out _ hB2
        go_wp2_with fail
        (try simp only [Exit.inBlock, Exit.then])
        refine bodyPost_ret (by simp [results, Try.results26, go_sem, y0, y1]; try rfl) rfl ?_
        exact rdq_no (er := er) rfl (by rw [HPK.out, if_neg (fun k => k HXX.out), if_pos her]) her (by first | exact hbT | exact HST.out _ _ _ hbT)
      · have h16 : ((x : Int) != 16) = true := by rw [bne_iff_ne]; omega
        have h32 : ((x : Int) != 32) = false := by rw [bne_eq_false_iff_eq]; omega
        clear hc
        go_enter Try.func26, Try.ntmps26
        go_wp2_with fail
        refine (HNW.out _ (from_alloc _ _)).mono ?_; rintro e w1 ⟨r, g, c', rfl, hr1, hlo, hb1⟩
        have hB1 : Below (w.heap.size + 1) (w.alloc (.cells #[.int .i64 0, .slice none 0 0] 44)) w1 := by simpa using hb1
        have hlo' : w.heap.size + 1 ≤ r := by simpa using hlo
        go_wp2_with fail
        refine (HLB.out r g c' _ hr1).mono ?_; rintro e w2 ⟨rfl, hr2, hk2⟩
        have hB2 : Below (w.heap.size + 1) (w.alloc (.cells #[.int .i64 0, .slice none 0 0] 44)) w2 := hB1.trans (hk2.toBelow' hlo')
        obtain ⟨⟨z0, z1, z2, z3⟩, hbT, hxT, hsT, y0, y1⟩ := HT.out _ hB2
        go_wp2_with fail
        (try simp only [Exit.inBlock, Exit.then])
        refine bodyPost_ret (by simp [results, Try.results26, go_sem, y0, y1]; try rfl) rfl ?_
        exact rdq_no (er := er) rfl (by rw [HPK.out, if_neg (fun k => k HXX.out), if_pos her]) her (by first | exact hbT | exact HST.out _ _ _ hbT)
      · have h16 : ((x : Int) != 16) = true := by rw [bne_iff_ne]; omega
        have h32 : ((x : Int) != 32) = true := by rw [bne_iff_ne]; omega
        have h48 : ((x : Int) != 48) = false := by rw [bne_eq_false_iff_eq]; omega
        clear hc
        go_enter Try.func26, Try.ntmps26
        go_wp2_with fail
        refine (HNW.out _ (from_alloc _ _)).mono ?_; rintro e w1 ⟨r, g, c', rfl, hr1, hlo, hb1⟩
        have hB1 : Below (w.heap.size + 1) (w.alloc (.cells #[.int .i64 0, .slice none 0 0] 44)) w1 := by simpa using hb1
        have hlo' : w.heap.size + 1 ≤ r := by simpa using hlo
        go_wp2_with fail
        refine (HLB.out r g c' _ hr1).mono ?_; rintro e w2 ⟨rfl, hr2, hk2⟩
        have hB2 : Below (w.heap.size + 1) (w.alloc (.cells #[.int .i64 0, .slice none 0 0] 44)) w2 := hB1.trans (hk2.toBelow' hlo')
        obtain ⟨⟨z0, z1, z2, z3⟩, hbT, hxT, hsT, y0, y1⟩ := HT.out _ hB2
        go_wp2_with fail
        (try simp only [Exit.inBlock, Exit.then])
        refine bodyPost_ret (by simp [results, Try.results26, go_sem, y0, y1]; try rfl) rfl ?_
        exact rdq_no (er := er) rfl (by rw [HPK.out, if_neg (fun k => k HXX.out), if_pos her]) her (by first | exact hbT | exact HST.out _ _ _ hbT)
  · have h16 : ((x : Int) != 16) = true := by rw [bne_iff_ne]; omega
    have h32 : ((x : Int) != 32) = true := by rw [bne_iff_ne]; omega
    have h48 : ((x : Int) != 48) = true := by rw [bne_iff_ne]; omega
    have HXX : Hid _ := hxx
    clear hxx
    go_enter Try.func26, Try.ntmps26
    go_wp2_with fail
    go_returns
    refine rdq_no (er := 4) rfl (by rw [HPK.out, if_pos HXX.out]) (by omega) (from_alloc _ _)
end Go.Proofs.Ytkippnfijjhobaa
