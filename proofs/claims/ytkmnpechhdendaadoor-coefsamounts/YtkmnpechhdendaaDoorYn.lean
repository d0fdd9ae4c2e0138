/- DERIVED. The walk of CoefsAmounts. -/
import Derived.Test.YtkmnpechhdendaaDoorYm
namespace Go.Proofs.YtkmnpechhdendaaDoor
open Go.RowKit L3

theorem one_level {v : Int} (h1 : -1048576 < v) (h2 : v < 1048576) {q : Nat} (hq : 0 < q) : (myL [v] q q).getD 0 0 = v ∧ ∀ p, p ≠ 0 → (myL [v] q q).getD p 0 = 0 := by
  refine ⟨?_, fun p hp => ?_⟩
  · unfold myL
    rw [map_get _ hq, if_pos hq]
    show v.tmod 1048576 = v
    rcases Int.lt_or_le v 0 with hn | hn
    · have := Int.neg_tmod (a := -v) (b := 1048576)
      rw [Int.neg_neg] at this
      rw [this, Int.tmod_eq_of_lt (by omega) (by omega), Int.neg_neg]
    · exact Int.tmod_eq_of_lt hn h2
  · by_cases hpq : p < q
    · unfold myL
      rw [map_get _ hpq, if_pos hpq, List.getD_eq_getElem?_getD, List.getElem?_eq_none (by show 1 ≤ p; omega)]
      rfl
    · rw [List.getD_eq_getElem?_getD, List.getElem?_eq_none (by rw [myL_len]; omega)]; rfl

/-- what one level comes to -/
structure Aft (z : Int) (n pl q : Nat) (v : Int) : Prop where
  lv : Lv n (myL [v] q q)
  cnt : ∀ k : Nat, (15 ≤ ((v.natAbs : Nat) : Int) → (2 : Int) ^ k ≤ ((v.natAbs : Nat) : Int) - 14 ∧ ((v.natAbs : Nat) : Int) - 14 < 2 ^ (k + 1)) → ((((cw z n (min pl 1) 0 (myL [v] q q)).run (wS true)).2.n : Nat) : Int) = 4 + if ((v.natAbs : Nat) : Int) < 3 then 0 else min ((((v.natAbs : Nat) : Int) - 3) / 3 + 1) 4 + (lnC ((v.natAbs : Nat) : Int) k : Int)
  res : ((cw z n (min pl 1) 0 (myL [v] q q)).run (wS true)).1 = some (myL [v] q q)
  lo : 1 ≤ ((v.natAbs : Nat) : Int)
  hi : ((v.natAbs : Nat) : Int) < 1048576
  mx : max v (-v) = ((v.natAbs : Nat) : Int)
  vi : -1048576 < v ∧ v < 1048576
theorem aft_of {z : Int} {n pl q : Nat} {v : Int} (hz : L10.Sz z n) (hpl : pl ≤ 2) (hq : n * n = q) (hq0 : 0 < q) (g0 : v ≠ 0) (g1 : -1048576 < v) (g2 : v < 1048576) : Aft z n pl q v := by
  subst hq
  have hL := myL_lv [v] (n := n)
  obtain ⟨o1, o2⟩ := one_level g1 g2 hq0
  have r := cw_ran (wS_ok true) (by show (0 : Nat) ≤ _; omega) hz (col := min pl 1) (sg := 0) (by omega) (by omega) (fun _ => hL)
  obtain ⟨K, k1, k2⟩ := r.wri rfl
  refine ⟨hL, fun k hk => ?_, by rw [k1, k2], by omega, by omega, by omega, g1, g2⟩
  rw [Prg.run_wc _ _ rfl]
  have := one_count (col := min pl 1) (sg := 0) hz hL (by rw [o1]; exact g0) o2 (a := ((v.natAbs : Nat) : Int)) (by rw [o1]) hk
  show (((0 + (cw z n (min pl 1) 0 (myL [v] (n * n) (n * n))).wc : Nat)) : Int) = _
  rw [Nat.zero_add]
  exact this

set_option maxRecDepth 100000 in
set_option maxHeartbeats 4000000 in
theorem amounts_walk (hcl : CodeLaw) {w : World} (hsh : Sh w) (hnt : L10.Nt w) {a b v0 : Int} : Calls Tryd.prog 5 #[.int .i64 a, .int .i64 b, .int .i64 v0] w fun e w' => e = .returned (.bool true) ∧ Below w.heap.size w w' := by
  have HCL : Hid CodeLaw := hcl
  have HSh : Hid (∀ u, Below w.heap.size w u → Sh u ∧ L10.Nt u) := fun u hu => ⟨hsh.to hu, hnt.to hu⟩
  have HW2 : Hid (1 < w.heap.size) := hnt.low
  have HAw : Hid (Calls Tryd.prog 6 #[] w fun e w' => e = .returned (.bool true) ∧ Below w.heap.size w w') := awake_ok hcl hsh hnt
  obtain ⟨k, n, z, h1, hk, h2, hz, h3⟩ := size_of a
  obtain ⟨pl, h4, hpl⟩ := three_of b
  obtain ⟨q, hq⟩ : ∃ q, n * n = q := ⟨_, rfl⟩
  have hq0 : 0 < q := by have := Nat.mul_le_mul hz.sd.lo hz.sd.lo; omega
  obtain ⟨t, ht⟩ : ∃ t, v0.tmod 1048576 = t := ⟨_, rfl⟩
  have ht1 : -1048576 < t ∧ t < 1048576 := by
    rw [← ht]
    have g1 := Int.tmod_lt_of_pos v0 (b := 1048576) (by omega)
    have g2 := Int.lt_tmod_of_pos v0 (b := 1048576) (by omega)
    omega
  have HTl : Hid (∀ v : Int, v ≠ 0 → -1048576 < v → v < 1048576 → Aft z n pl q v) := fun v g0 g1 g2 => aft_of hz hpl hq hq0 g0 g1 g2
  have HMy : Hid (∀ (u : World) (la : Option Addr) (lc : Nat) (v : Int), L10.Si u la [v] → Calls Tryd.prog 9 #[.agg #[.int .i64 a, .int .i64 b, .int .i64 0, .slice la [v].length lc]] u fun e w' => My u w' e z pl 0 q (myL [v] q q)) := fun u la lc v hs => may_any hs h1 hk h2 hz h3 hq h4 (by decide)
  have HZ : Hid (L10.Sz z n ∧ pl ≤ 2 ∧ n * n = q) := ⟨hz, hpl, hq⟩
  clear hcl hsh hnt h1 hk h2 hz h3 h4 hpl hq hq0
  have HT : Hid (-1048576 < t ∧ t < 1048576) := ht1
  clear ht1
  go_enter Tryd.func5, Tryd.ntmps5
  go_wp2_with fail
  refine HAw.out.mono ?_
  rintro e w1 ⟨rfl, hb1⟩
  have HB1 : Hid (Below w.heap.size w w1) := hb1
  clear hb1 HAw
  by_cases h0 : t = 0
  · have h01 : (t == 0) = true := by rw [h0]; rfl
    obtain ⟨v, hv⟩ : ∃ v : Int, v = 1 := ⟨_, rfl⟩
    have HA : Hid (Aft z n pl q v) := HTl.out v (by omega) (by omega) (by omega)
    clear h0
    go_wp2_with fail
    rw [← hv]
    have HS2 : Hid (L10.Si (w1.alloc (.cells #[.int .i64 v] 3)) (some ⟨w1.heap.size, 0, none⟩) [v]) := ri_si (L10.Ri.built 3 w1 [v] rfl)
    have HB2 : Hid (Below w.heap.size w (w1.alloc (.cells #[.int .i64 v] 3))) := L10.to_alloc HB1.out _
    generalize w1.alloc (.cells #[.int .i64 v] 3) = w2 at *
    refine (HMy.out _ _ 1 v HS2.out).mono ?_
    rintro e w3 ⟨g, rfl, hri, hg, hb3⟩
    have HR3 : Hid (L10.Ri 3 w3 g (myL [v] q q)) := hri
    have HB3 : Hid (Below w.heap.size w w3) := L10.below_to HB2.out hb3
    have HG : Hid (w.heap.size ≤ g) := Nat.le_trans HB2.out.size hg
    clear hri hg hb3 HS2
    go_wp2_with fail
    have HB4 : Hid (Below w.heap.size w (w3.alloc (.cells #[.int .i64 z, .int .i64 (pl : Int), .int .i64 0, .slice (some ⟨g, 0, none⟩) q q] 34))) := L10.to_alloc HB3.out _
    have HR4 : Hid (L10.Ri 3 (w3.alloc (.cells #[.int .i64 z, .int .i64 (pl : Int), .int .i64 0, .slice (some ⟨g, 0, none⟩) q q] 34)) g (myL [v] q q)) := HR3.out.to (L10.from_alloc _ _)
    have HX4 : Hid (∀ u, Below (w3.alloc (.cells #[.int .i64 z, .int .i64 (pl : Int), .int .i64 0, .slice (some ⟨g, 0, none⟩) q q] 34)).heap.size (w3.alloc (.cells #[.int .i64 z, .int .i64 (pl : Int), .int .i64 0, .slice (some ⟨g, 0, none⟩) q q] 34)) u → u.cell? ⟨w3.heap.size, 0, none⟩ = some (.int .i64 z) ∧ u.cell? ⟨w3.heap.size, 1, none⟩ = some (.int .i64 (pl : Int)) ∧ u.cell? ⟨w3.heap.size, 3, none⟩ = some (.slice (some ⟨g, 0, none⟩) q q)) := fun u hu => by
      have hlt : w3.heap.size < (w3.alloc (.cells #[.int .i64 z, .int .i64 (pl : Int), .int .i64 0, .slice (some ⟨g, 0, none⟩) q q] 34)).heap.size := by simp
      refine ⟨?_, ?_, ?_⟩
      · rw [L10.newCell hu _ _ hlt]; simp [go_sem]
      · rw [L10.newCell hu _ _ hlt]; simp [go_sem]
      · rw [L10.newCell hu _ _ hlt]; simp [go_sem]
    generalize w3.alloc (.cells #[.int .i64 z, .int .i64 (pl : Int), .int .i64 0, .slice (some ⟨g, 0, none⟩) q q] 34) = w4 at *
    generalize w3.heap.size = X at *
    obtain ⟨sh4, nt4⟩ := HSh.out _ HB4.out
    refine (default_hs sh4).mono ?_
    rintro e w5 ⟨bt5, B5, rfl, hs5, hb5⟩
    have HB5 : Hid (Below w.heap.size w w5) := L10.below_to HB4.out hb5
    have HZ45 : Hid (Below w4.heap.size w4 w5) := hb5
    obtain ⟨sh5, nt5⟩ := HSh.out _ HB5.out
    have HWr : Hid (Calls Tryd.prog 7 #[.agg #[.slice (some ⟨bt5, 0, none⟩) 32 32], .bool true] w5 fun e w' => ∃ x O, e = .returned (.tuple #[.pointer (some ⟨x, 0, none⟩), .int .i64 0]) ∧ Cd w' w5.heap.size x O (wS true) ∧ (∀ y, O y → w5.heap.size ≤ y) ∧ Below w5.heap.size w5 w') := writer_cd sh5 hs5
    clear hs5 hb5 sh4 nt4 sh5 nt5
    go_wp2_with fail
    refine HWr.out.mono ?_
    rintro e w6 ⟨x, O, rfl, hc6, ho6, hb6⟩
    have HB6 : Hid (Below w.heap.size w w6) := L10.below_to HB5.out hb6
    have HR6 : Hid (L10.Ri 3 w6 g (myL [v] q q)) := (HR4.out.to HZ45.out).to hb6
    obtain ⟨y0, y1, y3⟩ := HX4.out w6 (L10.below_to HZ45.out hb6)
    obtain ⟨sh6, nt6⟩ := HSh.out _ HB6.out
    have hlo : 1 < w5.heap.size := by have := HW2.out; have := HB5.out.size; omega
    have HK : Hid (Calls Tryd.prog 10 #[.pointer (some ⟨x, 0, none⟩), .int .i64 z, .int .i64 (pl : Int), .int .i64 ((0 : Nat) : Int), .slice (some ⟨g, 0, none⟩) (n * n) q] w6 fun en w' => Kc w6 w' w5.heap.size x O (n * n) ((cw z n (min pl 1) 0 (myL [v] q q)).run (wS true)) en) :=
      kcode_w HCL.out hc6 sh6 nt6 hlo (by show (0 : Nat) ≤ _; omega) HZ.out.1 HZ.out.2.1 (by omega) rfl HA.out.lv HR6.out.lt (fun e => by have := ho6 _ e; have := (HR4.out.to HZ45.out).lt; omega) (fun p hp => by rw [Nat.zero_add]; exact HR6.out.cell p (by rw [myL_len, ← HZ.out.2.2]; exact hp))
    rw [HZ.out.2.2] at HK
    clear hc6 ho6 hb6 HWr sh6 nt6
    go_wp2_with fail
    refine HK.out.mono ?_
    rintro e w7 ⟨O7, hc7, ht7, hb7, hy7, -⟩
    obtain ⟨g7, rfl, -, -, -⟩ := hy7 _ HA.out.res
    have HC7 : Hid (Cd w7 w5.heap.size x O7 ((cw z n (min pl 1) 0 (myL [v] q q)).run (wS true)).2) := hc7
    have HB7 : Hid (Below w.heap.size w w7) := HB6.out.trans (hb7.mono HB5.out.size)
    obtain ⟨ac, hac⟩ : ∃ ac : Int, ((v.natAbs : Nat) : Int) = ac := ⟨_, rfl⟩
    have HCn := HA.out.cnt
    have ha1 := HA.out.lo
    have ha2 := HA.out.hi
    have hmx := HA.out.mx
    have hvi := HA.out.vi
    rw [hac] at HCn ha1 ha2 hmx
    have HCn2 : Hid _ := HCn
    have hac1 : ac = 1 := by rw [← hac, hv]; rfl
    have hcnt : ((((cw z n (min pl 1) 0 (myL [v] q q)).run (wS true)).2.n : Nat) : Int) = 4 := by
      have := HCn2.out 0 (fun h => by omega)
      rw [if_pos (by omega)] at this
      exact this
    clear HCn HCn2 hc7 ht7 hb7 hy7 HK hac hmx ha1 ha2 hac1 y0 y1 y3
    generalize ((cw z n (min pl 1) 0 (myL [v] q q)).run (wS true)).2 = s7 at *
    subst hv
    go_wp2_with fail
    refine (count_cd HC7.out).mono ?_
    rintro e w8 ⟨rfl, rfl⟩
    rw [hcnt]
    go_wp2_with fail
    go_ret
    exact ⟨rfl, HB7.out⟩
  · have h01 : (t == 0) = false := by rw [beq_eq_false_iff_ne]; exact h0
    obtain ⟨v, hv⟩ : ∃ v : Int, v = t := ⟨_, rfl⟩
    have HA : Hid (Aft z n pl q v) := HTl.out v (by omega) (by have := HT.out; omega) (by have := HT.out; omega)
    clear h0
    go_wp2_with fail
    rw [← hv]
    have HS2 : Hid (L10.Si (w1.alloc (.cells #[.int .i64 v] 3)) (some ⟨w1.heap.size, 0, none⟩) [v]) := ri_si (L10.Ri.built 3 w1 [v] rfl)
    have HB2 : Hid (Below w.heap.size w (w1.alloc (.cells #[.int .i64 v] 3))) := L10.to_alloc HB1.out _
    generalize w1.alloc (.cells #[.int .i64 v] 3) = w2 at *
    refine (HMy.out _ _ 1 v HS2.out).mono ?_
    rintro e w3 ⟨g, rfl, hri, hg, hb3⟩
    have HR3 : Hid (L10.Ri 3 w3 g (myL [v] q q)) := hri
    have HB3 : Hid (Below w.heap.size w w3) := L10.below_to HB2.out hb3
    have HG : Hid (w.heap.size ≤ g) := Nat.le_trans HB2.out.size hg
    clear hri hg hb3 HS2
    go_wp2_with fail
    have HB4 : Hid (Below w.heap.size w (w3.alloc (.cells #[.int .i64 z, .int .i64 (pl : Int), .int .i64 0, .slice (some ⟨g, 0, none⟩) q q] 34))) := L10.to_alloc HB3.out _
    have HR4 : Hid (L10.Ri 3 (w3.alloc (.cells #[.int .i64 z, .int .i64 (pl : Int), .int .i64 0, .slice (some ⟨g, 0, none⟩) q q] 34)) g (myL [v] q q)) := HR3.out.to (L10.from_alloc _ _)
    have HX4 : Hid (∀ u, Below (w3.alloc (.cells #[.int .i64 z, .int .i64 (pl : Int), .int .i64 0, .slice (some ⟨g, 0, none⟩) q q] 34)).heap.size (w3.alloc (.cells #[.int .i64 z, .int .i64 (pl : Int), .int .i64 0, .slice (some ⟨g, 0, none⟩) q q] 34)) u → u.cell? ⟨w3.heap.size, 0, none⟩ = some (.int .i64 z) ∧ u.cell? ⟨w3.heap.size, 1, none⟩ = some (.int .i64 (pl : Int)) ∧ u.cell? ⟨w3.heap.size, 3, none⟩ = some (.slice (some ⟨g, 0, none⟩) q q)) := fun u hu => by
      have hlt : w3.heap.size < (w3.alloc (.cells #[.int .i64 z, .int .i64 (pl : Int), .int .i64 0, .slice (some ⟨g, 0, none⟩) q q] 34)).heap.size := by simp
      refine ⟨?_, ?_, ?_⟩
      · rw [L10.newCell hu _ _ hlt]; simp [go_sem]
      · rw [L10.newCell hu _ _ hlt]; simp [go_sem]
      · rw [L10.newCell hu _ _ hlt]; simp [go_sem]
    generalize w3.alloc (.cells #[.int .i64 z, .int .i64 (pl : Int), .int .i64 0, .slice (some ⟨g, 0, none⟩) q q] 34) = w4 at *
    generalize w3.heap.size = X at *
    obtain ⟨sh4, nt4⟩ := HSh.out _ HB4.out
    refine (default_hs sh4).mono ?_
    rintro e w5 ⟨bt5, B5, rfl, hs5, hb5⟩
    have HB5 : Hid (Below w.heap.size w w5) := L10.below_to HB4.out hb5
    have HZ45 : Hid (Below w4.heap.size w4 w5) := hb5
    obtain ⟨sh5, nt5⟩ := HSh.out _ HB5.out
    have HWr : Hid (Calls Tryd.prog 7 #[.agg #[.slice (some ⟨bt5, 0, none⟩) 32 32], .bool true] w5 fun e w' => ∃ x O, e = .returned (.tuple #[.pointer (some ⟨x, 0, none⟩), .int .i64 0]) ∧ Cd w' w5.heap.size x O (wS true) ∧ (∀ y, O y → w5.heap.size ≤ y) ∧ Below w5.heap.size w5 w') := writer_cd sh5 hs5
    clear hs5 hb5 sh4 nt4 sh5 nt5
    go_wp2_with fail
    refine HWr.out.mono ?_
    rintro e w6 ⟨x, O, rfl, hc6, ho6, hb6⟩
    have HB6 : Hid (Below w.heap.size w w6) := L10.below_to HB5.out hb6
    have HR6 : Hid (L10.Ri 3 w6 g (myL [v] q q)) := (HR4.out.to HZ45.out).to hb6
    obtain ⟨y0, y1, y3⟩ := HX4.out w6 (L10.below_to HZ45.out hb6)
    obtain ⟨sh6, nt6⟩ := HSh.out _ HB6.out
    have hlo : 1 < w5.heap.size := by have := HW2.out; have := HB5.out.size; omega
    have HK : Hid (Calls Tryd.prog 10 #[.pointer (some ⟨x, 0, none⟩), .int .i64 z, .int .i64 (pl : Int), .int .i64 ((0 : Nat) : Int), .slice (some ⟨g, 0, none⟩) (n * n) q] w6 fun en w' => Kc w6 w' w5.heap.size x O (n * n) ((cw z n (min pl 1) 0 (myL [v] q q)).run (wS true)) en) :=
      kcode_w HCL.out hc6 sh6 nt6 hlo (by show (0 : Nat) ≤ _; omega) HZ.out.1 HZ.out.2.1 (by omega) rfl HA.out.lv HR6.out.lt (fun e => by have := ho6 _ e; have := (HR4.out.to HZ45.out).lt; omega) (fun p hp => by rw [Nat.zero_add]; exact HR6.out.cell p (by rw [myL_len, ← HZ.out.2.2]; exact hp))
    rw [HZ.out.2.2] at HK
    clear hc6 ho6 hb6 HWr sh6 nt6
    go_wp2_with fail
    refine HK.out.mono ?_
    rintro e w7 ⟨O7, hc7, ht7, hb7, hy7, -⟩
    obtain ⟨g7, rfl, -, -, -⟩ := hy7 _ HA.out.res
    have HC7 : Hid (Cd w7 w5.heap.size x O7 ((cw z n (min pl 1) 0 (myL [v] q q)).run (wS true)).2) := hc7
    have HB7 : Hid (Below w.heap.size w w7) := HB6.out.trans (hb7.mono HB5.out.size)
    obtain ⟨ac, hac⟩ : ∃ ac : Int, ((v.natAbs : Nat) : Int) = ac := ⟨_, rfl⟩
    have HCn := HA.out.cnt
    have ha1 := HA.out.lo
    have ha2 := HA.out.hi
    have hmx := HA.out.mx
    have hvi := HA.out.vi
    rw [hac] at HCn ha1 ha2 hmx
    have HCn2 : Hid _ := HCn
    clear HCn hc7 ht7 hb7 hy7 HK hac y0 y1 y3
    generalize ((cw z n (min pl 1) 0 (myL [v] q q)).run (wS true)).2 = s7 at *
    subst hv
    by_cases a3 : ac < 3
    · have a3' : ¬ (3 : Int) ≤ ac := by omega
      have a15 : ¬ (15 : Int) ≤ ac := by omega
      have hcnt : ((s7.n : Nat) : Int) = 4 := by have := HCn2.out 0 (fun h => by omega); rw [if_pos a3] at this; exact this
      clear a3
      go_wp2_with fail
      refine (count_cd HC7.out).mono ?_
      rintro e w8 ⟨rfl, rfl⟩
      rw [hcnt]
      go_wp2_with fail
      go_ret
      exact ⟨rfl, HB7.out⟩
    · have a3' : (3 : Int) ≤ ac := by omega
      have e1 : (ac - 3).tdiv 3 = (ac - 3) / 3 := Int.tdiv_eq_ediv_of_nonneg (by omega)
      obtain ⟨qq, hqq⟩ : ∃ qq, (ac - 3) / 3 = qq := ⟨_, rfl⟩
      have e2 : (ac - 3).tdiv 3 = qq := by rw [e1, hqq]
      obtain ⟨mq, hmq⟩ : ∃ mq, min (qq + 1) 4 = mq := ⟨_, rfl⟩
      have q0 : 0 ≤ qq := by omega
      have q1 : qq ≤ 1048576 := by omega
      have m0 : 1 ≤ mq := by omega
      have m1 : mq ≤ 4 := by omega
      by_cases a15 : (15 : Int) ≤ ac
      · have hcnt : Hid (∀ k : Nat, Hid ((2 : Int) ^ k ≤ ac - 14 ∧ ac - 14 < 2 ^ (k + 1)) → ((s7.n : Nat) : Int) = 4 + mq + 2 * (k : Int) + 1 ∧ (k : Int) ≤ 40) := fun k hk => by
          have := HCn2.out k (fun _ => hk.out)
          rw [if_neg a3, hqq, hmq, lnC, if_pos a15] at this
          refine ⟨by omega, ?_⟩
          by_cases e : k ≤ 40
          · omega
          · have h1 := hk.out.1
            have := Nat.pow_le_pow_right (n := 2) (by omega) (show 40 ≤ k by omega)
            have e3 : (2 : Int) ^ k = ((2 ^ k : Nat) : Int) := by simp
            have : (2 : Nat) ^ 40 = 1099511627776 := by decide
            omega
        have HLg : Hid (Calls Tryd.prog 15 #[.int .i64 (ac - 14)] w7 fun e w' => ∃ k : Nat, e = .returned (.int .i64 (k : Int)) ∧ Hid ((2 : Int) ^ k ≤ ac - 14 ∧ ac - 14 < 2 ^ (k + 1)) ∧ w' = w7) := log_any (by omega) (by omega)
        clear a3 e1 hqq HCn2
        go_wp2_with fail
        refine HLg.out.mono ?_
        rintro e w8 ⟨kk, rfl, hkk, rfl⟩
        obtain ⟨cn, ck⟩ := hcnt.out kk hkk
        have ck0 : (0 : Int) ≤ (kk : Int) := by omega
        go_wp2_with fail
        refine (count_cd HC7.out).mono ?_
        rintro e w9 ⟨rfl, rfl⟩
        rw [cn]
        go_wp2_with fail
        go_ret
        refine ⟨?_, HB7.out⟩
        all_goals simp
      · have hcnt : ((s7.n : Nat) : Int) = 4 + mq := by
          have := HCn2.out 0 (fun h => absurd h a15)
          rw [if_neg a3, hqq, hmq, lnC, if_neg a15] at this
          omega
        clear a3 e1 hqq HCn2
        go_wp2_with fail
        refine (count_cd HC7.out).mono ?_
        rintro e w8 ⟨rfl, rfl⟩
        rw [hcnt]
        go_wp2_with fail
        go_ret
        refine ⟨?_, HB7.out⟩
        all_goals simp

end Go.Proofs.YtkmnpechhdendaaDoor
