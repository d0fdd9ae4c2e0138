/- DERIVED. The document's Taps. -/
import Derived.Test.YtpideemiijhkgaaDoorDa
namespace Go.Proofs.YtpideemiijhkgaaDoor
open Go.RowKit

set_option maxRecDepth 100000 in
set_option maxHeartbeats 1000000 in
theorem rtaps_no {w : World} {k f : Int} (hn : ¬ (0 ≤ k ∧ k ≤ 2 ∧ 0 ≤ f ∧ f ≤ 15)) : Calls Tryd.prog 60 #[.int .i64 k, .int .i64 f] w fun e w' => e = .returned (.tuple #[tv (List.replicate 8 0), .int .i64 2]) ∧ Below w.heap.size w w' := by
  show Calls Tryd.prog 60 _ w fun e w' => e = .returned (.tuple #[.agg #[.int .i64 0, .int .i64 0, .int .i64 0, .int .i64 0, .int .i64 0, .int .i64 0, .int .i64 0, .int .i64 0], .int .i64 2]) ∧ Below w.heap.size w w'
  by_cases h0 : k < 0
  · clear hn
    go_enter Tryd.func60, Tryd.ntmps60
    go_wp2_with fail
    exact bodyPost_ret (v := .tuple #[.agg #[.int .i64 0, .int .i64 0, .int .i64 0, .int .i64 0, .int .i64 0, .int .i64 0, .int .i64 0, .int .i64 0], .int .i64 2]) (by simp [results, Tryd.results60, go_sem]) rfl ⟨rfl, from_alloc _ _⟩
  by_cases h1 : 2 < k
  · clear hn
    go_enter Tryd.func60, Tryd.ntmps60
    go_wp2_with fail
    exact bodyPost_ret (v := .tuple #[.agg #[.int .i64 0, .int .i64 0, .int .i64 0, .int .i64 0, .int .i64 0, .int .i64 0, .int .i64 0, .int .i64 0], .int .i64 2]) (by simp [results, Tryd.results60, go_sem]) rfl ⟨rfl, from_alloc _ _⟩
  by_cases h2 : f < 0
  · clear hn
    go_enter Tryd.func60, Tryd.ntmps60
    go_wp2_with fail
    exact bodyPost_ret (v := .tuple #[.agg #[.int .i64 0, .int .i64 0, .int .i64 0, .int .i64 0, .int .i64 0, .int .i64 0, .int .i64 0, .int .i64 0], .int .i64 2]) (by simp [results, Tryd.results60, go_sem]) rfl ⟨rfl, from_alloc _ _⟩
  · have h3 : 15 < f := by omega
    clear hn
    go_enter Tryd.func60, Tryd.ntmps60
    go_wp2_with fail
    exact bodyPost_ret (v := .tuple #[.agg #[.int .i64 0, .int .i64 0, .int .i64 0, .int .i64 0, .int .i64 0, .int .i64 0, .int .i64 0, .int .i64 0], .int .i64 2]) (by simp [results, Tryd.results60, go_sem]) rfl ⟨rfl, from_alloc _ _⟩

/-- eight numbers, k of them taken from the end of others -/
def rvU (T : List Int) (k : Nat) : List Int := tbi 8 fun j => if j < k then T.getD (7 - j) 0 else 0
theorem rvU_zero (T : List Int) : rvU T 0 = List.replicate 8 0 := (tbi_zero fun j hj => by rw [if_neg (by omega)]).symm
theorem rvU_set (T : List Int) {k : Nat} (hk : k < 8) : (rvU T k).set k (T.getD (7 - k) 0) = rvU T (k + 1) := tbi_set hk (by rw [if_pos (by omega)]) fun j hj hne => by
  by_cases h : j < k
  · rw [if_pos h, if_pos (by omega)]
  · rw [if_neg h, if_neg (by omega)]
theorem rvU_all (t0 t1 t2 t3 t4 t5 t6 t7 : Int) : rvU [t0, t1, t2, t3, t4, t5, t6, t7] 8 = [t7, t6, t5, t4, t3, t2, t1, t0] := rfl

set_option maxRecDepth 100000 in
set_option maxHeartbeats 2000000 in
theorem rtaps_ok {w : World} {k f : Nat} (hk : k < 3) (hf16 : f < 16) : Calls Tryd.prog 60 #[.int .i64 (k : Int), .int .i64 (f : Int)] w fun e w' => e = .returned (.tuple #[tv (tp k f), .int .i64 0]) ∧ Below w.heap.size w w' := by
  have k0 : (0 : Int) ≤ (k : Int) := by omega
  have k1 : (k : Int) ≤ 2 := by omega
  have f0 : (0 : Int) ≤ (f : Int) := by omega
  have f1 : (f : Int) ≤ 15 := by omega
  by_cases h2 : k = 2
  · subst h2
    show Calls Tryd.prog 60 _ w fun e w' => e = .returned (.tuple #[tv [0, 0, 0, 128 - 8 * (f : Int), 8 * (f : Int), 0, 0, 0], .int .i64 0]) ∧ Below w.heap.size w w'
    rw [tv8]
    go_enter Tryd.func60, Tryd.ntmps60
    go_wp2_with fail
    exact bodyPost_ret (v := .tuple #[.agg #[.int .i64 0, .int .i64 0, .int .i64 0, .int .i64 (128 - 8 * (f : Int)), .int .i64 (8 * (f : Int)), .int .i64 0, .int .i64 0, .int .i64 0], .int .i64 0]) (by simp [results, Tryd.results60, go_sem]) rfl ⟨rfl, from_alloc _ _⟩
  · have kn : ((k : Int) == 2) = false := by rw [beq_eq_false_iff_ne]; omega
    by_cases h8 : 8 < f
    · have e : tp k f = (hf k (16 - f)).reverse := by unfold tp; rw [if_neg h2, if_pos h8]
      have hl := hf_len k (by omega) (16 - f) (by omega)
      rw [e]
      have HT : Hid (∀ u : World, Calls Tryd.prog 69 #[.int .i64 (k : Int), .int .i64 ((16 - f : Nat) : Int)] u fun e w' => e = .returned (tv (hf k (16 - f))) ∧ Below u.heap.size u w') := fun u => half_any (by omega) (by omega)
      have e2 : 16 - (f : Int) = ((16 - f : Nat) : Int) := by omega
      obtain ⟨t0, t1, t2, t3, t4, t5, t6, t7, hT⟩ := eight hl
      rw [hT] at HT ⊢
      show Calls Tryd.prog 60 _ w fun e w' => e = .returned (.tuple #[tv [t7, t6, t5, t4, t3, t2, t1, t0], .int .i64 0]) ∧ Below w.heap.size w w'
      rw [tv8] at HT ⊢
      have f2 : ¬ (f : Int) ≤ 8 := by omega
      clear e hl hT
      generalize 16 - f = q at *
      go_enter Tryd.func60, Tryd.ntmps60
      go_wp2_with fail
      refine (HT.out _).mono ?_
      rintro e w1 ⟨rfl, hb1⟩
      have HB1 : Hid (Below w.heap.size w w1) := below_to (from_alloc _ _) hb1
      have HZ1 : Hid (Ri 80 w1 w.heap.size (List.replicate 8 0)) := (zero8 w).to hb1
      clear hb1 HT
      go_upto_region 10 with fail
      have HT2 : Hid (Ri 80 ((w1.alloc (.cells #[.int .i64 t0, .int .i64 t1, .int .i64 t2, .int .i64 t3, .int .i64 t4, .int .i64 t5, .int .i64 t6, .int .i64 t7] 80)).alloc (.cells #[.int .i64 0, .int .i64 0, .int .i64 0, .int .i64 0, .int .i64 0, .int .i64 0, .int .i64 0, .int .i64 0] 80)) w1.heap.size [t0, t1, t2, t3, t4, t5, t6, t7]) := (Ri.built 80 w1 [t0, t1, t2, t3, t4, t5, t6, t7] rfl).to (from_alloc _ _)
      have HO2 : Hid (Ri 80 ((w1.alloc (.cells #[.int .i64 t0, .int .i64 t1, .int .i64 t2, .int .i64 t3, .int .i64 t4, .int .i64 t5, .int .i64 t6, .int .i64 t7] 80)).alloc (.cells #[.int .i64 0, .int .i64 0, .int .i64 0, .int .i64 0, .int .i64 0, .int .i64 0, .int .i64 0, .int .i64 0] 80)) (w1.heap.size + 1) (rvU [t0, t1, t2, t3, t4, t5, t6, t7] 0)) := by
        show Ri _ _ _ _
        rw [rvU_zero]
        exact Ri.built 80 _ (List.replicate 8 0) (by simp)
      have HZ2 : Hid (Ri 80 ((w1.alloc (.cells #[.int .i64 t0, .int .i64 t1, .int .i64 t2, .int .i64 t3, .int .i64 t4, .int .i64 t5, .int .i64 t6, .int .i64 t7] 80)).alloc (.cells #[.int .i64 0, .int .i64 0, .int .i64 0, .int .i64 0, .int .i64 0, .int .i64 0, .int .i64 0, .int .i64 0] 80)) w.heap.size (List.replicate 8 0)) := (HZ1.out.to (from_alloc _ _)).to (from_alloc _ _)
      have HB2 : Hid (Below w.heap.size w ((w1.alloc (.cells #[.int .i64 t0, .int .i64 t1, .int .i64 t2, .int .i64 t3, .int .i64 t4, .int .i64 t5, .int .i64 t6, .int .i64 t7] 80)).alloc (.cells #[.int .i64 0, .int .i64 0, .int .i64 0, .int .i64 0, .int .i64 0, .int .i64 0, .int .i64 0, .int .i64 0] 80))) := to_alloc (to_alloc HB1.out _) _
      have HLt : Hid (w.heap.size < w1.heap.size) := HZ1.out.lt
      have TL : [t0, t1, t2, t3, t4, t5, t6, t7].length = 8 := rfl
      have TA := rvU_all t0 t1 t2 t3 t4 t5 t6 t7
      generalize ((w1.alloc (.cells #[.int .i64 t0, .int .i64 t1, .int .i64 t2, .int .i64 t3, .int .i64 t4, .int .i64 t5, .int .i64 t6, .int .i64 t7] 80)).alloc (.cells #[.int .i64 0, .int .i64 0, .int .i64 0, .int .i64 0, .int .i64 0, .int .i64 0, .int .i64 0, .int .i64 0] 80)) = v at *
      generalize w1.heap.size = lb at *
      generalize [t0, t1, t2, t3, t4, t5, t6, t7] = T at *
      have HTL : Hid (T.length = 8) := TL
      have HTA : Hid _ := TA
      clear HB1 HZ1 TL TA
      go_loopw [8] (fun i wr => ∃ j : Nat, j ≤ 8 ∧ i = .int .i64 j ∧ Ri 80 wr (lb + 1) (rvU T j) ∧ Below (lb + 1) v wr) (fun i _ => 8 - (intOf i).toNat)
      case atStart => exact ⟨0, by omega, rfl, HO2.out, Below.refl _ _⟩
      case round =>
        clear HO2
        obtain ⟨j, hj, rfl, hr, hb⟩ := hrel
        by_cases hlt : j < 8
        · have hr2 := HT2.out.below hb (by omega)
          have c0 := hr2.cell (7 - j) (by rw [HTL.out]; omega)
          have c1 := hr.cell j (by rw [rvU, tbi_len]; exact hlt)
          have c2 := hr.thaw j
          have HS : Hid (∀ x, x = T.getD (7 - j) 0 → Ri 80 (wr.setCell ⟨lb + 1, j, none⟩ (.int .i64 x)) (lb + 1) (rvU T (j + 1))) := by
            rintro x rfl
            rw [← rvU_set T hlt]
            exact hr.set _ _
          have HB3 : Hid _ := hb
          generalize (rvU T j).getD j 0 = old at *
          generalize T.getD (7 - j) 0 = x at *
          have j0 : (0 : Int) ≤ (j : Int) := by omega
          have j1 : (j : Int) < 8 := by omega
          have j2 : 7 - (j : Int) = ((7 - j : Nat) : Int) := by omega
          have j3 : ((7 - j : Nat) : Int) < 8 := by omega
          generalize 7 - j = p at *
          clear hr hb hr2
          go_wp2_with fail
          go_roundw
          case rel => exact ⟨j + 1, by omega, by go_num, HS.out _ rfl, below_set HB3.out (by simp) _⟩
          case measure => simp [intOf]; omega
        · obtain rfl : j = 8 := by omega
          rw [HTA.out] at hr
          have d0 := hr.cell 0 (by simp)
          have d1 := hr.cell 1 (by simp)
          have d2 := hr.cell 2 (by simp)
          have d3 := hr.cell 3 (by simp)
          have d4 := hr.cell 4 (by simp)
          have d5 := hr.cell 5 (by simp)
          have d6 := hr.cell 6 (by simp)
          have d7 := hr.cell 7 (by simp)
          simp only [List.getD_cons_zero, List.getD_cons_succ] at d0 d1 d2 d3 d4 d5 d6 d7
          have hz := HZ2.out.below hb (by have := HLt.out; omega)
          have z : ∀ i, i < 8 → wr.cell? ⟨w.heap.size, i, none⟩ = some (.int .i64 0) := fun i hi => by
            have := hz.cell i (by simpa using hi)
            rwa [rep_geti hi] at this
          have e0 := z 0 (by omega)
          have e1 := z 1 (by omega)
          have e2 := z 2 (by omega)
          have e3 := z 3 (by omega)
          have e4 := z 4 (by omega)
          have e5 := z 5 (by omega)
          have e6 := z 6 (by omega)
          have e7 := z 7 (by omega)
          have g0 := hz.thaw 0
          have g1 := hz.thaw 1
          have g2 := hz.thaw 2
          have g3 := hz.thaw 3
          have g4 := hz.thaw 4
          have g5 := hz.thaw 5
          have g6 := hz.thaw 6
          have g7 := hz.thaw 7
          have HB4 : Hid (Below w.heap.size w wr) := HB2.out.trans (hb.mono (by have := HLt.out; omega))
          clear hr hb hz z HT2 HZ2 HB2
          go_wp2_with fail
          exact bodyPost_ret (v := .tuple #[.agg #[.int .i64 t7, .int .i64 t6, .int .i64 t5, .int .i64 t4, .int .i64 t3, .int .i64 t2, .int .i64 t1, .int .i64 t0], .int .i64 0]) (by simp [results, Tryd.results60, go_sem, e0, e1, e2, e3, e4, e5, e6, e7]) rfl ⟨rfl, below_set8 HB4.out (by omega)⟩
    · have e : tp k f = hf k f := by unfold tp; rw [if_neg h2, if_neg h8]
      rw [e]
      have HT : Hid (∀ u : World, Calls Tryd.prog 69 #[.int .i64 (k : Int), .int .i64 (f : Int)] u fun e w' => e = .returned (tv (hf k f)) ∧ Below u.heap.size u w') := fun u => half_any (by omega) (by omega)
      obtain ⟨t0, t1, t2, t3, t4, t5, t6, t7, hT⟩ := eight (hf_len k (by omega) f (by omega))
      rw [hT, tv8] at HT ⊢
      have f2 : (f : Int) ≤ 8 := by omega
      clear e hT
      go_enter Tryd.func60, Tryd.ntmps60
      go_wp2_with fail
      refine (HT.out _).mono ?_
      rintro e w1 ⟨rfl, hb1⟩
      have HB1 : Hid (Below w.heap.size w w1) := below_to (from_alloc _ _) hb1
      have hz : Ri 80 w1 w.heap.size (List.replicate 8 0) := (zero8 w).to hb1
      have z : ∀ i, i < 8 → w1.cell? ⟨w.heap.size, i, none⟩ = some (.int .i64 0) := fun i hi => by
        have := hz.cell i (by simpa using hi)
        rwa [rep_geti hi] at this
      have e0 := z 0 (by omega)
      have e1 := z 1 (by omega)
      have e2 := z 2 (by omega)
      have e3 := z 3 (by omega)
      have e4 := z 4 (by omega)
      have e5 := z 5 (by omega)
      have e6 := z 6 (by omega)
      have e7 := z 7 (by omega)
      have g0 := hz.thaw 0
      have g1 := hz.thaw 1
      have g2 := hz.thaw 2
      have g3 := hz.thaw 3
      have g4 := hz.thaw 4
      have g5 := hz.thaw 5
      have g6 := hz.thaw 6
      have g7 := hz.thaw 7
      clear hb1 z hz HT
      go_wp2_with fail
      exact bodyPost_ret (v := .tuple #[.agg #[.int .i64 t0, .int .i64 t1, .int .i64 t2, .int .i64 t3, .int .i64 t4, .int .i64 t5, .int .i64 t6, .int .i64 t7], .int .i64 0]) (by simp [results, Tryd.results60, go_sem, e0, e1, e2, e3, e4, e5, e6, e7]) rfl ⟨rfl, below_set8 HB1.out (by omega)⟩

end Go.Proofs.YtpideemiijhkgaaDoor
