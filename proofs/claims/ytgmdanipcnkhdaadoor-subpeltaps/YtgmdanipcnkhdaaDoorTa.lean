/- DERIVED. The walk of SubpelTaps. -/
import Derived.Test.YtgmdanipcnkhdaaDoorDb
import Derived.Test.YtgmdanipcnkhdaaDoorEa
import Derived.Test.YtgmdanipcnkhdaaDoorOp
namespace Go.Proofs.YtgmdanipcnkhdaaDoor
open Go.RowKit

/-- both answer alike -/
theorem both_taps (k f : Int) : ∃ t0 t1 t2 t3 t4 t5 t6 t7 c : Int, (∀ u : World, Gt u → Calls Tryd.prog 9 #[.int .i64 k, .int .i64 f] u fun e w' => e = .returned (.tuple #[.agg #[.int .i64 t0, .int .i64 t1, .int .i64 t2, .int .i64 t3, .int .i64 t4, .int .i64 t5, .int .i64 t6, .int .i64 t7], .int .i64 c]) ∧ Below u.heap.size u w') ∧ (∀ u : World, Calls Tryd.prog 10 #[.int .i64 k, .int .i64 f] u fun e w' => e = .returned (.tuple #[.agg #[.int .i64 t0, .int .i64 t1, .int .i64 t2, .int .i64 t3, .int .i64 t4, .int .i64 t5, .int .i64 t6, .int .i64 t7], .int .i64 c]) ∧ Below u.heap.size u w') := by
  by_cases h : 0 ≤ k ∧ k ≤ 2 ∧ 0 ≤ f ∧ f ≤ 15
  · obtain ⟨k', rfl⟩ : ∃ k' : Nat, k = (k' : Int) := ⟨k.toNat, by omega⟩
    obtain ⟨f', rfl⟩ : ∃ f' : Nat, f = (f' : Int) := ⟨f.toNat, by omega⟩
    obtain ⟨t0, t1, t2, t3, t4, t5, t6, t7, hT⟩ := eight (tp_len k' (by omega) f' (by omega))
    refine ⟨t0, t1, t2, t3, t4, t5, t6, t7, 0, fun u hu => ?_, fun u => ?_⟩
    · have := taps_ok (k := k') (f := f') hu (by omega) (by omega)
      rwa [hT, tv8] at this
    · have := rtaps_ok (w := u) (k := k') (f := f') (by omega) (by omega)
      rwa [hT, tv8] at this
  · exact ⟨0, 0, 0, 0, 0, 0, 0, 0, 2, fun u _ => taps_no h, fun u => rtaps_no h⟩

set_option maxRecDepth 100000 in
set_option maxHeartbeats 2000000 in
theorem taps_walk {u : World} {kk ff : Int} (hg : Gt u) : Calls Tryd.prog 3 #[.int .i64 kk, .int .i64 ff] u fun e w' => e = .returned (.bool true) ∧ Below u.heap.size u w' := by
  have HG : Hid (Gt u) := hg
  clear hg
  go_enter Tryd.func3, Tryd.ntmps3
  go_wp2_with fail
  go_loopw [5] (fun i wr => ∃ n : Nat, n ≤ 5 ∧ i = .int .i64 ((n : Int) - 1) ∧ Below u.heap.size u wr) (fun i _ => (4 - intOf i).toNat)
  case atStart => exact ⟨0, by omega, rfl, Below.refl _ _⟩
  case round =>
    obtain ⟨n, hn, rfl, hb⟩ := hrel
    have HB : Hid (Below u.heap.size u wr) := hb
    clear hb
    by_cases hlt : n < 5
    · have n1 : ((n : Int) - 1) < 4 := by omega
      have n2 : (0 : Int) ≤ (n : Int) := by omega
      go_wp2_with fail
      go_loopw [6] (fun i wr => ∃ m : Nat, m ≤ 19 ∧ i = .int .i64 ((m : Int) - 1) ∧ Below u.heap.size u wr) (fun i _ => (18 - intOf i).toNat)
      case atStart => exact ⟨0, by omega, rfl, HB.out⟩
      case round =>
        clear HB
        obtain ⟨m, hm, rfl, hb⟩ := hrel
        have HB : Hid (Below u.heap.size u wr) := hb
        clear hb
        by_cases hlm : m < 19
        · have m1 : ((m : Int) - 1) < 18 := by omega
          have m2 : (0 : Int) ≤ (m : Int) := by omega
          obtain ⟨t0, t1, t2, t3, t4, t5, t6, t7, c, hA, hB⟩ := both_taps ((n : Int) - 1) ((m : Int) - 1)
          have HA : Hid _ := hA
          have HC : Hid _ := hB
          have hq := fun v => eq8s v t0 t1 t2 t3 t4 t5 t6 t7
          have hc : (c != c) = false := by simp
          clear hA hB
          go_wp2_with fail
          refine Calls.mono (HA.out _ (HG.out.to HB.out)) ?_
          rintro e w1 ⟨rfl, hb1⟩
          have HB1 : Hid (Below u.heap.size u (w1.alloc (.cells #[.int .i64 t0, .int .i64 t1, .int .i64 t2, .int .i64 t3, .int .i64 t4, .int .i64 t5, .int .i64 t6, .int .i64 t7] 22))) := to_alloc (below_to HB.out hb1) _
          have HR1 : Hid (Ri 22 (w1.alloc (.cells #[.int .i64 t0, .int .i64 t1, .int .i64 t2, .int .i64 t3, .int .i64 t4, .int .i64 t5, .int .i64 t6, .int .i64 t7] 22)) w1.heap.size [t0, t1, t2, t3, t4, t5, t6, t7]) := Ri.built 22 w1 [t0, t1, t2, t3, t4, t5, t6, t7] rfl
          clear hb1 HA
          go_upto_region 8 with fail
          generalize (w1.alloc (.cells #[.int .i64 t0, .int .i64 t1, .int .i64 t2, .int .i64 t3, .int .i64 t4, .int .i64 t5, .int .i64 t6, .int .i64 t7] 22)) = v1 at *
          generalize w1.heap.size = b1 at *
          go_wp2_with fail
          refine Calls.mono (HC.out _) ?_
          rintro e w2 ⟨rfl, hb2⟩
          have hr := HR1.out.to hb2
          have HB2 : Hid (Below u.heap.size u (w2.alloc (.cells #[.int .i64 t0, .int .i64 t1, .int .i64 t2, .int .i64 t3, .int .i64 t4, .int .i64 t5, .int .i64 t6, .int .i64 t7] 22))) := to_alloc (below_to HB1.out hb2) _
          have hlt2 := hr.lt
          have d0 := hr.cell 0 (by simp)
          have d1 := hr.cell 1 (by simp)
          have d2 := hr.cell 2 (by simp)
          have d3 := hr.cell 3 (by simp)
          have d4 := hr.cell 4 (by simp)
          have d5 := hr.cell 5 (by simp)
          have d6 := hr.cell 6 (by simp)
          have d7 := hr.cell 7 (by simp)
          simp only [List.getD_cons_zero, List.getD_cons_succ] at d0 d1 d2 d3 d4 d5 d6 d7
          clear hb2 hr HC HR1 HB1 HB
          go_wp2_with fail
          go_roundw
          case rel => exact ⟨m + 1, by omega, by congr 1; omega, HB2.out⟩
          case measure => simp [intOf]; omega
        · go_wp2_with fail
          go_roundw
          case rel => exact ⟨n + 1, by omega, by congr 1; omega, HB.out⟩
          case measure => simp [intOf]; omega
    · obtain ⟨t0, t1, t2, t3, t4, t5, t6, t7, c, hA, hB⟩ := both_taps kk ff
      have HA : Hid _ := hA
      have HC : Hid _ := hB
      have hq := fun v => eq8s v t0 t1 t2 t3 t4 t5 t6 t7
      have hc : (c == c) = true := by simp
      clear hA hB
      have n1 : ¬ ((n : Int) - 1) < 4 := by omega
      go_wp2_with fail
      refine Calls.mono (HA.out _ (HG.out.to HB.out)) ?_
      rintro e w1 ⟨rfl, hb1⟩
      have HB1 : Hid (Below u.heap.size u (w1.alloc (.cells #[.int .i64 t0, .int .i64 t1, .int .i64 t2, .int .i64 t3, .int .i64 t4, .int .i64 t5, .int .i64 t6, .int .i64 t7] 22))) := to_alloc (below_to HB.out hb1) _
      have HR1 : Hid (Ri 22 (w1.alloc (.cells #[.int .i64 t0, .int .i64 t1, .int .i64 t2, .int .i64 t3, .int .i64 t4, .int .i64 t5, .int .i64 t6, .int .i64 t7] 22)) w1.heap.size [t0, t1, t2, t3, t4, t5, t6, t7]) := Ri.built 22 w1 [t0, t1, t2, t3, t4, t5, t6, t7] rfl
      clear hb1 HA
      go_upto_region 12 with fail
      generalize (w1.alloc (.cells #[.int .i64 t0, .int .i64 t1, .int .i64 t2, .int .i64 t3, .int .i64 t4, .int .i64 t5, .int .i64 t6, .int .i64 t7] 22)) = v1 at *
      generalize w1.heap.size = b1 at *
      go_wp2_with fail
      refine Calls.mono (HC.out _) ?_
      rintro e w2 ⟨rfl, hb2⟩
      have hr := HR1.out.to hb2
      have HB2 : Hid (Below u.heap.size u (w2.alloc (.cells #[.int .i64 t0, .int .i64 t1, .int .i64 t2, .int .i64 t3, .int .i64 t4, .int .i64 t5, .int .i64 t6, .int .i64 t7] 22))) := to_alloc (below_to HB1.out hb2) _
      have hlt2 := hr.lt
      have d0 := hr.cell 0 (by simp)
      have d1 := hr.cell 1 (by simp)
      have d2 := hr.cell 2 (by simp)
      have d3 := hr.cell 3 (by simp)
      have d4 := hr.cell 4 (by simp)
      have d5 := hr.cell 5 (by simp)
      have d6 := hr.cell 6 (by simp)
      have d7 := hr.cell 7 (by simp)
      simp only [List.getD_cons_zero, List.getD_cons_succ] at d0 d1 d2 d3 d4 d5 d6 d7
      clear hb2 hr HC HR1 HB1 HB
      go_wp2_with fail
      refine (works_true (HG.out.to HB2.out)).mono ?_
      rintro e w3 ⟨rfl, hb3⟩
      have HB3 : Hid (Below u.heap.size u w3) := below_to HB2.out hb3
      clear hb3
      go_wp2_with fail
      go_ret
      exact ⟨rfl, HB3.out⟩

end Go.Proofs.YtgmdanipcnkhdaaDoor
