/- DERIVED. The walk of TxfmFlat. -/
import Derived.Test.YtddnnlofdicgkaaDoorIo
namespace Go.Proofs.YtddnnlofdicgkaaDoor
open Go.RowKit

theorem kin0 {n : Nat} (hn : n ∈ [4, 8, 16, 32, 64]) : ((0 : Nat) : Int) ∈ tys (n : Int) := by
  simp only [List.mem_cons, List.not_mem_nil, or_false] at hn
  rcases hn with rfl | rfl | rfl | rfl | rfl <;> decide
theorem fs_mst {n : Nat} {v x M : Int} (h1 : -M ≤ v ∧ v ≤ M) (h2 : -M ≤ x ∧ x ≤ M) : Mst (fs n v x) M := fun j hj => by
  rw [fs_len] at hj
  rw [fs_get _ _ _ _ hj]
  split
  · exact h1
  · exact h2
theorem fwdF_mst {n k s : Nat} {C : List Int} (hs : s = min n 32) (hk : (k : Int) ∈ tys (n : Int)) (hM : Mst C 255) : Mst (tab s (fwdF n k C)) 1048576 := fun j hj => by
  rw [tab_len] at hj
  rw [tab_get s _ j hj]
  have hB := bk_of hk
  have h1 := fwd_mid (k := k) hB.col hM
  by_cases h9 : k = 9
  · subst h9
    have hn : n = 4 := Tk.wht hB.row
    have h2 := (wht_bd (A := 65288) (C := rowL n (colsF n (fwdR (kC 9)) (layF n C)) (j / s)) (mst_row fun x _ => h1 _ x) (by rw [rowL_len]; exact hn) (j % s)).2
    have h3 : fwdF n 9 C (j / s) (j % s) = (fwdR 3 (rowL n (colsF n (fwdR (kC 9)) (layF n C)) (j / s))).getD (j % s) 0 := by
      show rowsF n n (fwdR 3) (colsF n (fwdR (kC 9)) (layF n C)) (j / s) (j % s) = _
      unfold rowsF
      rw [if_pos (by have := dv_lt hj; omega)]
    rw [h3]
    omega
  · have h2 : fwdF n k C (j / s) (j % s) = sca n (fwdG n k C (j / s) (j % s)) := by unfold fwdF; rw [if_neg h9]
    have := sca_le n (fwdG n k C (j / s) (j % s))
    omega

set_option maxRecDepth 100000 in
set_option maxHeartbeats 1000000 in
theorem flat_walk {w : World} {v : Int} (hq : Qt w) : Calls Tryd.prog 7 #[.int .i64 v] w fun e w' => e = .returned (.bool true) ∧ Below w.heap.size w w' := by
  have HQ : Hid (Qt w) := hq
  clear hq
  have q0 := Int.emod_nonneg v (b := 511) (by omega)
  have q1 := Int.emod_lt_of_pos v (b := 511) (by omega)
  go_enter Tryd.func7, Tryd.ntmps7
  go_wp2_with fail
  refine (works_any HQ.out).mono ?_
  rintro e w1 ⟨rfl, hb1⟩
  have HB1 : Hid (Below w.heap.size w w1) := hb1
  clear hb1
  go_wp2_with fail
  refine (bring_any (by omega) (by omega)).mono ?_
  rintro e w2 ⟨rfl, rfl⟩
  go_wp2_with fail
  have HV : Hid (-255 ≤ v % 511 - 255 ∧ v % 511 - 255 ≤ 255) := ⟨by omega, by omega⟩
  generalize v % 511 - 255 = vv at *
  clear q0 q1
  have HB2 : Hid (Below w.heap.size w (w2.alloc (.cells #[.int .i64 4, .int .i64 8, .int .i64 16, .int .i64 32, .int .i64 64] 3))) := to_alloc HB1.out _
  have HR2 : Hid (Ri 3 (w2.alloc (.cells #[.int .i64 4, .int .i64 8, .int .i64 16, .int .i64 32, .int .i64 64] 3)) w2.heap.size [4, 8, 16, 32, 64]) := Ri.built 3 w2 [4, 8, 16, 32, 64] rfl
  generalize (w2.alloc (.cells #[.int .i64 4, .int .i64 8, .int .i64 16, .int .i64 32, .int .i64 64] 3)) = V at *
  generalize w2.heap.size = g0 at *
  go_loopw [18] (fun i wr => ∃ y : Nat, y ≤ 5 ∧ i = .int .i64 y ∧ Ri 3 wr g0 [4, 8, 16, 32, 64] ∧ Below w.heap.size w wr) (fun i _ => 5 - (intOf i).toNat)
  case atStart => exact ⟨0, by omega, rfl, HR2.out, HB2.out⟩
  case round =>
    obtain ⟨y, hy, rfl, hr, hb⟩ := hrel
    have y0 : (0 : Int) ≤ (y : Int) := by omega
    by_cases hlt : y < 5
    · have y1 : (y : Int) < 5 := by omega
      obtain ⟨n, hn, he⟩ : ∃ n : Nat, n ∈ [4, 8, 16, 32, 64] ∧ ([4, 8, 16, 32, 64] : List Int).getD y 0 = (n : Int) := by
        have : y = 0 ∨ y = 1 ∨ y = 2 ∨ y = 3 ∨ y = 4 := by omega
        rcases this with rfl | rfl | rfl | rfl | rfl
        · exact ⟨4, by decide, rfl⟩
        · exact ⟨8, by decide, rfl⟩
        · exact ⟨16, by decide, rfl⟩
        · exact ⟨32, by decide, rfl⟩
        · exact ⟨64, by decide, rfl⟩
      have c0 := hr.cell y (by simpa using hlt)
      rw [he] at c0
      have hn4 : 4 ≤ n ∧ n ≤ 64 := by simp at hn; omega
      obtain ⟨L, hL⟩ : ∃ L, L = n * n := ⟨_, rfl⟩
      obtain ⟨s, hs⟩ : ∃ s, s = min n 32 := ⟨_, rfl⟩
      obtain ⟨M, hM⟩ : ∃ M, M = s * s := ⟨_, rfl⟩
      have h2 : n * n ≤ 64 * 64 := Nat.mul_le_mul hn4.2 hn4.2
      have h3 : 1 * 1 ≤ n * n := Nat.mul_le_mul (by omega) (by omega)
      have h4 : s * s ≤ 64 * 64 := Nat.mul_le_mul (by omega) (by omega)
      rw [← hL] at h2 h3
      rw [← hM] at h4
      have e1 : (n : Int) * (n : Int) = (L : Int) := by rw [hL, Int.natCast_mul]
      have n64 : (n : Int) ≤ 64 := by omega
      have L0 : (0 : Int) < (L : Int) := by omega
      have L1 : (L : Int) ≤ 4096 := by omega
      have M1 : (M : Int) ≤ 4096 := by omega
      have HF := flat_back hn hs HV.out
      rw [← hL, ← hM] at HF
      have HF1 : Hid (∀ j, 0 < j → j < M → (tab s (fwdF n 0 (fs L vv vv))).getD j 0 = 0) := HF.1
      have HF2 : Hid (tab n (invF n s 0 (tab s (fwdF n 0 (fs L vv vv)))) = fs L vv vv) := HF.2
      have HMs : Hid (Mst (fs L vv vv) 255) := fs_mst HV.out HV.out
      have HMA : Hid (Mst (tab s (fwdF n 0 (fs L vv vv))) 1048576) := fwdF_mst hs (kin0 hn) HMs.out
      have HK : Hid (((0 : Nat) : Int) ∈ tys (n : Int)) := kin0 hn
      have HL : Hid (L = n * n) := hL
      have Hs : Hid (s = min n 32) := hs
      have HMM : Hid (M = s * s) := hM
      have HL0 : Hid (0 < L) := h3
      have HL1 : Hid (L ≤ 4096) := h2
      have HY : Hid (y < 5) := hlt
      have HB3 : Hid (Below w.heap.size w wr) := hb
      have HR3 : Hid (Ri 3 wr g0 [4, 8, 16, 32, 64]) := hr
      have HQ3 : Hid (Qt wr) := HQ.out.to hb
      clear hn he hn4 hL hs hM h2 h3 h4 HF hr hb hlt hy
      go_wp2_with fail
      refine (first_any HL0.out HL1.out).mono ?_
      rintro e w4 ⟨rfl, hr4, hb4⟩
      have HX4 : Hid (Ri 3 w4 wr.heap.size (fs L vv vv)) := hr4
      have HB4 : Hid (Below w.heap.size w w4) := below_to HB3.out hb4
      have HR4 : Hid (Ri 3 w4 g0 [4, 8, 16, 32, 64]) := HR3.out.to hb4
      have HQ4 : Hid (Qt w4) := HQ3.out.to hb4
      clear hr4 hb4
      go_wp2_with fail
      refine (tfwd_go (k := 0) (M := L) (L := M) HQ4.out HX4.out.si (fs_len _ _ _) (Nat.le_refl _) HX4.out.lt HK.out Hs.out HL.out HMs.out rfl HMM.out).mono ?_
      rintro e w5 ⟨g5, c5, rfl, hl5, ho5, hb5⟩
      have HX5 : Hid (Ri 3 w5 wr.heap.size (fs L vv vv)) := HX4.out.to hb5
      have HO5 : Hid (Oi w5 w4.heap.size (some ⟨g5, 0, none⟩) M c5 (tab s (fwdF n 0 (fs L vv vv)))) := ho5
      have HLn5 : Hid ((tab s (fwdF n 0 (fs L vv vv))).length = M) := hl5
      have HB5 : Hid (Below w.heap.size w w5) := below_to HB4.out hb5
      have HR5 : Hid (Ri 3 w5 g0 [4, 8, 16, 32, 64]) := HR4.out.to hb5
      have HQ5 : Hid (Qt w5) := HQ4.out.to hb5
      clear hl5 ho5 hb5
      go_wp2_with fail
      refine (tinv_go (k := 0) (M := M) (L := L) HQ5.out HO5.out.si HLn5.out HO5.out.cap HO5.out.sil HK.out Hs.out HMM.out HMA.out HF2.out HL.out).mono ?_
      rintro e w6 ⟨g6, c6, rfl, hl6, ho6, hb6⟩
      have HX6 : Hid (Ri 3 w6 wr.heap.size (fs L vv vv)) := HX5.out.to hb6
      have HA6 : Hid (Si w6 (some ⟨g5, 0, none⟩) (tab s (fwdF n 0 (fs L vv vv)))) := HO5.out.si.to hb6
      have HO6 : Hid (Si w6 (some ⟨g6, 0, none⟩) (fs L vv vv)) := ho6.si
      have HB6 : Hid (Below w.heap.size w w6) := below_to HB5.out hb6
      have HR6 : Hid (Ri 3 w6 g0 [4, 8, 16, 32, 64]) := HR5.out.to hb6
      clear hl6 ho6 hb6
      go_wp2_with fail
      refine (eq_yes HO6.out HX6.out.si (fs_len _ _ _) (fs_len _ _ _) rfl (by have := HL1.out; omega)).mono ?_
      rintro e w7 ⟨rfl, hb7⟩
      have HA7 : Hid (Si w7 (some ⟨g5, 0, none⟩) (tab s (fwdF n 0 (fs L vv vv)))) := HA6.out.to hb7
      have HB7 : Hid (Below w.heap.size w w7) := below_to HB6.out hb7
      have HR7 : Hid (Ri 3 w7 g0 [4, 8, 16, 32, 64]) := HR6.out.to hb7
      clear hb7
      go_wp2_with fail
      go_loopw [10] (fun i wv => ∃ j : Nat, 1 ≤ j ∧ (j ≤ M ∨ j = 1) ∧ i = .int .i64 j ∧ wv = w7) (fun i _ => M - (intOf i).toNat)
      case atStart => exact ⟨1, by omega, Or.inr rfl, rfl, rfl⟩
      case round =>
        obtain ⟨j, hj1, hj2, rfl, rfl⟩ := hrel
        have j0 : (0 : Int) ≤ (j : Int) := by omega
        by_cases hjM : j < M
        · have j1 : (j : Int) < (M : Int) := by omega
          obtain ⟨bA, oA, hA, hbA, hcA⟩ := HA7.out.form (by rw [HLn5.out]; omega)
          simp only [Option.some.injEq, Addr.mk.injEq, and_true] at hA
          obtain ⟨rfl, rfl⟩ := hA
          have d0 := hcA j (by rw [HLn5.out]; exact hjM)
          rw [HF1.out j hj1 hjM, Nat.zero_add] at d0
          have HJ : Hid (j < M) := hjM
          clear hcA hjM hj2
          go_wp2_with fail
          have hjM := HJ.out
          go_roundw
          case rel => exact ⟨j + 1, by omega, Or.inl (by omega), by go_num, by first | rfl | trivial⟩
          case measure => simp [intOf]; omega
        · have j1 : ¬ (j : Int) < (M : Int) := by omega
          go_wp2_with fail
          have hlt := HY.out
          go_roundw
          case rel => exact ⟨y + 1, by omega, by go_num, HR7.out, HB7.out⟩
          case measure => simp [intOf]; omega
    · have HB3 : Hid (Below w.heap.size w wr) := hb
      obtain rfl : y = 5 := by omega
      clear hr hb
      go_wp2_with fail
      go_ret
      exact ⟨rfl, HB3.out⟩

end Go.Proofs.YtddnnlofdicgkaaDoor
