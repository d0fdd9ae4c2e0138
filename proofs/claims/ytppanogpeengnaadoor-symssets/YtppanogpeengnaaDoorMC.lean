/- DERIVED. Several texts in one: Check on a set whose rows have room. Copy on a set whose rows have room. Writer on a set whose rows have room. -/
import Derived.Test.YtppanogpeengnaaDoorS5
namespace Go.Proofs.YtppanogpeengnaaDoor
open Go.RowKit L3

set_option maxRecDepth 100000 in
set_option maxHeartbeats 4000000 in
theorem scheck_u {w : World} {lo bt cT : Nat} {q : Nat → Nat} {K : List (Nat × List Tb)} (hsh : Sh w) (h : Su w lo bt q K) (ho : Okk K) :
    Calls Tryd.prog 27 #[.agg #[.slice (some ⟨bt, 0, none⟩) 32 cT]] w fun e w' => e = .returned (.int .i64 0) ∧ Below w.heap.size w w' := by
  have HSH : Hid (Sh w) := hsh
  have HST : Hid (Su w lo bt q K) := h
  have HOK : Hid (Okk K) := ho
  have HB0 : Hid (Below w.heap.size w (w.alloc (.cells #[.slice (some ⟨bt, 0, none⟩) 32 cT] 25))) := from_alloc _ _
  have HX : Hid ((w.alloc (.cells #[.slice (some ⟨bt, 0, none⟩) 32 cT] 25)).cell? ⟨w.heap.size, 0, none⟩ = some (.slice (some ⟨bt, 0, none⟩) 32 cT)) := by unfold Hid; simp
  clear hsh h ho
  go_enter Tryd.func27, Tryd.ntmps27
  go_wp2_with fail
  generalize w.alloc (.cells #[.slice (some ⟨bt, 0, none⟩) 32 cT] 25) = W at *
  go_loopw [14] (fun iv wr => ∃ k : Nat, k ≤ 32 ∧ iv = .int .i64 k ∧ Below w.heap.size w wr) (fun iv _ => 32 - (intOf iv).toNat)
  case atStart => exact ⟨0, by omega, rfl, HB0.out⟩
  case round =>
    obtain ⟨k, hk, rfl, hb⟩ := hrel
    have HB : Hid (Below w.heap.size w wr) := hb
    clear hb HB0
    by_cases hlt : k < 32
    · have hkl : k < K.length := by rw [HOK.out.1]; exact hlt
      have hget := List.getElem?_eq_getElem hkl
      have hoq := HOK.out.2 k _ hget
      have hmem : K[k] ∈ K := List.getElem_mem _
      have xb0 := HST.out.hd k _ hget
      have hlie := (HST.out.lie _ hmem).2.1
      have HC0 : Hid (∀ (c : Nat) t, K[k].2[c]? = some t → w.cell? ⟨K[k].1, c * 2, none⟩ = some (.slice t.a t.C.length t.c) ∧ w.cell? ⟨K[k].1, c * 2 + 1, none⟩ = some (.int .i64 t.n) ∧ Sl w .u16 t.a t.C) := fun c t ht => ⟨HST.out.c0 _ hmem c t ht, HST.out.c1 _ hmem c t ht, HST.out.sl _ hmem t (List.mem_of_getElem? ht)⟩
      generalize K[k] = p at *
      obtain ⟨pb, pt⟩ := p
      simp only at xb0 hlie HC0
      have HPL : Hid (pt.length = sC k) := hoq.1
      have HPT : Hid (∀ t ∈ pt, t.C.length = sV k ∧ TOk t.C t.n) := hoq.2
      have xb : wr.cell? ⟨bt, k, none⟩ = some (.slice (some ⟨pb, 0, none⟩) (sC k) (q k)) := by rw [newCell HB.out _ _ HST.out.blt]; rw [HPL.out] at xb0; exact xb0
      have cc : wr.cell? ⟨0, k * 3, none⟩ = some (.int .i64 (sC k : Nat)) := (HSH.out.to HB.out).c k hlt
      have b0 : 0 ≤ (k : Int) := by omega
      have b1 : (k : Int) < 32 := by omega
      have t1 : ((sC k : Int) != (sC k : Int)) = false := by simp
      clear hget hoq hmem xb0 hkl
      go_wp2_with fail
      generalize hwo : wr = wo at *
      clear hwo
      go_loopw [28] (fun iv wr => ∃ c : Nat, c ≤ sC k ∧ iv = .int .i64 c ∧ Below w.heap.size w wr) (fun iv _ => sC k - (intOf iv).toNat)
      case atStart => exact ⟨0, by omega, rfl, HB.out⟩
      case round =>
        obtain ⟨c, hc, rfl, hb⟩ := hrel
        clear HB xb cc
        have HB : Hid (Below w.heap.size w wr) := hb
        clear hb
        by_cases hcl : c < sC k
        · have hcp : c < pt.length := by rw [HPL.out]; exact hcl
          have hgt := List.getElem?_eq_getElem hcp
          obtain ⟨g0, g1, gs⟩ := HC0.out c _ hgt
          have hok := HPT.out _ (List.getElem_mem hcp)
          generalize pt[c] = t at *
          obtain ⟨ta, tc, tC, tn⟩ := t
          simp only at g0 g1 gs hok
          have z0 : wr.cell? ⟨pb, c * 2, none⟩ = some (.slice ta tC.length tc) := by rw [newCell HB.out _ _ hlie]; exact g0
          have z1 : wr.cell? ⟨pb, c * 2 + 1, none⟩ = some (.int .i64 tn) := by rw [newCell HB.out _ _ hlie]; exact g1
          have HSL : Hid (Sl w .u16 ta tC) := gs
          have HTO : Hid (TOk tC tn) := hok.2
          have hlen : tC.length = sV k := hok.1
          rw [hlen] at z0
          have a0 : 0 ≤ (c : Int) := by omega
          have a1 : (c : Int) < (sC k : Int) := by omega
          have hv := (sV_le k hlt).2
          have hc14 := (sC_le k hlt).2
          have HBa : Hid (Below w.heap.size w (wr.alloc (.cells #[.slice ta (sV k) tc, .int .i64 tn] 63))) := to_alloc HB.out _
          have e0 : (wr.alloc (.cells #[.slice ta (sV k) tc, .int .i64 tn] 63)).cell? ⟨wr.heap.size, 0, none⟩ = some (.slice ta (sV k) tc) := by simp
          have e1 : (wr.alloc (.cells #[.slice ta (sV k) tc, .int .i64 tn] 63)).cell? ⟨wr.heap.size, 1, none⟩ = some (.int .i64 tn) := by simp
          have hx : wr.heap.size < (wr.alloc (.cells #[.slice ta (sV k) tc, .int .i64 tn] 63)).heap.size := by simp
          have HSHa : Hid (Sh (wr.alloc (.cells #[.slice ta (sV k) tc, .int .i64 tn] 63))) := HSH.out.to HBa.out
          clear g0 g1 gs hgt hok
          go_wp2_with fail
          generalize wr.alloc (.cells #[.slice ta (sV k) tc, .int .i64 tn] 63) = V at *
          generalize wr.heap.size = x at *
          have HQ : Hid (∀ u, Below V.heap.size V u → u.cell? ⟨x, 0, none⟩ = some (.slice ta (sV k) tc) ∧ u.cell? ⟨x, 1, none⟩ = some (.int .i64 tn) ∧ u.cell? ⟨0, k * 3 + 1, none⟩ = some (.int .i64 (sV k : Nat))) := fun u hu => ⟨by rw [newCell hu _ _ hx]; exact e0, by rw [newCell hu _ _ hx]; exact e1, (HSHa.out.to hu).v k hlt⟩
          have HCK : Hid (∀ u, Below V.heap.size V u → Calls Tryd.prog 52 #[.agg #[.slice ta (sV k) tc, .int .i64 tn]] u fun e u' => e = .returned (.int .i64 0) ∧ Below V.heap.size V u') := fun u hu => by
            have h1 := check_any (c := tc) (n := tn) ((HSL.out.to HBa.out).to hu) (by rw [hlen]; omega)
            rw [hlen, show ck tC tn = 0 from ck_ok HTO.out] at h1
            exact h1.mono fun e u' h => ⟨h.1, below_to hu h.2⟩
          have hbd : Below V.heap.size V V.drew := below_drew (Below.refl _ _)
          obtain ⟨d0, d1, d2⟩ := HQ.out _ hbd
          have t2 : ((sV k : Int) != (sV k : Int)) = false := by simp
          clear e0 e1 z0 z1 hlen
          go_region_held3 (fun u => u.cell? ⟨x, 0, none⟩ = some (.slice ta (sV k) tc) ∧ u.cell? ⟨x, 1, none⟩ = some (.int .i64 tn) ∧ u.cell? ⟨0, k * 3 + 1, none⟩ = some (.int .i64 (sV k : Nat))) (((try dsimp only); first | assumption | (refine ⟨?_, ?_, ?_⟩ <;> first | assumption | go_keep) | go_keep)) (first
            | (go_at_call 52; with_reducible refine (HCK.out _ (by assumption)).mono ?_; rintro e wA ⟨rfl, hbA⟩; obtain ⟨pA0, pA1, pA2⟩ := HQ.out _ hbA))
          all_goals
            have HBn : Hid (Below w.heap.size w wA) := below_to HBa.out hbA
            clear hbA pA0 pA1 pA2 d0 d1 d2 hbd
            go_wp2_with fail
            go_roundw
            case rel => exact ⟨c + 1, by omega, by go_num, HBn.out⟩
            case measure => simp [intOf]; omega
        · have a1 : ¬ (c : Int) < (sC k : Int) := by omega
          go_wp2_with fail
          go_roundw
          case rel => exact ⟨k + 1, by omega, by go_num, HB.out⟩
          case measure => simp [intOf]; omega
    · have b1 : ¬ (k : Int) < 32 := by omega
      go_wp2_with fail
      go_ret
      exact ⟨rfl, HB.out⟩

end Go.Proofs.YtppanogpeengnaaDoor

namespace Go.Proofs.YtppanogpeengnaaDoor
open Go.RowKit L3

set_option maxRecDepth 100000 in
set_option maxHeartbeats 8000000 in
theorem scopy_u {w : World} {lo bt cT : Nat} {q : Nat → Nat} {K : List (Nat × List Tb)} (hsh : Sh w) (h : Su w lo bt q K) (ho : Okk K) :
    Calls Tryd.prog 29 #[.agg #[.slice (some ⟨bt, 0, none⟩) 32 cT]] w fun e w' => Cset w w' e K := by
  obtain ⟨i, hi, hz0, hz1, hz2⟩ := info_parts Tryd.inf60
  obtain ⟨i3, hi3, hy0, hy1, hy2⟩ := info_parts Tryd.inf63
  have hmk : ∀ u : World, (Instr.makeSlice 23 (.int .i64 32) (.int .i64 32)).run Tryd.prog u = .ok (.slice (some ⟨u.heap.size, 0, none⟩) 32 32) (u.alloc (.cells (madeCells #[.slice none 0 0] 32) 60)) := fun u => by
    have h := run_make (P := Tryd.prog) u 23 60 i (.slice none 0 0) Tryd.underlying23 hi hz0 .i64 .i64 32 32 (by omega) (Int.le_refl _) (by rw [hz2]; omega) (by omega)
    simpa [hz1, Value.cells] using h
  have HMK : Hid (∀ (n : Nat), n ≤ 14 → ∀ u : World, (Instr.makeSlice 60 (.int .i64 n) (.int .i64 n)).run Tryd.prog u = .ok (.slice (some ⟨u.heap.size, 0, none⟩) n n) (u.alloc (.cells (madeCells #[.slice none 0 0, .int .i64 0] (n * 2)) 63))) := fun n hn u => by
    have h := run_make (P := Tryd.prog) u 60 63 i3 (.agg #[.slice none 0 0, .int .i64 0]) Tryd.underlying60 hi3 hy0 .i64 .i64 n n (by omega) (Int.le_refl _) (by rw [hy2]; omega) (by omega)
    simpa [hy1, Value.cells] using h
  have HOK : Hid (Okk K) := ho
  have HSRC : Hid (Su w lo bt q K) := h
  have HS0 : Hid (St ((((w.alloc (.cells #[.slice (some ⟨bt, 0, none⟩) 32 cT] 25)).alloc (.cells #[.slice none 0 0] 25)).alloc (.cells (madeCells #[.slice none 0 0] 32) 60)).alloc (.cells #[.slice (some ⟨w.heap.size + 2, 0, none⟩) 32 32] 25)) w.heap.size (w.heap.size + 2) []) := by
    have h1 : ((w.alloc (.cells #[.slice (some ⟨bt, 0, none⟩) 32 cT] 25)).alloc (.cells #[.slice none 0 0] 25)).heap.size = w.heap.size + 2 := by simp
    have := (St.start (w := ((w.alloc (.cells #[.slice (some ⟨bt, 0, none⟩) 32 cT] 25)).alloc (.cells #[.slice none 0 0] 25))) (lo := w.heap.size) (by rw [h1]; omega)).to (from_alloc _ (.cells #[.slice (some ⟨w.heap.size + 2, 0, none⟩) 32 32] 25))
    rw [h1] at this
    exact this
  have HLO : Hid (0 < w.heap.size) := hsh.low
  have HWs : Hid (((((w.alloc (.cells #[.slice (some ⟨bt, 0, none⟩) 32 cT] 25)).alloc (.cells #[.slice none 0 0] 25)).alloc (.cells (madeCells #[.slice none 0 0] 32) 60)).alloc (.cells #[.slice (some ⟨w.heap.size + 2, 0, none⟩) 32 32] 25)).heap.size = w.heap.size + 4) := by unfold Hid; simp
  have HBW : Hid (Below w.heap.size w ((((w.alloc (.cells #[.slice (some ⟨bt, 0, none⟩) 32 cT] 25)).alloc (.cells #[.slice none 0 0] 25)).alloc (.cells (madeCells #[.slice none 0 0] 32) 60)).alloc (.cells #[.slice (some ⟨w.heap.size + 2, 0, none⟩) 32 32] 25))) := to_alloc (to_alloc (to_alloc (from_alloc _ _) _) _) _
  have HX3 : Hid (((((w.alloc (.cells #[.slice (some ⟨bt, 0, none⟩) 32 cT] 25)).alloc (.cells #[.slice none 0 0] 25)).alloc (.cells (madeCells #[.slice none 0 0] 32) 60)).alloc (.cells #[.slice (some ⟨w.heap.size + 2, 0, none⟩) 32 32] 25)).cell? ⟨w.heap.size + 3, 0, none⟩ = some (.slice (some ⟨w.heap.size + 2, 0, none⟩) 32 32)) := by
    have h1 : (((w.alloc (.cells #[.slice (some ⟨bt, 0, none⟩) 32 cT] 25)).alloc (.cells #[.slice none 0 0] 25)).alloc (.cells (madeCells #[.slice none 0 0] 32) 60)).heap.size = w.heap.size + 3 := by simp
    unfold Hid; rw [← h1, new_get]; rfl
  have HX2 : Hid (((((w.alloc (.cells #[.slice (some ⟨bt, 0, none⟩) 32 cT] 25)).alloc (.cells #[.slice none 0 0] 25)).alloc (.cells (madeCells #[.slice none 0 0] 32) 60)).alloc (.cells #[.slice (some ⟨w.heap.size + 2, 0, none⟩) 32 32] 25)).cell? ⟨w.heap.size + 1, 0, none⟩ = some (.slice none 0 0) ∧ ((((w.alloc (.cells #[.slice (some ⟨bt, 0, none⟩) 32 cT] 25)).alloc (.cells #[.slice none 0 0] 25)).alloc (.cells (madeCells #[.slice none 0 0] 32) 60)).alloc (.cells #[.slice (some ⟨w.heap.size + 2, 0, none⟩) 32 32] 25)).frozen? ⟨w.heap.size + 1, 0, none⟩ = false) := by
    have h0 : (w.alloc (.cells #[.slice (some ⟨bt, 0, none⟩) 32 cT] 25)).heap.size = w.heap.size + 1 := by simp
    have h1 : w.heap.size + 1 < ((w.alloc (.cells #[.slice (some ⟨bt, 0, none⟩) 32 cT] 25)).alloc (.cells #[.slice none 0 0] 25)).heap.size := by simp
    have hb : Below ((w.alloc (.cells #[.slice (some ⟨bt, 0, none⟩) 32 cT] 25)).alloc (.cells #[.slice none 0 0] 25)).heap.size ((w.alloc (.cells #[.slice (some ⟨bt, 0, none⟩) 32 cT] 25)).alloc (.cells #[.slice none 0 0] 25)) ((((w.alloc (.cells #[.slice (some ⟨bt, 0, none⟩) 32 cT] 25)).alloc (.cells #[.slice none 0 0] 25)).alloc (.cells (madeCells #[.slice none 0 0] 32) 60)).alloc (.cells #[.slice (some ⟨w.heap.size + 2, 0, none⟩) 32 32] 25)) := to_alloc (from_alloc _ _) _
    refine ⟨?_, ?_⟩
    · rw [newCell hb _ _ h1, ← h0, new_get]; rfl
    · rw [newFrozen hb _ _ h1, ← h0]; simp
  have s1 : ((((w.alloc (.cells #[.slice (some ⟨bt, 0, none⟩) 32 cT] 25)).alloc (.cells #[.slice none 0 0] 25)).alloc (.cells (madeCells #[.slice none 0 0] 32) 60)).alloc (.cells #[.slice (some ⟨w.heap.size + 2, 0, none⟩) 32 32] 25)).cell? ⟨w.heap.size, 0, none⟩ = some (.slice (some ⟨bt, 0, none⟩) 32 cT) := by
    have h1 : w.heap.size < (w.alloc (.cells #[.slice (some ⟨bt, 0, none⟩) 32 cT] 25)).heap.size := by simp
    have hb : Below (w.alloc (.cells #[.slice (some ⟨bt, 0, none⟩) 32 cT] 25)).heap.size (w.alloc (.cells #[.slice (some ⟨bt, 0, none⟩) 32 cT] 25)) ((((w.alloc (.cells #[.slice (some ⟨bt, 0, none⟩) 32 cT] 25)).alloc (.cells #[.slice none 0 0] 25)).alloc (.cells (madeCells #[.slice none 0 0] 32) 60)).alloc (.cells #[.slice (some ⟨w.heap.size + 2, 0, none⟩) 32 32] 25)) := to_alloc (to_alloc (from_alloc _ _) _) _
    rw [newCell hb _ _ h1]; simp
  clear h ho hsh
  go_enter Tryd.func29, Tryd.ntmps29
  go_wp2_with fail
  rw [show w.heap.size + 1 + 1 + 1 = w.heap.size + 3 from rfl, show w.heap.size + 1 + 1 = w.heap.size + 2 from rfl]
  generalize ((((w.alloc (.cells #[.slice (some ⟨bt, 0, none⟩) 32 cT] 25)).alloc (.cells #[.slice none 0 0] 25)).alloc (.cells (madeCells #[.slice none 0 0] 32) 60)).alloc (.cells #[.slice (some ⟨w.heap.size + 2, 0, none⟩) 32 32] 25)) = W at *
  clear s1
  go_loopw [16] (fun iv wr => CI W w.heap.size (w.heap.size + 2) K iv wr) (fun iv _ => 32 - (intOf iv).toNat)
  case atStart => exact ⟨0, [], by omega, rfl, rfl, HS0.out, fun p hp => by simp at hp, fun j p q _ hq => by simp at hq, Kr.refl _ _⟩
  case round =>
    obtain ⟨k, L, hk, rfl, hLl, hst, hdk, hal, hkr⟩ := hrel
    clear HS0
    have HST : Hid _ := hst
    have HDK : Hid (Dk W.heap.size L) := hdk
    have HAL : Hid (∀ (j : Nat) p q, K[j]? = some p → L[j]? = some q → Alq p.2 q.2) := hal
    have HKR : Hid (Kr (w.heap.size + 2) W wr) := hkr
    have HLL : Hid (L.length = k) := hLl
    have hks := hkr.size
    rw [HWs.out] at hks
    have HBr : Hid (Below w.heap.size w wr) := HBW.out.trans (hkr.below (B := w.heap.size) (by omega) (by rw [HWs.out]; omega))
    have x3 : wr.cell? ⟨w.heap.size + 3, 0, none⟩ = some (.slice (some ⟨w.heap.size + 2, 0, none⟩) 32 32) := by rw [hkr.cell _ _ (by rw [HWs.out]; omega) (by omega)]; exact HX3.out
    have x2 : wr.cell? ⟨w.heap.size + 1, 0, none⟩ = some (.slice none 0 0) := by rw [hkr.cell _ _ (by rw [HWs.out]; omega) (by omega)]; exact HX2.out.1
    have x2f : wr.frozen? ⟨w.heap.size + 1, 0, none⟩ = false := by rw [hkr.frozen _ _ (by rw [HWs.out]; omega) (by omega)]; exact HX2.out.2
    clear hst hdk hal hkr hLl
    by_cases hlt : k < 32
    · have b0 : 0 ≤ (k : Int) := by omega
      have b1 : (k : Int) < 32 := by omega
      have hkl : k < K.length := by rw [HOK.out.1]; exact hlt
      have hget := List.getElem?_eq_getElem hkl
      have HGK : Hid (K[k]? = some K[k]) := hget
      have hoq := HOK.out.2 k _ hget
      have hmem : K[k] ∈ K := List.getElem_mem _
      have xb0 := HSRC.out.hd k _ hget
      have hlie := (HSRC.out.lie _ hmem).2.1
      have HC0 : Hid (∀ (c : Nat) t, K[k].2[c]? = some t → w.cell? ⟨K[k].1, c * 2, none⟩ = some (.slice t.a t.C.length t.c) ∧ w.cell? ⟨K[k].1, c * 2 + 1, none⟩ = some (.int .i64 t.n) ∧ Sl w .u16 t.a t.C) := fun c t ht => ⟨HSRC.out.c0 _ hmem c t ht, HSRC.out.c1 _ hmem c t ht, HSRC.out.sl _ hmem t (List.mem_of_getElem? ht)⟩
      generalize K[k] = sp at *
      obtain ⟨sb, st⟩ := sp
      simp only at xb0 hlie HC0
      have HPS : Hid (st.length = sC k) := hoq.1
      have HPT : Hid (∀ t ∈ st, t.C.length = sV k ∧ TOk t.C t.n) := hoq.2
      have xs : wr.cell? ⟨bt, k, none⟩ = some (.slice (some ⟨sb, 0, none⟩) (sC k) (q k)) := by rw [newCell HBr.out _ _ HSRC.out.blt]; rw [HPS.out] at xb0; exact xb0
      have tlk := HST.out.tl k (by rw [HLL.out]; exact Nat.le_refl _) hlt
      have thk := HST.out.bth k
      have mk := HMK.out (sC k) (sC_le k hlt).2
      have hc14 := (sC_le k hlt).2
      have hba : Below wr.heap.size wr (wr.alloc (.cells (madeCells #[.slice none 0 0, .int .i64 0] (sC k * 2)) 63)) := from_alloc _ _
      have y3 : (wr.alloc (.cells (madeCells #[.slice none 0 0, .int .i64 0] (sC k * 2)) 63)).cell? ⟨w.heap.size + 3, 0, none⟩ = some (.slice (some ⟨w.heap.size + 2, 0, none⟩) 32 32) := by rw [newCell hba _ _ (by omega)]; exact x3
      have ytl : (wr.alloc (.cells (madeCells #[.slice none 0 0, .int .i64 0] (sC k * 2)) 63)).cell? ⟨w.heap.size + 2, k, none⟩ = some (.slice none 0 0) := by rw [newCell hba _ _ (by omega)]; exact tlk
      have yth : (wr.alloc (.cells (madeCells #[.slice none 0 0, .int .i64 0] (sC k * 2)) 63)).frozen? ⟨w.heap.size + 2, k, none⟩ = false := by rw [newFrozen hba _ _ (by omega)]; exact thk
      clear x2 x2f hba hget hoq hmem xb0
      go_wp2_with fail
      go_region
      have HKR2 : Hid (Kr (w.heap.size + 2) W ((wr.alloc (.cells (madeCells #[.slice none 0 0, .int .i64 0] (sC k * 2)) 63)).setCell ⟨w.heap.size + 2, k, none⟩ (.slice (some ⟨wr.heap.size, 0, none⟩) (sC k) (sC k))).drew) := ((HKR.out.to (from_alloc wr (.cells (madeCells #[.slice none 0 0, .int .i64 0] (sC k * 2)) 63))).set ⟨w.heap.size + 2, k, none⟩ (.slice (some ⟨wr.heap.size, 0, none⟩) (sC k) (sC k)) (Or.inl rfl)).to (below_drew (Below.refl _ _))
      have HST2 : Hid (St ((wr.alloc (.cells (madeCells #[.slice none 0 0, .int .i64 0] (sC k * 2)) 63)).setCell ⟨w.heap.size + 2, k, none⟩ (.slice (some ⟨wr.heap.size, 0, none⟩) (sC k) (sC k))).drew w.heap.size (w.heap.size + 2) (L ++ [(wr.heap.size, List.replicate (sC k) zT)])) := by
        have := (HST.out.add (by omega) (by rw [HLL.out]; exact hlt) (sC k)).to (below_drew (Below.refl _ _))
        rw [HLL.out] at this
        exact this
      have HWR : Hid (W.heap.size ≤ wr.heap.size) := HKR.out.size
      clear HKR HST x3 tlk thk mk y3 ytl yth HBr xs
      generalize ((wr.alloc (.cells (madeCells #[.slice none 0 0, .int .i64 0] (sC k * 2)) 63)).setCell ⟨w.heap.size + 2, k, none⟩ (.slice (some ⟨wr.heap.size, 0, none⟩) (sC k) (sC k))).drew = V at *
      go_wp2_with fail
      go_loopw [30] (fun iv wr => CJ W w.heap.size (w.heap.size + 2) k K st iv wr) (fun iv _ => sC k - (intOf iv).toNat)
      case atStart =>
        refine ⟨0, _, (wr.heap.size, List.replicate (sC k) zT), by omega, rfl, by rw [List.length_append, HLL.out]; rfl, by rw [List.getElem?_append_right (by rw [HLL.out]; exact Nat.le_refl _), HLL.out]; simp, by simp, HST2.out, fun p hp => ?_, fun j p q hj hp hq => ?_, fun i s t hi => by omega, HKR2.out⟩
        · rcases List.mem_append.1 hp with e | e
          · exact HDK.out p e
          · simp at e; subst e
            refine ⟨HWR.out, fun t ht b o h1 h2 => ?_⟩
            have : t = zT := List.eq_of_mem_replicate ht
            subst this; exact absurd rfl h2
        · rw [List.getElem?_append_left (by rw [HLL.out]; exact hj)] at hq
          exact HAL.out j p q hp hq
      case round =>
        clear HST2 HKR2 HDK HAL HLL HWR
        generalize hwo : wr = wo at *
        clear hwo
        obtain ⟨c, L2, p, hc, rfl, hL2, hLk, hpl, hst, hdk, hal, hac, hkr⟩ := hrel
        have HST : Hid _ := hst
        have HDK : Hid (Dk W.heap.size L2) := hdk
        have HAL : Hid (∀ (j : Nat) p q, j < k → K[j]? = some p → L2[j]? = some q → Alq p.2 q.2) := hal
        have HAC : Hid (∀ (i : Nat) s t, i < c → st[i]? = some s → p.2[i]? = some t → t.C = s.C ∧ t.n = s.n) := hac
        have HKR : Hid _ := hkr
        have HLK : Hid (L2[k]? = some p) := hLk
        have HL2 : Hid (L2.length = k + 1) := hL2
        have HPL : Hid (p.2.length = sC k) := hpl
        clear hst hdk hal hac hkr hLk hL2 hpl
        by_cases hcl : c < sC k
        · have a0 : 0 ≤ (k : Int) := by omega
          have a1 : (k : Int) < 32 := by omega
          have a2 : 0 ≤ (c : Int) := by omega
          have a3 : (c : Int) < (sC k : Int) := by omega
          have hks := HKR.out.size
          rw [HWs.out] at hks
          have hpK : p ∈ L2 := List.mem_of_getElem? HLK.out
          have hpl2 := HST.out.lie p hpK
          have hbig := (HDK.out p hpK).1
          rw [HWs.out] at hbig
          have x3 : wo.cell? ⟨w.heap.size + 3, 0, none⟩ = some (.slice (some ⟨w.heap.size + 2, 0, none⟩) 32 32) := by rw [HKR.out.cell _ _ (by rw [HWs.out]; omega) (by omega)]; exact HX3.out
          have xb : wo.cell? ⟨w.heap.size + 2, k, none⟩ = some (.slice (some ⟨p.1, 0, none⟩) (sC k) (sC k)) := by have := HST.out.hd k p HLK.out; rw [HPL.out] at this; exact this
          obtain ⟨t0, ht0⟩ : ∃ t0, p.2[c]? = some t0 := ⟨p.2[c]'(by rw [HPL.out]; exact hcl), List.getElem?_eq_getElem _⟩
          have z0 := HST.out.c0 p hpK c t0 ht0
          have z1 := HST.out.c1 p hpK c t0 ht0
          have zf0 := HST.out.th p hpK (c * 2)
          have zf1 := HST.out.th p hpK (c * 2 + 1)
          have HBo : Hid (Below w.heap.size w wo) := HBW.out.trans (HKR.out.below (B := w.heap.size) (by omega) (by rw [HWs.out]; omega))
          have hcs : c < st.length := by rw [HPS.out]; exact hcl
          have hgs := List.getElem?_eq_getElem hcs
          have HGS : Hid (st[c]? = some st[c]) := hgs
          obtain ⟨g0, g1, gs⟩ := HC0.out c _ hgs
          have hok := HPT.out _ (List.getElem_mem hcs)
          generalize st[c] = sT at *
          obtain ⟨sa, sc, sC', sn⟩ := sT
          simp only at g0 g1 gs hok
          have HSN : Hid (sC'.length = sV k) := hok.1
          rw [HSN.out] at g0
          have u0 : wo.cell? ⟨sb, c * 2, none⟩ = some (.slice sa (sV k) sc) := by rw [newCell HBo.out _ _ hlie]; exact g0
          have u1 : wo.cell? ⟨sb, c * 2 + 1, none⟩ = some (.int .i64 sn) := by rw [newCell HBo.out _ _ hlie]; exact g1
          have HSL : Hid (Sl w .u16 sa sC') := gs
          have hv := sV_le k hlt
          have hv1 := hv.1
          have hv2 := hv.2
          obtain ⟨pb, pt⟩ := p
          simp only at hpl2 hbig xb z0 z1 zf0 zf1 HPL HAC
          clear g0 g1 gs hgs hok hv
          have HBa : Hid (Below wo.heap.size wo (wo.alloc (.cells #[.slice sa (sV k) sc, .int .i64 sn] 63))) := from_alloc _ _
          have e0 : (wo.alloc (.cells #[.slice sa (sV k) sc, .int .i64 sn] 63)).cell? ⟨wo.heap.size, 0, none⟩ = some (.slice sa (sV k) sc) := by simp
          have e1 : (wo.alloc (.cells #[.slice sa (sV k) sc, .int .i64 sn] 63)).cell? ⟨wo.heap.size, 1, none⟩ = some (.int .i64 sn) := by simp
          have hxw : wo.heap.size < (wo.alloc (.cells #[.slice sa (sV k) sc, .int .i64 sn] 63)).heap.size := by simp
          go_wp2_with fail
          have HSTa : Hid (St (wo.alloc (.cells #[.slice sa (sV k) sc, .int .i64 sn] 63)) w.heap.size (w.heap.size + 2) L2) := HST.out.to HBa.out
          have HKRa : Hid (Kr (w.heap.size + 2) W (wo.alloc (.cells #[.slice sa (sV k) sc, .int .i64 sn] 63))) := HKR.out.to HBa.out
          have HSLa : Hid (Sl (wo.alloc (.cells #[.slice sa (sV k) sc, .int .i64 sn] 63)) .u16 sa sC') := HSL.out.to (below_to HBo.out HBa.out)
          have v3 : (wo.alloc (.cells #[.slice sa (sV k) sc, .int .i64 sn] 63)).cell? ⟨w.heap.size + 3, 0, none⟩ = some (.slice (some ⟨w.heap.size + 2, 0, none⟩) 32 32) := by rw [newCell HBa.out _ _ (by omega)]; exact x3
          have vb : (wo.alloc (.cells #[.slice sa (sV k) sc, .int .i64 sn] 63)).cell? ⟨w.heap.size + 2, k, none⟩ = some (.slice (some ⟨pb, 0, none⟩) (sC k) (sC k)) := by rw [newCell HBa.out _ _ (by omega)]; exact xb
          have vz0 : (wo.alloc (.cells #[.slice sa (sV k) sc, .int .i64 sn] 63)).cell? ⟨pb, c * 2, none⟩ = some (.slice t0.a t0.C.length t0.c) := by rw [newCell HBa.out _ _ hpl2.2.1]; exact z0
          have vz1 : (wo.alloc (.cells #[.slice sa (sV k) sc, .int .i64 sn] 63)).cell? ⟨pb, c * 2 + 1, none⟩ = some (.int .i64 t0.n) := by rw [newCell HBa.out _ _ hpl2.2.1]; exact z1
          have vf0 : (wo.alloc (.cells #[.slice sa (sV k) sc, .int .i64 sn] 63)).frozen? ⟨pb, c * 2, none⟩ = false := by rw [newFrozen HBa.out _ _ hpl2.2.1]; exact zf0
          have vf1 : (wo.alloc (.cells #[.slice sa (sV k) sc, .int .i64 sn] 63)).frozen? ⟨pb, c * 2 + 1, none⟩ = false := by rw [newFrozen HBa.out _ _ hpl2.2.1]; exact zf1
          have hpx : wo.heap.size ≠ pb := by have := hpl2.2.1; omega
          have hplt : pb < (wo.alloc (.cells #[.slice sa (sV k) sc, .int .i64 sn] 63)).heap.size := by have := hpl2.2.1; omega
          clear x3 xb z0 z1 zf0 zf1 u0 u1 HST HKR HBo HBa
          generalize wo.alloc (.cells #[.slice sa (sV k) sc, .int .i64 sn] 63) = V2 at *
          generalize wo.heap.size = x7 at *
          have HCL : Hid (∀ u, Below V2.heap.size V2 u → Calls Tryd.prog 54 #[.slice sa (sV k) sc] u fun e u' => ∃ g c', e = .returned (.slice (some ⟨g, 0, none⟩) (sV k) c') ∧ Ow u' V2.heap.size g (sV k) c' sC' ∧ Below V2.heap.size V2 u' ∧ u'.cell? ⟨w.heap.size + 3, 0, none⟩ = some (.slice (some ⟨w.heap.size + 2, 0, none⟩) 32 32) ∧ u'.cell? ⟨w.heap.size + 2, k, none⟩ = some (.slice (some ⟨pb, 0, none⟩) (sC k) (sC k)) ∧ u'.cell? ⟨x7, 0, none⟩ = some (.slice sa (sV k) sc) ∧ u'.cell? ⟨x7, 1, none⟩ = some (.int .i64 sn) ∧ u'.cell? ⟨pb, c * 2, none⟩ = some (.slice t0.a t0.C.length t0.c) ∧ u'.cell? ⟨pb, c * 2 + 1, none⟩ = some (.int .i64 t0.n) ∧ u'.frozen? ⟨pb, c * 2, none⟩ = false ∧ u'.frozen? ⟨pb, c * 2 + 1, none⟩ = false) := fun u hu => by
            have h1 := clone_some (c := sc) (HSLa.out.to hu) (by rw [HSN.out]; omega) (by rw [HSN.out]; omega)
            rw [HSN.out] at h1
            refine h1.mono fun e u' h => ?_
            obtain ⟨g, c', h2, h3, h4⟩ := h
            have hb := below_to hu h4
            exact ⟨g, c', h2, h3.mono hu.size, hb, by rw [newCell hb _ _ (by omega)]; exact v3, by rw [newCell hb _ _ (by omega)]; exact vb, by rw [newCell hb _ _ hxw]; exact e0, by rw [newCell hb _ _ hxw]; exact e1, by rw [newCell hb _ _ hplt]; exact vz0, by rw [newCell hb _ _ hplt]; exact vz1, by rw [newFrozen hb _ _ hplt]; exact vf0, by rw [newFrozen hb _ _ hplt]; exact vf1⟩
          have hbd : Below V2.heap.size V2 V2.drew := below_drew (Below.refl _ _)
          have d3 : V2.drew.cell? ⟨w.heap.size + 3, 0, none⟩ = some (.slice (some ⟨w.heap.size + 2, 0, none⟩) 32 32) := v3
          have db : V2.drew.cell? ⟨w.heap.size + 2, k, none⟩ = some (.slice (some ⟨pb, 0, none⟩) (sC k) (sC k)) := vb
          have d7 : V2.drew.cell? ⟨x7, 0, none⟩ = some (.slice sa (sV k) sc) := e0
          have d8 : V2.drew.cell? ⟨x7, 1, none⟩ = some (.int .i64 sn) := e1
          have n1 : w.heap.size + 3 ≠ pb := by omega
          have n2 : w.heap.size + 2 ≠ pb := by omega
          clear v3 vb vz0 vz1 vf0 vf1 e0 e1
          go_region_held3 (fun u => u.cell? ⟨w.heap.size + 3, 0, none⟩ = some (.slice (some ⟨w.heap.size + 2, 0, none⟩) 32 32) ∧ u.cell? ⟨w.heap.size + 2, k, none⟩ = some (.slice (some ⟨pb, 0, none⟩) (sC k) (sC k)) ∧ u.cell? ⟨x7, 0, none⟩ = some (.slice sa (sV k) sc) ∧ u.cell? ⟨x7, 1, none⟩ = some (.int .i64 sn)) (((try dsimp only); first | assumption | (refine ⟨?_, ?_, ?_, ?_⟩ <;> first | assumption | go_keep) | go_keep)) ((go_at_call 54; refine (HCL.out _ (by (repeat (first | with_reducible assumption | with_reducible refine below_drew ?_ | with_reducible refine below_alloc ?_ ?_ _ | with_reducible refine below_set ?_ ?_ _ | exact Nat.le_refl _ | exact Below.size (by assumption))))).mono ?_; rintro e w3 ⟨g, c', rfl, ho, hbw, q3, qb, q7, q8, z0, z1, zf0, zf1⟩; have y3 : ((w3.setCell ⟨pb, c * 2, none⟩ (.slice (some ⟨g, 0, none⟩) (sV k) c')).setCell ⟨pb, c * 2 + 1, none⟩ (.int .i64 sn)).cell? ⟨w.heap.size + 3, 0, none⟩ = some (.slice (some ⟨w.heap.size + 2, 0, none⟩) 32 32) := far2 n1 q3; have yb : ((w3.setCell ⟨pb, c * 2, none⟩ (.slice (some ⟨g, 0, none⟩) (sV k) c')).setCell ⟨pb, c * 2 + 1, none⟩ (.int .i64 sn)).cell? ⟨w.heap.size + 2, k, none⟩ = some (.slice (some ⟨pb, 0, none⟩) (sC k) (sC k)) := far2 n2 qb; have y7 : ((w3.setCell ⟨pb, c * 2, none⟩ (.slice (some ⟨g, 0, none⟩) (sV k) c')).setCell ⟨pb, c * 2 + 1, none⟩ (.int .i64 sn)).cell? ⟨x7, 0, none⟩ = some (.slice sa (sV k) sc) := far2 hpx q7; have y8 : ((w3.setCell ⟨pb, c * 2, none⟩ (.slice (some ⟨g, 0, none⟩) (sV k) c')).setCell ⟨pb, c * 2 + 1, none⟩ (.int .i64 sn)).cell? ⟨x7, 1, none⟩ = some (.int .i64 sn) := far2 hpx q8))
          have hgl : V2.heap.size ≤ g := ho.lies.1
          have hgap : ∀ b o, (some ⟨g, 0, none⟩ : Option Addr) = some ⟨b, o, none⟩ → sC' ≠ [] → b ≠ w.heap.size + 2 ∧ ∀ q ∈ L2, b ≠ q.1 := fun b o h1 _ => by
            simp only [Option.some.injEq, Addr.mk.injEq, and_true] at h1
            exact ⟨by omega, fun q hq => by have := (HSTa.out.lie q hq).2.1; omega⟩
          have HPUT : Hid (St ((w3.setCell ⟨pb, c * 2, none⟩ (.slice (some ⟨g, 0, none⟩) (sV k) c')).setCell ⟨pb, c * 2 + 1, none⟩ (.int .i64 sn)) w.heap.size (w.heap.size + 2) (L2.set k (pb, pt.set c ⟨some ⟨g, 0, none⟩, c', sC', sn⟩))) := by
            have := (HSTa.out.to hbw).put HLK.out (by rw [HPL.out]; exact hcl) ⟨some ⟨g, 0, none⟩, c', sC', sn⟩ ho.sl hgap
            simp only [HSN.out] at this
            exact this
          have hWs : W.heap.size ≤ pb := by rw [HWs.out]; exact hbig
          have HKR3 : Hid (Kr (w.heap.size + 2) W ((w3.setCell ⟨pb, c * 2, none⟩ (.slice (some ⟨g, 0, none⟩) (sV k) c')).setCell ⟨pb, c * 2 + 1, none⟩ (.int .i64 sn))) := ((HKRa.out.to hbw).set ⟨pb, c * 2, none⟩ (.slice (some ⟨g, 0, none⟩) (sV k) c') (Or.inr hWs)).set ⟨pb, c * 2 + 1, none⟩ (.int .i64 sn) (Or.inr hWs)
          have HDK3 : Hid (Dk W.heap.size (L2.set k (pb, pt.set c ⟨some ⟨g, 0, none⟩, c', sC', sn⟩))) := fun r hr => by
            rcases St.mem_set HLK.out hr with e | e
            · subst e
              refine ⟨hWs, fun t ht b o h1 h2 => ?_⟩
              rcases List.mem_or_eq_of_mem_set ht with e2 | e2
              · exact (HDK.out _ hpK).2 t e2 b o h1 h2
              · subst e2
                simp only [Option.some.injEq, Addr.mk.injEq, and_true] at h1
                rw [HWs.out]; omega
            · exact HDK.out r e
          clear ho hbw q3 qb q7 q8 z0 z1 zf0 zf1 y3 yb y7 y8
          go_wp2_with fail
          go_roundw
          case rel =>
            refine ⟨c + 1, _, (pb, pt.set c ⟨some ⟨g, 0, none⟩, c', sC', sn⟩), by omega, by go_num, by rw [List.length_set]; exact HL2.out, by rw [List.getElem?_set_self (by rw [HL2.out]; omega)], by simp only [List.length_set]; exact HPL.out, HPUT.out, HDK3.out, fun j p q hj hp hq => ?_, fun m s t hm hs ht => ?_, HKR3.out⟩
            · rw [List.getElem?_set_ne (by omega)] at hq
              exact HAL.out j p q hj hp hq
            · simp only at ht
              rw [List.getElem?_set] at ht
              by_cases e : c = m
              · subst e
                rw [if_pos rfl, if_pos (by rw [HPL.out]; exact hcl)] at ht
                rw [HGS.out] at hs
                simp at ht hs; subst ht; subst hs; exact ⟨rfl, rfl⟩
              · rw [if_neg e] at ht
                exact HAC.out m s t (by omega) hs ht
          case measure => simp [intOf]; omega
        · have a3 : ¬ (c : Int) < (sC k : Int) := by omega
          have hcs : c = sC k := by omega
          go_wp2_with fail
          go_roundw
          case rel =>
            refine ⟨k + 1, L2, by omega, by go_num, HL2.out, HST.out, HDK.out, fun j p' q hp hq => ?_, HKR.out⟩
            by_cases hj : j < k
            · exact HAL.out j p' q hj hp hq
            · have hjk : j = k := by
                have := (List.getElem?_eq_some_iff.1 hq).1
                rw [HL2.out] at this
                omega
              subst hjk
              rw [HLK.out] at hq
              rw [HGK.out] at hp
              simp only [Option.some.injEq] at hq hp
              subst hq hp
              refine ⟨by show p.2.length = st.length; rw [HPL.out, HPS.out], fun m s t hs ht => HAC.out m s t ?_ hs ht⟩
              have := (List.getElem?_eq_some_iff.1 ht).1
              rw [HPL.out] at this; omega
          case measure => simp [intOf]; omega
    · have hk' : k = 32 := by omega
      subst hk'
      have b1 : ¬ ((32 : Nat) : Int) < 32 := by omega
      go_wp2_with fail
      refine bodyPost_ret (v := .agg #[.slice (some ⟨w.heap.size + 2, 0, none⟩) 32 32]) (by simp [results, Tryd.results29, go_sem, x2]) rfl ⟨w.heap.size + 2, L, rfl, ?_, ⟨by rw [HLL.out, HOK.out.1], HAL.out⟩, HDK.out.mono (by rw [HWs.out]; omega), ?_⟩
      · refine HST.out.far _ _ (by simp) (fun p hp e => ?_) (fun p hp t ht b o h1 h2 e => ?_)
        · have := (HDK.out p hp).1; rw [HWs.out] at this; simp at e; omega
        · have := (HDK.out p hp).2 t ht b o h1 h2; rw [HWs.out] at this; simp at e; omega
      · exact below_set (HBW.out.trans (HKR.out.below (B := w.heap.size) (by omega) (by rw [HWs.out]; omega))) (by simp) _

end Go.Proofs.YtppanogpeengnaaDoor

namespace Go.Proofs.YtppanogpeengnaaDoor
open Go.RowKit L3

set_option maxRecDepth 100000 in
set_option maxHeartbeats 1000000 in
theorem writer_u {w : World} {lo bt cT : Nat} {q : Nat → Nat} {K : List (Nat × List Tb)} {ad : Bool} (hsh : Sh w) (hs : Su w lo bt q K) (ho : Okk K) :
    Calls Tryd.prog 11 #[.agg #[.slice (some ⟨bt, 0, none⟩) 32 cT], .bool ad] w fun e w' => WrN w w' e K ad := by
  have HB : Hid (Below w.heap.size w (w.alloc (.cells #[.slice (some ⟨bt, 0, none⟩) 32 cT] 25))) := (Below.refl _ _).alloc (Nat.le_refl _) _
  have c0 : (w.alloc (.cells #[.slice (some ⟨bt, 0, none⟩) 32 cT] 25)).cell? ⟨w.heap.size, 0, none⟩ = some (.slice (some ⟨bt, 0, none⟩) 32 cT) := by simp [go_sem]
  have HZ : Hid (w.heap.size < (w.alloc (.cells #[.slice (some ⟨bt, 0, none⟩) 32 cT] 25)).heap.size) := by show _ < _; simp
  have HSt : Hid (∀ v, Below w.heap.size w v → Su v lo bt q K) := fun v hv => hs.to hv
  have HSh : Hid (∀ v, Below w.heap.size w v → Sh v) := fun v hv => hsh.to hv
  have HO : Hid (Okk K) := ho
  clear hsh hs ho
  go_enter Tryd.func11, Tryd.ntmps11
  go_wp2_with fail
  generalize (w.alloc (.cells #[.slice (some ⟨bt, 0, none⟩) 32 cT] 25)) = V at *
  refine (scheck_u (HSh.out _ HB.out) (HSt.out _ HB.out) HO.out).mono ?_
  rintro e w1 ⟨rfl, hb1⟩
  have HB1 : Hid (Below w.heap.size w w1) := HB.out.trans (hb1.mono (Nat.le_of_lt HZ.out))
  have d0 : w1.cell? ⟨w.heap.size, 0, none⟩ = some (.slice (some ⟨bt, 0, none⟩) 32 cT) := by rw [newCell hb1 _ _ HZ.out]; exact c0
  have HZ1 : Hid (w.heap.size < w1.heap.size) := Nat.lt_of_lt_of_le HZ.out hb1.size
  clear hb1 c0
  go_wp2_with fail
  have HK : Hid (∀ v : World, Below w1.heap.size w1 v → v.cell? ⟨w.heap.size, 0, none⟩ = some (.slice (some ⟨bt, 0, none⟩) 32 cT)) := fun v hv => by rw [newCell hv _ _ HZ1.out]; exact d0
  have HCp : Hid (∀ v : World, Below w1.heap.size w1 v → Calls Tryd.prog 29 #[.agg #[.slice (some ⟨bt, 0, none⟩) 32 cT]] v fun e w' => Cset v w' e K) := fun v hv => scopy_u (HSh.out _ (HB1.out.trans (hv.mono (Nat.le_of_lt HZ1.out)))) (HSt.out _ (HB1.out.trans (hv.mono (Nat.le_of_lt HZ1.out)))) HO.out
  have hbd : Below w1.heap.size w1 w1.drew := below_drew (Below.refl _ _)
  have HA : Hid (∀ wA wB b2 L2', L2.En wA w1.drew.heap.size w1.drew.heap.size (.slice none 0 0) [] 0 4294967295 → Below w1.drew.heap.size w1.drew wA → St wB wA.heap.size b2 L2' → Als K L2' → Dk wA.heap.size L2' → Below wA.heap.size wA wB → WrN w (wB.alloc (.cells #[.pointer (some ⟨w1.drew.heap.size, 0, none⟩), .pointer none, .slice (some ⟨b2, 0, none⟩) 32 32, .bool ad, .int .i64 0] 85)) (.returned (.tuple #[.pointer (some ⟨wB.heap.size, 0, none⟩), .int .i64 0])) K ad) := fun wA wB b2 L2' h1 h2 h3 h4 h5 h6 => by
    have z1 := HZ1.out
    have z2 := h2.size
    have z3 : w1.drew.heap.size = w1.heap.size := rfl
    have hb : Below w.heap.size w wB := (HB1.out.trans ((hbd.trans (h2.mono (by omega))).mono (Nat.le_of_lt z1))).trans (h6.mono (by omega))
    exact ⟨wB.heap.size, b2, L2', _, rfl, cw_new hb (h3.weak (by omega)) (h5.weak (by omega)) (HO.out.als h4) (en_base (en_to h1 h6) (by omega)) (st_apart h3 h5 h1.lies.2) rfl, h4, to_alloc hb _⟩
  have HB2 : Hid (∀ wA wB b2 L2', St wB w1.drew.heap.size b2 L2' → Als K L2' → Dk w1.drew.heap.size L2' → Below w1.drew.heap.size w1.drew wB → L2.En wA wB.heap.size wB.heap.size (.slice none 0 0) [] 0 4294967295 → Below wB.heap.size wB wA → WrN w (wA.alloc (.cells #[.pointer (some ⟨wB.heap.size, 0, none⟩), .pointer none, .slice (some ⟨b2, 0, none⟩) 32 32, .bool ad, .int .i64 0] 85)) (.returned (.tuple #[.pointer (some ⟨wA.heap.size, 0, none⟩), .int .i64 0])) K ad) := fun wA wB b2 L2' h3 h4 h5 h6 h1 h2 => by
    have z1 := HZ1.out
    have z2 := h6.size
    have z3 : w1.drew.heap.size = w1.heap.size := rfl
    have hb : Below w.heap.size w wA := (HB1.out.trans ((hbd.trans (h6.mono (by omega))).mono (Nat.le_of_lt z1))).trans (h2.mono (by omega))
    exact ⟨wA.heap.size, b2, L2', _, rfl, cw_new hb ((h3.to h2).weak (by omega)) (h5.weak (by omega)) (HO.out.als h4) (en_base h1 (by omega)) (fun e => by have := h3.low e; omega) rfl, h4, to_alloc hb _⟩
  go_region_held3 (fun v => v.cell? ⟨w.heap.size, 0, none⟩ = some (.slice (some ⟨bt, 0, none⟩) 32 cT))
    ((exact HK.out _ (by first | assumption | (refine to_alloc ?_ _; assumption))))
    (first
      | (go_at_call 41; refine (L2.new_any _).mono ?_; rintro e wA ⟨rfl, heA, hbA⟩; have hzA := below_to (by assumption) hbA)
      | (go_at_call 29; refine (HCp.out _ (by assumption)).mono ?_; rintro e wB ⟨b2, L2', rfl, hs2, ha2, hd2, hbB⟩; have hzB := below_to (by assumption) hbB))
  all_goals
    go_wp2_with fail
    refine bodyPost_ret (v := .tuple #[.pointer (some ⟨_, 0, none⟩), .int .i64 0]) (by simp [results, Tryd.results11, go_sem]; rfl) rfl ?_
    first
      | exact HA.out _ _ _ _ heA hbA hs2 ha2 hd2 hbB
      | exact HB2.out _ _ _ _ hs2 ha2 hd2 hbB heA hbA

end Go.Proofs.YtppanogpeengnaaDoor
