/- DERIVED. The walk of Check, of sets that may be. -/
import Derived.Test.YtppanogpeengnabGreatDoorSd
namespace Go.Proofs.YtppanogpeengnabGreatDoor
open Go.RowKit L3

/-- the tables of a kind may be -/
def Oq (j : Nat) (p : Nat × List Tb) : Prop := p.2.length = sC j ∧ ∀ t ∈ p.2, t.C.length = sV j ∧ TOk t.C t.n
def Okk (K : List (Nat × List Tb)) : Prop := K.length = 32 ∧ ∀ (j : Nat) p, K[j]? = some p → Oq j p
theorem okk_default {K : List (Nat × List Tb)} (h : K.length = 32) (hd : ∀ (j : Nat) p, K[j]? = some p → Dq j p) : Okk K :=
  ⟨h, fun j p hp => by
    have hj : j < 32 := by have := (List.getElem?_eq_some_iff.1 hp).1; omega
    obtain ⟨h1, h2⟩ := hd j p hp
    refine ⟨h1, fun t ht => ?_⟩
    obtain ⟨e1, e2⟩ := h2 t ht
    rw [e1, e2]
    exact ⟨dfC_len j, dfC_ok j hj⟩⟩

set_option maxRecDepth 100000 in
set_option maxHeartbeats 4000000 in
theorem scheck_ok {w : World} {lo bt : Nat} {K : List (Nat × List Tb)} (hsh : Sh w) (h : St w lo bt K) (ho : Okk K) :
    Calls Tryz.prog 15 #[.agg #[.slice (some ⟨bt, 0, none⟩) 32 32]] w fun e w' => e = .returned (.int .i64 0) ∧ Below w.heap.size w w' := by
  have HSH : Hid (Sh w) := hsh
  have HST : Hid (St w lo bt K) := h
  have HOK : Hid (Okk K) := ho
  have HB0 : Hid (Below w.heap.size w (w.alloc (.cells #[.slice (some ⟨bt, 0, none⟩) 32 32] 29))) := from_alloc _ _
  have HX : Hid ((w.alloc (.cells #[.slice (some ⟨bt, 0, none⟩) 32 32] 29)).cell? ⟨w.heap.size, 0, none⟩ = some (.slice (some ⟨bt, 0, none⟩) 32 32)) := by unfold Hid; simp
  clear hsh h ho
  go_enter Tryz.func15, Tryz.ntmps15
  go_wp2_with fail
  generalize w.alloc (.cells #[.slice (some ⟨bt, 0, none⟩) 32 32] 29) = W at *
  go_loopw [14] (fun iv wr => ∃ k : Nat, k ≤ 32 ∧ iv = .int .i64 k ∧ Below w.heap.size w wr) (fun iv _ => 32 - (intOf iv).toNat)
  case atStart => exact ⟨0, by omega, rfl, HB0.out⟩
  case round =>
    obtain ⟨k, hk, rfl, hb⟩ := hrel
    have HB : Hid (Below w.heap.size w wr) := hb
    clear hb HB0
    by_cases hlt : k < 32
    · have hkl : k < K.length := by rw [HOK.out.1]; exact hlt
      have hget := List.getElem?_eq_getElem hkl
      have hoq := HOK.out.2 k _ hget
      have hmem : K[k] ∈ K := List.getElem_mem _
      have xb0 := HST.out.hd k _ hget
      have hlie := (HST.out.lie _ hmem).2.1
      have HC0 : Hid (∀ (c : Nat) t, K[k].2[c]? = some t → w.cell? ⟨K[k].1, c * 2, none⟩ = some (.slice t.a t.C.length t.c) ∧ w.cell? ⟨K[k].1, c * 2 + 1, none⟩ = some (.int .i64 t.n) ∧ Sl w .u16 t.a t.C) := fun c t ht => ⟨HST.out.c0 _ hmem c t ht, HST.out.c1 _ hmem c t ht, HST.out.sl _ hmem t (List.mem_of_getElem? ht)⟩
      generalize K[k] = p at *
      obtain ⟨pb, pt⟩ := p
      simp only at xb0 hlie HC0
      have HPL : Hid (pt.length = sC k) := hoq.1
      have HPT : Hid (∀ t ∈ pt, t.C.length = sV k ∧ TOk t.C t.n) := hoq.2
      have xb : wr.cell? ⟨bt, k, none⟩ = some (.slice (some ⟨pb, 0, none⟩) (sC k) (sC k)) := by rw [newCell HB.out _ _ HST.out.blt]; rw [HPL.out] at xb0; exact xb0
      have cc : wr.cell? ⟨0, k * 3, none⟩ = some (.int .i64 (sC k : Nat)) := (HSH.out.to HB.out).c k hlt
      have b0 : 0 ≤ (k : Int) := by omega
      have b1 : (k : Int) < 32 := by omega
      have t1 : ((sC k : Int) != (sC k : Int)) = false := by simp
      clear hget hoq hmem xb0 hkl
      go_wp2_with fail
      generalize hwo : wr = wo at *
      clear hwo
      go_loopw [28] (fun iv wr => ∃ c : Nat, c ≤ sC k ∧ iv = .int .i64 c ∧ Below w.heap.size w wr) (fun iv _ => sC k - (intOf iv).toNat)
      case atStart => exact ⟨0, by omega, rfl, HB.out⟩
      case round =>
        obtain ⟨c, hc, rfl, hb⟩ := hrel
        clear HB xb cc
        have HB : Hid (Below w.heap.size w wr) := hb
        clear hb
        by_cases hcl : c < sC k
        · have hcp : c < pt.length := by rw [HPL.out]; exact hcl
          have hgt := List.getElem?_eq_getElem hcp
          obtain ⟨g0, g1, gs⟩ := HC0.out c _ hgt
          have hok := HPT.out _ (List.getElem_mem hcp)
          generalize pt[c] = t at *
          obtain ⟨ta, tc, tC, tn⟩ := t
          simp only at g0 g1 gs hok
          have z0 : wr.cell? ⟨pb, c * 2, none⟩ = some (.slice ta tC.length tc) := by rw [newCell HB.out _ _ hlie]; exact g0
          have z1 : wr.cell? ⟨pb, c * 2 + 1, none⟩ = some (.int .i64 tn) := by rw [newCell HB.out _ _ hlie]; exact g1
          have HSL : Hid (Sl w .u16 ta tC) := gs
          have HTO : Hid (TOk tC tn) := hok.2
          have hlen : tC.length = sV k := hok.1
          rw [hlen] at z0
          have a0 : 0 ≤ (c : Int) := by omega
          have a1 : (c : Int) < (sC k : Int) := by omega
          have hv := (sV_le k hlt).2
          have hc14 := (sC_le k hlt).2
          have HBa : Hid (Below w.heap.size w (wr.alloc (.cells #[.slice ta (sV k) tc, .int .i64 tn] 59))) := to_alloc HB.out _
          have e0 : (wr.alloc (.cells #[.slice ta (sV k) tc, .int .i64 tn] 59)).cell? ⟨wr.heap.size, 0, none⟩ = some (.slice ta (sV k) tc) := by simp
          have e1 : (wr.alloc (.cells #[.slice ta (sV k) tc, .int .i64 tn] 59)).cell? ⟨wr.heap.size, 1, none⟩ = some (.int .i64 tn) := by simp
          have hx : wr.heap.size < (wr.alloc (.cells #[.slice ta (sV k) tc, .int .i64 tn] 59)).heap.size := by simp
          have HSHa : Hid (Sh (wr.alloc (.cells #[.slice ta (sV k) tc, .int .i64 tn] 59))) := HSH.out.to HBa.out
          clear g0 g1 gs hgt hok
          go_wp2_with fail
          generalize wr.alloc (.cells #[.slice ta (sV k) tc, .int .i64 tn] 59) = V at *
          generalize wr.heap.size = x at *
          have HQ : Hid (∀ u, Below V.heap.size V u → u.cell? ⟨x, 0, none⟩ = some (.slice ta (sV k) tc) ∧ u.cell? ⟨x, 1, none⟩ = some (.int .i64 tn) ∧ u.cell? ⟨0, k * 3 + 1, none⟩ = some (.int .i64 (sV k : Nat))) := fun u hu => ⟨by rw [newCell hu _ _ hx]; exact e0, by rw [newCell hu _ _ hx]; exact e1, (HSHa.out.to hu).v k hlt⟩
          have HCK : Hid (∀ u, Below V.heap.size V u → Calls Tryz.prog 29 #[.agg #[.slice ta (sV k) tc, .int .i64 tn]] u fun e u' => e = .returned (.int .i64 0) ∧ Below V.heap.size V u') := fun u hu => by
            have h1 := check_any (c := tc) (n := tn) ((HSL.out.to HBa.out).to hu) (by rw [hlen]; omega)
            rw [hlen, show ck tC tn = 0 from ck_ok HTO.out] at h1
            exact h1.mono fun e u' h => ⟨h.1, below_to hu h.2⟩
          have hbd : Below V.heap.size V V.drew := below_drew (Below.refl _ _)
          obtain ⟨d0, d1, d2⟩ := HQ.out _ hbd
          have t2 : ((sV k : Int) != (sV k : Int)) = false := by simp
          clear e0 e1 z0 z1 hlen
          go_region_held3 (fun u => u.cell? ⟨x, 0, none⟩ = some (.slice ta (sV k) tc) ∧ u.cell? ⟨x, 1, none⟩ = some (.int .i64 tn) ∧ u.cell? ⟨0, k * 3 + 1, none⟩ = some (.int .i64 (sV k : Nat))) (((try dsimp only); first | assumption | (refine ⟨?_, ?_, ?_⟩ <;> first | assumption | go_keep) | go_keep)) (first
            | (go_at_call 29; with_reducible refine (HCK.out _ (by assumption)).mono ?_; rintro e wA ⟨rfl, hbA⟩; obtain ⟨pA0, pA1, pA2⟩ := HQ.out _ hbA))
          all_goals
            have HBn : Hid (Below w.heap.size w wA) := below_to HBa.out hbA
            clear hbA pA0 pA1 pA2 d0 d1 d2 hbd
            go_wp2_with fail
            go_roundw
            case rel => exact ⟨c + 1, by omega, by go_num, HBn.out⟩
            case measure => simp [intOf]; omega
        · have a1 : ¬ (c : Int) < (sC k : Int) := by omega
          go_wp2_with fail
          go_roundw
          case rel => exact ⟨k + 1, by omega, by go_num, HB.out⟩
          case measure => simp [intOf]; omega
    · have b1 : ¬ (k : Int) < 32 := by omega
      go_wp2_with fail
      go_ret
      exact ⟨rfl, HB.out⟩

end Go.Proofs.YtppanogpeengnabGreatDoor
