/- DERIVED. The walk of the statement CdfAverages. -/
import Derived.Test.YtpijgdfhkmailaaMi
import Derived.Test.YtpijgdfhkmailaaMj
namespace Go.Proofs.Ytpijgdfhkmailaa
open Go.RowKit

theorem raverage_yes {w : World} {a : Option Addr} {c : Nat} {L : List Tb} {m : Nat} (h : Tl w a L) (hl : L.length ≤ 4398046511104) (hg : AvG L m) :
    Calls Try.prog 27 #[.slice a L.length c] w fun e w' => Tn w w' e (av m (L.map Tb.C)) 0 := by
  have h0 := hg.some
  rcases h with rfl | ⟨b, o, rfl, hts⟩
  · simp at h0
  · have hget := List.getElem?_eq_getElem h0
    have hm := (hg.all _ (List.getElem_mem h0)).2
    refine (raverage_some hts hget hl).mono ?_
    rintro e w' (⟨_, h1⟩ | ⟨h1, _⟩)
    · rw [hm] at h1; exact h1
    · rw [hm] at h1; exact absurd hg.all h1
theorem raverage_not {w : World} {a : Option Addr} {c : Nat} {L : List Tb} (h : Tl w a L) (hl : L.length ≤ 4398046511104) (hg : ∀ m, ¬ AvG L m) :
    Calls Try.prog 27 #[.slice a L.length c] w fun e w' => e = .returned (.tuple #[.agg #[.slice none 0 0, .int .i64 0], .int .i64 2]) ∧ Below w.heap.size w w' := by
  by_cases h0 : L.length = 0
  · rw [h0]; exact raverage_none
  · rcases h with rfl | ⟨b, o, rfl, hts⟩
    · simp at h0
    · have hget := List.getElem?_eq_getElem (show 0 < L.length by omega)
      refine (raverage_some hts hget hl).mono ?_
      rintro e w' (⟨h1, _⟩ | ⟨_, h1⟩)
      · exact absurd ⟨by omega, h1⟩ (hg _)
      · exact h1
theorem average_both {w : World} {a : Option Addr} {c : Nat} {L : List Tb} (h : Tl w a L) (hl : L.length ≤ 4398046511104) :
    Calls Try.prog 26 #[.slice a L.length c] w fun e w' => Tm w w' e (avL L) 0 (avX L) := by
  by_cases hg : ∃ m, AvG L m
  · unfold avL avX; rw [dif_pos hg, if_pos hg]
    exact (average_yes h hl hg.choose_spec).mono fun e w' h => Tm.ofTn h
  · unfold avL avX; rw [dif_neg hg, if_neg hg]
    exact (average_not h hl (fun m hm => hg ⟨m, hm⟩)).mono fun e w' h => Tm.ofNo h
theorem raverage_both {w : World} {a : Option Addr} {c : Nat} {L : List Tb} (h : Tl w a L) (hl : L.length ≤ 4398046511104) :
    Calls Try.prog 27 #[.slice a L.length c] w fun e w' => Tm w w' e (avL L) 0 (avX L) := by
  by_cases hg : ∃ m, AvG L m
  · unfold avL avX; rw [dif_pos hg, if_pos hg]
    exact (raverage_yes h hl hg.choose_spec).mono fun e w' h => Tm.ofTn h
  · unfold avL avX; rw [dif_neg hg, if_neg hg]
    exact (raverage_not h hl (fun m hm => hg ⟨m, hm⟩)).mono fun e w' h => Tm.ofNo h

set_option maxRecDepth 100000 in
set_option maxHeartbeats 2000000 in
theorem averages_walk {w : World} {a : Option Addr} {c : Nat} {L : List Tb} (h : Tl w a L) (hl : L.length ≤ 4398046511104) (hlen : ∀ t, t ∈ L → t.C.length ≤ 70368744175616) :
    Calls Try.prog 5 #[.slice a L.length c] w fun e w' => e = .returned (.bool true) ∧ Below w.heap.size w w' := by
  have HT : Hid (Tl w a L) := h
  have HLT : Hid (∀ t, t ∈ L → t.C.length ≤ 70368744175616) := hlen
  have HIN : Hid (∀ t, t ∈ L → t.In w) := fun t ht => by
    rcases h with e | ⟨b, o, _, hts⟩
    · rw [e] at ht; cases ht
    · exact hts.ins t ht
  clear h hlen
  go_enter Try.func5, Try.ntmps5
  go_wp2_with fail
  go_loopw [3, 4] (fun sv iv wr => ∃ k M, iv = .int .i64 (k : Nat) ∧ Cv w L sv wr k M) (fun _ iv _ => L.length - (intOf iv).toNat)
  case atStart => exact ⟨0, [], rfl, Cv.start w L⟩
  case round =>
    obtain ⟨k, M, rfl, hcv⟩ := hrel
    have hk := hcv.k1
    have hML := hcv.cs.len
    obtain ⟨sa, sc, rfl⟩ := hcv.ot.form
    rw [hML] at hcv ⊢
    have HCV : Hid (Cv w L (.slice sa k sc) wr k M) := hcv
    have HML : Hid (M.length = k) := hML
    clear hcv hML
    by_cases hlt : k < L.length
    · have b0 : 0 ≤ (k : Int) := by omega
      have b1 : (k : Int) < (L.length : Int) := by omega
      obtain ⟨b, o, rfl, hts⟩ := HT.out.resolve_left (fun e => by rw [e] at hlt; simp at hlt)
      have hget := List.getElem?_eq_getElem hlt
      have hmem : L[k] ∈ L := List.getElem_mem hlt
      have HG : Hid (L[k]? = some L[k]) := hget
      have r0 : wr.cell? ⟨b, o + k * 2, none⟩ = some (.slice L[k].a L[k].C.length L[k].c) := by rw [newCell HCV.out.b _ _ hts.low]; exact hts.cell0 k _ hget
      have r1 : wr.cell? ⟨b, o + k * 2 + 1, none⟩ = some (.int .i64 L[k].n) := by rw [newCell HCV.out.b _ _ hts.low]; exact hts.cell1 k _ hget
      have HSL : Hid (Sl wr .u16 L[k].a L[k].C) := (HIN.out _ hmem).sl.to HCV.out.b
      have hln := HLT.out _ hmem
      generalize L[k] = t at *
      obtain ⟨ta, tc, tC, tn⟩ := t
      simp only at *
      clear hts hget hmem
      go_wp2_with fail
      refine (copied_any HSL.out hln).mono ?_
      rintro e w1 ⟨g, gc, rfl, hcp, hb⟩
      have HCP : Hid (Cp w1 wr.heap.size g gc tC) := hcp
      have HB : Hid (Below wr.heap.size wr w1) := hb
      have HO1 : Hid (Ot w1 w.heap.size (.slice sa k sc) M) := HCV.out.ot.to hb
      have hs1 : w.heap.size ≤ w1.heap.size := Nat.le_trans HCV.out.b.size hb.size
      clear hcp hb r0 r1
      go_wp2_with (at_builtin; refine wpList_append_tab2 _ (by rfl) _ _ (by rfl) w.heap.size M (.slice sa k sc) ⟨some ⟨g, 0, none⟩, gc, tC, tn⟩ HO1.out hs1 (by rw [HML.out]; omega) (by rfl) (by rfl) ?_; intro r cap w' hot' hgr' hat')
      go_roundw
      case rel => exact ⟨k + 1, M ++ [⟨some ⟨g, 0, none⟩, gc, tC, tn⟩], by go_num, HCV.out.step (t := ⟨ta, tc, tC, tn⟩) HG.out HCP.out HB.out hot' hgr' hat'⟩
      case measure => simp [intOf]; omega
    · have hk' : k = L.length := by omega
      subst hk'
      have b1 : ¬ (L.length : Int) < (L.length : Int) := by omega
      generalize wr = wo at *
      have HAL : Hid (Alike L M) := ⟨HML.out, fun j t s ht hs => by obtain ⟨g, _, h2, h3, _⟩ := HCV.out.cs.cp j t s ht hs; exact ⟨h2, h3⟩⟩
      have HINM : Hid (∀ s, s ∈ M → s.In wo) := fun s hs => by
        obtain ⟨j, hj, rfl⟩ := List.getElem_of_mem hs
        have hj' : j < L.length := by rw [← HML.out]; exact hj
        obtain ⟨g, h1, h2, h3, h4⟩ := HCV.out.cs.cp j _ _ (List.getElem?_eq_getElem hj') (List.getElem?_eq_getElem hj)
        have hi := HIN.out _ (List.getElem_mem hj')
        exact ⟨by rw [h1, h2]; exact h4.sl, by rw [h2]; exact hi.len, fun i => by rw [h2]; exact hi.u16 i⟩
      obtain ⟨sa', sc', he, htlM⟩ := HCV.out.ot.tl HINM.out
      simp only [Value.slice.injEq] at he
      obtain ⟨rfl, hx, rfl⟩ := he
      clear hx
      have HTM : Hid (Tl wo sa M) := htlM
      clear htlM
      have HAV1 : Hid (∀ u, Below wo.heap.size wo u → Calls Try.prog 26 #[.slice sa L.length sc] u fun e w' => Tm u w' e (avL L) 0 (avX L)) := fun u hu => by
        have := average_both (c := sc) (HTM.out.to hu) (by rw [HML.out]; exact hl)
        rw [HAL.out.avL.1, HAL.out.avL.2, HML.out] at this
        exact this
      have HAV2 : Hid (∀ u, Below wo.heap.size wo u → Calls Try.prog 27 #[.slice a L.length c] u fun e w' => Tm u w' e (avL L) 0 (avX L)) := fun u hu => raverage_both (HT.out.to (below_to HCV.out.b hu)) hl
      have hal := avL_len L
      generalize avL L = FA at *
      generalize avX L = X at *
      go_wp2_with fail
      refine (HAV1.out _ (Below.refl _ _)).mono ?_
      rintro e w2 ⟨aA, cA, rfl, ho, hb⟩
      have HOA : Hid ((w2.alloc (.cells #[.slice aA FA.length cA, .int .i64 0] 24)).ownsRow wo.heap.size 49 1 (.slice aA FA.length cA) FA.length (ns .u16 FA)) := own_below ho (from_alloc _ _)
      have HV2 : Hid (Below wo.heap.size wo (w2.alloc (.cells #[.slice aA FA.length cA, .int .i64 0] 24))) := to_alloc hb _
      have HQ2 : Hid ((w2.alloc (.cells #[.slice aA FA.length cA, .int .i64 0] 24)).cell? ⟨w2.heap.size, 0, none⟩ = some (.slice aA FA.length cA) ∧ (w2.alloc (.cells #[.slice aA FA.length cA, .int .i64 0] 24)).cell? ⟨w2.heap.size, 1, none⟩ = some (.int .i64 0) ∧ w2.heap.size < (w2.alloc (.cells #[.slice aA FA.length cA, .int .i64 0] 24)).heap.size) := by unfold Hid; simp
      clear ho hb
      go_wp2_with fail
      generalize w2.alloc (.cells #[.slice aA FA.length cA, .int .i64 0] 24) = v2 at *
      generalize w2.heap.size = x5 at *
      refine (HAV2.out _ HV2.out).mono ?_
      rintro e w3 ⟨aB, cB, rfl, ho, hb⟩
      have HV3 : Hid (Below v2.heap.size v2 (w3.alloc (.cells #[.slice aB FA.length cB, .int .i64 0] 24))) := to_alloc hb _
      have HOB : Hid (Sl (w3.alloc (.cells #[.slice aB FA.length cB, .int .i64 0] 24)) .u16 aB FA) := (Sl.ofOwn ho).alloc _
      clear ho hb
      have q0 : (w3.alloc (.cells #[.slice aB FA.length cB, .int .i64 0] 24)).cell? ⟨x5, 0, none⟩ = some (.slice aA FA.length cA) := by rw [newCell HV3.out _ _ HQ2.out.2.2]; exact HQ2.out.1
      have q1 : (w3.alloc (.cells #[.slice aB FA.length cB, .int .i64 0] 24)).cell? ⟨x5, 1, none⟩ = some (.int .i64 0) := by rw [newCell HV3.out _ _ HQ2.out.2.2]; exact HQ2.out.2.1
      have HO3 : Hid ((w3.alloc (.cells #[.slice aB FA.length cB, .int .i64 0] 24)).ownsRow wo.heap.size 49 1 (.slice aA FA.length cA) FA.length (ns .u16 FA)) := own_below HOA.out HV3.out
      go_wp2_with fail
      generalize w3.alloc (.cells #[.slice aB FA.length cB, .int .i64 0] 24) = v3 at *
      have hs3 : wo.heap.size ≤ v3.heap.size := Nat.le_trans HV2.out.size HV3.out.size
      refine (told_true HO3.out HOB.out (by omega) hs3).mono ?_
      rintro e w4 ⟨rfl, hgr⟩
      have HB4 : Hid (Below wo.heap.size wo w4) := (below_to HV2.out HV3.out).trans (grown_below hgr hs3 (fun k hk => (HO3.out.lt k hk).1))
      clear hgr q0 q1
      go_wp2_with fail
      go_loopw [9] (fun iv wr => ∃ i : Nat, i ≤ L.length ∧ iv = .int .i64 i ∧ Below wo.heap.size wo wr) (fun iv _ => L.length - (intOf iv).toNat)
      case atStart => exact ⟨0, by omega, rfl, HB4.out⟩
      case round =>
        obtain ⟨i, hi, rfl, hbw⟩ := hrel
        clear HB4
        have HBW : Hid (Below wo.heap.size wo wr) := hbw
        clear hbw
        by_cases hit : i < L.length
        · have b0 : 0 ≤ (i : Int) := by omega
          have b2 : (i : Int) < (L.length : Int) := by omega
          obtain ⟨b, o, rfl, hts⟩ := HT.out.resolve_left (fun e => by rw [e] at hit; simp at hit)
          obtain ⟨gr, rfl, hgB, htsM⟩ := HCV.out.ot.ts (by rw [HML.out]; omega) HINM.out
          have hiM : i < M.length := by rw [HML.out]; exact hit
          have hg1 := List.getElem?_eq_getElem hit
          have hg2 := List.getElem?_eq_getElem hiM
          obtain ⟨g, h1, h2, h3, h4⟩ := HCV.out.cs.cp i _ _ hg1 hg2
          have m0 := htsM.cell0 i _ hg2
          have m1 := htsM.cell1 i _ hg2
          have l0 := hts.cell0 i _ hg1
          have l1 := hts.cell1 i _ hg1
          rw [h1, h2, Nat.zero_add] at m0
          rw [h3, Nat.zero_add] at m1
          have hsl := (HIN.out _ (List.getElem_mem hit)).sl
          have hln := HLT.out _ (List.getElem_mem hit)
          generalize M[i] = s at *
          generalize L[i] = t at *
          obtain ⟨ta, tc, tC, tn⟩ := t
          obtain ⟨sa2, sc2, sC2, sn2⟩ := s
          simp only at *
          have HQ : Hid (∀ u, Below wo.heap.size wo u → u.cell? ⟨gr, i * 2, none⟩ = some (.slice (some ⟨g, 0, none⟩) tC.length sc2) ∧ u.cell? ⟨gr, i * 2 + 1, none⟩ = some (.int .i64 tn) ∧ u.cell? ⟨b, o + i * 2, none⟩ = some (.slice ta tC.length tc) ∧ u.cell? ⟨b, o + i * 2 + 1, none⟩ = some (.int .i64 tn)) := fun u hu =>
            ⟨by rw [newCell hu _ _ htsM.low]; exact m0, by rw [newCell hu _ _ htsM.low]; exact m1, by rw [newCell (below_to HCV.out.b hu) _ _ hts.low]; exact l0, by rw [newCell (below_to HCV.out.b hu) _ _ hts.low]; exact l1⟩
          have HKE : Hid (∀ u, Below wo.heap.size wo u → Calls Try.prog 21 #[.agg #[.slice (some ⟨g, 0, none⟩) tC.length sc2, .int .i64 tn], .agg #[.slice ta tC.length tc, .int .i64 tn]] u fun e u' => e = .returned (.bool true) ∧ Below wo.heap.size wo u') := fun u hu =>
            (kept_true (h4.to hu) (hsl.to (below_to HCV.out.b hu)) hln).mono fun e u' h => ⟨h.1, below_to hu h.2⟩
          clear hts htsM hg1 hg2 h4 m0 m1 l0 l1 hsl
          go_wp2_with fail
          have hbd := below_drew HBW.out
          obtain ⟨d0, d1, d2, d3⟩ := HQ.out _ hbd
          go_region_held3 (fun u => u.cell? ⟨gr, i * 2, none⟩ = some (.slice (some ⟨g, 0, none⟩) tC.length sc2) ∧ u.cell? ⟨gr, i * 2 + 1, none⟩ = some (.int .i64 tn) ∧ u.cell? ⟨b, o + i * 2, none⟩ = some (.slice ta tC.length tc) ∧ u.cell? ⟨b, o + i * 2 + 1, none⟩ = some (.int .i64 tn)) (((try dsimp only); first | assumption | (refine ⟨?_, ?_, ?_, ?_⟩ <;> first | assumption | go_keep) | go_keep)) (first
            | (go_at_call 21; with_reducible refine (HKE.out _ (by assumption)).mono ?_; rintro e wA ⟨rfl, hbA⟩; obtain ⟨pA0, pA1, pA2, pA3⟩ := HQ.out _ hbA))
          all_goals
            go_wp2_with fail
            go_roundw
            case rel => exact ⟨i + 1, by omega, by go_num, hbA⟩
            case measure => simp [intOf]; omega
        · have b2 : ¬ (i : Int) < (L.length : Int) := by omega
          go_wp2_with fail
          refine (works_true _).mono ?_
          rintro e w9 ⟨rfl, hb⟩
          have HB9 : Hid (Below w.heap.size w w9) := below_to HCV.out.b (below_to HBW.out hb)
          clear hb
          go_wp2_with fail
          go_ret
          exact ⟨rfl, HB9.out⟩

end Go.Proofs.Ytpijgdfhkmailaa
