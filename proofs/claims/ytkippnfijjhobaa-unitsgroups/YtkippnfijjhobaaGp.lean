/- DERIVED. UnitsGroups. -/
import Derived.Test.YtkippnfijjhobaaTu
namespace Go.Proofs.Ytkippnfijjhobaa
open Go.RowKit

theorem unP_len : ∀ (P : List Pc) (Q : List (List Pc)) (n : Nat), Q.length ≤ n → (∀ i, i < Q.length → (Q.getD i []).length ≤ n) → (unP P Q).1.length ≤ n + P.length ∧ ∀ i, i < (unP P Q).1.length → ((unP P Q).1.getD i []).length ≤ n + P.length := by
  intro P
  induction P with
  | nil => intro Q n h1 h2; simpa [unP] using ⟨h1, h2⟩
  | cons p P ih =>
    intro Q n h1 h2
    rw [unP]
    have hz : (([], 4) : List (List Pc) × Nat).1.length ≤ n + (p :: P).length ∧ ∀ i, i < (([], 4) : List (List Pc) × Nat).1.length → ((([], 4) : List (List Pc) × Nat).1.getD i []).length ≤ n + (p :: P).length := ⟨by simp, fun i hi => by simp at hi⟩
    split
    · exact hz
    · split
      · split
        · exact hz
        · have := ih (Q ++ [[]]) (n + 1) (by simp; omega) (fun i hi => by
            simp at hi
            rw [getD_snocQ _ _ _ hi]
            split
            · have := h2 i (by assumption); omega
            · simp)
          rw [List.length_cons, show n + (P.length + 1) = n + 1 + P.length from by omega]
          exact this
      · split
        · exact hz
        · have := ih (Q.set (Q.length - 1) (Q.getD (Q.length - 1) [] ++ [p])) (n + 1) (by rw [List.length_set]; omega) (fun i hi => by
            rw [List.length_set] at hi
            rw [getD_setQ _ _ _ _ (by omega)]
            split
            · have := h2 (Q.length - 1) (by omega)
              rw [List.length_append]
              show _ + 1 ≤ _
              omega
            · have := h2 i hi; omega)
          rw [List.length_cons, show n + (P.length + 1) = n + 1 + P.length from by omega]
          exact this
theorem unP_bounds (P : List Pc) : (unP P []).1.length ≤ P.length ∧ ∀ i, i < (unP P []).1.length → ((unP P []).1.getD i []).length ≤ P.length := by
  have := unP_len P [] 0 (by simp) (fun i hi => by simp at hi)
  simpa using this

set_option maxHeartbeats 4000000 in
set_option maxRecDepth 100000 in
theorem groups_walk {W : World} {v : Value} {P : List Pc} (h : Ob W W.heap.size v P) (hL : P.length ≤ 4398046511104) : Calls Try.prog 5 #[v] W fun e w' => e = .returned (.bool true) ∧ Below W.heap.size W w' := by
  obtain ⟨hq1, hq2⟩ := unP_bounds P
  obtain ⟨a, c, rfl, _⟩ := h.sl
  have HB : Hid (Ob W W.heap.size (.slice a P.length c) P) := h
  have HL : Hid (P.length ≤ 4398046511104) := hL
  clear h hL
  go_enter Try.func5, Try.ntmps5
  go_wp2_with fail
  refine (copy_pcs HB.out (Nat.le_refl _) HL.out).mono ?_; rintro e w1 ⟨v1, rfl, hl1, hb1⟩
  have HI : Hid (Ob w1 w1.heap.size v1 P) := hl1.ob
  have HB1 : Hid (Below W.heap.size W w1) := hb1
  clear hl1 hb1
  go_wp2_with fail
  refine (units_any HI.out (Nat.le_refl _) HL.out).mono ?_
  generalize hR : unP P [] = R at *
  obtain ⟨Q, er⟩ := R
  have HR : Hid (unP P [] = (Q, er)) := hR
  clear hR
  rintro e w2 ⟨v2, rfl, ⟨K2, hg2⟩, hb2⟩
  have HO2 : Hid (OgK w2 w1.heap.size v2 K2 Q) := hg2
  have HB2 : Hid (Below w1.heap.size w1 w2) := hb2
  have HQ1 : Hid (Q.length ≤ P.length) := hq1
  have HQ2 : Hid (∀ i, i < Q.length → (Q.getD i []).length ≤ P.length) := hq2
  clear hg2 hb2 hq1 hq2
  simp only
  go_wp2_with fail
  have HW2 : Hid (Below W.heap.size W w2) := below_to HB1.out HB2.out
  refine (runits_any (HB.out.below HW2.out (Nat.le_refl _)) HW2.out.size HL.out).mono ?_
  rw [HR.out]
  rintro e w3 ⟨v3, rfl, ⟨K3, hg3⟩, hb3⟩
  have HO3 : Hid (OgK w3 w2.heap.size v3 K3 Q) := hg3
  have HB3 : Hid (Below w2.heap.size w2 w3) := hb3
  obtain ⟨a3, c3, rfl⟩ := hg3.sl
  obtain ⟨a2, c2, rfl⟩ := HO2.out.sl
  have hK2 : K2.length = Q.length := HO2.out.len
  have hK3 : K3.length = Q.length := HO3.out.len
  have HP2 : Hid (OgK w3 w1.heap.size (.slice a2 Q.length c2) K2 Q) := by
    have := HO2.out.to hb3
    rw [hK2] at this
    exact this
  have HP3 : Hid (OgK w3 w2.heap.size (.slice a3 Q.length c3) K3 Q) := by
    have := HO3.out
    rw [hK3] at this
    exact this
  have HK2 : Hid (K2.length = Q.length) := hK2
  have HK3 : Hid (K3.length = Q.length) := hK3
  rw [hK2, hK3]
  clear hg3 hb3 hK2 hK3
  simp only
  have hQi : Q.length ≤ 4398046511104 := by have := HQ1.out; have := HL.out; omega
  go_wp2_with fail
  go_loopw [8, 9] (fun ov iv wr => ∃ (j k : Nat), ov = .bool true ∧ iv = .int .i64 (j : Int) ∧ j ≤ Q.length ∧ wr = w3.drewN k) (fun _ iv _ => Q.length - (intOf iv).toNat)
  case atStart => exact ⟨0, 0, by simp, rfl, by omega, rfl⟩
  case round =>
    obtain ⟨j, k, rfl, rfl, hj, rfl⟩ := hrel
    by_cases hlt : j < Q.length
    · obtain ⟨g2, d2, e2, _, _, hc2, _⟩ := HP2.out.cell (l := j) (by have := HK2.out; omega)
      obtain ⟨g3, d3, e3, _, _, hc3, _⟩ := HP3.out.cell (l := j) (by have := HK3.out; omega)
      simp only [Value.slice.injEq] at e2 e3
      obtain ⟨rfl, -, rfl⟩ := e2
      obtain ⟨rfl, -, rfl⟩ := e3
      have ho2 := (HP2.out.at' j hlt).ob
      have ho3 := (HP3.out.at' j hlt).ob
      obtain ⟨x2, y2, hk2, _⟩ := ho2.sl
      obtain ⟨x3, y3, hk3, _⟩ := ho3.sl
      rw [hk2] at hc2 ho2
      rw [hk3] at hc3 ho3
      have q2 : (w3.drewN k).cell? ⟨g2, j, none⟩ = some (.slice x2 (Q.getD j []).length y2) := hc2
      have q3 : (w3.drewN k).cell? ⟨g3, j, none⟩ = some (.slice x3 (Q.getD j []).length y3) := hc3
      have hi1 : (0 : Int) ≤ (j : Int) := by omega
      have hi2 : (j : Int) < (Q.length : Int) := by omega
      have HSM : Hid (∀ U : World, U.heap = w3.heap → Calls Try.prog 12 #[.slice x2 (Q.getD j []).length y2, .slice x3 (Q.getD j []).length y3] U fun e w' => e = .returned (.bool true) ∧ ∃ k, w' = U.drewN k) := fun U hU => by
        have hb : ∀ u : World, u.heap = w3.heap → ∀ N v P, Ob w3 N v P → Ob u N v P := fun u hu N v P ho => by
          obtain ⟨a, c, L, h1, h2, h3, h4⟩ := ho.ex
          refine ⟨a, c, L, h1, h2, ?_, ⟨h4.len, fun i hi => ⟨(h4.at' i hi).ty, (h4.at' i hi).by'.heap hu⟩⟩⟩
          rcases h3 with h3 | ⟨b, o, e1, e2, e3⟩
          · exact Or.inl h3
          · exact Or.inr ⟨b, o, e1, e2, fun i hi => ⟨by rw [World.cell?_of_block (w := w3) (by rw [hu])]; exact (e3 i hi).1, by rw [World.cell?_of_block (w := w3) (by rw [hu])]; exact (e3 i hi).2⟩⟩
        refine (same_any (hb U hU _ _ _ ho2) (hb U hU _ _ _ ho3) (by have := HQ2.out j hlt; have := HL.out; omega)).mono ?_
        rintro e w' ⟨rfl, k, rfl⟩
        exact ⟨by simp [sameP], k, rfl⟩
      clear hc2 hc3 ho2 ho3 hk2 hk3
      generalize (Q.getD j []).length = m at *
      generalize hW : w3.drewN k = V at *
      have HV : Hid (w3.drewN k = V) := hW
      have hVh : V.heap = w3.heap := by rw [← hW]; rfl
      have HVh : Hid (V.heap = w3.heap) := hVh
      clear hW hVh
      go_wp2_with fail
      go_quiet ((go_at_call 12; exact Calls.quiet_of (HSM.out _ HVh.out)))
      go_wp2_with fail
      go_roundw
      case rel => exact ⟨j + 1, k + nq, rfl, by go_num, by omega, by rw [← HV.out]; exact drewN_drewN _ _ _⟩
      case measure => simp [intOf]; omega
    · obtain rfl : j = Q.length := by omega
      go_wp2_with fail
      generalize hW : w3.drewN k = V at *
      have hVb : Below w3.heap.size w3 V := by rw [← hW]; exact below_drewN (Below.refl _ _) k
      have HP2' : Hid (OgK V w1.heap.size (.slice a2 Q.length c2) K2 Q) := HP2.out.to hVb
      have HBV : Hid (Below w1.heap.size w1 V) := (below_to HB2.out HB3.out).trans (hVb.mono (by have := HB2.out.size; have := HB3.out.size; omega))
      clear hW hVb
      go_loopw [10] (fun iv wr => ∃ j : Nat, iv = .int .i64 (j : Int) ∧ j ≤ Q.length ∧ Spo w1.heap.size V wr) (fun iv _ => Q.length - (intOf iv).toNat)
      case atStart => exact ⟨0, rfl, by omega, Spo.refl _ _⟩
      case round =>
        obtain ⟨j, rfl, hj, hs⟩ := hrel
        have HS : Hid (Spo w1.heap.size V wr) := hs
        by_cases hlt : j < Q.length
        · obtain ⟨g2, d2, e2, _, _, hc2, _⟩ := HP2'.out.cell (l := j) (by have := HK2.out; omega)
          simp only [Value.slice.injEq] at e2
          obtain ⟨rfl, -, rfl⟩ := e2
          obtain ⟨x2, y2, hk2, _⟩ := (HP2'.out.at' j hlt).sl
          have hwl := ((HP2'.out.at' j hlt).wl (by have := HQ2.out j hlt; have := HL.out; omega)).spo hs
          rw [hk2] at hwl hc2
          have hc2' := hs.isSl hc2
          have hi1 : (0 : Int) ≤ (j : Int) := by omega
          have hi2 : (j : Int) < (Q.length : Int) := by omega
          have HSP : Hid (Calls Try.prog 13 #[.slice x2 (Q.getD j []).length y2] wr fun e w' => e = .returned (.tuple #[]) ∧ Spo w1.heap.size wr w') := spoil_any hwl
          clear hc2 hwl hk2 hs
          generalize (Q.getD j []).length = m at *
          go_wp2_with fail
          refine HSP.out.mono ?_; rintro e w5 ⟨rfl, hs5⟩
          go_wp2_with fail
          go_roundw
          case rel => exact ⟨j + 1, by go_num, by omega, HS.out.trans hs5⟩
          case measure => simp [intOf]; omega
        · have hb4 : Below w1.heap.size w1 wr := HBV.out.trans HS.out.below
          have HB4 : Hid (Below w1.heap.size w1 wr) := hb4
          have HW4 : Hid (Below W.heap.size W wr) := below_to HB1.out hb4
          clear hs hb4
          go_wp2_with fail
          refine (same_any (HI.out.below HB4.out (Nat.le_refl _)) (HB.out.below HW4.out (Nat.le_refl _)) HL.out).mono ?_
          rw [show sameP P P = true from by simp [sameP]]
          rintro e w6 ⟨rfl, k6, rfl⟩
          go_wp2_with fail
          refine (works_any _).mono ?_; rintro e w7 ⟨rfl, hb7⟩
          go_wp2_with fail
          go_ret
          exact ⟨rfl, below_to (below_drewN HW4.out k6) hb7⟩
end Go.Proofs.Ytkippnfijjhobaa
