/- DERIVED. Same. -/
import Derived.Test.YtkippnfijjhobabTl
namespace Go.Proofs.Ytkippnfijjhobab
open Go.RowKit

theorem By.drewN {w : World} {N : Nat} {v : Value} {C : List Nat} (h : By w N v C) (n : Nat) : By (w.drewN n) N v C := by
  obtain ⟨a, c, h1, h2, h3, h4⟩ := h.ex
  exact ⟨⟨a, c, h1, h2, h3, h4.heap rfl⟩, h.byt, h.len⟩
theorem By.heap {w w' : World} {N : Nat} {v : Value} {C : List Nat} (h : By w N v C) (e : w'.heap = w.heap) : By w' N v C := by
  obtain ⟨a, c, h1, h2, h3, h4⟩ := h.ex
  exact ⟨⟨a, c, h1, h2, h3, h4.heap e⟩, h.byt, h.len⟩
theorem pcs_ext {P Q : List Pc} (hl : P.length = Q.length) (h : ∀ j, j < P.length → P.getD j p0 = Q.getD j p0) : P = Q := by
  refine List.ext_getElem hl fun j h1 h2 => ?_
  have := h j h1
  rw [List.getD_eq_getElem?_getD, List.getD_eq_getElem?_getD, List.getElem?_eq_getElem h1, List.getElem?_eq_getElem h2] at this
  simpa using this
def sameP (P Q : List Pc) : Bool := decide (P = Q)

set_option maxHeartbeats 4000000 in
set_option maxRecDepth 100000 in
theorem same_any {w : World} {N M : Nat} {v u : Value} {P Q : List Pc} (h1 : Ob w N v P) (h2 : Ob w M u Q) (hPl : P.length ≤ 4398046511104) :
    Calls Try.prog 15 #[v, u] w fun e w' => e = .returned (.bool (sameP P Q)) ∧ ∃ k, w' = w.drewN k := by
  obtain ⟨a, c, rfl, hc⟩ := h1.sl
  obtain ⟨b, d, rfl, hd⟩ := h2.sl
  by_cases hl : P.length = Q.length
  · have HL : Hid (P.length = Q.length) := hl
    have H1 : Hid (Ob w N (.slice a P.length c) P) := h1
    have H2 : Hid (Ob w M (.slice b Q.length d) Q) := h2
    clear hl h1 h2
    rw [← HL.out]
    go_enter Try.func15, Try.ntmps15
    go_wp2_with fail
    go_loopw [5] (fun i wr => ∃ k n : Nat, k ≤ P.length ∧ i = .int .i64 k ∧ wr = w.drewN n ∧ Hid (∀ j, j < k → P.getD j p0 = Q.getD j p0)) (fun i _ => P.length - (intOf i).toNat)
    case atStart => exact ⟨0, 0, by omega, rfl, rfl, fun j hj => by omega⟩
    case round =>
      obtain ⟨k, n, hk, rfl, rfl, HK⟩ := hrel
      by_cases hlt : k < P.length
      · obtain ⟨b1, o1, rfl, _, hc1⟩ := H1.out.form (by omega)
        obtain ⟨b2, o2, rfl, _, hc2⟩ := H2.out.form (by have := HL.out; omega)
        obtain ⟨ad, m, cc, x0, x1, hm, hby⟩ := hc1 k hlt
        obtain ⟨ad', m', cc', y0, y1, hm', hby'⟩ := hc2 k (by have := HL.out; omega)
        have q0 : (w.drewN n).cell? ⟨b1, o1 + k * 2, none⟩ = some (.int .i64 (P.getD k p0).1) := x0
        have q1 : (w.drewN n).cell? ⟨b1, o1 + k * 2 + 1, none⟩ = some (.slice ad m cc) := x1
        have r0 : (w.drewN n).cell? ⟨b2, o2 + k * 2, none⟩ = some (.int .i64 (Q.getD k p0).1) := y0
        have r1 : (w.drewN n).cell? ⟨b2, o2 + k * 2 + 1, none⟩ = some (.slice ad' m' cc') := y1
        have hi1 : (0 : Int) ≤ (k : Int) := by omega
        have hi2 : (k : Int) < (P.length : Int) := by omega
        have HEQ : Hid (∀ U : World, U.heap = (w.drewN n).heap → Calls Try.prog 6 #[.slice ad m cc, .slice ad' m' cc'] U fun e w' => e = .returned (.bool (decide ((P.getD k p0).2 = (Q.getD k p0).2))) ∧ ∃ k, w' = U.drewN k) := fun U hU => eqBytes_by (hby.heap hU) (hby'.heap hU)
        have HNE : Hid (P.getD k p0 ≠ Q.getD k p0 → sameP P Q = false) := fun hne => by
          unfold sameP
          simp only [decide_eq_false_iff_not]
          exact fun e => hne (by rw [e])
        clear hc1 hc2 x0 x1 y0 y1 hby hby' hm hm'
        generalize hW : w.drewN n = W at *
        have HW : Hid (w.drewN n = W) := hW
        clear hW
        generalize hp : P.getD k p0 = p at *
        generalize hq : Q.getD k p0 = q at *
        obtain ⟨t, D⟩ := p
        obtain ⟨t', D'⟩ := q
        simp only at *
        have HPE : Hid (P.getD k p0 = (t, D)) := hp
        have HQE : Hid (Q.getD k p0 = (t', D')) := hq
        clear hp hq
        by_cases ht : t = t'
        · have hne : (t != t') = false := by rw [bne_eq_false_iff_eq]; exact ht
          have HT : Hid (t = t') := ht
          clear ht
          cases hD : decide (D = D') with
          | true =>
            rw [hD] at HEQ
            have hD' : D = D' := of_decide_eq_true hD
            have HD : Hid (D = D') := hD'
            clear hD'
            clear hD
            go_wp2_with fail
            go_quiet ((go_at_call 6; exact Calls.quiet_of (HEQ.out _ rfl)))
            go_wp2_with fail
            go_roundw
            case rel => exact ⟨k + 1, n + nq, by omega, by go_num, by rw [← HW.out]; exact drewN_drewN _ _ _, fun j hj => by
              by_cases e : j = k
              · rw [e, HPE.out, HQE.out, HT.out, HD.out]
              · exact HK.out j (by omega)⟩
            case measure => simp [intOf]; omega
          | false =>
            rw [hD] at HEQ
            have HD : Hid (sameP P Q = false) := HNE.out (fun e => by
              simp only [Prod.mk.injEq] at e
              exact of_decide_eq_false hD e.2)
            clear hD
            go_wp2_with fail
            go_quiet ((go_at_call 6; exact Calls.quiet_of (HEQ.out _ rfl)))
            go_wp2_with fail
            go_ret
            exact ⟨by rw [HD.out]; rfl, n + nq, by rw [← HW.out]; exact drewN_drewN _ _ _⟩
        · have hne : (t != t') = true := by rw [bne_iff_ne]; exact ht
          have HD : Hid (sameP P Q = false) := HNE.out (fun e => by
              simp only [Prod.mk.injEq] at e
              exact ht e.1)
          clear ht
          go_wp2_with fail
          go_quiet ((go_at_call 6; exact Calls.quiet_of (HEQ.out _ rfl)))
          go_wp2_with fail
          go_ret
          exact ⟨by rw [HD.out]; rfl, n + nq, by rw [← HW.out]; exact drewN_drewN _ _ _⟩
      · go_wp2_with fail
        go_ret
        have e : P = Q := pcs_ext HL.out (fun j hj => HK.out j (by omega))
        exact ⟨by rw [e]; simp [sameP], n, rfl⟩
  · have hne : (((P.length : Nat) : Int) != ((Q.length : Nat) : Int)) = true := by rw [bne_iff_ne]; omega
    have hne2 : sameP P Q = false := by unfold sameP; simp only [decide_eq_false_iff_not]; exact fun e => hl (by rw [e])
    rw [hne2]
    go_enter Try.func15, Try.ntmps15
    go_wp2_with fail
    go_ret
    exact ⟨rfl, 0, rfl⟩
end Go.Proofs.Ytkippnfijjhobab
