/- DERIVED. UnitsJoins. -/
import Derived.Test.YtkippnfijjhobaaTu
namespace Go.Proofs.Ytkippnfijjhobaa
open Go.RowKit

theorem own_wb8 {w : World} {B n c : Nat} {a : Option Addr} {C : List Nat} (hn : n = C.length) (h : w.ownsRow B 5 1 (.slice a n c) n (bs C)) (hb : ∀ i, C.getD i 0 < 256) : Wb8 w B a n := by
  subst hn
  obtain ⟨_, _, h6⟩ := own_form h
  rcases h6 with ⟨_, h0, _⟩ | ⟨g', rfl, h7, h8⟩
  · exact Or.inl h0
  · refine Or.inr ⟨g', rfl, h7, own_thaw h, fun i hi => ⟨_, hb i, ?_⟩⟩
    rw [h.cellAt i (by omega)]
    exact bs_get _ i hi
theorem joinP_byt : ∀ (P : List Pc) (C : List Nat), (∀ j, j < P.length → ∀ i, (P.getD j p0).2.getD i 0 < 256) → (∀ i, C.getD i 0 < 256) → ∀ i, (joinP P C).1.getD i 0 < 256 := by
  intro P
  induction P with
  | nil => intro C _ hC; simpa [joinP] using hC
  | cons p P ih =>
    intro C hP hC
    rw [joinP]
    split
    · intro i; simp
    · split
      · intro i; simp
      · rename_i h1 h2
        refine ih _ (fun j hj i => ?_) (fun i => ?_)
        · have := hP (j + 1) (by simpa using hj) i
          simpa [List.getD_eq_getElem?_getD] using this
        · have hp := hP 0 (by simp)
          have hp' : ∀ i, p.2.getD i 0 < 256 := fun i => by have := hp i; simpa [List.getD_eq_getElem?_getD] using this
          rcases Nat.lt_or_ge i C.length with hi | hi
          · rw [getD_app_l _ _ _ hi]; exact hC i
          · rw [List.getD_eq_getElem?_getD, List.getElem?_append_right hi, ← List.getD_eq_getElem?_getD]
            generalize i - C.length = k
            have ht := (tyB_iff p.1).1 (by simpa using h1)
            unfold pcB
            cases k with
            | zero => simp; omega
            | succ k =>
              rw [getD_cons_succ]
              rcases Nat.lt_or_ge k (lebB p.2.length).length with hk | hk
              · rw [getD_app_l _ _ _ hk]; exact lebA_byt 4 _ (by omega) k
              · rw [List.getD_eq_getElem?_getD, List.getElem?_append_right hk, ← List.getD_eq_getElem?_getD]; exact hp' _
theorem joinP_len : ∀ (P : List Pc) (C : List Nat), (joinP P C).1.length ≤ C.length + szP P := by
  intro P
  induction P with
  | nil => intro C; simp [joinP, szP]
  | cons p P ih =>
    intro C
    rw [joinP]
    split
    · simp
    · split
      · simp
      · have h1 := ih (C ++ pcB p)
        have h2 := pcB_len p
        have e : szP (p :: P) = p.2.length + 6 + szP P := by simp [szP]
        rw [List.length_append] at h1
        omega
theorem Ob.byts {w : World} {N : Nat} {v : Value} {P : List Pc} (h : Ob w N v P) : ∀ j, j < P.length → ∀ i, (P.getD j p0).2.getD i 0 < 256 := by
  obtain ⟨a, c, L, h1, h2, h3, h4⟩ := h.ex
  exact fun j hj => (h4.at' j hj).by'.byt

set_option maxHeartbeats 4000000 in
set_option maxRecDepth 100000 in
theorem joins_walk {W : World} {v : Value} {P : List Pc} (h : Ob W W.heap.size v P) (hL : P.length ≤ 4398046511104) (hz : szP P ≤ 1099511627776) : Calls Try.prog 4 #[v] W fun e w' => e = .returned (.bool true) ∧ Below W.heap.size W w' := by
  have hjb := joinP_byt P [] h.byts (by simp)
  have hjl := joinP_len P []
  obtain ⟨a, c, rfl, _⟩ := h.sl
  have HB : Hid (Ob W W.heap.size (.slice a P.length c) P) := h
  have HL : Hid (P.length ≤ 4398046511104) := hL
  have HZ : Hid (szP P ≤ 1099511627776) := hz
  have hjl' : (joinP P []).1.length ≤ 1099511627776 := by simp at hjl; omega
  clear h hL hz hjl
  go_enter Try.func4, Try.ntmps4
  go_wp2_with fail
  refine (copy_pcs HB.out (Nat.le_refl _) HL.out).mono ?_; rintro e w1 ⟨v1, rfl, hl1, hb1⟩
  have HI : Hid (Ob w1 w1.heap.size v1 P) := hl1.ob
  have HB1 : Hid (Below W.heap.size W w1) := hb1
  clear hl1 hb1
  go_wp2_with fail
  refine (join_any HI.out (Nat.le_refl _) HZ.out HL.out).mono ?_
  generalize hR : joinP P [] = R at *
  obtain ⟨C, er⟩ := R
  have HR : Hid (joinP P [] = (C, er)) := hR
  clear hR
  rintro e w2 ⟨a2, c2, rfl, ho2, hb2⟩
  simp only at *
  have HO2 : Hid (w2.ownsRow w1.heap.size 5 1 (.slice a2 C.length c2) C.length (bs C)) := ho2
  have HB2 : Hid (Below w1.heap.size w1 w2) := hb2
  have HCB : Hid (∀ i, C.getD i 0 < 256) := hjb
  have HCL : Hid (C.length ≤ 1099511627776) := hjl'
  clear ho2 hb2 hjb hjl'
  go_wp2_with fail
  have HW2 : Hid (Below W.heap.size W w2) := below_to HB1.out HB2.out
  refine (rjoin_any (HB.out.below HW2.out (Nat.le_refl _)) HW2.out.size HZ.out HL.out).mono ?_
  rw [HR.out]
  rintro e w3 ⟨a3, c3, rfl, ho3, hb3⟩
  simp only at *
  have HO3 : Hid (w3.ownsRow w2.heap.size 5 1 (.slice a3 C.length c3) C.length (bs C)) := ho3
  have HB3 : Hid (Below w2.heap.size w2 w3) := hb3
  clear ho3 hb3
  go_wp2_with fail
  refine (eqBytes_by (By.ofOwn rfl (own_below HO2.out HB3.out) HCB.out (by have := HCL.out; omega)) (By.ofOwn rfl HO3.out HCB.out (by have := HCL.out; omega))).mono ?_
  rw [show decide (C = C) = true from by simp]
  rintro e w4 ⟨rfl, k4, rfl⟩
  have HW4 : Hid (Wb8 (w3.drewN k4) w1.heap.size a2 C.length) := own_wb8 rfl (own_below (own_below HO2.out HB3.out) (below_drewN (Below.refl _ _) k4)) HCB.out
  have HB4 : Hid (Below w1.heap.size w1 (w3.drewN k4)) := below_drewN (below_to HB2.out HB3.out) k4
  generalize w3.drewN k4 = V at *
  have hcl : C.length ≤ 1099511627776 := HCL.out
  go_wp2_with fail
  go_loopw [9] (fun iv wr => ∃ j : Nat, iv = .int .i64 (j : Int) ∧ j ≤ C.length ∧ Spo w1.heap.size V wr) (fun iv _ => C.length - (intOf iv).toNat)
  case atStart => exact ⟨0, rfl, by omega, Spo.refl _ _⟩
  case round =>
    obtain ⟨j, rfl, hj, hs⟩ := hrel
    by_cases hlt : j < C.length
    · obtain ⟨g, rfl, hgB, hfz, hu⟩ := (HW4.out.spo hs).resolve_left (by omega)
      obtain ⟨y, hy, hyc⟩ := hu j hlt
      have hyz := hfz j
      have hi1 : (0 : Int) ≤ (j : Int) := by omega
      have hi2 : (j : Int) < (C.length : Int) := by omega
      have hxr := u8_xor255 y hy
      have HS : Hid (Spo w1.heap.size V wr) := hs
      have HX : Hid (bits .xor .u8 (y : Int) 255 = ((255 - y : Nat) : Int)) := hxr
      have HYC : Hid (wr.cell? ⟨g, j, none⟩ = some (.int .u8 (y : Int))) := hyc
      clear hs hfz hu hxr
      go_wp2_with fail
      go_roundw
      case rel => exact ⟨j + 1, by go_num, by omega, HS.out.trans (Spo.u8 HX.out (by omega) hgB HYC.out)⟩
      case measure => simp [intOf]; omega
    · have HS : Hid (Spo w1.heap.size V wr) := hs
      have HB5 : Hid (Below w1.heap.size w1 wr) := HB4.out.trans hs.below
      have HW5 : Hid (Below W.heap.size W wr) := below_to HB1.out HB5.out
      clear hs
      go_wp2_with fail
      refine (same_any (HI.out.below HB5.out (Nat.le_refl _)) (HB.out.below HW5.out (Nat.le_refl _)) HL.out).mono ?_
      rw [show sameP P P = true from by simp [sameP]]
      rintro e w6 ⟨rfl, k6, rfl⟩
      go_wp2_with fail
      refine (works_any _).mono ?_; rintro e w7 ⟨rfl, hb7⟩
      go_wp2_with fail
      go_ret
      exact ⟨rfl, below_to (below_drewN HW5.out k6) hb7⟩
end Go.Proofs.Ytkippnfijjhobaa
