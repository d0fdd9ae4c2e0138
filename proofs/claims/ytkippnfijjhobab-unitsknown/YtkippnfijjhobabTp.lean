/- DERIVED. Units. -/
import Derived.Deep.RegionLaw
import Derived.Test.YtkippnfijjhobabTo
namespace Go.Proofs.Ytkippnfijjhobab
open Go.RowKit

/-- pieces in temporal units: the units, error -/
def unP : List Pc → List (List Pc) → List (List Pc) × Nat
  | [], Q => (Q, 0)
  | p :: P, Q =>
    if tyB p.1 = false then ([], 4)
    else if p.1 = 2 then (if 0 < p.2.length then ([], 4) else unP P (Q ++ [[]]))
    else if Q.length = 0 then ([], 4)
    else unP P (Q.set (Q.length - 1) (Q.getD (Q.length - 1) [] ++ [p]))
theorem un_ty {P : List Pc} {j : Nat} {Q : List (List Pc)} (hj : j < P.length) (h : tyB (P.getD j p0).1 = false) : unP (P.drop j) Q = ([], 4) := by
  rw [drop_cons hj, unP, if_pos h]
theorem un_body {P : List Pc} {j : Nat} {Q : List (List Pc)} (hj : j < P.length) (h : tyB (P.getD j p0).1 = true) (h2 : (P.getD j p0).1 = 2) (h3 : 0 < (P.getD j p0).2.length) : unP (P.drop j) Q = ([], 4) := by
  rw [drop_cons hj, unP, if_neg (by rw [h]; simp), if_pos h2, if_pos h3]
theorem un_unit {P : List Pc} {j : Nat} {Q : List (List Pc)} (hj : j < P.length) (h : tyB (P.getD j p0).1 = true) (h2 : (P.getD j p0).1 = 2) (h3 : (P.getD j p0).2.length = 0) : unP (P.drop j) Q = unP (P.drop (j + 1)) (Q ++ [[]]) := by
  rw [drop_cons hj, unP, if_neg (by rw [h]; simp), if_pos h2, if_neg (by omega)]
theorem un_none {P : List Pc} {j : Nat} {Q : List (List Pc)} (hj : j < P.length) (h : tyB (P.getD j p0).1 = true) (h2 : (P.getD j p0).1 ≠ 2) (h3 : Q.length = 0) : unP (P.drop j) Q = ([], 4) := by
  rw [drop_cons hj, unP, if_neg (by rw [h]; simp), if_neg h2, if_pos h3]
theorem un_piece {P : List Pc} {j : Nat} {Q : List (List Pc)} (hj : j < P.length) (h : tyB (P.getD j p0).1 = true) (h2 : (P.getD j p0).1 ≠ 2) (h3 : Q.length ≠ 0) : unP (P.drop j) Q = unP (P.drop (j + 1)) (Q.set (Q.length - 1) (Q.getD (Q.length - 1) [] ++ [P.getD j p0])) := by
  rw [drop_cons hj, unP, if_neg (by rw [h]; simp), if_neg h2, if_neg h3]
theorem un_end {P : List Pc} {j : Nat} {Q : List (List Pc)} (hj : P.length ≤ j) : unP (P.drop j) Q = (Q, 0) := by
  rw [List.drop_eq_nil_of_le hj, unP]
/-- what Units answers -/
def UnQ (B : Nat) (w0 : World) (R : List (List Pc) × Nat) (e : Ending) (w' : World) : Prop := ∃ v, e = .returned (.tuple #[v, .int .i64 (R.2 : Int)]) ∧ Og w' B v R.1 ∧ Below B w0 w'
def UnI (B : Nat) (w0 : World) (P : List Pc) (v iv : Value) (wr : World) : Prop :=
  ∃ (j : Nat) (K : List Value) (Q : List (List Pc)), iv = .int .i64 (j : Int) ∧ j ≤ P.length ∧ OgK wr B v K Q ∧ Below B w0 wr ∧ Q.length ≤ j ∧ (Q.length = 0 → j = 0) ∧ Hid (unP P [] = unP (P.drop j) Q) ∧ ∀ i, i < Q.length → (Q.getD i []).length ≤ j
theorem un_no {B e : Nat} {w0 w' : World} {P : List Pc} (h : unP P [] = ([], e)) (hb : Below B w0 w') {E : Int} (hE : E = (e : Int)) : UnQ B w0 (unP P []) (.returned (.tuple #[.slice none 0 0, .int .i64 E])) w' := by
  subst hE
  rw [h]
  exact ⟨_, rfl, ⟨[], OgK.nil _ _⟩, hb⟩
theorem OgK.sl {w : World} {B : Nat} {v : Value} {K : List Value} {Q : List (List Pc)} (h : OgK w B v K Q) : ∃ a c, v = .slice a K.length c := own_slice h.own
theorem OgK.cell {w : World} {B l : Nat} {v : Value} {K : List Value} {Q : List (List Pc)} (h : OgK w B v K Q) (hl : l < K.length) : ∃ g c, v = .slice (some ⟨g, 0, none⟩) K.length c ∧ B ≤ g ∧ g < w.heap.size ∧ w.cell? ⟨g, l, none⟩ = some (K.getD l nilV) ∧ w.frozen? ⟨g, l, none⟩ = false := by
  obtain ⟨g, c, rfl, h1, h2⟩ := h.own.form (by omega)
  refine ⟨g, c, rfl, h1, h2, ?_, own_thaw h.own l⟩
  rw [h.own.cellAt l (by omega), List.getD_eq_getElem?_getD, List.getElem?_eq_getElem hl]
  rfl

set_option maxHeartbeats 4000000 in
set_option maxRecDepth 100000 in
theorem units_any {w : World} {N : Nat} {v : Value} {P : List Pc} (h : Ob w N v P) (hN : N ≤ w.heap.size) (hPl : P.length ≤ 4398046511104) :
    Calls Try.prog 9 #[v] w fun e w' => UnQ w.heap.size w (unP P []) e w' := by
  obtain ⟨a, c, rfl, hc⟩ := h.sl
  obtain ⟨B, hB⟩ : ∃ B, B = w.heap.size := ⟨_, rfl⟩
  rw [← hB] at hN ⊢
  have HH : Hid (Ob w N (.slice a P.length c) P) := h
  have HBz : Hid (B = w.heap.size) := hB
  clear h hB
  go_enter Try.func9, Try.ntmps9
  go_wp2_with fail
  go_loopw [4, 10] (fun v iv wr => UnI B w P v iv wr) (fun _ iv _ => P.length - (intOf iv).toNat)
  case atStart => exact ⟨0, [], [], rfl, by omega, OgK.nil _ _, by rw [HBz.out]; exact Below.refl _ _, by simp, fun _ => rfl, rfl, fun i hi => by simp at hi⟩
  case round =>
    obtain ⟨j, K, Q, rfl, hj, ho, hb, hQ, hQ0, HS, HQL⟩ := hrel
    have HB : Hid (Below B w wr) := hb
    have HO : Hid (OgK wr B u4 K Q) := ho
    have HQ0 : Hid (Q.length = 0 → j = 0) := hQ0
    have HQj : Hid (Q.length ≤ j) := hQ
    have HQLL : Hid (∀ i, i < Q.length → (Q.getD i []).length ≤ j) := HQL
    clear hQ0 HQL
    obtain ⟨av, cv, rfl⟩ := ho.sl
    have hKQ := ho.len
    have HKQ : Hid (K.length = Q.length) := hKQ
    by_cases hlt : j < P.length
    · obtain ⟨bb, oo, rfl, hbN, hcell⟩ := HH.out.form (by omega)
      obtain ⟨ad, m, cc, hx0, hx1, hm, hby⟩ := hcell j hlt
      have hbw : bb < B := by omega
      have hBw : B ≤ wr.heap.size := by have := hb.size; have := HBz.out; omega
      have HBw : Hid (B ≤ wr.heap.size) := hBw
      have z0 : wr.cell? ⟨bb, oo + j * 2, none⟩ = some (.int .i64 (P.getD j p0).1) := by rw [newCell hb bb _ hbw]; exact hx0
      have z1 : wr.cell? ⟨bb, oo + j * 2 + 1, none⟩ = some (.slice ad m cc) := by rw [newCell hb bb _ hbw]; exact hx1
      have hi1 : (0 : Int) ≤ (j : Int) := by omega
      have hi2 : (j : Int) < (P.length : Int) := by omega
      have HT : Hid (∀ u : World, Calls Try.prog 12 #[.int .i64 (P.getD j p0).1] u fun e w' => e = .returned (.bool (tyB (P.getD j p0).1)) ∧ u = w') := fun u => (isType_any _ u).mono (by rintro e w' ⟨h1, h2⟩; exact ⟨h1, h2.symm⟩)
      have HBY : Hid (By w N (.slice ad m cc) (P.getD j p0).2) := hby
      have HM : Hid (m = (P.getD j p0).2.length) := hm
      have G1 : Hid (tyB (P.getD j p0).1 = false → unP (P.drop j) Q = ([], 4)) := fun h1 => un_ty hlt h1
      have G2 : Hid (tyB (P.getD j p0).1 = true → (P.getD j p0).1 = 2 → 0 < (P.getD j p0).2.length → unP (P.drop j) Q = ([], 4)) := fun h1 h2 h3 => un_body hlt h1 h2 h3
      have G3 : Hid (tyB (P.getD j p0).1 = true → (P.getD j p0).1 = 2 → (P.getD j p0).2.length = 0 → unP (P.drop j) Q = unP (P.drop (j + 1)) (Q ++ [[]])) := fun h1 h2 h3 => un_unit hlt h1 h2 h3
      have G4 : Hid (tyB (P.getD j p0).1 = true → (P.getD j p0).1 ≠ 2 → Q.length = 0 → unP (P.drop j) Q = ([], 4)) := fun h1 h2 h3 => un_none hlt h1 h2 h3
      have G5 : Hid (tyB (P.getD j p0).1 = true → (P.getD j p0).1 ≠ 2 → Q.length ≠ 0 → unP (P.drop j) Q = unP (P.drop (j + 1)) (Q.set (Q.length - 1) (Q.getD (Q.length - 1) [] ++ [P.getD j p0]))) := fun h1 h2 h3 => un_piece hlt h1 h2 h3
      have HFA : Hid (Below wr.heap.size wr (wr.alloc (.cells #[.int .i64 (P.getD j p0).1, .slice ad m cc] 29))) := from_alloc _ _
      have HWU : Hid (∀ u, Below wr.heap.size wr u → Below B w u) := fun u hu => HB.out.trans (hu.mono HBw.out)
      clear hcell hby hm hx0 hx1 ho hb hBw hKQ
      generalize hpj : P.getD j p0 = p at *
      obtain ⟨t, D⟩ := p
      have HP : Hid (P.getD j p0 = (t, D)) := hpj
      clear hpj
      simp only at *
      cases hty : tyB t with
      | false =>
        rw [hty] at HT
        go_wp2_with fail
        refine (HT.out _).mono ?_; rintro e w1 ⟨rfl, rfl⟩
        go_wp2_with fail
        go_ret2
        exact un_no (by rw [HS.out, G1.out hty]) (HWU.out _ HFA.out) rfl
      | true =>
        rw [hty] at HT
        by_cases ht2 : t = 2
        · subst ht2
          by_cases hm0 : 0 < m
          · go_wp2_with fail
            refine (HT.out _).mono ?_; rintro e w1 ⟨rfl, rfl⟩
            go_wp2_with fail
            go_ret2
            exact un_no (by rw [HS.out, G2.out hty (by first | rfl | trivial) (by rw [← HM.out]; exact hm0)]) (HWU.out _ HFA.out) rfl
          · obtain rfl : m = 0 := by omega
            have hKl : K.length < 4398046511104 := by have := HKQ.out; omega
            have hown : ((wr.alloc (.cells #[.int .i64 2, .slice ad 0 cc] 29)).alloc (.cells #[.slice none 0 0] 37)).ownsRow B 37 1 (.slice av K.length cv) K.length K := (HO.out.own.alloc _).alloc _
            have hsz : B ≤ ((wr.alloc (.cells #[.int .i64 2, .slice ad 0 cc] 29)).alloc (.cells #[.slice none 0 0] 37)).heap.size := by have := HBw.out; simp; omega
            go_wp2_with fail
            refine (HT.out _).mono ?_; rintro e w1 ⟨rfl, rfl⟩
            go_wp2_with (at_builtin; refine wpList_append_nil _ (by rfl) _ _ (by rfl) B (wr.heap.size + 1) K (.slice av K.length cv) K.length rfl (by simp [nilV]) hown hsz hKl (by rfl) (by rfl) ?_; intro g cap w4 hO4 hg4 hb4)
            go_roundw
            case rel =>
              have hb2 : Below wr.heap.size wr ((wr.alloc (.cells #[.int .i64 2, .slice ad 0 cc] 29)).alloc (.cells #[.slice none 0 0] 37)) := to_alloc (from_alloc _ _) _
              refine ⟨j + 1, K ++ [nilV], Q ++ [[]], by go_num, by omega, (HO.out.to hb2).more hO4 hg4, (HWU.out _ hb2).trans hb4, by simp; omega, fun e => by simp at e, ?_, fun i hi => ?_⟩
              · show _ = _
                rw [HS.out, G3.out hty (by first | rfl | trivial) (by rw [← HM.out])]
              · simp at hi
                rw [getD_snocQ _ _ _ hi]
                split
                · have := HQLL.out i (by assumption); omega
                · simp
            case measure => simp [intOf]; omega
        · have ht2' : (t == 2) = false := by simpa using ht2
          by_cases hK0 : K.length = 0
          · have HK0 : Hid (K.length = 0) := hK0
            rw [hK0]
            go_wp2_with fail
            refine (HT.out _).mono ?_; rintro e w1 ⟨rfl, rfl⟩
            go_wp2_with fail
            go_ret2
            exact un_no (by rw [HS.out, G4.out hty ht2 (by rw [← HKQ.out]; exact HK0.out)]) (HWU.out _ HFA.out) rfl
          · obtain ⟨l, hlK⟩ : ∃ l, K.length = l + 1 := ⟨K.length - 1, by omega⟩
            obtain ⟨g0, c0, e0, hg0B, hg0l, hKl, hKz⟩ := HO.out.cell (l := l) (by omega)
            simp only [Value.slice.injEq, true_and] at e0
            obtain ⟨rfl, rfl⟩ := e0
            obtain ⟨L, hL1, hL2⟩ := HO.out.at' l (by have := HKQ.out; omega)
            obtain ⟨au, cu, hu, _⟩ := hL1.sl
            have HU : Hid (.slice au L.length cu = K.getD l nilV) := hu.symm
            rw [hu] at hL1 hKl
            have HLl : Hid (L.length < 4398046511104) := by have := hL2.len; have := HQLL.out l (by have := HKQ.out; omega); show _ < _; omega
            have HL1 : Hid (Ow wr B (.slice au L.length cu) L) := hL1
            have HL2 : Hid (Bo wr B L (Q.getD l [])) := hL2
            have HLK : Hid (K.length = l + 1) := hlK
            have hl4 : l ≤ 4398046511104 := by have := HKQ.out; omega
            have HF : Hid (∀ u : World, Below wr.heap.size wr u → u.cell? ⟨g0, l, none⟩ = some (.slice au L.length cu) ∧ u.frozen? ⟨g0, l, none⟩ = false) := fun u hu => ⟨by rw [newCell hu _ _ hg0l]; exact hKl, by rw [newFrozen hu _ _ hg0l]; exact hKz⟩
            have hV0 : (wr.alloc (.cells #[.int .i64 t, .slice ad m cc] 29)).cell? ⟨wr.heap.size, 0, none⟩ = some (.int .i64 t) := by simp
            have hV1 : (wr.alloc (.cells #[.int .i64 t, .slice ad m cc] 29)).cell? ⟨wr.heap.size, 1, none⟩ = some (.slice ad m cc) := by simp
            have hVs : (wr.alloc (.cells #[.int .i64 t, .slice ad m cc] 29)).heap.size = wr.heap.size + 1 := by simp
            obtain ⟨hVk, hVz⟩ := HF.out _ HFA.out
            clear hL1 hL2 hKl hKz hu hK0
            rw [hlK]
            clear hlK
            go_wp2_with fail
            refine (HT.out _).mono ?_; rintro e w1 ⟨rfl, rfl⟩
            go_wp2_with fail
            generalize (wr.alloc (.cells #[.int .i64 t, .slice ad m cc] 29)) = V at *
            have HVA : Hid (Below wr.heap.size wr V) := HFA.out
            have HVS : Hid (V.heap.size = wr.heap.size + 1) := hVs
            have HG : Hid (∀ u : World, Below V.heap.size V u → u.cell? ⟨wr.heap.size, 0, none⟩ = some (.int .i64 t) ∧ u.cell? ⟨wr.heap.size, 1, none⟩ = some (.slice ad m cc)) := fun u hu => ⟨by rw [newCell hu _ _ (by have := HVS.out; omega)]; exact hV0, by rw [newCell hu _ _ (by have := HVS.out; omega)]; exact hV1⟩
            have HCP : Hid (∀ u : World, Below V.heap.size V u → Calls Try.prog 14 #[.slice ad m cc] u fun e w' => ∃ a5 c5, e = .returned (.slice a5 m c5) ∧ w'.ownsRow B 5 1 (.slice a5 m c5) m (bs D) ∧ Below V.heap.size V w') := fun u hu => by
              have hwu : Below wr.heap.size wr u := below_to HVA.out hu
              refine (bclone_any (HBY.out.below (HWU.out _ hwu) hN)).mono ?_
              rintro e w' ⟨a5, c5, rfl, h4, h5⟩
              rw [← HM.out] at h4 ⊢
              have h6 := hwu.size
              exact ⟨a5, c5, rfl, own_mono h4 (by have := HBw.out; omega), below_to hu h5⟩
            have HDR : Hid (Below V.heap.size V V.drew) := below_drew (Below.refl _ _)
            have hj1 : (0 : Int) ≤ (l : Int) := by omega
            have hj2 : (l : Int) < (l : Int) + 1 := by omega
            clear hVs hV0 hV1 HFA z0 z1
            have hd0 := HG.out _ HDR.out
            obtain ⟨hd1, hd2⟩ := hd0
            obtain ⟨hd3, hd4⟩ := HF.out _ (below_to HVA.out HDR.out)
            clear hVk hVz
            go_region_law (first
              | (refine step_append_pcV _ (by rfl) _ _ (by rfl) B w5.heap.size L (.slice au L.length cu) (t, a5, m, c5) (by simp) (by simp [Oh.body]) hL5 (by have := HBw.out; have := hb5.size; have := HVS.out; simp; omega) HLl.out (by rfl) (by rfl) ?_; intro g cap w6 hO6 hg6 hat6 hb6; have hk6 : w6.heap[g0]? = _ := hg6.block g0 (by have := hb5.size; have := HVS.out; simp; omega) (fun e => own_apart hL5.own hO5 (by decide) g0 e.symm rfl); have y0 : w6.cell? ⟨g0, l, none⟩ = some (.slice au L.length cu) := (World.cell?_of_block hk6).trans hxa3; have y1 : w6.frozen? ⟨g0, l, none⟩ = false := (World.frozen?_of_block (a := ⟨g0, l, none⟩) hk6).trans hxa4)
              | (go_simp; go_at_call 14; (with_reducible refine (HCP.out _ HDR.out).mono ?_); rintro e w5 ⟨a5, c5, rfl, hown5, hb5⟩; obtain ⟨hx1, hx2⟩ := HG.out _ hb5; have hbw5 := below_to HVA.out hb5; obtain ⟨hx3, hx4⟩ := HF.out _ hbw5; have hba5 := to_alloc hbw5 (.cells #[.int .i64 t, .slice a5 m c5] 29); obtain ⟨hxa3, hxa4⟩ := HF.out _ hba5; have hL5 : Ow (w5.alloc (.cells #[.int .i64 t, .slice a5 m c5] 29)) B (.slice au L.length cu) L := HL1.out.to hba5; have hO5 := (HO.out.to hba5).own))
            all_goals
              go_wp2_with fail
              refine ⟨?_, by simp [intOf]; omega⟩
              have hql : l + 1 = Q.length := by have := HKQ.out; have := HLK.out; omega
              have hgr := OgK.grow (HO.out.to hba5) rfl hql HU.out hL5 (HL2.out.to hba5) HM.out (hown5.alloc _) HBY.out.byt HBY.out.len hO6 hg6 hat6
              rw [HLK.out] at hgr
              have hbx : Below B w w6 := (HWU.out _ hba5).trans hb6
              refine ⟨j + 1, _, _, by go_num, by omega, hgr, below_set hbx (by simpa using hg0B) _, by have := HQj.out; rw [List.length_set]; omega, fun e => by rw [List.length_set] at e; omega, ?_, fun i hi => ?_⟩
              · show _ = _
                rw [HS.out, G5.out hty ht2 (by omega), show Q.length - 1 = l from by omega]
              · simp at hi
                rw [getD_setQ _ _ _ _ (by omega)]
                have := HQLL.out
                split
                · have := HQLL.out l (by omega)
                  rw [List.length_append]
                  show _ + 1 ≤ _
                  omega
                · have := HQLL.out i hi; omega
    · go_wp2_with fail
      go_ret2
      rw [HS.out, un_end (by omega)]
      exact ⟨_, rfl, ⟨K, HO.out⟩, HB.out⟩
end Go.Proofs.Ytkippnfijjhobab
