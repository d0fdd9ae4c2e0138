/- DERIVED. Join. -/
import Derived.Test.YtkippnfijjhobabTh
namespace Go.Proofs.Ytkippnfijjhobab
open Go.RowKit

def szP (P : List Pc) : Nat := (P.map fun p => p.2.length + 6).sum
theorem drop_cons {P : List Pc} {j : Nat} (hj : j < P.length) : P.drop j = P.getD j p0 :: P.drop (j + 1) := by
  rw [List.drop_eq_getElem_cons hj]
  congr 1
  rw [List.getD_eq_getElem?_getD, List.getElem?_eq_getElem hj]
  rfl
theorem pcB_len (p : Pc) : (pcB p).length ≤ p.2.length + 6 := by
  have := lebB_len p.2.length
  simp [pcB]
  omega
theorem join_go {P : List Pc} {j : Nat} {C : List Nat} (hj : j < P.length) (h1 : tyB (P.getD j p0).1 = true) (h2 : (P.getD j p0).2.length ≤ 16777216) : joinP (P.drop j) C = joinP (P.drop (j + 1)) (C ++ pcB (P.getD j p0)) := by
  rw [drop_cons hj, joinP, if_neg (by rw [h1]; simp), if_neg (by omega)]
theorem join_ty {P : List Pc} {j : Nat} {C : List Nat} (hj : j < P.length) (h1 : tyB (P.getD j p0).1 = false) : joinP (P.drop j) C = ([], 2) := by
  rw [drop_cons hj, joinP, if_pos h1]
theorem join_big {P : List Pc} {j : Nat} {C : List Nat} (hj : j < P.length) (h1 : tyB (P.getD j p0).1 = true) (h2 : 16777216 < (P.getD j p0).2.length) : joinP (P.drop j) C = ([], 5) := by
  rw [drop_cons hj, joinP, if_neg (by rw [h1]; simp), if_pos h2]
theorem join_end {P : List Pc} {j : Nat} {C : List Nat} (hj : P.length ≤ j) : joinP (P.drop j) C = (C, 0) := by
  rw [List.drop_eq_nil_of_le hj, joinP]
theorem sz_drop {P : List Pc} {j : Nat} (hj : j < P.length) : szP (P.drop j) = (P.getD j p0).2.length + 6 + szP (P.drop (j + 1)) := by
  rw [drop_cons hj]; simp [szP]
/-- what Join answers -/
def JnQ (B : Nat) (w0 : World) (R : List Nat × Nat) (e : Ending) (w' : World) : Prop := ∃ a c, e = .returned (.tuple #[.slice a R.1.length c, .int .i64 (R.2 : Int)]) ∧ w'.ownsRow B 5 1 (.slice a R.1.length c) R.1.length (bs R.1) ∧ Below B w0 w'
def JnI (B : Nat) (w0 : World) (P : List Pc) (bv iv : Value) (wr : World) : Prop :=
  ∃ (j : Nat) (C : List Nat), iv = .int .i64 (j : Int) ∧ j ≤ P.length ∧ (∃ a c, bv = .slice a C.length c ∧ wr.ownsRow B 5 1 (.slice a C.length c) C.length (bs C)) ∧ Below B w0 wr ∧ Hid (joinP P [] = joinP (P.drop j) C) ∧ Hid (C.length + szP (P.drop j) ≤ szP P)
theorem join_no {B e : Nat} {w0 w' : World} {P : List Pc} (h : joinP P [] = ([], e)) (hb : Below B w0 w') {E : Int} (hE : E = (e : Int)) : JnQ B w0 (joinP P []) (.returned (.tuple #[.slice none 0 0, .int .i64 E])) w' := by
  subst hE
  rw [h]
  exact ⟨none, 0, rfl, World.ownsRow_nil _ _ _ _, hb⟩
theorem pcB_eq (p : Pc) : pcB p = ((16 * p.1).toNat :: lebB p.2.length) ++ p.2 := by simp [pcB]

set_option maxHeartbeats 4000000 in
set_option maxRecDepth 100000 in
theorem join_any {w : World} {N : Nat} {v : Value} {P : List Pc} (h : Ob w N v P) (hN : N ≤ w.heap.size) (hL : szP P ≤ 1099511627776) (hPl : P.length ≤ 4398046511104) :
    Calls Try.prog 5 #[v] w fun e w' => JnQ w.heap.size w (joinP P []) e w' := by
  obtain ⟨a, c, rfl, hc⟩ := h.sl
  obtain ⟨B, hB⟩ : ∃ B, B = w.heap.size := ⟨_, rfl⟩
  rw [← hB] at hN ⊢
  have HH : Hid (Ob w N (.slice a P.length c) P) := h
  have HBz : Hid (B = w.heap.size) := hB
  have HSZ : Hid (szP P ≤ 1099511627776) := hL
  clear h hB hL
  go_enter Try.func5, Try.ntmps5
  go_wp2_with fail
  go_loopw [4, 9] (fun bv iv wr => JnI B w P bv iv wr) (fun _ iv _ => P.length - (intOf iv).toNat)
  case atStart => exact ⟨0, [], rfl, by omega, ⟨none, 0, rfl, World.ownsRow_nil _ _ _ _⟩, by rw [HBz.out]; exact Below.refl _ _, rfl, by show _ ≤ _; simp⟩
  case round =>
    obtain ⟨j, C, rfl, hj, ⟨ab, cb, rfl, hown⟩, hb, HS, HZ⟩ := hrel
    have HO : Hid (wr.ownsRow B 5 1 (.slice ab C.length cb) C.length (bs C)) := hown
    have HB : Hid (Below B w wr) := hb
    clear hown hb
    by_cases hlt : j < P.length
    · obtain ⟨bb, oo, rfl, hbN, hcell⟩ := HH.out.form (by omega)
      obtain ⟨ad, m, cc, hx0, hx1, hm, hby⟩ := hcell j hlt
      have hbw : bb < B := by omega
      have z0 : wr.cell? ⟨bb, oo + j * 2, none⟩ = some (.int .i64 (P.getD j p0).1) := by rw [newCell HB.out bb _ hbw]; exact hx0
      have z1 : wr.cell? ⟨bb, oo + j * 2 + 1, none⟩ = some (.slice ad m cc) := by rw [newCell HB.out bb _ hbw]; exact hx1
      have hi1 : (0 : Int) ≤ (j : Int) := by omega
      have hi2 : (j : Int) < (P.length : Int) := by omega
      have HT : Hid (∀ u : World, Calls Try.prog 12 #[.int .i64 (P.getD j p0).1] u fun e w' => e = .returned (.bool (tyB (P.getD j p0).1)) ∧ w' = u) := fun u => isType_any _ u
      have HBY : Hid (By w N (.slice ad m cc) (P.getD j p0).2) := hby
      have HM : Hid (m = (P.getD j p0).2.length) := hm
      have HG : Hid (∀ C, tyB (P.getD j p0).1 = true → (P.getD j p0).2.length ≤ 16777216 → joinP (P.drop j) C = joinP (P.drop (j + 1)) (C ++ pcB (P.getD j p0))) := fun C h1 h2 => join_go hlt h1 h2
      have HG2 : Hid (tyB (P.getD j p0).1 = false → joinP (P.drop j) C = ([], 2)) := fun h1 => join_ty hlt h1
      have HG3 : Hid (tyB (P.getD j p0).1 = true → 16777216 < (P.getD j p0).2.length → joinP (P.drop j) C = ([], 5)) := fun h1 h2 => join_big hlt h1 h2
      have HZ2 : Hid (szP (P.drop j) = (P.getD j p0).2.length + 6 + szP (P.drop (j + 1))) := sz_drop hlt
      clear hcell hby hm hx0 hx1
      generalize P.getD j p0 = p at *
      obtain ⟨t, D⟩ := p
      simp only at *
      cases hty : tyB t with
      | false =>
        rw [hty] at HT
        go_wp2_with fail
        refine (HT.out _).mono ?_; rintro e w1 ⟨rfl, rfl⟩
        go_wp2_with fail
        go_ret2
        exact join_no (by rw [HS.out, HG2.out hty]) (HB.out.trans ((from_alloc _ _).mono (by have := HB.out.size; have := HBz.out; omega))) rfl
      | true =>
        rw [hty] at HT
        by_cases hmx : 16777216 < m
        · go_wp2_with fail
          refine (HT.out _).mono ?_; rintro e w1 ⟨rfl, rfl⟩
          go_wp2_with fail
          go_ret2
          exact join_no (by rw [HS.out, HG3.out hty (by rw [← HM.out]; exact hmx)]) (HB.out.trans ((from_alloc _ _).mono (by have := HB.out.size; have := HBz.out; omega))) rfl
        · have HHD : Hid (∀ u : World, Calls Try.prog 13 #[.agg #[.int .i64 t, .slice ad m cc]] u fun e w' => HdQ u t m e w') := fun u => head_any hty (by omega)
          have hzz := HZ.out
          rw [HZ2.out, ← HM.out] at hzz
          have hCl : C.length + m + 6 ≤ 1099511627776 := by have := HSZ.out; omega
          have hll := lebB_len m
          have HZZ : Hid _ := hzz
          clear hzz
          go_wp2_with fail
          refine (HT.out _).mono ?_; rintro e w1 ⟨rfl, rfl⟩
          have hVb : Below wr.heap.size wr (wr.alloc (.cells #[.int .i64 t, .slice ad m cc] 29)) := from_alloc _ _
          have hV1 : (wr.alloc (.cells #[.int .i64 t, .slice ad m cc] 29)).cell? ⟨wr.heap.size, 1, none⟩ = some (.slice ad m cc) := by simp
          have hVz : (wr.alloc (.cells #[.int .i64 t, .slice ad m cc] 29)).heap.size = wr.heap.size + 1 := by simp
          go_wp2_with fail
          generalize (wr.alloc (.cells #[.int .i64 t, .slice ad m cc] 29)) = V at *
          refine (HHD.out _).mono ?_; rintro e w2 ⟨a2, c2, rfl, hown2, hb2⟩
          have hB2 : Below wr.heap.size wr w2 := below_to hVb hb2
          have hO2 : w2.ownsRow B 5 1 (.slice ab C.length cb) C.length (bs C) := own_below HO.out hB2
          have hby2 : By w2 w2.heap.size (.slice a2 ((lebB m).length + 1) c2) ((16 * t).toNat :: lebB m) := By.ofOwn (by simp) hown2 (fun i => by
            have ht := (tyB_iff t).1 hty
            cases i with
            | zero => simp; omega
            | succ i => rw [getD_cons_succ]; exact lebA_byt 4 m (by omega) i) (by simp; omega)
          have hs2 : B ≤ w2.heap.size := by have := HB.out.size; have := HBz.out; have := hB2.size; omega
          have hv1 : w2.cell? ⟨wr.heap.size, 1, none⟩ = some (.slice ad m cc) := by rw [newCell hb2 _ _ (by omega)]; exact hV1
          have HB2 : Hid (Below wr.heap.size wr w2) := hB2
          have hw2z : wr.heap.size < w2.heap.size := by have := hb2.size; omega
          clear hown2 hb2 hB2 hVb
          have hap : (Value.slice ab C.length cb).ownBlock ≠ some wr.heap.size := fun e => by have := (HO.out.lt _ e).2; omega
          have HBW : Hid (Below B w w2) := HB.out.trans (HB2.out.mono (by have := HB.out.size; have := HBz.out; omega))
          have hml : m ≤ 16777216 := by omega
          go_wp2_with (at_builtin; first | (refine wpList_append_by _ (by rfl) _ _ (by rfl) B _ C.length C ((16 * t).toNat :: lebB m) _ _ rfl hO2 hby2 hs2 (by simp; omega) (by rfl) (by rfl) ?_; intro a3 c3 w3 hO3 hg3 hb3; have hv3 : w3.cell? ⟨wr.heap.size, 1, none⟩ = some (.slice ad m cc) := (World.cell?_of_block (hg3.block wr.heap.size hw2z (fun e => hap e.symm))).trans hv1; have hs3 : B ≤ w3.heap.size := Nat.le_trans hs2 hb3.size; have hby3 : By w3 N (.slice ad m cc) D := HBY.out.below (HBW.out.trans hb3) hN; have HB3 : Hid (Below B w w3) := HBW.out.trans hb3; clear hv1 hby2 hO2 hs2 hg3 hb3) | (refine wpList_append_by _ (by rfl) _ _ (by rfl) B _ _ (C ++ ((16 * t).toNat :: lebB m)) D _ _ (by simp) hO3 hby3 hs3 (by have := HM.out; simp; omega) (by rfl) (by rfl) ?_; intro a4 c4 w4 hO4 hg4 hb4))
          go_roundw
          case rel =>
            have hhd : C ++ ((16 * t).toNat :: lebB m) ++ D = C ++ pcB (t, D) := by rw [pcB_eq, ← HM.out, List.append_assoc]
            rw [hhd] at hO4
            have hln : (C ++ pcB (t, D)).length = C.length + ((16 * t).toNat :: lebB m).length + D.length := by rw [← hhd, List.length_append, List.length_append]
            refine ⟨j + 1, C ++ pcB (t, D), by go_num, by omega, ⟨a4, c4, by rw [hln]; rfl, by rw [hln]; exact hO4⟩, HB3.out.trans hb4, ?_, ?_⟩
            · show _ = _
              rw [HS.out, HG.out C hty (by rw [← HM.out]; exact hml)]
            · show _ ≤ _
              have := HZZ.out
              have := HM.out
              rw [hln]
              simp
              omega
          case measure => simp [intOf]; omega
    · go_wp2_with fail
      go_ret2
      rw [HS.out, join_end (by omega)]
      exact ⟨ab, cb, rfl, HO.out, HB.out⟩
end Go.Proofs.Ytkippnfijjhobab
