/- DERIVED. UnitsAll. -/
import Derived.Test.YtkippnfijjhobaaTu
import Derived.Test.YtkippnfijjhobaaTj
namespace Go.Proofs.Ytkippnfijjhobaa
open Go.RowKit

def allP (Q : List (List Pc)) : List Pc := Q.flatMap fun l => (2, []) :: l
theorem allP_append (A B : List (List Pc)) : allP (A ++ B) = allP A ++ allP B := by simp [allP]
theorem unP_err : ∀ (P : List Pc) (Q : List (List Pc)), (unP P Q).2 = 0 ∨ unP P Q = ([], 4) := by
  intro P
  induction P with
  | nil => intro Q; exact Or.inl rfl
  | cons p P ih =>
    intro Q
    rw [unP]
    split
    · exact Or.inr rfl
    · split
      · split
        · exact Or.inr rfl
        · exact ih _
      · split
        · exact Or.inr rfl
        · exact ih _
theorem snoc_form {α : Type} : ∀ Q : List α, Q.length ≠ 0 → ∃ F l, Q = F ++ [l] := by
  intro Q
  induction Q with
  | nil => intro h; simp at h
  | cons x t ih =>
    intro _
    by_cases h : t.length = 0
    · exact ⟨[], x, by rw [List.eq_nil_of_length_eq_zero h]; rfl⟩
    · obtain ⟨F, l, rfl⟩ := ih h
      exact ⟨x :: F, l, rfl⟩
theorem allP_last (Q : List (List Pc)) (p : Pc) (h : Q.length ≠ 0) : allP (Q.set (Q.length - 1) (Q.getD (Q.length - 1) [] ++ [p])) = allP Q ++ [p] := by
  obtain ⟨F, l, rfl⟩ := snoc_form Q h
  have e1 : (F ++ [l]).length - 1 = F.length := by simp
  have e2 : (F ++ [l]).getD F.length [] = l := by simp [List.getD_eq_getElem?_getD]
  have e3 : (F ++ [l]).set F.length (l ++ [p]) = F ++ [l ++ [p]] := by simp
  rw [e1, e2, e3, allP_append, allP_append]
  simp [allP]
theorem unP_all : ∀ (P : List Pc) (Q R : List (List Pc)), unP P Q = (R, 0) → (∀ i, i < Q.length → ∀ p ∈ Q.getD i [], p.1 ≠ 2) → allP R = allP Q ++ P ∧ ∀ i, i < R.length → ∀ p ∈ R.getD i [], p.1 ≠ 2 := by
  intro P
  induction P with
  | nil => intro Q R h hQ; simp [unP] at h; subst h; simpa using hQ
  | cons p P ih =>
    intro Q R h hQ
    rw [unP] at h
    split at h
    · simp at h
    · split at h
      · split at h
        · simp at h
        · rename_i h1 h2 h3
          obtain ⟨k1, k2⟩ := ih _ _ h (fun i hi q hq => by
            simp at hi
            rw [getD_snocQ _ _ _ hi] at hq
            split at hq
            · exact hQ i (by assumption) q hq
            · simp at hq)
          refine ⟨?_, k2⟩
          have hp : p = (2, []) := by
            obtain ⟨t, C⟩ := p
            simp only at h2 h3
            have : C = [] := List.eq_nil_of_length_eq_zero (by omega)
            rw [h2, this]
          rw [k1, allP_append, hp]
          simp [allP]
      · split at h
        · simp at h
        · rename_i h1 h2 h3
          obtain ⟨k1, k2⟩ := ih _ _ h (fun i hi q hq => by
            rw [List.length_set] at hi
            rw [getD_setQ _ _ _ _ (by omega)] at hq
            split at hq
            · rcases List.mem_append.1 hq with hq | hq
              · exact hQ _ (by omega) q hq
              · simp at hq; subst hq; exact h2
            · exact hQ i hi q hq)
          refine ⟨?_, k2⟩
          rw [k1, allP_last _ _ h3]
          simp
theorem allP_snoc {Q : List (List Pc)} {j : Nat} (hj : j < Q.length) : allP (Q.take (j + 1)) = allP (Q.take j) ++ ((2, []) :: Q.getD j []) := by
  rw [List.take_add_one, allP_append]
  congr 1
  rw [List.getD_eq_getElem?_getD, List.getElem?_eq_getElem hj]
  simp [allP]
theorem Hs.app {w : World} {N : Nat} {L L' : List Oh} {P P' : List Pc} (h : Hs w N L P) (h' : Hs w N L' P') : Hs w N (L ++ L') (P ++ P') := by
  have hl := h.len
  refine ⟨by simp [h.len, h'.len], fun j hj => ?_⟩
  rw [List.length_append] at hj
  rcases Nat.lt_or_ge j P.length with hi | hi
  · rw [List.getD_eq_getElem?_getD, List.getD_eq_getElem?_getD, List.getElem?_append_left (by omega), List.getElem?_append_left hi, ← List.getD_eq_getElem?_getD, ← List.getD_eq_getElem?_getD]
    exact h.at' j hi
  · rw [List.getD_eq_getElem?_getD, List.getD_eq_getElem?_getD, List.getElem?_append_right (by omega), List.getElem?_append_right hi, ← List.getD_eq_getElem?_getD, ← List.getD_eq_getElem?_getD, hl]
    exact h'.at' (j - P.length) (by omega)
theorem Ow.srcC {w : World} {B n c : Nat} {a : Option Addr} {L : List Oh} (hn : n = L.length) (h : Ow w B (.slice a n c) L) : SrcC w (.slice a n c) n (oc L) := by
  subst hn
  obtain ⟨h1, h2, h3⟩ := own_form h.own
  rcases h3 with ⟨rfl, h0, rfl⟩ | ⟨g, rfl, h4, h5⟩
  · have : L = [] := List.eq_nil_of_length_eq_zero h0
    subst this
    exact Or.inl ⟨rfl, rfl, rfl⟩
  · refine Or.inr ⟨⟨g, 0, none⟩, c, rfl, fun j x hx => ?_⟩
    exact h.own.cells rfl j x hx
/-- 'append(all, l...)' on a list of pieces that the call made -/
theorem wpList_append_ow (wr : World) {ops : Array Oper} {rest : List Oper} {o : Oper} {a : Act} {Q : Exit → Act → World → Prop} (hgd : o.guard = none) (s x : Operand)
    (ho : o.op = .call { callee := .builtin .append, args := #[s, x], argTypes := #[24, 24] })
    (B B' n m c' : Nat) (a' : Option Addr) (L L' : List Oh) (v : Value) (hn : n = L.length) (hm : m = L'.length) (hown : Ow wr B v L) (hu : Ow wr B' (.slice a' m c') L') (hB : B ≤ wr.heap.size) (hL : n + m ≤ 4398046511104)
    (hs : a.eval s = v) (hx : a.eval x = .slice a' m c')
    (k : ∀ a2 c2 w', Ow w' B (.slice a2 (n + m) c2) (L ++ L') → wr.grownBy w' v.ownBlock → Below B wr w' → wpList Try.prog ops Q rest (a.put o.dst (.slice a2 (n + m) c2)) w') :
    wpList Try.prog ops Q (o :: rest) a wr := by
  subst hn hm
  obtain ⟨i, hi, hz0, hz1, hz2⟩ := info_parts Try.infoObu
  refine wpList_plain hgd fun _ hK => wp_append_src s x 24 ho B 44 i _ 2 32 Try.underlying24 hi hz0 hz1 hz2 rfl (by omega) v L.length (oc L) hs hown.own _ L'.length (oc L') hx (oc_length _) (hu.srcC rfl) (oc_one _) (by unfold maxLen; omega) (by omega) hB ?_
  intro v' w' h1 h2 h3
  obtain ⟨a2, c2, rfl⟩ := own_slice h1
  exact hK _ _ (k a2 c2 w' ⟨by rw [oc_append, List.length_append]; exact h1⟩ h2 (grown_below h2 hB (fun g hg => (hown.own.lt g hg).1)))

set_option maxHeartbeats 4000000 in
set_option maxRecDepth 100000 in
theorem all_walk {W : World} {v : Value} {P : List Pc} (h : Ob W W.heap.size v P) (hL : P.length ≤ 4398046511104) : Calls Try.prog 8 #[v] W fun e w' => e = .returned (.bool true) ∧ Below W.heap.size W w' := by
  obtain ⟨a, c, rfl, _⟩ := h.sl
  have HB : Hid (Ob W W.heap.size (.slice a P.length c) P) := h
  have HL : Hid (P.length ≤ 4398046511104) := hL
  have hall := unP_all P []
  have herr := unP_err P []
  clear h hL
  go_enter Try.func8, Try.ntmps8
  go_wp2_with fail
  refine (works_any _).mono ?_; rintro e w1 ⟨rfl, hb1⟩
  have HB1 : Hid (Below W.heap.size W w1) := hb1
  clear hb1
  go_wp2_with fail
  refine (units_any (HB.out.below HB1.out (Nat.le_refl _)) HB1.out.size HL.out).mono ?_
  generalize hR : unP P [] = R at *
  obtain ⟨Q, er⟩ := R
  clear hR
  rintro e w2 ⟨v2, rfl, ⟨K2, hg2⟩, hb2⟩
  have HO2 : Hid (OgK w2 w1.heap.size v2 K2 Q) := hg2
  have HB2 : Hid (Below w1.heap.size w1 w2) := hb2
  have HW2 : Hid (Below W.heap.size W w2) := below_to HB1.out hb2
  obtain ⟨a2, c2, rfl⟩ := hg2.sl
  have hK2 : K2.length = Q.length := hg2.len
  have HK2 : Hid (K2.length = Q.length) := hK2
  have HP2 : Hid (OgK w2 w1.heap.size (.slice a2 Q.length c2) K2 Q) := by
    have := HO2.out
    rw [hK2] at this
    exact this
  simp only at *
  rw [hK2]
  clear hg2 hb2 hK2
  by_cases her : er = 0
  · subst her
    rw [show ((0 : Nat) : Int) = 0 from rfl]
    obtain ⟨hA, hT⟩ := hall Q rfl (fun i hi => by simp at hi)
    have hA' : allP Q = P := by rw [hA]; simp [allP]
    have HA : Hid (allP Q = P) := hA'
    have HT : Hid (∀ i, i < Q.length → ∀ p ∈ Q.getD i [], p.1 ≠ 2) := hT
    have hlen : (allP Q).length ≤ 4398046511104 := by rw [hA']; exact HL.out
    have HLA : Hid (∀ j, j < Q.length → (allP (Q.take j)).length + 1 + (Q.getD j []).length ≤ 4398046511104) := fun j hj => by
      have e1 := allP_snoc hj
      have e2 : allP Q = allP (Q.take (j + 1)) ++ allP (Q.drop (j + 1)) := by rw [← allP_append, List.take_append_drop]
      have e3 := congrArg List.length e1
      have e4 := congrArg List.length e2
      rw [List.length_append, List.length_cons] at e3
      rw [List.length_append] at e4
      omega
    have hQl : Q.length ≤ 4398046511104 := by
      have : ∀ X : List (List Pc), X.length ≤ (allP X).length := by
        intro X
        induction X with
        | nil => simp
        | cons x t ih => simp [allP] at *; omega
      have := this Q
      omega
    clear hall herr hA hA' hT hlen
    go_wp2_with fail
    go_loopw [5, 6] (fun ov iv wr => ∃ (j : Nat) (L : List Oh), iv = .int .i64 (j : Int) ∧ j ≤ Q.length ∧ Ow wr w2.heap.size ov L ∧ Hs wr w2.heap.size L (allP (Q.take j)) ∧ Below w2.heap.size w2 wr) (fun _ iv _ => Q.length - (intOf iv).toNat)
    case atStart => exact ⟨0, [], rfl, by omega, Ow.nil _ _, ⟨rfl, fun j hj => by simp [allP] at hj⟩, Below.refl _ _⟩
    case round =>
      obtain ⟨j, L, rfl, hj, hO, hH, hb⟩ := hrel
      have HO : Hid (Ow wr w2.heap.size u5 L) := hO
      have HH : Hid (Hs wr w2.heap.size L (allP (Q.take j))) := hH
      have HBr : Hid (Below w2.heap.size w2 wr) := hb
      by_cases hlt : j < Q.length
      · obtain ⟨g2, d2, e2, _, hg2l, hc2, _⟩ := HP2.out.cell (l := j) (by have := HK2.out; omega)
        simp only [Value.slice.injEq] at e2
        obtain ⟨rfl, -, rfl⟩ := e2
        obtain ⟨L2, hL2a, hL2b⟩ := HP2.out.at' j hlt
        obtain ⟨x2, y2, hk2, _⟩ := hL2a.sl
        rw [hk2] at hc2 hL2a
        have hl2 : L2.length = (Q.getD j []).length := hL2b.len
        have HL2 : Hid (L2.length = (Q.getD j []).length) := hl2
        have hLn := hH.len
        have hla := HLA.out j hlt
        have HBo : Hid (Bo w2 w1.heap.size L2 (Q.getD j [])) := hL2b
        have HOw : Hid (Ow w2 w1.heap.size (.slice x2 L2.length y2) L2) := hL2a
        have HC : Hid (∀ u : World, Below w2.heap.size w2 u → u.cell? ⟨g2, j, none⟩ = some (.slice x2 L2.length y2)) := fun u hu => by rw [newCell hu _ _ hg2l]; exact hc2
        have hi1 : (0 : Int) ≤ (j : Int) := by omega
        have hi2 : (j : Int) < (Q.length : Int) := by omega
        have hLl : L.length < 4398046511104 := by omega
        have hLl2 : L.length + 1 + L2.length ≤ 4398046511104 := by omega
        have hOa : Ow wr w2.heap.size u5 L := HO.out
        have hsa : w2.heap.size ≤ wr.heap.size := hb.size
        clear hO hH hb hc2 hL2a hL2b hk2 hl2 hLn hla
        go_wp2_with (at_builtin; refine wpList_append_pc _ (by rfl) _ _ (by rfl) w2.heap.size L u5 (2, none, 0, 0) _ (by rfl) hOa hsa hLl (by rfl) _ (by rfl) (by rfl) ?_; intro g cap w4 hO4 hg4 hat4 hb4)
        have HO4 : Hid (Ow w4 w2.heap.size (.slice (some ⟨g, 0, none⟩) (L.length + 1) cap) (L ++ [(2, none, 0, 0)])) := hO4
        have hB4 : Below w2.heap.size w2 w4 := HBr.out.trans hb4
        have HB4 : Hid (Below w2.heap.size w2 w4) := hB4
        have HH4 : Hid (Hs w4 w2.heap.size (L ++ [(2, none, 0, 0)]) (allP (Q.take j) ++ [(2, [])])) := by
          have hn : By w4 w2.heap.size (.slice none 0 0) [] := ⟨⟨none, 0, rfl, Nat.le_refl _, fun _ => rfl, Or.inl rfl⟩, by simp, by simp⟩
          exact (HH.out.below hb4 (Nat.le_refl _)).snoc ⟨rfl, hn⟩
        have hc4 := HC.out _ hB4
        clear hO4 hg4 hat4 hb4 hB4 hOa hsa
        generalize hw4 : w4 = V at *
        clear hw4
        go_loopw [7] (fun kv wr => ∃ k : Nat, kv = .int .i64 (k : Int) ∧ k ≤ L2.length ∧ wr = V) (fun kv _ => L2.length - (intOf kv).toNat)
        case atStart => exact ⟨0, rfl, by omega, rfl⟩
        case round =>
          obtain ⟨k, rfl, hk, rfl⟩ := hrel
          by_cases hkl : k < L2.length
          · obtain ⟨gb, ob, rfl, _, hcc⟩ := (HOw.out.so).resolve_left (fun e => by rw [e] at hkl; simp at hkl)
            obtain ⟨q0, _⟩ := hcc k hkl
            have q0' : wr.cell? ⟨gb, ob + k * 2, none⟩ = some (.int .i64 (L2.getD k oh0).1) := by
              have hbl := World.block_lt_of_cell? w2 _ q0
              rw [newCell HB4.out _ _ hbl]; exact q0
            have hty : (L2.getD k oh0).1 ≠ 2 := by
              have hkq : k < (Q.getD j []).length := by have := HL2.out; omega
              rw [(HBo.out.at' k hkq).1]
              refine HT.out j hlt _ ?_
              rw [List.getD_eq_getElem?_getD (l := Q.getD j []), List.getElem?_eq_getElem hkq]
              exact List.getElem_mem _
            have hty' : ((L2.getD k oh0).1 == 2) = false := by simpa using hty
            have hj1 : (0 : Int) ≤ (k : Int) := by omega
            have hj2 : (k : Int) < (L2.length : Int) := by omega
            clear hcc q0 hty
            generalize (L2.getD k oh0).1 = tt at *
            go_wp2_with fail
            go_roundw
            case rel => exact ⟨k + 1, by go_num, by omega, by first | rfl | trivial⟩
            case measure => simp [intOf]; omega
          · have hOw4 : Ow wr w1.heap.size (.slice x2 L2.length y2) L2 := HOw.out.to HB4.out
            have hO4' := HO4.out
            have hs4 : w2.heap.size ≤ wr.heap.size := HB4.out.size
            go_wp2_with (at_builtin; refine wpList_append_ow _ (by rfl) _ _ (by rfl) w2.heap.size w1.heap.size (L.length + 1) L2.length y2 x2 (L ++ [(2, none, 0, 0)]) L2 _ (by simp) rfl hO4' hOw4 hs4 hLl2 (by rfl) (by rfl) ?_; intro a5 c5 w5 hO5 hg5 hb5)
            go_roundw
            case rel =>
              refine ⟨j + 1, _, by go_num, by omega, hO5, ?_, HB4.out.trans hb5⟩
              rw [allP_snoc hlt, show ((2, []) :: Q.getD j [] : List Pc) = [(2, [])] ++ Q.getD j [] from rfl, ← List.append_assoc]
              exact (HH4.out.app (HBo.out.hs.below HB4.out (Nat.le_refl _))).below hb5 (Nat.le_refl _)
            case measure => simp [intOf]; omega
      · have e : Q.take j = Q := List.take_of_length_le (by omega)
        rw [e, HA.out] at hH
        have hOb : Ob wr wr.heap.size u5 P := hO.ob (hH.mono hb.size)
        have hWr : Below W.heap.size W wr := below_to HW2.out hb
        have HWr : Hid (Below W.heap.size W wr) := hWr
        have HOb : Hid (Ob wr wr.heap.size u5 P) := hOb
        clear hO hH hb hOb hWr e
        go_wp2_with fail
        refine (same_any HOb.out (HB.out.below HWr.out (Nat.le_refl _)) HL.out).mono ?_
        rw [show sameP P P = true from by simp [sameP]]
        rintro e w6 ⟨rfl, k6, rfl⟩
        go_wp2_with fail
        go_ret
        exact ⟨rfl, below_drewN HWr.out k6⟩
  · have h4 : Q = [] ∧ er = 4 := by
      rcases herr with e | e
      · exact absurd e her
      · simpa using e
    obtain ⟨rfl, rfl⟩ := h4
    clear hall herr
    go_wp2_with fail
    go_ret
    exact ⟨rfl, HW2.out⟩
end Go.Proofs.Ytkippnfijjhobaa
