/- DERIVED. grouped. -/
import Derived.Test.YtkippnfijjhobabKe
import Derived.Test.YtkippnfijjhobabTp
namespace Go.Proofs.Ytkippnfijjhobab
open Go.RowKit

/-- pieces without bodies -/
def gpP (l : List Int) : List Pc := l.map fun t => (t, [])
def gpR (l : List Int) : List Int := if (unP (gpP l) []).2 = 0 then (unP (gpP l) []).1.map (fun Q => (Q.length : Int)) else [-1]
theorem gpP_len (l : List Int) : (gpP l).length = l.length := by simp [gpP]
theorem gpP_snoc {l : List Int} {j : Nat} (hj : j < l.length) : gpP (l.take (j + 1)) = gpP (l.take j) ++ [(l.getD j 0, [])] := by
  unfold gpP
  rw [List.map_take, List.map_take, List.take_add_one, List.getElem?_map, List.getD_eq_getElem?_getD, List.getElem?_eq_getElem hj]
  rfl
theorem lens_snoc {Q : List (List Pc)} {j : Nat} (hj : j < Q.length) : ((Q.take (j + 1)).map fun q => (q.length : Int)) = ((Q.take j).map fun q => (q.length : Int)) ++ [((Q.getD j []).length : Int)] := by
  rw [List.map_take, List.map_take, List.take_add_one, List.getElem?_map, List.getD_eq_getElem?_getD, List.getElem?_eq_getElem hj]
  rfl
theorem un_len : ∀ (P : List Pc) (Q : List (List Pc)), (unP P Q).1.length ≤ Q.length + P.length := by
  intro P
  induction P with
  | nil => intro Q; simp [unP]
  | cons p P ih =>
    intro Q
    rw [unP]
    split
    · simp
    · split
      · split
        · simp
        · have := ih (Q ++ [[]]); simp at this ⊢; omega
      · split
        · simp
        · have := ih (Q.set (Q.length - 1) (Q.getD (Q.length - 1) [] ++ [p])); rw [List.length_set] at this; simp only [List.length_cons]; omega
theorem Try.info3 : (Try.prog.info? 3).map (fun i => (i.zero, i.size, i.bytes)) = some (some (.int .i64 0), 1, 8) := by kernel_rfl
/-- 'append(l, n)' on a list of numbers that the call made -/
theorem wpList_append_num (V : World) {ops : Array Oper} {rest : List Oper} {o : Oper} {a : Act} {Q : Exit → Act → World → Prop} (hgd : o.guard = none) (s x : Operand)
    (ho : o.op = .call { callee := .builtin .append, args := #[s, x], argTypes := #[32, 32] })
    (B H : Nat) (C : List Int) (v : Value) (n : Nat) (z : Int) (hn : n = C.length) (h0 : V.cell? ⟨H, 0, none⟩ = some (.int .i64 z)) (hown : V.ownsRow B 3 1 v n (is C)) (hB : B ≤ V.heap.size) (hL : C.length < 4398046511104)
    (hs : a.eval s = v) (hx : a.eval x = .slice (some ⟨H, 0, none⟩) 1 1)
    (k : ∀ g cap w', w'.ownsRow B 3 1 (.slice (some ⟨g, 0, none⟩) (n + 1) cap) (C.length + 1) (is (C ++ [z])) → V.grownBy w' v.ownBlock → Below B V w' → wpList Try.prog ops Q rest (a.put o.dst (.slice (some ⟨g, 0, none⟩) (n + 1) cap)) w') :
    wpList Try.prog ops Q (o :: rest) a V := by
  subst hn
  obtain ⟨i, hi, hz0, hz1, hz2⟩ := info_parts Try.info3
  have hnews : ∀ j u, (is [z])[j]? = some u → V.cell? ((⟨H, 0, none⟩ : Addr).add j) = some u := by
    intro j u hu
    rw [addr_add, Nat.zero_add]
    cases j with
    | zero => simp [is] at hu; rw [← hu]; exact h0
    | succ j => simp [is] at hu
  refine wpList_append_lies _ hgd s x 32 ho B 3 i _ 1 8 Try.underlying32 hi hz0 hz1 hz2 rfl (by omega) v C.length (is C) hs hown ⟨H, 0, none⟩ 1 1 (is [z]) hx (by rfl) hnews (is_one _) (by omega) (by unfold maxLen; omega) (by omega) hB V.heap.size rfl ?_
  intro g cap w' hown' hgrow _ _
  rw [← is_append] at hown'
  exact k g cap w' hown' hgrow (grown_below hgrow hB (fun g hg => (hown.lt g hg).1))
theorem grown_own {B B' e size n m s : Nat} {w w' : World} {u v : Value} {xs ys : List Value} {e' : Nat} (h : w.ownsRow B e size u n xs) (hv : w.ownsRow B' e' s v m ys) (he : e ≠ e') (hg : w.grownBy w' v.ownBlock) : w'.ownsRow B e size u n xs :=
  own_carry h fun g hg' => hg.block g (h.lt g hg').2 (fun k => own_apart h hv he g hg' k.symm)

set_option maxHeartbeats 4000000 in
set_option maxRecDepth 100000 in
theorem grouped_any {w : World} {n c : Nat} {a : Option Addr} {l : List Int} (h : Si w a l) (hn : l.length = n) (hL : n ≤ 1000) :
    Calls Try.prog 8 #[.slice a n c] w fun e w' => ∃ a' c', e = .returned (.slice a' (gpR l).length c') ∧ Si w' a' (gpR l) ∧ Below w.heap.size w w' := by
  subst hn
  obtain ⟨B, hB⟩ : ∃ B, B = w.heap.size := ⟨_, rfl⟩
  rw [← hB]
  have HH : Hid (Si w a l) := h
  have HBz : Hid (B = w.heap.size) := hB
  clear h hB
  go_enter Try.func8, Try.ntmps8
  go_wp2_with fail
  go_loopw [3, 4] (fun v iv wr => ∃ j : Nat, iv = .int .i64 (j : Int) ∧ j ≤ l.length ∧ Ol wr B v (gpP (l.take j)) ∧ Below B w wr) (fun _ iv _ => l.length - (intOf iv).toNat)
  case atStart => exact ⟨0, rfl, by omega, Ol.nil _ _, by rw [HBz.out]; exact Below.refl _ _⟩
  case round =>
    obtain ⟨j, rfl, hj, ho, hb⟩ := hrel
    have HO : Hid (Ol wr B u3 (gpP (l.take j))) := ho
    have HB : Hid (Below B w wr) := hb
    have HBw : Hid (B ≤ wr.heap.size) := by have := hb.size; have := HBz.out; show _ ≤ _; omega
    clear ho hb
    by_cases hlt : j < l.length
    · obtain ⟨bb, oo, rfl, hbN, hcell⟩ := HH.out.form (by omega)
      have hx : wr.cell? ⟨bb, oo + j, none⟩ = some (.int .i64 (l.getD j 0)) := by rw [newCell HB.out bb _ (by have := HBz.out; omega)]; exact hcell j hlt
      have hi1 : (0 : Int) ≤ (j : Int) := by omega
      have hi2 : (j : Int) < (l.length : Int) := by omega
      obtain ⟨L, hL1, hL2⟩ := HO.out
      have hLl : L.length = j := by rw [hL2.len, gpP_len, List.length_take]; omega
      obtain ⟨a3, c3, rfl, _⟩ := hL1.sl
      have HL1 : Hid (Ow wr B (.slice a3 L.length c3) L) := hL1
      have HL2 : Hid (Bo wr B L (gpP (l.take j))) := hL2
      have HLl : Hid (L.length = j) := hLl
      have HS : Hid (gpP (l.take (j + 1)) = gpP (l.take j) ++ [(l.getD j 0, [])]) := gpP_snoc hlt
      clear hcell hL1 hL2 hLl
      generalize l.getD j 0 = x at *
      go_wp2_with (at_builtin; refine wpList_append_pc _ (by rfl) _ _ (by rfl) B L (.slice a3 L.length c3) (x, none, 0, 0) _ (by rfl) HL1.out HBw.out (by have := HLl.out; omega) (by rfl) _ (by rfl) (by rfl) ?_; intro g cap w4 hO4 hgr4 hat4 hb4)
      go_roundw
      case rel =>
        refine ⟨j + 1, by go_num, by omega, ?_, HB.out.trans hb4⟩
        rw [HS.out]
        have h4 : Bo wr B (L ++ [(x, none, 0, 0)]) (gpP (l.take j) ++ [(x, [])]) := HL2.out.snoc (by rfl) (World.ownsRow_nil _ _ _ _) (by simp) (by simp)
        have h5 := h4.grown HL1.out.own hgr4
        exact ⟨_, by simpa [List.length_append] using hO4, h5⟩
      case measure => simp [intOf]; omega
    · have hje : j = l.length := by omega
      obtain ⟨a3, c3, rfl, _⟩ := HO.out.sl
      have HU : Hid (∀ u : World, u = wr → Calls Try.prog 9 #[.slice a3 (gpP (l.take j)).length c3] u fun e w' => UnQ u.heap.size u (unP (gpP l) []) e w') := fun u hu => by
        subst hu
        have := units_any HO.out.ob (Nat.le_refl _) (by rw [gpP_len, List.length_take]; omega)
        rw [hje, List.take_length] at this ⊢
        exact this
      have HR : Hid (gpR l = if (unP (gpP l) []).2 = 0 then (unP (gpP l) []).1.map (fun Q => (Q.length : Int)) else [-1]) := rfl
      have HQL : Hid ((unP (gpP l) []).1.length ≤ 1000) := by have := un_len (gpP l) []; rw [gpP_len] at this; show _ ≤ _; simpa using Nat.le_trans this (by simpa using hL)
      generalize (gpP (l.take j)).length = m3 at *
      generalize unP (gpP l) [] = R at *
      obtain ⟨Q, er⟩ := R
      simp only at HR HQL
      have HBx : Hid (B ≤ wr.heap.size) := HBw.out
      clear hje
      go_wp2_with fail
      refine (HU.out _ rfl).mono ?_
      rintro e w5 ⟨v5, rfl, ⟨K, hK⟩, hb5⟩
      have HK : Hid (OgK w5 wr.heap.size v5 K Q) := hK
      have HB5 : Hid (Below B w w5) := HB.out.trans (hb5.mono HBw.out)
      have HZ5 : Hid (wr.heap.size ≤ w5.heap.size) := hb5.size
      clear hK hb5
      by_cases her : er = 0
      · subst her
        rw [if_pos rfl] at HR
        obtain ⟨a5, c5, rfl⟩ := HK.out.sl
        have HKl : Hid (K.length = Q.length) := HK.out.len
        simp only
        rw [show (((0 : Nat) : Int)) = 0 from rfl]
        go_wp2_with fail
        go_loopw [7, 8] (fun v iv wq => ∃ j : Nat, iv = .int .i64 (j : Int) ∧ j ≤ Q.length ∧ wq.ownsRow w5.heap.size 3 1 v j (is ((Q.take j).map fun q => (q.length : Int))) ∧ Below w5.heap.size w5 wq) (fun _ iv _ => Q.length - (intOf iv).toNat)
        case atStart => exact ⟨0, rfl, by omega, World.ownsRow_nil _ _ _ _, Below.refl _ _⟩
        case round =>
          obtain ⟨k, rfl, hk, ho, hb⟩ := hrel
          have HO2 : Hid (wr.ownsRow w5.heap.size 3 1 u7 k (is ((Q.take k).map fun q => (q.length : Int)))) := ho
          have HB2 : Hid (Below w5.heap.size w5 wr) := hb
          have HSZ : Hid (w5.heap.size ≤ wr.heap.size) := hb.size
          clear ho hb
          by_cases hlt : k < Q.length
          · obtain ⟨g5, c6, e5, _, hgl, hk5, _⟩ := HK.out.cell (l := k) (by have := HKl.out; omega)
            obtain ⟨rfl, rfl⟩ : a5 = some ⟨g5, 0, none⟩ ∧ c5 = c6 := by simpa using e5
            obtain ⟨a8, c8, e8, _⟩ := (HK.out.at' k hlt).sl
            rw [e8] at hk5
            have hx : wr.cell? ⟨g5, k, none⟩ = some (.slice a8 (Q.getD k []).length c8) := by rw [newCell HB2.out g5 _ hgl]; exact hk5
            have hi1 : (0 : Int) ≤ (k : Int) := by omega
            have hi2 : (k : Int) < (K.length : Int) := by have := HKl.out; omega
            have HS2 : Hid (((Q.take (k + 1)).map fun q => (q.length : Int)) = ((Q.take k).map fun q => (q.length : Int)) ++ [((Q.getD k []).length : Int)]) := lens_snoc hlt
            have HCl : Hid (((Q.take k).map fun q => (q.length : Int)).length = k) := by show _ = _; rw [List.length_map, List.length_take]; omega
            have HQl : Hid (Q.length ≤ 1000) := HQL.out
            have hkb : k < 1000 := by have := HQL.out; omega
            clear hk5 e5 e8
            generalize hz : (Q.getD k []).length = z at *
            generalize ((Q.take k).map fun q => (q.length : Int)) = C at *
            go_wp2_with (at_builtin; refine wpList_append_num _ (by rfl) _ _ (by rfl) w5.heap.size wr.heap.size C u7 k (z : Int) HCl.out.symm (by simp) (HO2.out.alloc _) (by have := HSZ.out; simp; omega) (by have := HCl.out; have := HQl.out; omega) (by rfl) (by rfl) ?_; intro g cap w4 hO4 hgr4 hb4)
            go_roundw
            case rel =>
              refine ⟨k + 1, by go_num, by omega, ?_, (to_alloc HB2.out _).trans hb4⟩
              rw [HS2.out, ← HCl.out]
              simpa [HCl.out] using hO4
            case measure => simp [intOf]; omega
          · have hke : ¬ ((k : Int) < (K.length : Int)) := by have := HKl.out; omega
            have HKQ : Hid (k = Q.length) := by have := HKl.out; show _ = _; omega
            clear hlt
            go_wp2_with fail
            go_ret
            obtain rfl := HKQ.out
            rw [List.take_length] at HO2
            obtain ⟨a7, c7, rfl⟩ := own_slice HO2.out
            rw [HR.out, List.length_map]
            exact ⟨a7, ⟨c7, rfl⟩, Si.ofOwn (by simp) HO2.out, HB5.out.trans (HB2.out.mono (by have := HZ5.out; have := HBx.out; omega))⟩
      · have her' : ((er : Int) != 0) = true := by rw [bne_iff_ne]; omega
        rw [if_neg her] at HR
        simp only
        go_wp2_with fail
        go_ret
        rw [HR.out]
        exact ⟨_, _, rfl, Si.built w5 [-1] 3, HB5.out.trans ((from_alloc _ _).mono (by have := HZ5.out; have := HBw.out; omega))⟩
end Go.Proofs.Ytkippnfijjhobab
