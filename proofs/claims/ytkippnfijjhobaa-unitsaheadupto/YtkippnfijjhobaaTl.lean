/- DERIVED. Copy, Same. -/
import Derived.Test.YtkippnfijjhobaaTc
import Derived.Test.YtkippnfijjhobaaTi
namespace Go.Proofs.Ytkippnfijjhobaa
open Go.RowKit

/-- 'append(l, Obu{..})' in a region that draws its order, in whatever world -/
theorem step_append_pcV (V : World) {ops : Array Oper} {o : Oper} {a : Act} {K : Act → World → Prop} {Q : Exit → Act → World → Prop} {E : Prop} (hgd : o.guard = none) (s x : Operand)
    (ho : o.op = .call { callee := .builtin .append, args := #[s, x], argTypes := #[24, 24] })
    (B H : Nat) (L : List Oh) (v : Value) (h : Oh) (h0 : V.cell? ⟨H, 0, none⟩ = some (.int .i64 h.1)) (h1 : V.cell? ⟨H, 1, none⟩ = some h.body) (hown : Ow V B v L) (hB : B ≤ V.heap.size) (hL : L.length < 4398046511104)
    (hs : a.eval s = v) (hx : a.eval x = .slice (some ⟨H, 0, none⟩) 1 1)
    (k : ∀ g cap w', Ow w' B (.slice (some ⟨g, 0, none⟩) (L.length + 1) cap) (L ++ [h]) → V.grownBy w' v.ownBlock → (v.ownBlock = some g ∨ V.heap.size ≤ g) → Below B V w' → K (a.put o.dst (.slice (some ⟨g, 0, none⟩) (L.length + 1) cap)) w') :
    if Region.wanted o (yielded ops a.tmps) = true then Oper.wp Try.prog o a V K Q else E := by
  obtain ⟨i, hi, hz0, hz1, hz2⟩ := info_parts Try.infoObu
  have hnews : ∀ j u, (oc [h])[j]? = some u → V.cell? ((⟨H, 0, none⟩ : Addr).add j) = some u := by
    intro j u hu
    have e : oc [h] = [.int .i64 h.1, h.body] := rfl
    rw [e] at hu
    rw [addr_add, Nat.zero_add]
    cases j with
    | zero => simp at hu; rw [← hu]; exact h0
    | succ j =>
      cases j with
      | zero => simp at hu; rw [← hu]; exact h1
      | succ j => simp at hu
  refine step_append_lies _ hgd s x 24 ho B 44 i _ 2 32 Try.underlying24 hi hz0 hz1 hz2 rfl (by omega) v L.length (oc L) hs hown.own ⟨H, 0, none⟩ 1 1 (oc [h]) hx (by rfl) hnews (oc_one _) (by omega) (by unfold maxLen; omega) (by omega) hB V.heap.size rfl ?_
  intro g cap w' hown' hgrow hat _
  have hbb := grown_below hgrow hB (fun g hg => (hown.own.lt g hg).1)
  exact k g cap w' ⟨by rw [oc_append, List.length_append]; exact hown'⟩ hgrow (by rcases hat with e | e; exact Or.inl e; exact Or.inr (by omega)) hbb
theorem Ow.alloc {w : World} {B : Nat} {v : Value} {L : List Oh} (h : Ow w B v L) (o : Obj) : Ow (w.alloc o) B v L := ⟨h.own.alloc o⟩
theorem Ow.drew {w : World} {B : Nat} {v : Value} {L : List Oh} (h : Ow w B v L) : Ow w.drew B v L := ⟨h.own⟩
theorem Bo.alloc {w : World} {B : Nat} {L : List Oh} {P : List Pc} (h : Bo w B L P) (o : Obj) : Bo (w.alloc o) B L P := h.to (from_alloc _ _)
theorem take_snoc {P : List Pc} {j : Nat} (hj : j < P.length) : P.take (j + 1) = P.take j ++ [P.getD j p0] := by
  rw [List.take_add_one, List.getD_eq_getElem?_getD, List.getElem?_eq_getElem hj]
  rfl

def CoI (B : Nat) (w0 : World) (P : List Pc) (ov iv : Value) (wr : World) : Prop := ∃ j : Nat, iv = .int .i64 (j : Int) ∧ j ≤ P.length ∧ Ol wr B ov (P.take j) ∧ Below B w0 wr
/-- a copy's list, one piece longer -/
theorem co_step {B j n c : Nat} {w0 w1 w' : World} {P : List Pc} {L : List Oh} {v v' : Value} {a : Option Addr} {D : List Nat} {t : Int} (hj : j < P.length) (hp : P.getD j p0 = (t, D)) (ho : Ow w1 B v L) (hbo : Bo w1 B L (P.take j)) (hn : n = D.length) (hw : w1.ownsRow B 5 1 (.slice a n c) n (bs D)) (hz : ∀ i, D.getD i 0 < 256) (hl : D.length ≤ 140737488355328)
    (hw' : Ow w' B v' (L ++ [(t, a, n, c)])) (hg : w1.grownBy w' v.ownBlock) (hb : Below B w0 w') {I : Int} (hI : I = ((j + 1 : Nat) : Int)) : CoI B w0 P v' (.int .i64 I) w' := by
  subst hI
  refine ⟨j + 1, rfl, by omega, ⟨_, hw', ?_⟩, hb⟩
  rw [take_snoc hj, hp]
  exact (hbo.snoc hn hw hz hl).grown ho.own hg

set_option maxHeartbeats 4000000 in
set_option maxRecDepth 100000 in
theorem copy_pcs {w : World} {N : Nat} {v : Value} {P : List Pc} (h : Ob w N v P) (hN : N ≤ w.heap.size) (hPl : P.length ≤ 4398046511104) :
    Calls Try.prog 16 #[v] w fun e w' => ∃ v', e = .returned v' ∧ Ol w' w.heap.size v' P ∧ Below w.heap.size w w' := by
  obtain ⟨a, c, rfl, hc⟩ := h.sl
  obtain ⟨B, hB⟩ : ∃ B, B = w.heap.size := ⟨_, rfl⟩
  rw [← hB] at hN ⊢
  have HH : Hid (Ob w N (.slice a P.length c) P) := h
  have HBz : Hid (B = w.heap.size) := hB
  clear h hB
  go_enter Try.func16, Try.ntmps16
  go_wp2_with fail
  go_loopw [3, 4] (fun ov iv wr => CoI B w P ov iv wr) (fun _ iv _ => P.length - (intOf iv).toNat)
  case atStart => exact ⟨0, rfl, by omega, Ol.nil _ _, by rw [HBz.out]; exact Below.refl _ _⟩
  case round =>
    obtain ⟨j, rfl, hj, ho, hb⟩ := hrel
    have HB : Hid (Below B w wr) := hb
    by_cases hlt : j < P.length
    · obtain ⟨L, hL1, hL2⟩ := ho
      have HL1 : Hid (Ow wr B u3 L) := hL1
      have HL2 : Hid (Bo wr B L (P.take j)) := hL2
      have hLj : L.length = j := by have := hL2.len; rw [List.length_take] at this; omega
      have HLj : Hid (L.length = j) := hLj
      obtain ⟨bb, oo, rfl, hbN, hcell⟩ := HH.out.form (by omega)
      obtain ⟨ad, m, cc, hx0, hx1, hm, hby⟩ := hcell j hlt
      have hbw : bb < B := by omega
      have hBw : B ≤ wr.heap.size := by have := hb.size; have := HBz.out; omega
      have z0 : wr.cell? ⟨bb, oo + j * 2, none⟩ = some (.int .i64 (P.getD j p0).1) := by rw [newCell hb bb _ hbw]; exact hx0
      have z1 : wr.cell? ⟨bb, oo + j * 2 + 1, none⟩ = some (.slice ad m cc) := by rw [newCell hb bb _ hbw]; exact hx1
      have hi1 : (0 : Int) ≤ (j : Int) := by omega
      have hi2 : (j : Int) < (P.length : Int) := by omega
      have HM : Hid (m = (P.getD j p0).2.length) := hm
      have HBw : Hid (B ≤ wr.heap.size) := hBw
      have HPJ : Hid (∃ p, P.getD j p0 = p) := ⟨_, rfl⟩
      have HBY : Hid (By w N (.slice ad m cc) (P.getD j p0).2) := hby
      have HCP : Hid (∀ u : World, Below wr.heap.size wr u → Calls Try.prog 9 #[.slice ad m cc] u fun e w' => ∃ a5 c5, e = .returned (.slice a5 m c5) ∧ w'.ownsRow B 5 1 (.slice a5 m c5) m (bs (P.getD j p0).2) ∧ Below wr.heap.size wr w' ∧ w'.cell? ⟨bb, oo + j * 2, none⟩ = some (.int .i64 (P.getD j p0).1)) := fun u hu => by
        refine (rcopy_any (HBY.out.below (HB.out.trans (hu.mono HBw.out)) hN)).mono ?_
        rintro e w' ⟨a5, c5, rfl, h4, h5⟩
        rw [← HM.out] at h4 ⊢
        have h6 := hu.size
        have h7 : Below wr.heap.size wr w' := below_to hu h5
        exact ⟨a5, c5, rfl, own_mono h4 (by have := HBw.out; omega), h7, by rw [newCell h7 bb _ (by have := HBw.out; omega)]; exact z0⟩
      have HDR : Hid (Below wr.heap.size wr wr.drew) := below_drew (Below.refl _ _)
      generalize hpj : P.getD j p0 = p at *
      obtain ⟨t, D⟩ := p
      have HP : Hid (P.getD j p0 = (t, D)) := hpj
      clear hpj hL1 hL2 hLj hcell hx0 hx1 hm hby hb HPJ hBw
      simp only at *
      go_wp2_with fail
      go_region_law (first
        | (refine step_append_pcV _ (by rfl) _ _ (by rfl) B w5.heap.size L u3 (t, a5, m, c5) (by simp) (by simp [Oh.body]) hL5 (by simp; omega) (by have := HLj.out; omega) (by rfl) (by rfl) ?_; intro g cap w6 hO6 hg6 hat6 hb6)
        | (go_simp; go_at_call 9; (with_reducible refine (HCP.out _ HDR.out).mono ?_); rintro e w5 ⟨a5, c5, rfl, hown5, hb5, hz5⟩; have hL5 : Ow (w5.alloc (.cells #[.int .i64 t, .slice a5 m c5] 44)) B u3 L := (HL1.out.to hb5).alloc _; have hs5 : B ≤ w5.heap.size := Nat.le_trans HBw.out hb5.size))
      all_goals
        go_wp2_with fail
        go_roundw
        case rel =>
          have hbb : Below B w (w5.alloc (.cells #[.int .i64 t, .slice a5 m c5] 44)) := HB.out.trans ((to_alloc hb5 _).mono HBw.out)
          exact co_step hlt HP.out hL5 ((HL2.out.to hb5).alloc _) HM.out (hown5.alloc _) HBY.out.byt HBY.out.len hO6 hg6 (hbb.trans hb6) (by omega)
        case measure => simp [intOf]; omega
    · go_wp2_with fail
      go_ret
      have e : P.take j = P := List.take_of_length_le (by omega)
      rw [e] at ho
      exact ⟨_, rfl, ho, HB.out⟩
end Go.Proofs.Ytkippnfijjhobaa
