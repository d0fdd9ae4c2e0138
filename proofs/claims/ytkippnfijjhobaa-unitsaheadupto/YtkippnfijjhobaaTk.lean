/- DERIVED. The document's Join. -/
import Derived.Test.YtkippnfijjhobaaTi
namespace Go.Proofs.Ytkippnfijjhobaa
open Go.RowKit

theorem by_one (V : World) {K : Int} {k : Nat} (hK : K = (k : Int)) (hk : k < 256) : By (V.alloc (.cells #[.int .u8 K] 5)) (V.heap.size + 1) (.slice (some ⟨V.heap.size, 0, none⟩) 1 1) [k] := by
  subst hK
  have hz : (some (⟨V.heap.size, 0, none⟩ : Addr) = none → 1 = 0) := by intro e; cases e
  refine ⟨⟨some ⟨V.heap.size, 0, none⟩, 1, rfl, Nat.le_refl _, hz, Or.inr ⟨V.heap.size, 0, rfl, by omega, fun j hj => ?_⟩⟩, fun i => ?_, by simp⟩
  · simp at hj; subst hj; simp
  · cases i with
    | zero => simpa using hk
    | succ i => simp

theorem Wf.below' {w w' : World} {B x : Nat} {d : Value} {l : List Nat} {t V : Nat} (h : Wf w B x d l t V) (hb : Below w.heap.size w w') : Wf w' B x d l t V := h.below hb

set_option maxHeartbeats 4000000 in
set_option maxRecDepth 100000 in
theorem rjoin_any {w : World} {N : Nat} {v : Value} {P : List Pc} (h : Ob w N v P) (hN : N ≤ w.heap.size) (hL : szP P ≤ 1099511627776) (hPl : P.length ≤ 4398046511104) :
    Calls Try.prog 18 #[v] w fun e w' => JnQ w.heap.size w (joinP P []) e w' := by
  obtain ⟨a, c, rfl, hc⟩ := h.sl
  obtain ⟨B, hB⟩ : ∃ B, B = w.heap.size := ⟨_, rfl⟩
  rw [← hB] at hN ⊢
  have HH : Hid (Ob w N (.slice a P.length c) P) := h
  have HBz : Hid (B = w.heap.size) := hB
  have HSZ : Hid (szP P ≤ 1099511627776) := hL
  clear h hB hL
  go_enter Try.func18, Try.ntmps18
  go_wp2_with fail
  go_loopw [4, 5] (fun bv iv wr => JnI B w P bv iv wr) (fun _ iv _ => P.length - (intOf iv).toNat)
  case atStart => exact ⟨0, [], rfl, by omega, ⟨none, 0, rfl, World.ownsRow_nil _ _ _ _⟩, by rw [HBz.out]; exact Below.refl _ _, rfl, by show _ ≤ _; simp⟩
  case round =>
    obtain ⟨j, C, rfl, hj, ⟨ab, cb, rfl, hown⟩, hb, HS, HZ⟩ := hrel
    have HO : Hid (wr.ownsRow B 5 1 (.slice ab C.length cb) C.length (bs C)) := hown
    have HB : Hid (Below B w wr) := hb
    clear hown hb
    by_cases hlt : j < P.length
    · obtain ⟨bb, oo, rfl, hbN, hcell⟩ := HH.out.form (by omega)
      obtain ⟨ad, m, cc, hx0, hx1, hm, hby⟩ := hcell j hlt
      have hbw : bb < B := by omega
      have HC : Hid (∀ u : World, Below B w u → u.cell? ⟨bb, oo + j * 2, none⟩ = some (.int .i64 (P.getD j p0).1) ∧ u.cell? ⟨bb, oo + j * 2 + 1, none⟩ = some (.slice ad m cc)) := fun u hu => ⟨by rw [newCell hu bb _ hbw]; exact hx0, by rw [newCell hu bb _ hbw]; exact hx1⟩
      obtain ⟨z0, z1⟩ := HC.out _ HB.out
      have hi1 : (0 : Int) ≤ (j : Int) := by omega
      have hi2 : (j : Int) < (P.length : Int) := by omega
      have HT : Hid (∀ u : World, Calls Try.prog 28 #[.int .i64 (P.getD j p0).1] u fun e w' => e = .returned (.bool (tyB (P.getD j p0).1)) ∧ u = w') := fun u => (one_any _ u).mono (by rintro e w' ⟨h1, h2⟩; exact ⟨h1, h2.symm⟩)
      have HBY : Hid (By w N (.slice ad m cc) (P.getD j p0).2) := hby
      have HM : Hid (m = (P.getD j p0).2.length) := hm
      have HG : Hid (∀ C, tyB (P.getD j p0).1 = true → (P.getD j p0).2.length ≤ 16777216 → joinP (P.drop j) C = joinP (P.drop (j + 1)) (C ++ pcB (P.getD j p0))) := fun C h1 h2 => join_go hlt h1 h2
      have HG2 : Hid (tyB (P.getD j p0).1 = false → joinP (P.drop j) C = ([], 2)) := fun h1 => join_ty hlt h1
      have HG3 : Hid (tyB (P.getD j p0).1 = true → 16777216 < (P.getD j p0).2.length → joinP (P.drop j) C = ([], 5)) := fun h1 h2 => join_big hlt h1 h2
      have HZ2 : Hid (szP (P.drop j) = (P.getD j p0).2.length + 6 + szP (P.drop (j + 1))) := sz_drop hlt
      clear hcell hby hm hx0 hx1
      generalize P.getD j p0 = p at *
      obtain ⟨t, D⟩ := p
      simp only at *
      cases hty : tyB t with
      | false =>
        rw [hty] at HT
        go_wp2_with fail
        refine (HT.out _).mono ?_; rintro e w1 ⟨rfl, rfl⟩
        go_wp2_with fail
        go_ret2
        exact join_no (by rw [HS.out, HG2.out hty]) HB.out rfl
      | true =>
        rw [hty] at HT
        by_cases hmx : 16777216 < m
        · go_wp2_with fail
          refine (HT.out _).mono ?_; rintro e w1 ⟨rfl, rfl⟩
          go_wp2_with fail
          go_ret2
          exact join_no (by rw [HS.out, HG3.out hty (by rw [← HM.out]; exact hmx)]) HB.out rfl
        · have hml : m ≤ 16777216 := by omega
          have HLB : Hid (∀ (x : Nat) (u : World), Wf u x x (.slice none 0 0) [] 0 0 → Calls Try.prog 30 #[.pointer (some ⟨x, 0, none⟩), .int .u32 (m : Int)] u fun e w' => e = .returned (.int .i64 0) ∧ ∃ d' l' T X, T ≤ 40 ∧ gat l' = lebB m ∧ Wf w' x x d' l' T X ∧ Kw x (.slice none 0 0) d' u w') := fun x u hu => rleb_wf rfl (by omega) hu
          have hzz := HZ.out
          rw [HZ2.out, ← HM.out] at hzz
          have hCl : C.length + m + 6 ≤ 1099511627776 := by have := HSZ.out; omega
          have hll := lebB_len m
          have HZZ : Hid _ := hzz
          have ht3 := (tyB_iff t).1 hty
          obtain ⟨k, hk⟩ : ∃ k : Nat, k = (16 * t).toNat := ⟨_, rfl⟩
          have hk1 : 16 * t = (k : Int) := by omega
          have hk256 : k < 256 := by omega
          have HK : Hid (16 * t = (k : Int)) := hk1
          have HKN : Hid (k = (16 * t).toNat) := hk
          have t0 : 1 ≤ t := by omega
          have t1 : t ≤ 3 := by omega
          clear hzz hk hk1 ht3
          go_wp2_with fail
          refine (HT.out _).mono ?_; rintro e w1 ⟨rfl, rfl⟩
          go_wp2_with fail
          refine (write_wf _).mono ?_; rintro e w2 ⟨rfl, hf2, hb2⟩
          have hBw : B ≤ wr.heap.size := by have := HB.out.size; have := HBz.out; omega
          have HBw : Hid (B ≤ wr.heap.size) := hBw
          have HF2 : Hid (Wf w2 wr.heap.size wr.heap.size (.slice none 0 0) [] 0 0) := hf2
          have HB2 : Hid (Below wr.heap.size wr w2) := hb2
          have HW : Hid (∀ u, Below wr.heap.size wr u → Below B w u) := fun u hu => HB.out.trans (hu.mono HBw.out)
          obtain ⟨z02, z12⟩ := HC.out _ (HW.out _ hb2)
          clear hf2 hb2 hBw
          go_wp2_with fail
          refine (HLB.out _ _ HF2.out).mono ?_; rintro e w3 ⟨rfl, d3, l3, T, X, hT, hgl, hf3, hk3⟩
          have HF3 : Hid (Wf w3 wr.heap.size wr.heap.size d3 l3 T X) := hf3
          have HB3 : Hid (Below wr.heap.size wr w3) := HB2.out.trans (HF2.out.kwBelow hk3)
          have HGL : Hid (gat l3 = lebB m) := hgl
          obtain ⟨z03, z13⟩ := HC.out _ (HW.out _ HB3.out)
          have hO3 : (w3.alloc (.cells #[.int .u8 (16 * t)] 5)).ownsRow B 5 1 (.slice ab C.length cb) C.length (bs C) := (own_below HO.out HB3.out).alloc _
          have hby3 := by_one w3 HK.out hk256
          have hs3 : B ≤ (w3.alloc (.cells #[.int .u8 (16 * t)] 5)).heap.size := by have := HB3.out.size; have := HBw.out; simp; omega
          clear hf3 hk3 hgl
          go_wp2_with (at_builtin; refine wpList_append_by _ (by rfl) _ _ (by rfl) B _ C.length C [k] _ _ rfl hO3 hby3 hs3 (by simp; omega) (by rfl) (by rfl) ?_; intro a4 c4 w4 hO4 hg4 hb4)
          have hlow : ∀ g, (Value.slice ab C.length cb).ownBlock = some g → g < wr.heap.size := fun g hg => (HO.out.lt g hg).2
          have hsz4 : w3.heap.size + 1 ≤ w4.heap.size := by have := hg4.size; simpa using this
          have hf4 : Wf w4 wr.heap.size wr.heap.size d3 l3 T X := by
            have h3 := HF3.out
            refine h3.carry ?_ (fun g hg => ?_) (by omega)
            · rw [hg4.block _ (by have := h3.low; simp; omega) (fun e => by have := hlow _ e.symm; omega)]
              exact Below.heap_alloc _ _ _ h3.low.2
            · have h5 := h3.own.lt g hg
              rw [hg4.block _ (by simp; omega) (fun e => by have := hlow _ e.symm; omega)]
              exact Below.heap_alloc _ _ _ h5.2
          have hB4 : Below B w w4 := (HW.out _ (to_alloc HB3.out _)).trans hb4
          have HB4 : Hid (Below B w w4) := hB4
          have HO4 : Hid _ := hO4
          have hs4 : B ≤ w4.heap.size := by have := HBw.out; have := HB3.out.size; omega
          refine (bytes_wf hf4 (by omega)).mono ?_; rintro e w5 ⟨a5, c5, rfl, hown5, hb5⟩
          rw [HGL.out] at hown5 ⊢
          have hO5 : w5.ownsRow B 5 1 (.slice a4 (C.length + [k].length) c4) (C.length + [k].length) (bs (C ++ [k])) := own_below HO4.out hb5
          have hby5 : By w5 w5.heap.size (.slice a5 (lebB m).length c5) (lebB m) := By.ofOwn rfl hown5 (lebA_byt 4 m (by omega)) (by omega)
          have HB5 : Hid (Below B w w5) := HB4.out.trans (hb5.mono hs4)
          have hs5 : B ≤ w5.heap.size := Nat.le_trans hs4 hb5.size
          obtain ⟨z05, z15⟩ := HC.out _ HB5.out
          clear hO4 hg4 hb4 hf4 hB4 hown5 hb5 hO3 hby3 hs3 hs4 hlow hsz4
          go_wp2_with (at_builtin; first | (refine wpList_append_by _ (by rfl) _ _ (by rfl) B _ _ (C ++ [k]) (lebB m) _ _ (by simp) hO5 hby5 hs5 (by simp; omega) (by rfl) (by rfl) ?_; intro a6 c6 w6 hO6 hg6 hb6; have HB6 : Hid (Below B w w6) := HB5.out.trans hb6; have z16 := (HC.out _ HB6.out).2; have hs6 : B ≤ w6.heap.size := Nat.le_trans hs5 hb6.size; have hby6 : By w6 N (.slice ad m cc) D := HBY.out.below HB6.out hN; clear hO5 hby5 hs5 hg6 hb6) | (refine wpList_append_by _ (by rfl) _ _ (by rfl) B _ _ (C ++ [k] ++ lebB m) D _ _ (by simp; omega) hO6 hby6 hs6 (by have := HM.out; simp; omega) (by rfl) (by rfl) ?_; intro a7 c7 w7 hO7 hg7 hb7))
          go_roundw
          case rel =>
            have hhd : C ++ [k] ++ lebB m ++ D = C ++ pcB (t, D) := by rw [pcB_eq, ← HM.out, HKN.out]; simp
            rw [hhd] at hO7
            have hln : (C ++ pcB (t, D)).length = C.length + [k].length + (lebB m).length + D.length := by rw [← hhd]; simp; omega
            refine ⟨j + 1, C ++ pcB (t, D), by go_num, by omega, ⟨a7, c7, by rw [hln]; rfl, by rw [hln]; exact hO7⟩, HB6.out.trans hb7, ?_, ?_⟩
            · show _ = _
              rw [HS.out, HG.out C hty (by rw [← HM.out]; exact hml)]
            · show _ ≤ _
              have := HZZ.out
              have := HM.out
              rw [hln]
              simp
              omega
          case measure => simp [intOf]; omega
    · go_wp2_with fail
      go_ret2
      rw [HS.out, join_end (by omega)]
      exact ⟨ab, cb, rfl, HO.out, HB.out⟩
end Go.Proofs.Ytkippnfijjhobaa
