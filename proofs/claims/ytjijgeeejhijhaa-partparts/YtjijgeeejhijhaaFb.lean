/- DERIVED. The walk of cover. -/
import Derived.Test.YtjijgeeejhijhaaFa
import Derived.Test.YtjijgeeejhijhaaDb
import Derived.Laws.ResultCell
namespace Go.Proofs.Ytjijgeeejhijhaa
open Go.RowKit

theorem w64 {n : Int} (h0 : 0 ≤ n) (h1 : n < 9223372036854775808) : wrap64 n = n := by unfold wrap64; omega
theorem fr_far {w : World} {b : Nat} {x y a c : Int} (h : Fr w b x y a c) {p o : Nat} (hp : b ≠ p) (v : Value) : Fr (w.setCell ⟨p, o, none⟩ v) b x y a c := by
  refine ⟨?_, ?_, ?_, ?_⟩ <;> rw [World.cell?_setCell_other _ _ _ _ (fun e => hp (by simpa using (congrArg Addr.block e).symm))]
  · exact h.r0
  · exact h.r1
  · exact h.r2
  · exact h.r3
theorem cnt_le (l : List Rc) (px py : Int) : cnt l px py ≤ l.length := by
  induction l with
  | nil => simp [cnt]
  | cons p l ih => rw [cnt_cons, List.length_cons]; have := inn_le p px py; omega
/-- what the loops of cover keep -/
structure Cw (W : World) (pr : Nat) (X Y S : Int) (a : Option Addr) (l : List Rc) (L : List Int) (t : World) : Prop where
  fr : Fr t pr X Y S S
  res : Ri 41 t (pr + 1) (List.replicate 64 0)
  out : Ri 41 t (pr + 1 + 1) L
  sr : Sr t a l
  far : ∀ b o, l ≠ [] → a = some ⟨b, o, none⟩ → b < pr
  bel : Below pr W t
  sz : pr + 1 + 1 < t.heap.size
theorem Cw.to {W : World} {pr : Nat} {X Y S : Int} {a : Option Addr} {l : List Rc} {L : List Int} {t t' : World} (h : Cw W pr X Y S a l L t) (hb : Below t.heap.size t t') : Cw W pr X Y S a l L t' :=
  ⟨h.fr.below hb (by have := h.sz; omega), h.res.below hb (by have := h.sz; omega), h.out.below hb (by have := h.sz; omega), h.sr.to hb, h.far, h.bel.trans (hb.mono (by have := h.sz; omega)), Nat.lt_of_lt_of_le h.sz hb.size⟩
theorem Cw.set {W : World} {pr : Nat} {X Y S : Int} {a : Option Addr} {l : List Rc} {L : List Int} {t : World} (h : Cw W pr X Y S a l L t) (j : Nat) (v : Int) : Cw W pr X Y S a l (L.set j v) (t.setCell ⟨pr + 1 + 1, j, none⟩ (.int .i64 v)) := by
  refine ⟨fr_far h.fr (by omega) _, h.res.far (by simp) _, h.out.set j v, ?_, h.far, below_set h.bel (by simp; omega) _, by simpa using h.sz⟩
  rcases h.sr with hs | ⟨b, o, h1, h2, h3⟩
  · exact Or.inl hs
  · by_cases h0 : l = []
    · exact Or.inl h0
    · have := h.far b o h0 h1
      exact Or.inr ⟨b, o, h1, by simpa using h2, fun i hi => by rw [World.cell?_setCell_other _ _ _ _ (fun e => by have := congrArg Addr.block e; simp at this; omega)]; exact h3 i hi⟩
set_option maxRecDepth 100000 in
set_option maxHeartbeats 16000000 in
theorem cover_ok {W : World} {X Y S : Int} {a : Option Addr} {c : Nat} {l : List Rc} (hs : Sr W a l) (hl : l.length ≤ 1000) (hX : 0 ≤ X ∧ X ≤ 10000) (hY : 0 ≤ Y ∧ Y ≤ 10000) (hS : 0 ≤ S ∧ S ≤ 64) (hg : ∀ p ∈ l, Gd X Y S p) :
    Calls Try.prog 20 #[.agg #[.int .i64 X, .int .i64 Y, .int .i64 S, .int .i64 S], .slice a l.length c] W fun e w' => e = .returned (.tuple #[.agg (is (tf (cvF l X Y))).toArray, .bool true]) ∧ Below W.heap.size W w' := by
  obtain ⟨X0, X1⟩ := hX
  obtain ⟨Y0, Y1⟩ := hY
  obtain ⟨S0, S1⟩ := hS
  have HGd : Hid (∀ p ∈ l, Gd X Y S p) := hg
  have hz0 : tf (cvF [] X Y) = List.replicate 64 0 := by
    rw [show List.replicate 64 (0 : Int) = tf (fun _ => 0) from by decide +kernel]
    exact tf_eq fun j _ => rfl
  have HW0 : Hid (Cw W W.heap.size X Y S a l (tf (cvF (l.take 0) X Y)) (((W.alloc (.cells #[.int .i64 X, .int .i64 Y, .int .i64 S, .int .i64 S] 23)).alloc (.cells (is (List.replicate 64 0)).toArray 41)).alloc (.cells (is (List.replicate 64 0)).toArray 41))) := by
    have hb0 := from_alloc W (.cells #[.int .i64 X, .int .i64 Y, .int .i64 S, .int .i64 S] 23)
    refine ⟨⟨by simp [go_sem], by simp [go_sem], by simp [go_sem], by simp [go_sem]⟩, ?_, ?_, Sr.to hs (to_alloc (to_alloc hb0 _) _), fun b o h0 e => ?_, to_alloc (to_alloc hb0 _) _, by simp⟩
    · exact Ri.to (Ri.mk (t := 41) (heap_alloc_at (by simp))) (from_alloc _ _)
    · rw [List.take_zero, hz0]; exact Ri.mk (heap_alloc_at (by simp))
    · rcases hs with hs | ⟨b', o', h1, h2, _⟩
      · exact absurd hs h0
      · rw [e] at h1; simp only [Option.some.injEq, Addr.mk.injEq] at h1; rw [h1.1]; exact h2
  have HLl : Hid (l.length ≤ 1000) := hl
  clear hz0 hs hl hg
  go_enter Try.func20, Try.ntmps20
  go_wp2_with fail
  generalize hP : W.heap.size = pr at *
  have HP : Hid (W.heap.size = pr) := hP
  clear hP
  go_loopw [7] (fun i wr => ∃ k : Nat, k ≤ l.length ∧ i = .int .i64 k ∧ Cw W pr X Y S a l (tf (cvF (l.take k) X Y)) wr) (fun i _ => l.length - (intOf i).toNat)
  case atStart => exact ⟨0, by omega, rfl, HW0.out⟩
  case round =>
    clear HW0
    obtain ⟨k, hk, rfl, hcw⟩ := hrel
    have HC : Hid (Cw W pr X Y S a l (tf (cvF (l.take k) X Y)) wr) := hcw
    clear hcw
    by_cases hlt : k < l.length
    · have hp := HGd.out _ (getD_mem hlt)
      have HT : Hid (l.take (k + 1) = l.take k ++ [l.getD k rz]) := by
        show _ = _
        rw [List.take_succ_eq_append_getElem hlt, List.getD_eq_getElem?_getD, List.getElem?_eq_getElem hlt]; rfl
      obtain ⟨b, o, ea, hbl, hcl⟩ := HC.out.sr.form (by omega)
      obtain ⟨q0, q1, q2, q3⟩ := hcl k hlt
      have HK : Hid (k < l.length) := hlt
      have HB : Hid (∀ j, 0 ≤ cvF (l.take k) X Y j ∧ cvF (l.take k) X Y j ≤ 1000) := fun j => by
        have h1 := cnt_le (l.take k) (X + 8 * ((j % 8 : Nat) : Int)) (Y + 8 * ((j / 8 : Nat) : Int))
        have h2 : (l.take k).length ≤ l.length := by rw [List.length_take]; omega
        have h3 := HLl.out
        unfold cvF; omega
      generalize hB : cvF (l.take k) X Y = B at *
      have HBe : Hid (cvF (l.take k) X Y = B) := hB
      generalize l.getD k rz = p at *
      obtain ⟨px, py, pw, ph⟩ := p
      obtain ⟨g0, g1, g2, g3, g4, g5, g6, g7, g8, g9⟩ := hp
      simp only at g0 g1 g2 g3 g4 g5 g6 g7 g8 g9 q0 q1 q2 q3
      obtain ⟨c0, hc0⟩ : ∃ n : Nat, py - Y = 8 * (n : Int) := ⟨((py - Y) / 8).toNat, by omega⟩
      obtain ⟨ch, hch⟩ : ∃ n : Nat, ph = 8 * (n : Int) := ⟨(ph / 8).toNat, by omega⟩
      obtain ⟨d0, hd0⟩ : ∃ n : Nat, px - X = 8 * (n : Int) := ⟨((px - X) / 8).toNat, by omega⟩
      obtain ⟨dw, hdw⟩ : ∃ n : Nat, pw = 8 * (n : Int) := ⟨(pw / 8).toNat, by omega⟩
      have HN : Hid (tf (cvF (l.take (k + 1)) X Y) = tf (fun j => B j + bx c0 (c0 + ch) d0 (d0 + dw) j)) := by
        show _ = _
        rw [HT.out, ← HBe.out]
        exact tf_eq fun j _ => cvF_cons hc0 hch hd0 hdw j
      obtain ⟨cE, hcE⟩ : ∃ n : Nat, n = c0 + ch := ⟨_, rfl⟩
      obtain ⟨dE, hdE⟩ : ∃ n : Nat, n = d0 + dw := ⟨_, rfl⟩
      rw [← hcE, ← hdE] at HN
      have e1 : (py - Y).tdiv 8 = (c0 : Int) := by rw [hc0, Int.mul_tdiv_cancel_left _ (by omega)]
      have e2 : (py - Y + ph).tdiv 8 = (cE : Int) := by rw [show py - Y + ph = 8 * (cE : Int) from by omega, Int.mul_tdiv_cancel_left _ (by omega)]
      have e3 : (px - X).tdiv 8 = (d0 : Int) := by rw [hd0, Int.mul_tdiv_cancel_left _ (by omega)]
      have e4 : (px - X + pw).tdiv 8 = (dE : Int) := by rw [show px - X + pw = 8 * (dE : Int) from by omega, Int.mul_tdiv_cancel_left _ (by omega)]
      have t1 := tmod8_yes g6
      have t2 := tmod8_yes g7
      have t3 := tmod8_yes g8
      have t4 := tmod8_yes g9
      have b1 : pw ≤ 64 := by omega
      have b2 : ph ≤ 64 := by omega
      have b3 : px ≤ X + S - pw := by omega
      have b4 : py ≤ Y + S - ph := by omega
      have HLim : Hid (c0 ≤ cE ∧ cE ≤ 8 ∧ d0 ≤ dE ∧ dE ≤ 8) := ⟨by omega, by omega, by omega, by omega⟩
      have HCa := HC.out.to (from_alloc wr (.cells #[.int .i64 px, .int .i64 py, .int .i64 pw, .int .i64 ph] 23))
      have HC1 : Hid (Cw W pr X Y S a l (tf (fun j => B j + bx c0 c0 d0 dE j)) (wr.alloc (.cells #[.int .i64 px, .int .i64 py, .int .i64 pw, .int .i64 ph] 23))) := by
        show Cw _ _ _ _ _ _ _ _ _
        rw [tf_eq (g := B) (fun j _ => by rw [bx_none]; omega)]
        exact HCa
      have HF1 : Hid (Fr (wr.alloc (.cells #[.int .i64 px, .int .i64 py, .int .i64 pw, .int .i64 ph] 23)) wr.heap.size px py pw ph) := Fr.box _ _ _ _ _
      have HZ1 : Hid (wr.heap.size < (wr.alloc (.cells #[.int .i64 px, .int .i64 py, .int .i64 pw, .int .i64 ph] 23)).heap.size) := by show _ < _; simp
      have HP8 : Hid (pr + 1 + 1 < wr.heap.size) := HC.out.sz
      have f0 := HC.out.fr.r0
      have f1 := HC.out.fr.r1
      have f2 := HC.out.fr.r2
      have f3 := HC.out.fr.r3
      have G0 : (wr.alloc (.cells #[.int .i64 px, .int .i64 py, .int .i64 pw, .int .i64 ph] 23)).cell? ⟨pr, 0, none⟩ = some (.int .i64 X) := HCa.fr.r0
      have G1 : (wr.alloc (.cells #[.int .i64 px, .int .i64 py, .int .i64 pw, .int .i64 ph] 23)).cell? ⟨pr, 1, none⟩ = some (.int .i64 Y) := HCa.fr.r1
      have G2 : (wr.alloc (.cells #[.int .i64 px, .int .i64 py, .int .i64 pw, .int .i64 ph] 23)).cell? ⟨pr, 2, none⟩ = some (.int .i64 S) := HCa.fr.r2
      have G3 : (wr.alloc (.cells #[.int .i64 px, .int .i64 py, .int .i64 pw, .int .i64 ph] 23)).cell? ⟨pr, 3, none⟩ = some (.int .i64 S) := HCa.fr.r3
      have k0 : (0 : Int) ≤ (k : Int) := by omega
      have k1 : (k : Int) < (l.length : Int) := by omega
      clear hcl hbl hB HCa hc0 hch hd0 hdw hcE hdE g1 g3 g6 g7 g8 g9 HT HC HGd HBe hlt
      subst ea
      go_upto_region 8 with fail
      generalize (wr.alloc (.cells #[.int .i64 px, .int .i64 py, .int .i64 pw, .int .i64 ph] 23)) = w1 at *
      generalize wr.heap.size = p8 at *
      clear q0 q1 q2 q3 f0 f1 f2 f3 G2 G3
      obtain ⟨x0, x1, x2, x3⟩ := HF1.out
      go_wp2_with fail
      clear x0 x1 x2 x3 G0 G1
      go_loopw [9] (fun i t => ∃ n : Nat, c0 ≤ n ∧ n ≤ cE ∧ i = .int .i64 n ∧ Cw W pr X Y S (some ⟨b, o, none⟩) l (tf (fun j => B j + bx c0 n d0 dE j)) t ∧ Fr t p8 px py pw ph ∧ p8 < t.heap.size) (fun i _ => cE - (intOf i).toNat)
      case atStart => exact ⟨c0, Nat.le_refl _, HLim.out.1, (by have h8 := HLim.out; rw [w64 (by omega) (by omega)]), HC1.out, HF1.out, HZ1.out⟩
      case round =>
        clear HC1 HF1 HZ1
        obtain ⟨n, hn0, hn1, rfl, hcw, hf, hz⟩ := hrel
        have HC2 : Hid (Cw W pr X Y S (some ⟨b, o, none⟩) l (tf (fun j => B j + bx c0 n d0 dE j)) wr) := hcw
        have HF2 : Hid (Fr wr p8 px py pw ph) := hf
        have HZ2 : Hid (p8 < wr.heap.size) := hz
        have HN0 : Hid (c0 ≤ n) := hn0
        clear hcw hf hz
        obtain ⟨x0, x1, x2, x3⟩ := HF2.out
        have G0 := HC2.out.fr.r0
        have G1 := HC2.out.fr.r1
        have hc8 : cE ≤ 8 := HLim.out.2.1
        by_cases hln : n < cE
        · have HLN : Hid (n < cE) := hln
          have n0 : (0 : Int) ≤ (n : Int) := by omega
          have n1 : (n : Int) < (cE : Int) := by omega
          have HC3 : Hid (Cw W pr X Y S (some ⟨b, o, none⟩) l (tf (fun j => B j + bx c0 n d0 dE j + bx n (n + 1) d0 d0 j)) wr) := by
            show Cw _ _ _ _ _ _ _ _ _
            rw [tf_eq (g := fun j => B j + bx c0 n d0 dE j) (fun j _ => by rw [bx_col0]; omega)]
            exact HC2.out
          go_wp2_with fail
          clear x0 x1 x2 x3 G0 G1
          go_loopw [10] (fun i t => ∃ m : Nat, d0 ≤ m ∧ m ≤ dE ∧ i = .int .i64 m ∧ Cw W pr X Y S (some ⟨b, o, none⟩) l (tf (fun j => B j + bx c0 n d0 dE j + bx n (n + 1) d0 m j)) t ∧ Fr t p8 px py pw ph ∧ p8 < t.heap.size) (fun i _ => dE - (intOf i).toNat)
          case atStart => exact ⟨d0, Nat.le_refl _, HLim.out.2.2.1, (by have h8 := HLim.out; rw [w64 (by omega) (by omega)]), HC3.out, HF2.out, HZ2.out⟩
          case round =>
            clear HC3 HC2 HF2 HZ2
            obtain ⟨m, hm0, hm1, rfl, hcw, hf, hz⟩ := hrel
            have HC4 : Hid (Cw W pr X Y S (some ⟨b, o, none⟩) l (tf (fun j => B j + bx c0 n d0 dE j + bx n (n + 1) d0 m j)) wr) := hcw
            have HF4 : Hid (Fr wr p8 px py pw ph) := hf
            have HZ4 : Hid (p8 < wr.heap.size) := hz
            clear hcw hf hz
            obtain ⟨x0, x1, x2, x3⟩ := HF4.out
            have G0 := HC4.out.fr.r0
            have G1 := HC4.out.fr.r1
            have hd8 : dE ≤ 8 := HLim.out.2.2.2
            by_cases hlm : m < dE
            · have HLM : Hid (d0 ≤ m ∧ m < dE) := ⟨hm0, hlm⟩
              have m0 : (0 : Int) ≤ (m : Int) := by omega
              have m1 : (m : Int) < (dE : Int) := by omega
              have c6 := HC4.out.out.cell (n * 8 + m) (by rw [tf_len]; omega)
              have c7 := HC4.out.out.thaw (n * 8 + m)
              rw [tf_get _ (by omega), bx_at] at c6
              have hv := HB.out (n * 8 + m)
              have hb2 : 0 ≤ bx c0 n d0 dE (n * 8 + m) ∧ bx c0 n d0 dE (n * 8 + m) ≤ 1 := by unfold bx; split <;> omega
              have HST : Hid (∀ z, z = B (n * 8 + m) + bx c0 n d0 dE (n * 8 + m) + 0 + 1 → (tf (fun j => B j + bx c0 n d0 dE j + bx n (n + 1) d0 m j)).set (n * 8 + m) z = tf (fun j => B j + bx c0 n d0 dE j + bx n (n + 1) d0 (m + 1) j)) := by
                rintro z rfl
                refine tf_set (by omega) ?_ fun j _ hne => ?_
                · rw [bx_cell hm0 (by omega), if_pos rfl]; omega
                · rw [bx_cell hm0 (by omega), if_neg hne]
              have HC5 : Hid (∀ z, Cw W pr X Y S (some ⟨b, o, none⟩) l ((tf (fun j => B j + bx c0 n d0 dE j + bx n (n + 1) d0 m j)).set (n * 8 + m) z) (wr.setCell ⟨pr + 1 + 1, n * 8 + m, none⟩ (.int .i64 z))) := fun z => HC4.out.set _ z
              have HF5 : Hid (∀ z, Fr (wr.setCell ⟨pr + 1 + 1, n * 8 + m, none⟩ (.int .i64 z)) p8 px py pw ph) := fun z => fr_far HF4.out (by have := HP8.out; omega) _
              obtain ⟨jj, hjj⟩ : ∃ jj : Nat, jj = n * 8 + m := ⟨_, rfl⟩
              have e5 : (n : Int) * 8 + (m : Int) = (jj : Int) := by omega
              have e6 : (jj : Int) < 64 := by omega
              have e7 : (0 : Int) ≤ (jj : Int) := by omega
              rw [← hjj] at c6 c7 hv hb2 HST HC5 HF5
              obtain ⟨v, hvv⟩ : ∃ v : Int, v = B jj + bx c0 n d0 dE jj + 0 := ⟨_, rfl⟩
              have v0 : 0 ≤ v := by omega
              have v1 : v ≤ 2000 := by omega
              rw [← hvv] at c6 HST
              clear hjj hvv hv hb2 HC4 HF4
              go_wp2_with fail
              go_roundw
              case rel => exact ⟨m + 1, by have := HLM.out; omega, by have := HLM.out; omega, by go_num, by rw [← HST.out _ rfl]; exact HC5.out _, HF5.out _, by simpa using HZ4.out⟩
              case measure => simp [intOf]; omega
            · obtain rfl : m = dE := by omega
              have HC6 : Hid (Cw W pr X Y S (some ⟨b, o, none⟩) l (tf (fun j => B j + bx c0 (n + 1) d0 m j)) wr) := by
                show Cw _ _ _ _ _ _ _ _ _
                rw [← tf_eq (f := fun j => B j + bx c0 n d0 m j + bx n (n + 1) d0 m j) (fun j _ => by rw [← bx_row c0 n d0 m HN0.out]; omega)]
                exact HC4.out
              go_wp2_with fail
              go_roundw
              case rel => exact ⟨n + 1, by have := HN0.out; omega, by have := HLN.out; omega, (by have := HLN.out; have := HLim.out.2.1; go_num), HC6.out, HF4.out, HZ4.out⟩
              case measure => have := HLN.out; have := HLim.out.2.1; simp [intOf]; omega
        · obtain rfl : n = cE := by omega
          have hk1 := HK.out
          have hl1 : (l.length : Int) ≤ 1000 := by have := HLl.out; omega
          have hk2 : (k : Int) < (l.length : Int) := by omega
          go_wp2_with fail
          go_roundw
          case rel => exact ⟨k + 1, HK.out, by go_num, by rw [HN.out]; exact HC2.out⟩
          case measure => simp [intOf]; omega
    · obtain rfl : k = l.length := by omega
      have hL : l.take l.length = l := List.take_length
      rw [hL] at HC
      have hll : (tf (cvF l X Y)).length = 64 := tf_len _
      have HR6 : Hid (Ri 41 wr (pr + 1 + 1) (tf (cvF l X Y))) := HC.out.out
      obtain ⟨LL, hLe⟩ : ∃ LL, tf (cvF l X Y) = LL := ⟨_, rfl⟩
      have HLe : Hid (tf (cvF l X Y) = LL) := hLe
      rw [hLe] at HC HR6 hll
      clear hLe
      have HTh : Hid (wr.there (pr + 1) 0 (is LL).toArray.size) := by
        have := ri_there HC.out.res
        rw [List.length_replicate] at this
        show World.there _ _ _ _
        rw [show (is LL).toArray.size = 64 from by simp [is_length, hll]]; exact this
      obtain ⟨a8, h9, h10, h11, h12, h13⟩ := setCells_is (pr + 1) LL _ 0 wr HC.out.res (by simp [hll])
      have h8 : Ri 41 (wr.setCells (pr + 1) 0 (is LL)) (pr + 1) LL := by
        have e : (List.replicate 64 (0 : Int)).take 0 ++ LL ++ (List.replicate 64 (0 : Int)).drop (0 + LL.length) = LL := by rw [List.drop_eq_nil_of_le (by simp [hll])]; simp
        rw [e] at a8; exact a8
      clear a8
      generalize hw' : wr.setCells (pr + 1) 0 (is LL) = w' at *
      have HW' : Hid (wr.setCells (pr + 1) 0 (is LL).toArray.toList = w') := hw'
      have h14 := loadv41 h8 hll
      have HB : Hid (Below pr W w') := ⟨h10.trans HC.out.bel.os, h11.trans HC.out.bel.tape, h12.trans HC.out.bel.output, by rw [h13]; exact HC.out.bel.size, fun i hi => by rw [h9 i (by omega)]; exact HC.out.bel.block i hi⟩
      have HLL : Hid (LL.length = 64) := hll
      clear h8 h9 h10 h11 h12 h13 hL hll hw'
      go_wp2_with (first | (refine wpList_load_mid (by rfl) 41 _ (by rfl) (pr + 1 + 1) 0 (by rfl) (is LL) _ (ri_range HR6.out) Try.underlying41 rfl (by rw [Try.info41, is_length, HLL.out]) ?_) | (refine wpList_store_mid (by rfl) 41 _ _ (by rfl) (pr + 1) 0 (is LL).toArray (by rfl) (by rfl) HTh.out (by rw [Try.info41]; simp [is_length, HLL.out]) (all_oneCell_toArray (is_one LL)) ?_))
      change bodyPost Try.prog _ _ _ _ (wr.setCells (pr + 1) 0 (is LL).toArray.toList)
      rw [HW'.out]
      refine bodyPost_ret (v := .tuple #[.agg (is LL).toArray, .bool true]) (by rw [results_cell_tmp Try.results20]; show ((asAddr (.pointer (some ⟨pr + 1, 0, none⟩))).run Try.prog w').andThen _ = _; rw [show (asAddr (.pointer (some ⟨pr + 1, 0, none⟩))).run Try.prog w' = .ok ⟨pr + 1, 0, none⟩ w' from rfl]; simp only [Result.andThen_ok, h14]; rfl) rfl ?_
      exact ⟨by rw [HLe.out], by rw [HP.out]; exact HB.out⟩
end Go.Proofs.Ytjijgeeejhijhaa
