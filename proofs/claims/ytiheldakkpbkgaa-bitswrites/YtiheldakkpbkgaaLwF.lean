/- DERIVED. The walk of the statement BitsWrites: a writer answers as the document's own. -/
import Derived.Test.YtiheldakkpbkgaaRwD
import Derived.Test.YtiheldakkpbkgaaLwC
namespace Go.Proofs.Ytiheldakkpbkgaa
open Go.RowKit

/-- two writers' blocks are apart -/
def SepW (x : Nat) (d : Value) (y : Nat) (e : Value) : Prop := x ≠ y ∧ d.ownBlock ≠ some y ∧ e.ownBlock ≠ some x ∧ ∀ g, d.ownBlock = some g → e.ownBlock ≠ some g
theorem Wf.kw {a b : World} {B x y t V : Nat} {d d' e : Value} {l : List Nat} (h : Wf a B y e l t V) (hk : Kw x d d' a b) (hs : SepW x d y e) : Wf b B y e l t V :=
  h.carry (hk.block y h.low.2 (Ne.symm hs.1) hs.2.1) (fun g hg => hk.block g (h.own.lt g hg).2 (fun e1 => hs.2.2.1 (by rw [hg, e1])) (fun e1 => hs.2.2.2 g e1 hg)) hk.size
theorem SepW.kw {a b : World} {B x y t V : Nat} {d d' e : Value} {l : List Nat} (hs : SepW x d y e) (hk : Kw x d d' a b) (h : Wf a B y e l t V) : SepW x d' y e :=
  ⟨hs.1, fun e1 => by rcases hk.new y e1 with e2 | e2; exact hs.2.1 e2; have := h.low.2; omega, hs.2.2.1,
   fun g hg e1 => by rcases hk.new g hg with e2 | e2; exact hs.2.2.2 g e2 e1; have := (h.own.lt g e1).2; omega⟩
theorem Wr.kw2 {a b : World} {B x y t V : Nat} {d e e' : Value} {ys : List Nat} (h : Wr a B x d ys t V) (hk : Kw y e e' a b) (hs : SepW x d y e) : Wr b B x d ys t V :=
  h.carry (hk.block x h.low.2 hs.1 hs.2.2.1) (fun g hg => hk.block g (h.own.lt g hg).2 (fun e1 => hs.2.1 (by rw [hg, e1])) (hs.2.2.2 g hg)) hk.size
theorem SepW.kw2 {a b : World} {B x y t V : Nat} {d e e' : Value} {ys : List Nat} (hs : SepW x d y e) (hk : Kw y e e' a b) (h : Wr a B x d ys t V) : SepW x d y e' :=
  ⟨hs.1, hs.2.1, fun e1 => by rcases hk.new x e1 with e2 | e2; exact hs.2.2.1 e2; have := h.low.2; omega,
   fun g hg e1 => by rcases hk.new g e1 with e2 | e2; exact hs.2.2.2 g hg e2; have := (h.own.lt g hg).2; omega⟩

theorem own_below2 {a b : World} {C e size n : Nat} {u : Value} {xs : List Value} (h : a.ownsRow C e size u n xs) (hb : Below a.heap.size a b) : b.ownsRow C e size u n xs := by
  have hlt := h.lt
  refine ⟨h.1, ?_⟩
  rcases h.2 with h1 | ⟨g, cap, cur, rfl, h2, h3, h4⟩
  · exact Or.inl h1
  · exact Or.inr ⟨g, cap, cur, rfl, h2, by rw [hb.block g (hlt g rfl).2]; exact h3, h4⟩
theorem u8_xor255 : ∀ z : Nat, z < 256 → bits .xor .u8 (z : Int) 255 = ((255 - z : Nat) : Int) := by decide +kernel
theorem kwCells {a b : World} {x g : Nat} {d d' u0 u1 u2 : Value} (hk : Kw x d d' a b) (hg : g < a.heap.size) (hx : g ≠ x) (hd : d.ownBlock ≠ some g) (h0 : a.cell? ⟨g, 0, none⟩ = some u0) (h1 : a.cell? ⟨g, 1, none⟩ = some u1) (h2 : a.cell? ⟨g, 2, none⟩ = some u2) :
    b.cell? ⟨g, 0, none⟩ = some u0 ∧ b.cell? ⟨g, 1, none⟩ = some u1 ∧ b.cell? ⟨g, 2, none⟩ = some u2 := by
  have e : ∀ j, b.cell? ⟨g, j, none⟩ = a.cell? ⟨g, j, none⟩ := fun j => World.cell?_of_block (w := a) (a := ⟨g, j, none⟩) (hk.block g hg hx hd)
  rw [e, e, e]
  exact ⟨h0, h1, h2⟩
def XoInv (w4 : World) (n : Nat) (a5 : Option Addr) (c5 : Nat) (kv : Value) (wq : World) : Prop :=
  ∃ (j : Nat) (zs : List Nat), kv = .int .i64 j ∧ j ≤ n ∧ zs.length = n ∧ (∀ i, zs.getD i 0 < 256) ∧ wq.ownsRow w4.heap.size 5 1 (.slice a5 n c5) n (bs zs) ∧ Below w4.heap.size w4 wq

def WtInv (W : World) (n x y : Nat) (i : Value) (wr : World) : Prop :=
  ∃ (k t V : Nat) (d e : Value) (ys l : List Nat), i = .int .i64 k ∧ k ≤ n ∧ k ≤ 200 ∧ Wr wr W.heap.size x d ys t V ∧ Wf wr W.heap.size y e l t V ∧ t ≤ 64 * k ∧ Below W.heap.size W wr ∧ SepW x d y e

set_option maxHeartbeats 8000000 in
set_option maxRecDepth 100000 in
theorem writes_walk (W : World) (a : Option Addr) (c : Nat) (L : List (Int × Int × Nat)) (hL : DoAt W (.slice a L.length c) L) (hLl : L.length ≤ 140737488355328) :
    Calls Try.prog 4 #[.slice a L.length c] W fun e w' => e = .returned (.bool true) ∧ Below W.heap.size W w' := by
  have HDo : Hid (DoAt W (.slice a L.length c) L) := hL
  clear hL
  go_enter Try.func4, Try.ntmps4
  go_wp2_with fail
  refine (write_new W).mono ?_; rintro e u1 ⟨rfl, hw1, hb1⟩
  go_wp2_with fail
  refine (write_wf u1).mono ?_; rintro e u2 ⟨rfl, hf2, hb2⟩
  have hx1 := hw1.low.2
  have hw2 := hw1.below hb2
  have HU2 : Hid (Below W.heap.size W u2) := hb1.trans (hb2.mono hb1.size)
  have hf2' : Wf u2 W.heap.size u1.heap.size (.slice none 0 0) [] 0 0 := ⟨hf2.data, World.ownsRow_nil _ _ _ _, hf2.apart, hf2.thaw, ⟨hb1.size, hf2.low.2⟩, hf2.wb⟩
  have hsep : SepW W.heap.size (.slice none 0 0) u1.heap.size (.slice none 0 0) := ⟨by omega, by simp [Value.ownBlock], by simp [Value.ownBlock], fun g hg => by simp [Value.ownBlock] at hg⟩
  clear hw1 hb1 hb2 hf2
  generalize u1.heap.size = y at *
  obtain ⟨x, hx⟩ : ∃ x, x = W.heap.size := ⟨_, rfl⟩
  have hw2' : Wr u2 W.heap.size x (.slice none 0 0) [] 0 0 := by rw [hx]; exact hw2
  rw [← hx] at hsep
  go_wp2_with fail
  rw [← hx]
  have HX : Hid (x = W.heap.size) := hx
  clear hx hw2 hx1
  go_loopw [5] (fun i wr => WtInv W L.length x y i wr) (fun i _ => L.length - (intOf i).toNat)
  case atStart => exact ⟨0, 0, 0, _, _, [], [], rfl, by omega, by omega, hw2', hf2', by omega, HU2.out, hsep⟩
  case round =>
    clear hw2' hf2' HU2 hsep
    obtain ⟨k, t, V, d, e, ys, l, rfl, hk1, hk2, hw, hf, ht, hbW, hs⟩ := hrel
    have HB : Hid (Below W.heap.size W wr) := hbW
    clear hbW
    by_cases hlt : k < L.length ∧ k < 200
    · obtain ⟨hlt1, hlt2⟩ := hlt
      obtain ⟨b, off, rfl, hbl, hq0, hq1, hq2, hVV⟩ := HDo.out.cells k hlt1
      generalize L.getD k (0, 0, 0) = el at hq0 hq1 hq2 hVV
      obtain ⟨K, N, VV⟩ := el
      simp only at hq0 hq1 hq2 hVV
      replace hq0 : Hid _ := hq0
      replace hq1 : Hid _ := hq1
      replace hq2 : Hid _ := hq2
      obtain ⟨q0, q1, q2⟩ := doCells HB.out hbl hq0 hq1 hq2
      have hle := wrOne_le t V K N VV hVV
      have hb1 : Below wr.heap.size wr (wr.alloc (.cells #[.int .i64 K, .int .i64 N, .int .u32 (VV : Nat)] 34)) := (Below.refl _ _).alloc (Nat.le_refl _) _
      have hw1 := hw.below hb1
      have hf1 := hf.below hb1
      have HB1 : Hid (Below W.heap.size W (wr.alloc (.cells #[.int .i64 K, .int .i64 N, .int .u32 (VV : Nat)] 34))) := HB.out.trans (hb1.mono HB.out.size)
      have hbx0 : (wr.alloc (.cells #[.int .i64 K, .int .i64 N, .int .u32 (VV : Nat)] 34)).cell? ⟨wr.heap.size, 0, none⟩ = some (.int .i64 K) := by simp
      have hbx1 : (wr.alloc (.cells #[.int .i64 K, .int .i64 N, .int .u32 (VV : Nat)] 34)).cell? ⟨wr.heap.size, 1, none⟩ = some (.int .i64 N) := by simp
      have hbx2 : (wr.alloc (.cells #[.int .i64 K, .int .i64 N, .int .u32 (VV : Nat)] 34)).cell? ⟨wr.heap.size, 2, none⟩ = some (.int .u32 (VV : Nat)) := by simp
      have hwl := hw.low.2
      have hdl : Hid (∀ g, d.ownBlock = some g → g < wr.heap.size) := fun g hg => (hw.own.lt g hg).2
      have HWO : Hid (wrOne t V K N VV = match bring5 K with | 0 => wFixed t V VV N | 1 => wSigned t V (sgn VV) N | 2 => wUvlc t V VV | 3 => wLeb t V VV | _ => (0, (wAlign t V).1, (wAlign t V).2)) := rfl
      obtain ⟨⟨fe, t', V'⟩, hwd⟩ : ∃ y, wrOne t V K N VV = y := ⟨_, rfl⟩
      rw [hwd] at hle
      simp only at hle
      have HWD : Hid (wrOne t V K N VV = (fe, t', V')) := hwd
      clear hwd hw hf hb1 HB
      have hb5 := bring5_lt K
      go_wp2_with fail
      have c2 := write_wr hw1 (by omega) K N VV hVV
      rw [HWD.out] at c2
      refine c2.mono ?_; rintro e2 w2 ⟨rfl, d2, y2, hw2, hk2⟩
      have hf2 := hf1.kw hk2 hs
      have hs2' := hs.kw hk2 hf1
      have HB2 : Hid (Below W.heap.size W w2) := HB1.out.trans (hw1.kwBelow hk2)
      obtain ⟨z0, z1, z2⟩ := kwCells hk2 (by simp) (by omega) (fun e => by have := hdl.out _ e; omega) hbx0 hbx1 hbx2
      clear c2 hk2 hw1 hf1 HB1 hbx0 hbx1 hbx2 q0 q1 q2 hs hwl hdl
      obtain hc | hc | hc | hc | hc : bring5 K = 0 ∨ bring5 K = 1 ∨ bring5 K = 2 ∨ bring5 K = 3 ∨ bring5 K = 4 := by omega
      · have hsp : wFixed t V VV N = (fe, t', V') := by have h1 := HWO.out; rw [HWD.out, hc] at h1; exact h1.symm
        have HSP : Hid (wFixed t V VV N = (fe, t', V')) := hsp
        clear hsp HWO
        go_wp2_with fail
        refine (bring_five K _).mono ?_; rintro e3 w3 ⟨rfl, rfl⟩
        rw [hc]
        go_wp2_with fail
        have c4 := fixed_wf hf2 (by omega) VV N hVV
        rw [HSP.out] at c4
        refine c4.mono ?_; rintro e4x w4 ⟨rfl, e4, l4, hf4, hk4⟩
        have hw4 := hw2.kw2 hk4 hs2'
        have hs4' := hs2'.kw2 hk4 hw2
        have HB4 : Hid (Below W.heap.size W w4) := HB2.out.trans (hf2.kwBelow hk4)
        clear c4 hk4 hw2 hf2 HB2 z0 z1 z2 hs2'
        go_wp2_with fail
        refine (bytes_wr hw4 (by omega)).mono ?_; rintro e5 w5 ⟨a5, c5, rfl, ho5, hb5⟩
        have hf5 := hf4.below hb5
        go_wp2_with fail
        refine (bytes_wf hf5 (by omega)).mono ?_; rintro e6 w6 ⟨a6, c6, rfl, ho6, hb6⟩
        have ho56 := own_below2 ho5 hb6
        have HC6 : Hid (Below w4.heap.size w4 w6) := hb5.trans (hb6.mono hb5.size)
        have c7 := eqBytes_own (xs := y2) (ys := gat l4) ho56 ho6 (by have := hw4.wv.len; omega) hw4.wv.byt hf4.wb.gat.byt
        rw [show decide (y2 = gat l4) = true from by simp; exact hw4.wv.same hf4.wb.gat] at c7
        go_wp2_with fail
        refine c7.mono ?_; rintro e7 w7 ⟨rfl, hb7⟩
        have HC7 : Hid (Below w4.heap.size w4 w7) := HC6.out.trans (hb7.mono HC6.out.size)
        have ho7 := own_below2 ho56 hb7
        have HBy : Hid (∀ i, y2.getD i 0 < 256) := hw4.wv.byt
        have HLy : Hid (y2.length = (t' + 7) / 8) := hw4.wv.len
        clear c7 ho56 ho5 ho6 hb5 hb6 hb7 HC6 hf5
        go_wp2_with fail
        go_loopw [10] (fun kv wq => XoInv w4 y2.length a5 c5 kv wq) (fun kv _ => y2.length - (intOf kv).toNat)
        case atStart => exact ⟨0, y2, rfl, by omega, rfl, HBy.out, ho7, HC7.out⟩
        case round =>
          clear ho7 HC7 HBy
          obtain ⟨j, zs, rfl, hj, hzl, hzb, hoz, hbz⟩ := hrel
          have HCz : Hid (Below w4.heap.size w4 wr) := hbz
          have hs4 : w4.heap.size ≤ wr.heap.size := hbz.size
          have HZL : Hid (zs.length = y2.length) := hzl
          have hjb : j ≤ 100000 := by have := HLy.out; omega
          clear hbz
          by_cases hjl : j < y2.length
          · obtain ⟨g, cap, e1, hg1, hg2⟩ := hoz.form (by omega)
            simp only [Value.slice.injEq, true_and] at e1
            obtain ⟨rfl, rfl⟩ := e1
            have y1 : wr.cell? ⟨g, j, none⟩ = some (.int .u8 (zs.getD j 0 : Nat)) := by rw [hoz.cellAt j (by omega)]; exact bs_get zs j (by omega)
            have y3 : wr.frozen? ⟨g, j, none⟩ = false := hoz.frozenAt j
            have b1 := hzb j
            have hxr := u8_xor255 _ b1
            have HXR : Hid _ := hxr
            have HZB : Hid (∀ i, zs.getD i 0 < 256) := hzb
            have HJL : Hid (j < y2.length) := hjl
            clear hxr hzb hzl
            generalize hzj : zs.getD j 0 = zj at *
            clear hzj
            go_wp2_with fail
            go_roundw
            case rel =>
              refine ⟨j + 1, zs.set j (255 - zj), by go_num, by have := HJL.out; omega, by rw [List.length_set]; exact HZL.out, ?_, ?_, HCz.out.setCell hg1 _⟩
              · intro q
                by_cases hq : q = j
                · subst hq
                  rw [List.getD_eq_getElem?_getD, List.getElem?_set_self (by have := HZL.out; have := HJL.out; omega)]
                  simp; omega
                · rw [List.getD_eq_getElem?_getD, List.getElem?_set_ne (Ne.symm hq), ← List.getD_eq_getElem?_getD]
                  exact HZB.out q
              · rw [bs_set, ← HXR.out]
                exact (hoz.stored j _).1
            case measure => have := HJL.out; simp [intOf]; omega
          · go_wp2_with fail
            go_roundw
            case rel => exact ⟨k + 1, t', V', d2, e4, y2, l4, by go_num, by omega, by omega, hw4.below HCz.out, hf4.below HCz.out, by omega, HB4.out.trans (HCz.out.mono HB4.out.size), hs4'⟩
            case measure => simp [intOf]; omega
      · have hsp : wSigned t V (sgn VV) N = (fe, t', V') := by have h1 := HWO.out; rw [HWD.out, hc] at h1; exact h1.symm
        have HSP : Hid (wSigned t V (sgn VV) N = (fe, t', V')) := hsp
        clear hsp HWO
        go_wp2_with fail
        refine (bring_five K _).mono ?_; rintro e3 w3 ⟨rfl, rfl⟩
        rw [hc]
        go_wp2_with fail
        rw [show wrap32 (VV : Int) = sgn VV from by simp only [wrap32, sgn]]
        have c4 := signed_wf hf2 (by omega) (sgn VV) N (by unfold sgn; omega) (by unfold sgn; omega)
        rw [HSP.out] at c4
        refine c4.mono ?_; rintro e4x w4 ⟨rfl, e4, l4, hf4, hk4⟩
        have hw4 := hw2.kw2 hk4 hs2'
        have hs4' := hs2'.kw2 hk4 hw2
        have HB4 : Hid (Below W.heap.size W w4) := HB2.out.trans (hf2.kwBelow hk4)
        clear c4 hk4 hw2 hf2 HB2 z0 z1 z2 hs2'
        go_wp2_with fail
        refine (bytes_wr hw4 (by omega)).mono ?_; rintro e5 w5 ⟨a5, c5, rfl, ho5, hb5⟩
        have hf5 := hf4.below hb5
        go_wp2_with fail
        refine (bytes_wf hf5 (by omega)).mono ?_; rintro e6 w6 ⟨a6, c6, rfl, ho6, hb6⟩
        have ho56 := own_below2 ho5 hb6
        have HC6 : Hid (Below w4.heap.size w4 w6) := hb5.trans (hb6.mono hb5.size)
        have c7 := eqBytes_own (xs := y2) (ys := gat l4) ho56 ho6 (by have := hw4.wv.len; omega) hw4.wv.byt hf4.wb.gat.byt
        rw [show decide (y2 = gat l4) = true from by simp; exact hw4.wv.same hf4.wb.gat] at c7
        go_wp2_with fail
        refine c7.mono ?_; rintro e7 w7 ⟨rfl, hb7⟩
        have HC7 : Hid (Below w4.heap.size w4 w7) := HC6.out.trans (hb7.mono HC6.out.size)
        have ho7 := own_below2 ho56 hb7
        have HBy : Hid (∀ i, y2.getD i 0 < 256) := hw4.wv.byt
        have HLy : Hid (y2.length = (t' + 7) / 8) := hw4.wv.len
        clear c7 ho56 ho5 ho6 hb5 hb6 hb7 HC6 hf5
        go_wp2_with fail
        go_loopw [10] (fun kv wq => XoInv w4 y2.length a5 c5 kv wq) (fun kv _ => y2.length - (intOf kv).toNat)
        case atStart => exact ⟨0, y2, rfl, by omega, rfl, HBy.out, ho7, HC7.out⟩
        case round =>
          clear ho7 HC7 HBy
          obtain ⟨j, zs, rfl, hj, hzl, hzb, hoz, hbz⟩ := hrel
          have HCz : Hid (Below w4.heap.size w4 wr) := hbz
          have hs4 : w4.heap.size ≤ wr.heap.size := hbz.size
          have HZL : Hid (zs.length = y2.length) := hzl
          have hjb : j ≤ 100000 := by have := HLy.out; omega
          clear hbz
          by_cases hjl : j < y2.length
          · obtain ⟨g, cap, e1, hg1, hg2⟩ := hoz.form (by omega)
            simp only [Value.slice.injEq, true_and] at e1
            obtain ⟨rfl, rfl⟩ := e1
            have y1 : wr.cell? ⟨g, j, none⟩ = some (.int .u8 (zs.getD j 0 : Nat)) := by rw [hoz.cellAt j (by omega)]; exact bs_get zs j (by omega)
            have y3 : wr.frozen? ⟨g, j, none⟩ = false := hoz.frozenAt j
            have b1 := hzb j
            have hxr := u8_xor255 _ b1
            have HXR : Hid _ := hxr
            have HZB : Hid (∀ i, zs.getD i 0 < 256) := hzb
            have HJL : Hid (j < y2.length) := hjl
            clear hxr hzb hzl
            generalize hzj : zs.getD j 0 = zj at *
            clear hzj
            go_wp2_with fail
            go_roundw
            case rel =>
              refine ⟨j + 1, zs.set j (255 - zj), by go_num, by have := HJL.out; omega, by rw [List.length_set]; exact HZL.out, ?_, ?_, HCz.out.setCell hg1 _⟩
              · intro q
                by_cases hq : q = j
                · subst hq
                  rw [List.getD_eq_getElem?_getD, List.getElem?_set_self (by have := HZL.out; have := HJL.out; omega)]
                  simp; omega
                · rw [List.getD_eq_getElem?_getD, List.getElem?_set_ne (Ne.symm hq), ← List.getD_eq_getElem?_getD]
                  exact HZB.out q
              · rw [bs_set, ← HXR.out]
                exact (hoz.stored j _).1
            case measure => have := HJL.out; simp [intOf]; omega
          · go_wp2_with fail
            go_roundw
            case rel => exact ⟨k + 1, t', V', d2, e4, y2, l4, by go_num, by omega, by omega, hw4.below HCz.out, hf4.below HCz.out, by omega, HB4.out.trans (HCz.out.mono HB4.out.size), hs4'⟩
            case measure => simp [intOf]; omega
      · have hsp : wUvlc t V VV = (fe, t', V') := by have h1 := HWO.out; rw [HWD.out, hc] at h1; exact h1.symm
        have HSP : Hid (wUvlc t V VV = (fe, t', V')) := hsp
        clear hsp HWO
        go_wp2_with fail
        refine (bring_five K _).mono ?_; rintro e3 w3 ⟨rfl, rfl⟩
        rw [hc]
        go_wp2_with fail
        have c4 := uvlc_wf hf2 (by omega) VV hVV
        rw [HSP.out] at c4
        refine c4.mono ?_; rintro e4x w4 ⟨rfl, e4, l4, hf4, hk4⟩
        have hw4 := hw2.kw2 hk4 hs2'
        have hs4' := hs2'.kw2 hk4 hw2
        have HB4 : Hid (Below W.heap.size W w4) := HB2.out.trans (hf2.kwBelow hk4)
        clear c4 hk4 hw2 hf2 HB2 z0 z1 z2 hs2'
        go_wp2_with fail
        refine (bytes_wr hw4 (by omega)).mono ?_; rintro e5 w5 ⟨a5, c5, rfl, ho5, hb5⟩
        have hf5 := hf4.below hb5
        go_wp2_with fail
        refine (bytes_wf hf5 (by omega)).mono ?_; rintro e6 w6 ⟨a6, c6, rfl, ho6, hb6⟩
        have ho56 := own_below2 ho5 hb6
        have HC6 : Hid (Below w4.heap.size w4 w6) := hb5.trans (hb6.mono hb5.size)
        have c7 := eqBytes_own (xs := y2) (ys := gat l4) ho56 ho6 (by have := hw4.wv.len; omega) hw4.wv.byt hf4.wb.gat.byt
        rw [show decide (y2 = gat l4) = true from by simp; exact hw4.wv.same hf4.wb.gat] at c7
        go_wp2_with fail
        refine c7.mono ?_; rintro e7 w7 ⟨rfl, hb7⟩
        have HC7 : Hid (Below w4.heap.size w4 w7) := HC6.out.trans (hb7.mono HC6.out.size)
        have ho7 := own_below2 ho56 hb7
        have HBy : Hid (∀ i, y2.getD i 0 < 256) := hw4.wv.byt
        have HLy : Hid (y2.length = (t' + 7) / 8) := hw4.wv.len
        clear c7 ho56 ho5 ho6 hb5 hb6 hb7 HC6 hf5
        go_wp2_with fail
        go_loopw [10] (fun kv wq => XoInv w4 y2.length a5 c5 kv wq) (fun kv _ => y2.length - (intOf kv).toNat)
        case atStart => exact ⟨0, y2, rfl, by omega, rfl, HBy.out, ho7, HC7.out⟩
        case round =>
          clear ho7 HC7 HBy
          obtain ⟨j, zs, rfl, hj, hzl, hzb, hoz, hbz⟩ := hrel
          have HCz : Hid (Below w4.heap.size w4 wr) := hbz
          have hs4 : w4.heap.size ≤ wr.heap.size := hbz.size
          have HZL : Hid (zs.length = y2.length) := hzl
          have hjb : j ≤ 100000 := by have := HLy.out; omega
          clear hbz
          by_cases hjl : j < y2.length
          · obtain ⟨g, cap, e1, hg1, hg2⟩ := hoz.form (by omega)
            simp only [Value.slice.injEq, true_and] at e1
            obtain ⟨rfl, rfl⟩ := e1
            have y1 : wr.cell? ⟨g, j, none⟩ = some (.int .u8 (zs.getD j 0 : Nat)) := by rw [hoz.cellAt j (by omega)]; exact bs_get zs j (by omega)
            have y3 : wr.frozen? ⟨g, j, none⟩ = false := hoz.frozenAt j
            have b1 := hzb j
            have hxr := u8_xor255 _ b1
            have HXR : Hid _ := hxr
            have HZB : Hid (∀ i, zs.getD i 0 < 256) := hzb
            have HJL : Hid (j < y2.length) := hjl
            clear hxr hzb hzl
            generalize hzj : zs.getD j 0 = zj at *
            clear hzj
            go_wp2_with fail
            go_roundw
            case rel =>
              refine ⟨j + 1, zs.set j (255 - zj), by go_num, by have := HJL.out; omega, by rw [List.length_set]; exact HZL.out, ?_, ?_, HCz.out.setCell hg1 _⟩
              · intro q
                by_cases hq : q = j
                · subst hq
                  rw [List.getD_eq_getElem?_getD, List.getElem?_set_self (by have := HZL.out; have := HJL.out; omega)]
                  simp; omega
                · rw [List.getD_eq_getElem?_getD, List.getElem?_set_ne (Ne.symm hq), ← List.getD_eq_getElem?_getD]
                  exact HZB.out q
              · rw [bs_set, ← HXR.out]
                exact (hoz.stored j _).1
            case measure => have := HJL.out; simp [intOf]; omega
          · go_wp2_with fail
            go_roundw
            case rel => exact ⟨k + 1, t', V', d2, e4, y2, l4, by go_num, by omega, by omega, hw4.below HCz.out, hf4.below HCz.out, by omega, HB4.out.trans (HCz.out.mono HB4.out.size), hs4'⟩
            case measure => simp [intOf]; omega
      · have hsp : wLeb t V VV = (fe, t', V') := by have h1 := HWO.out; rw [HWD.out, hc] at h1; exact h1.symm
        have HSP : Hid (wLeb t V VV = (fe, t', V')) := hsp
        clear hsp HWO
        go_wp2_with fail
        refine (bring_five K _).mono ?_; rintro e3 w3 ⟨rfl, rfl⟩
        rw [hc]
        go_wp2_with fail
        have c4 := leb_wf hf2 (by omega) VV hVV
        rw [HSP.out] at c4
        refine c4.mono ?_; rintro e4x w4 ⟨rfl, e4, l4, hf4, hk4⟩
        have hw4 := hw2.kw2 hk4 hs2'
        have hs4' := hs2'.kw2 hk4 hw2
        have HB4 : Hid (Below W.heap.size W w4) := HB2.out.trans (hf2.kwBelow hk4)
        clear c4 hk4 hw2 hf2 HB2 z0 z1 z2 hs2'
        go_wp2_with fail
        refine (bytes_wr hw4 (by omega)).mono ?_; rintro e5 w5 ⟨a5, c5, rfl, ho5, hb5⟩
        have hf5 := hf4.below hb5
        go_wp2_with fail
        refine (bytes_wf hf5 (by omega)).mono ?_; rintro e6 w6 ⟨a6, c6, rfl, ho6, hb6⟩
        have ho56 := own_below2 ho5 hb6
        have HC6 : Hid (Below w4.heap.size w4 w6) := hb5.trans (hb6.mono hb5.size)
        have c7 := eqBytes_own (xs := y2) (ys := gat l4) ho56 ho6 (by have := hw4.wv.len; omega) hw4.wv.byt hf4.wb.gat.byt
        rw [show decide (y2 = gat l4) = true from by simp; exact hw4.wv.same hf4.wb.gat] at c7
        go_wp2_with fail
        refine c7.mono ?_; rintro e7 w7 ⟨rfl, hb7⟩
        have HC7 : Hid (Below w4.heap.size w4 w7) := HC6.out.trans (hb7.mono HC6.out.size)
        have ho7 := own_below2 ho56 hb7
        have HBy : Hid (∀ i, y2.getD i 0 < 256) := hw4.wv.byt
        have HLy : Hid (y2.length = (t' + 7) / 8) := hw4.wv.len
        clear c7 ho56 ho5 ho6 hb5 hb6 hb7 HC6 hf5
        go_wp2_with fail
        go_loopw [10] (fun kv wq => XoInv w4 y2.length a5 c5 kv wq) (fun kv _ => y2.length - (intOf kv).toNat)
        case atStart => exact ⟨0, y2, rfl, by omega, rfl, HBy.out, ho7, HC7.out⟩
        case round =>
          clear ho7 HC7 HBy
          obtain ⟨j, zs, rfl, hj, hzl, hzb, hoz, hbz⟩ := hrel
          have HCz : Hid (Below w4.heap.size w4 wr) := hbz
          have hs4 : w4.heap.size ≤ wr.heap.size := hbz.size
          have HZL : Hid (zs.length = y2.length) := hzl
          have hjb : j ≤ 100000 := by have := HLy.out; omega
          clear hbz
          by_cases hjl : j < y2.length
          · obtain ⟨g, cap, e1, hg1, hg2⟩ := hoz.form (by omega)
            simp only [Value.slice.injEq, true_and] at e1
            obtain ⟨rfl, rfl⟩ := e1
            have y1 : wr.cell? ⟨g, j, none⟩ = some (.int .u8 (zs.getD j 0 : Nat)) := by rw [hoz.cellAt j (by omega)]; exact bs_get zs j (by omega)
            have y3 : wr.frozen? ⟨g, j, none⟩ = false := hoz.frozenAt j
            have b1 := hzb j
            have hxr := u8_xor255 _ b1
            have HXR : Hid _ := hxr
            have HZB : Hid (∀ i, zs.getD i 0 < 256) := hzb
            have HJL : Hid (j < y2.length) := hjl
            clear hxr hzb hzl
            generalize hzj : zs.getD j 0 = zj at *
            clear hzj
            go_wp2_with fail
            go_roundw
            case rel =>
              refine ⟨j + 1, zs.set j (255 - zj), by go_num, by have := HJL.out; omega, by rw [List.length_set]; exact HZL.out, ?_, ?_, HCz.out.setCell hg1 _⟩
              · intro q
                by_cases hq : q = j
                · subst hq
                  rw [List.getD_eq_getElem?_getD, List.getElem?_set_self (by have := HZL.out; have := HJL.out; omega)]
                  simp; omega
                · rw [List.getD_eq_getElem?_getD, List.getElem?_set_ne (Ne.symm hq), ← List.getD_eq_getElem?_getD]
                  exact HZB.out q
              · rw [bs_set, ← HXR.out]
                exact (hoz.stored j _).1
            case measure => have := HJL.out; simp [intOf]; omega
          · go_wp2_with fail
            go_roundw
            case rel => exact ⟨k + 1, t', V', d2, e4, y2, l4, by go_num, by omega, by omega, hw4.below HCz.out, hf4.below HCz.out, by omega, HB4.out.trans (HCz.out.mono HB4.out.size), hs4'⟩
            case measure => simp [intOf]; omega
      · have hsp : (0, (wAlign t V).1, (wAlign t V).2) = (fe, t', V') := by have h1 := HWO.out; rw [HWD.out, hc] at h1; exact h1.symm
        simp only [Prod.mk.injEq] at hsp
        obtain ⟨rfl, hsp1, hsp2⟩ := hsp
        have HSP1 : Hid ((wAlign t V).1 = t') := hsp1
        have HSP2 : Hid ((wAlign t V).2 = V') := hsp2
        clear hsp1 hsp2 HWO
        go_wp2_with fail
        refine (bring_five K _).mono ?_; rintro e3 w3 ⟨rfl, rfl⟩
        rw [hc]
        go_wp2_with fail
        have c4 := align_wf hf2 (by omega)
        rw [HSP1.out, HSP2.out] at c4
        refine c4.mono ?_; rintro e4x w4 ⟨rfl, e4, l4, hf4, hk4⟩
        have hw4 := hw2.kw2 hk4 hs2'
        have hs4' := hs2'.kw2 hk4 hw2
        have HB4 : Hid (Below W.heap.size W w4) := HB2.out.trans (hf2.kwBelow hk4)
        clear c4 hk4 hw2 hf2 HB2 z0 z1 z2 hs2'
        go_wp2_with fail
        refine (bytes_wr hw4 (by omega)).mono ?_; rintro e5 w5 ⟨a5, c5, rfl, ho5, hb5⟩
        have hf5 := hf4.below hb5
        go_wp2_with fail
        refine (bytes_wf hf5 (by omega)).mono ?_; rintro e6 w6 ⟨a6, c6, rfl, ho6, hb6⟩
        have ho56 := own_below2 ho5 hb6
        have HC6 : Hid (Below w4.heap.size w4 w6) := hb5.trans (hb6.mono hb5.size)
        have c7 := eqBytes_own (xs := y2) (ys := gat l4) ho56 ho6 (by have := hw4.wv.len; omega) hw4.wv.byt hf4.wb.gat.byt
        rw [show decide (y2 = gat l4) = true from by simp; exact hw4.wv.same hf4.wb.gat] at c7
        go_wp2_with fail
        refine c7.mono ?_; rintro e7 w7 ⟨rfl, hb7⟩
        have HC7 : Hid (Below w4.heap.size w4 w7) := HC6.out.trans (hb7.mono HC6.out.size)
        have ho7 := own_below2 ho56 hb7
        have HBy : Hid (∀ i, y2.getD i 0 < 256) := hw4.wv.byt
        have HLy : Hid (y2.length = (t' + 7) / 8) := hw4.wv.len
        clear c7 ho56 ho5 ho6 hb5 hb6 hb7 HC6 hf5
        go_wp2_with fail
        go_loopw [10] (fun kv wq => XoInv w4 y2.length a5 c5 kv wq) (fun kv _ => y2.length - (intOf kv).toNat)
        case atStart => exact ⟨0, y2, rfl, by omega, rfl, HBy.out, ho7, HC7.out⟩
        case round =>
          clear ho7 HC7 HBy
          obtain ⟨j, zs, rfl, hj, hzl, hzb, hoz, hbz⟩ := hrel
          have HCz : Hid (Below w4.heap.size w4 wr) := hbz
          have hs4 : w4.heap.size ≤ wr.heap.size := hbz.size
          have HZL : Hid (zs.length = y2.length) := hzl
          have hjb : j ≤ 100000 := by have := HLy.out; omega
          clear hbz
          by_cases hjl : j < y2.length
          · obtain ⟨g, cap, e1, hg1, hg2⟩ := hoz.form (by omega)
            simp only [Value.slice.injEq, true_and] at e1
            obtain ⟨rfl, rfl⟩ := e1
            have y1 : wr.cell? ⟨g, j, none⟩ = some (.int .u8 (zs.getD j 0 : Nat)) := by rw [hoz.cellAt j (by omega)]; exact bs_get zs j (by omega)
            have y3 : wr.frozen? ⟨g, j, none⟩ = false := hoz.frozenAt j
            have b1 := hzb j
            have hxr := u8_xor255 _ b1
            have HXR : Hid _ := hxr
            have HZB : Hid (∀ i, zs.getD i 0 < 256) := hzb
            have HJL : Hid (j < y2.length) := hjl
            clear hxr hzb hzl
            generalize hzj : zs.getD j 0 = zj at *
            clear hzj
            go_wp2_with fail
            go_roundw
            case rel =>
              refine ⟨j + 1, zs.set j (255 - zj), by go_num, by have := HJL.out; omega, by rw [List.length_set]; exact HZL.out, ?_, ?_, HCz.out.setCell hg1 _⟩
              · intro q
                by_cases hq : q = j
                · subst hq
                  rw [List.getD_eq_getElem?_getD, List.getElem?_set_self (by have := HZL.out; have := HJL.out; omega)]
                  simp; omega
                · rw [List.getD_eq_getElem?_getD, List.getElem?_set_ne (Ne.symm hq), ← List.getD_eq_getElem?_getD]
                  exact HZB.out q
              · rw [bs_set, ← HXR.out]
                exact (hoz.stored j _).1
            case measure => have := HJL.out; simp [intOf]; omega
          · go_wp2_with fail
            go_roundw
            case rel => exact ⟨k + 1, t', V', d2, e4, y2, l4, by go_num, by omega, by omega, hw4.below HCz.out, hf4.below HCz.out, by omega, HB4.out.trans (HCz.out.mono HB4.out.size), hs4'⟩
            case measure => simp [intOf]; omega
    · by_cases h1 : k < L.length
      all_goals
        first | (have h2 : ¬ k < 200 := by omega) | skip
        go_wp2_with fail
        refine (bytes_wr hw (by omega)).mono ?_; rintro e5 w5 ⟨a5, c5, rfl, ho5, hb5⟩
        have hf5 := hf.below hb5
        have HB5 : Hid (Below W.heap.size W w5) := HB.out.trans (hb5.mono HB.out.size)
        go_wp2_with fail
        refine (bytes_wf hf5 (by omega)).mono ?_; rintro e6 w6 ⟨a6, c6, rfl, ho6, hb6⟩
        have ho56 := own_below2 ho5 hb6
        have HB6 : Hid (Below W.heap.size W w6) := HB5.out.trans (hb6.mono HB5.out.size)
        have c7 := eqBytes_own (xs := ys) (ys := gat l) ho56 ho6 (by have := hw.wv.len; omega) hw.wv.byt hf.wb.gat.byt
        rw [show decide (ys = gat l) = true from by simp; exact hw.wv.same hf.wb.gat] at c7
        go_wp2_with fail
        refine c7.mono ?_; rintro e7 w7 ⟨rfl, hb7⟩
        have HB7 : Hid (Below W.heap.size W w7) := HB6.out.trans (hb7.mono HB6.out.size)
        clear c7 ho56 ho5 ho6 hb5 hb6 hb7 HB5 HB6 hf5 hw hf HB
        go_wp2_with fail
        refine (works_true _).mono ?_; rintro e8 w8 ⟨rfl, hb8⟩
        have HB8 : Hid (Below W.heap.size W w8) := HB7.out.trans (hb8.mono HB7.out.size)
        clear hb8 HB7
        go_wp2_with fail
        go_ret
        exact ⟨rfl, HB8.out⟩

end Go.Proofs.Ytiheldakkpbkgaa
