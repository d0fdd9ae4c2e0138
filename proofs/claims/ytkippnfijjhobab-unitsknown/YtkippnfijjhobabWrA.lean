/- DERIVED. A bits.Writer in memory (Wr), what a method may touch (Kw), and the walk of put. -/
import Derived.Test.YtkippnfijjhobabNwB
import Derived.Test.YtkippnfijjhobabMb
import Derived.BigRegion
namespace Go.Proofs.Ytkippnfijjhobab
open Go.RowKit

/-- a writer in block x whose bytes ys hold t bits of the number V -/
structure Wr (w : World) (B x : Nat) (d : Value) (ys : List Nat) (t V : Nat) : Prop where
  made : w.cell? ⟨x, 0, none⟩ = some (.bool true)
  data : w.cell? ⟨x, 1, none⟩ = some d
  own : w.ownsRow B 5 1 d ys.length (bs ys)
  apart : d.ownBlock ≠ some x
  free : w.cell? ⟨x, 2, none⟩ = some (.int .i64 (8 * ys.length - t : Nat))
  thaw1 : w.frozen? ⟨x, 1, none⟩ = false
  thaw2 : w.frozen? ⟨x, 2, none⟩ = false
  low : B ≤ x ∧ x < w.heap.size
  wv : Wv ys t V

/-- of the blocks that were there the writer's own two alone may have turned -/
structure Kw (x : Nat) (d d' : Value) (w w' : World) : Prop where
  os : w'.os = w.os
  tape : w'.tape = w.tape
  output : w'.output = w.output
  size : w.heap.size ≤ w'.heap.size
  block : ∀ k, k < w.heap.size → k ≠ x → d.ownBlock ≠ some k → w'.heap[k]? = w.heap[k]?
  new : ∀ g, d'.ownBlock = some g → d.ownBlock = some g ∨ w.heap.size ≤ g
theorem Kw.trans {x : Nat} {d d' d'' : Value} {a b c : World} (h : Kw x d d' a b) (k : Kw x d' d'' b c) : Kw x d d'' a c :=
  ⟨k.os.trans h.os, k.tape.trans h.tape, k.output.trans h.output, Nat.le_trans h.size k.size,
   fun i hi hx hd => (k.block i (Nat.lt_of_lt_of_le hi h.size) hx (fun e => by rcases h.new i e with e | e; exact hd e; omega)).trans (h.block i hi hx hd),
   fun g hg => by
    rcases k.new g hg with e | e
    · exact h.new g e
    · right; have := h.size; omega⟩
theorem Kw.refl (x : Nat) (d : Value) (w : World) : Kw x d d w w := ⟨rfl, rfl, rfl, Nat.le_refl _, fun _ _ _ _ => rfl, fun _ h => Or.inl h⟩

theorem bs_set (zs : List Nat) (q b : Nat) : bs (zs.set q b) = (bs zs).set q (.int .u8 (b : Int)) := by simp [bs]
theorem bs_append (xs ys : List Nat) : bs (xs ++ ys) = bs xs ++ bs ys := by simp [bs]

/-- the last byte is stored -/
theorem Wr.stored {W : World} {B x g cap q f' t' V' b : Nat} {zr : List Nat} {u : Int} (hz : zr.length = q + 1) (hu : u = (b : Nat)) (hm : W.cell? ⟨x, 0, none⟩ = some (.bool true)) (hd : W.cell? ⟨x, 1, none⟩ = some (.slice (some ⟨g, 0, none⟩) (q + 1) cap))
    (hown : W.ownsRow B 5 1 (.slice (some ⟨g, 0, none⟩) (q + 1) cap) (q + 1) (bs zr)) (hgx : g ≠ x) {y : Int} (hf : W.cell? ⟨x, 2, none⟩ = some (.int .i64 y)) (hy : y = (f' : Nat)) (h1 : W.frozen? ⟨x, 1, none⟩ = false) (h2 : W.frozen? ⟨x, 2, none⟩ = false) (hl : B ≤ x ∧ x < W.heap.size)
    (hwv : Wv (zr.set q b) t' V') (hft : f' = 8 * (q + 1) - t') : Wr (W.setCell ⟨g, q, none⟩ (.int .u8 u)).drew B x (.slice (some ⟨g, 0, none⟩) (q + 1) cap) (zr.set q b) t' V' := by
  subst hu hy
  have ec : ∀ o, (W.setCell ⟨g, q, none⟩ (.int .u8 (b : Int))).drew.cell? ⟨x, o, none⟩ = W.cell? ⟨x, o, none⟩ := fun o => by
    show (W.setCell ⟨g, q, none⟩ (.int .u8 (b : Int))).cell? ⟨x, o, none⟩ = _
    rw [World.cell?_setCell_other _ _ _ _ (by simp)]
  have ef : ∀ o, (W.setCell ⟨g, q, none⟩ (.int .u8 (b : Int))).drew.frozen? ⟨x, o, none⟩ = W.frozen? ⟨x, o, none⟩ := fun o => by
    show (W.setCell ⟨g, q, none⟩ (.int .u8 (b : Int))).frozen? ⟨x, o, none⟩ = _
    rw [World.frozen?_setCell]
  have hzl : (zr.set q b).length = q + 1 := by rw [List.length_set, hz]
  refine ⟨by rw [ec]; exact hm, by rw [ec]; exact hd, ?_, fun e => hgx (by simpa [Value.ownBlock] using e), by rw [ec, hzl, ← hft]; exact hf, by rw [ef]; exact h1, by rw [ef]; exact h2, by simpa [World.setCell] using hl, hwv⟩
  rw [hzl, bs_set]
  exact (hown.stored q (.int .u8 (b : Int))).1.drew

theorem own_set_far {w : World} {B e size n : Nat} {v : Value} {xs : List Value} (h : w.ownsRow B e size v n xs) {a : Addr} (ha : v.ownBlock ≠ some a.block) (u : Value) : (w.setCell a u).ownsRow B e size v n xs := by
  refine ⟨h.1, ?_⟩
  rcases h.2 with h1 | ⟨g, cap, cur, rfl, h2, h3, h4⟩
  · exact Or.inl h1
  · exact Or.inr ⟨g, cap, cur, rfl, h2, by rw [Below.heap_setCell _ _ _ _ (fun e => ha (by simp [Value.ownBlock, e]))]; exact h3, h4⟩

/-- a writer whose last byte is about to take bits: so many (y) will be free then -/
structure Rdy (W : World) (B x g cap q : Nat) (zr : List Nat) (y : Int) : Prop where
  made : W.cell? ⟨x, 0, none⟩ = some (.bool true)
  data : W.cell? ⟨x, 1, none⟩ = some (.slice (some ⟨g, 0, none⟩) (q + 1) cap)
  own : W.ownsRow B 5 1 (.slice (some ⟨g, 0, none⟩) (q + 1) cap) (q + 1) (bs zr)
  apart : g ≠ x
  free : W.cell? ⟨x, 2, none⟩ = some (.int .i64 y)
  thaw1 : W.frozen? ⟨x, 1, none⟩ = false
  thaw2 : W.frozen? ⟨x, 2, none⟩ = false
  low : B ≤ x ∧ x < W.heap.size
  zlen : zr.length = q + 1
theorem Rdy.drewN {W : World} {B x g cap q : Nat} {zr : List Nat} {y : Int} (h : Rdy W B x g cap q zr y) (n : Nat) : Rdy (W.drewN n) B x g cap q zr y :=
  ⟨h.made, h.data, h.own, h.apart, h.free, h.thaw1, h.thaw2, h.low, h.zlen⟩
theorem Rdy.stored {W : World} {B x g cap q : Nat} {zr : List Nat} {y : Int} (h : Rdy W B x g cap q zr y) {f' t' V' b : Nat} {u : Int} (hu : u = (b : Nat)) (hy : y = (f' : Nat)) (hwv : Wv (zr.set q b) t' V') (hft : f' = 8 * (q + 1) - t') :
    Wr (W.setCell ⟨g, q, none⟩ (.int .u8 u)).drew B x (.slice (some ⟨g, 0, none⟩) (q + 1) cap) (zr.set q b) t' V' :=
  Wr.stored h.zlen hu h.made h.data h.own h.apart h.free hy h.thaw1 h.thaw2 h.low hwv hft
/-- the free bits are set -/
theorem Rdy.freed {W : World} {B x g cap q : Nat} {zr : List Nat} {y0 : Int} (h : Rdy W B x g cap q zr y0) (y : Int) : Rdy (W.setCell ⟨x, 2, none⟩ (.int .i64 y)) B x g cap q zr y :=
  ⟨by rw [World.cell?_setCell_other _ _ _ _ (by simp)]; exact h.made, by rw [World.cell?_setCell_other _ _ _ _ (by simp)]; exact h.data,
   own_set_far h.own (by simp [Value.ownBlock]; exact h.apart) _, h.apart, World.cell?_setCell_same _ _ _ h.free,
   by rw [World.frozen?_setCell]; exact h.thaw1, by rw [World.frozen?_setCell]; exact h.thaw2, by simpa [World.setCell] using h.low, h.zlen⟩
theorem Wr.rdy {wr : World} {B x g cap q t V : Nat} {yr : List Nat} (h : Wr wr B x (.slice (some ⟨g, 0, none⟩) yr.length cap) yr t V) (hq : yr.length = q + 1) (y : Int) : Rdy (wr.setCell ⟨x, 2, none⟩ (.int .i64 y)) B x g cap q yr y := by
  have h0 : Rdy wr B x g cap q yr ((8 * yr.length - t : Nat) : Int) := ⟨h.made, by rw [← hq]; exact h.data, by rw [← hq]; exact h.own, fun e => h.apart (by simp [Value.ownBlock, e]), h.free, h.thaw1, h.thaw2, h.low, hq⟩
  exact h0.freed y

theorem Kw.set {x : Nat} {d : Value} {w : World} (o : Nat) (u : Value) : Kw x d d w (w.setCell ⟨x, o, none⟩ u) :=
  ⟨rfl, rfl, rfl, by simp [World.setCell], fun k _ hk _ => Below.heap_setCell _ _ _ _ (by simpa using hk), fun _ h => Or.inl h⟩
theorem Kw.setOwn {x g : Nat} {d : Value} {w : World} (hd : d.ownBlock = some g) (o : Nat) (u : Value) : Kw x d d w (w.setCell ⟨g, o, none⟩ u) :=
  ⟨rfl, rfl, rfl, by simp [World.setCell], fun k _ _ hk => Below.heap_setCell _ _ _ _ (by rw [hd] at hk; simp at hk; exact fun e => hk e.symm), fun _ h => Or.inl h⟩
theorem Kw.drewN {x : Nat} {d d' : Value} {w w' : World} (h : Kw x d d' w w') (n : Nat) : Kw x d d' w (w'.drewN n) := ⟨h.os, h.tape, h.output, h.size, h.block, h.new⟩
theorem Kw.drew {x : Nat} {d d' : Value} {w w' : World} (h : Kw x d d' w w') : Kw x d d' w w'.drew := ⟨h.os, h.tape, h.output, h.size, h.block, h.new⟩

theorem far_cell {wr w1 : World} {o : Obj} {row : Option Nat} (hg : (wr.alloc o).grownBy w1 row) {x : Nat} (hx : x < wr.heap.size) (hne : row ≠ some x) (j : Nat) : w1.cell? ⟨x, j, none⟩ = wr.cell? ⟨x, j, none⟩ ∧ w1.frozen? ⟨x, j, none⟩ = wr.frozen? ⟨x, j, none⟩ := by
  have e : w1.heap[x]? = wr.heap[x]? := by
    rw [hg.block x (by simp; omega) (Ne.symm hne), Below.heap_alloc _ _ _ hx]
  exact ⟨World.cell?_of_block (w := wr) (a := ⟨x, j, none⟩) e, World.frozen?_of_block (w := wr) (a := ⟨x, j, none⟩) e⟩

theorem grow_rdy {wr w1 : World} {o : Obj} {B x g cap t V : Nat} {dr : Value} {yr : List Nat} (hw : Wr wr B x dr yr t V) (hgrow : (wr.alloc o).grownBy w1 dr.ownBlock) (hown1 : w1.ownsRow B 5 1 (.slice (some ⟨g, 0, none⟩) (yr.length + 1) cap) (yr.length + 1) (bs yr ++ bs [0]))
    (hat : dr.ownBlock = some g ∨ g = wr.heap.size + 1) (u : Value) (y : Int) :
    Rdy (((w1.setCell ⟨x, 1, none⟩ (.slice (some ⟨g, 0, none⟩) (yr.length + 1) cap)).setCell ⟨x, 2, none⟩ u).setCell ⟨x, 2, none⟩ (.int .i64 y)) B x g cap yr.length (yr ++ [0]) y ∧
    Kw x dr (.slice (some ⟨g, 0, none⟩) (yr.length + 1) cap) wr (((w1.setCell ⟨x, 1, none⟩ (.slice (some ⟨g, 0, none⟩) (yr.length + 1) cap)).setCell ⟨x, 2, none⟩ u).setCell ⟨x, 2, none⟩ (.int .i64 y)) := by
  have hlow := hw.low
  have hap := hw.apart
  have hgx : g ≠ x := by
    rcases hat with e | e
    · intro e2; rw [e, e2] at hap; exact hap rfl
    · omega
  have fc := fun j => far_cell hgrow hlow.2 hap j
  have hsz : wr.heap.size + 1 ≤ w1.heap.size := by have := hgrow.size; simpa using this
  constructor
  · have e0 : (w1.setCell ⟨x, 1, none⟩ (.slice (some ⟨g, 0, none⟩) (yr.length + 1) cap)).cell? ⟨x, 2, none⟩ = w1.cell? ⟨x, 2, none⟩ := World.cell?_setCell_other _ _ _ _ (by simp)
    have hc2 : (w1.setCell ⟨x, 1, none⟩ (.slice (some ⟨g, 0, none⟩) (yr.length + 1) cap)).cell? ⟨x, 2, none⟩ = some (.int .i64 (8 * yr.length - t : Nat)) := by rw [e0, (fc 2).1]; exact hw.free
    refine ⟨?_, ?_, ?_, hgx, ?_, ?_, ?_, ?_, ?_⟩
    · rw [World.cell?_setCell_other _ _ _ _ (by simp), World.cell?_setCell_other _ _ _ _ (by simp), World.cell?_setCell_other _ _ _ _ (by simp), (fc 0).1]; exact hw.made
    · rw [World.cell?_setCell_other _ _ _ _ (by simp), World.cell?_setCell_other _ _ _ _ (by simp)]
      exact World.cell?_setCell_same w1 ⟨x, 1, none⟩ _ ((fc 1).1.trans hw.data)
    · rw [bs_append]
      exact own_set_far (own_set_far (own_set_far hown1 (by simp [Value.ownBlock]; exact hgx) _) (by simp [Value.ownBlock]; exact hgx) _) (by simp [Value.ownBlock]; exact hgx) _
    · exact World.cell?_setCell_same _ ⟨x, 2, none⟩ _ (World.cell?_setCell_same _ ⟨x, 2, none⟩ _ hc2)
    · rw [World.frozen?_setCell, World.frozen?_setCell, World.frozen?_setCell, (fc 1).2]; exact hw.thaw1
    · rw [World.frozen?_setCell, World.frozen?_setCell, World.frozen?_setCell, (fc 2).2]; exact hw.thaw2
    · exact ⟨hlow.1, by simp [World.setCell]; omega⟩
    · simp
  · refine ⟨hgrow.os, hgrow.tape, hgrow.output, by simp [World.setCell]; omega, fun k hk hx hd => ?_, fun g' hg' => ?_⟩
    · rw [Below.heap_setCell _ _ _ _ (by simpa using hx), Below.heap_setCell _ _ _ _ (by simpa using hx), Below.heap_setCell _ _ _ _ (by simpa using hx), hgrow.block k (by simp; omega) (Ne.symm hd), Below.heap_alloc _ _ _ hk]
    · simp [Value.ownBlock] at hg'
      subst hg'
      rcases hat with e | e
      · exact Or.inl e
      · right; omega

theorem snoc_last (yr : List Nat) : (yr ++ [0]).getD yr.length 0 = 0 := by simp [List.getD_eq_getElem?_getD]
theorem getD_snoc0 {yr : List Nat} (h : ∀ i, yr.getD i 0 < 256) : ∀ i, (yr ++ [0]).getD i 0 < 256 := by
  intro i
  have := h i
  rw [List.getD_eq_getElem?_getD] at *
  rcases Nat.lt_or_ge i yr.length with hi | hi
  · rw [List.getElem?_append_left hi]; exact this
  · rw [List.getElem?_append_right hi]
    rcases Nat.eq_zero_or_pos (i - yr.length) with e | e
    · rw [e]; simp
    · rw [List.getElem?_eq_none (by simp; omega)]; simp

set_option maxHeartbeats 1000000 in
theorem put_wr (B x : Nat) (d : Value) (ys : List Nat) (t V v n : Nat) (w : World) (h : Wr w B x d ys t V) (hn : n ≤ 32) (hv : v < 2 ^ n) (ht : t ≤ 1099511627776) :
    Calls Try.prog 25 #[.pointer (some ⟨x, 0, none⟩), .int .u32 v, .int .i64 n] w fun e w' => ∃ d' ys', e = .returned (.tuple #[]) ∧ Wr w' B x d' ys' (t + n) (V * 2 ^ n + v) ∧ Kw x d d' w w' := by
  go_enter Try.func25, Try.ntmps25
  go_wp2_with fail
  go_loopw [2] (fun z wr => ∃ (m : Nat) (dr : Value) (yr : List Nat), m ≤ n ∧ z = .int .i64 m ∧ Wr wr B x dr yr (t + (n - m)) (V * 2 ^ (n - m) + v / 2 ^ m) ∧ Kw x d dr w wr) (fun z _ => (intOf z).toNat)
  case atStart => exact ⟨n, d, ys, Nat.le_refl _, rfl, by rw [Nat.sub_self, Nat.div_eq_of_lt hv]; simpa using h, Kw.refl _ _ _⟩
  case round =>
    obtain ⟨m, dr, yr, hm, rfl, hw, hk⟩ := hrel
    by_cases hm0 : m = 0
    · subst hm0
      go_wp2_with fail
      go_end0
      refine ⟨dr, yr, rfl, ?_, hk⟩
      rw [Nat.sub_zero, Nat.pow_zero, Nat.div_one] at hw
      exact hw
    · have hm1 : 0 < m := by omega
      by_cases hf : (t + (n - m)) % 8 = 0
      · have hfree := hw.free
        have hlen := hw.wv.len
        rw [show 8 * yr.length - (t + (n - m)) = 0 from by omega] at hfree
        obtain ⟨a, c, rfl⟩ := own_slice hw.own
        have hdat := hw.data
        have hlow := hw.low.2
        have ht1 := hw.thaw1
        have ht2 := hw.thaw2
        have hap := hw.apart
        have hyl : yr.length ≤ 1099511627776 := by omega
        obtain ⟨i, hi, hz0, hz1, hz2⟩ := info_parts Try.info5
        have hown : (wr.alloc (.cells #[.int .u8 0] 5)).ownsRow B 5 1 (.slice a yr.length c) yr.length (bs yr) := hw.own.alloc _
        have hnews : ∀ j u, (bs [0])[j]? = some u → (wr.alloc (.cells #[.int .u8 0] 5)).cell? ((⟨wr.heap.size, 0, none⟩ : Addr).add j) = some u := World.news_of_block (cs := #[.int .u8 0]) (heap_alloc_new wr _)
        have hB : B ≤ wr.heap.size := by have := hw.low; omega
        have hmade := hw.made
        have HLn : Hid (yr.length = (t + (n - m) + 7) / 8) := hlen
        clear hlen
        have hv32 : v < 4294967296 := Nat.lt_of_lt_of_le hv (show 2 ^ n ≤ 2 ^ 32 from Nat.pow_le_pow_right (by omega) hn)
        have HB : Hid (∀ (k : Nat), 1 ≤ k → k ≤ 8 → ∀ a, 0 % 2 ^ (k + (8 - k)) = 0 ∧ Wv ((yr ++ [0]).set yr.length (0 + a % 2 ^ k * 2 ^ (8 - k))) (t + (n - m) + k) ((V * 2 ^ (n - m) + v / 2 ^ m) * 2 ^ k + a % 2 ^ k)) := fun k h1 h2 a =>
          put_book a (getD_snoc0 hw.wv.byt) (by simp) (by simp [List.getD_eq_getElem?_getD]) (by rw [List.length_append]; exact (hw.wv.more hf).1) (by have := (hw.wv.more hf).2; omega) hw.wv.vlt (by omega) h1 h2
        by_cases hmin : m ≤ 8
        · go_wp2_with (at_builtin; refine wpList_append_lies _ (by rfl) _ _ _ (by rfl) B 5 i (.int .u8 0) 1 1 Try.underlying24 hi hz0 hz1 hz2 rfl (by omega) _ yr.length (bs yr) (by rfl) hown ⟨wr.heap.size, 0, none⟩ 1 1 (bs [0]) (by rfl) (by rfl) hnews (bs_one _) (by omega) (by unfold maxLen; omega) (by omega) (by simp; omega) (wr.heap.size + 1) (by simp) ?_; intro g cap w1 hown1 hgrow hat hlt; have c0 := (far_cell hgrow hlow hap 0).1.trans hmade; have c1 := (far_cell hgrow hlow hap 1).1.trans hdat; have c2 := (far_cell hgrow hlow hap 2).1.trans hfree; have z1 := (far_cell hgrow hlow hap 1).2.trans ht1; have z2 := (far_cell hgrow hlow hap 2).2.trans ht2)
          obtain ⟨RD0, KD0⟩ := grow_rdy hw hgrow hown1 hat (.int .i64 8) (8 - (m : Int))
          have RD : Hid _ := RD0
          have KD : Hid _ := hk.trans KD0
          have k1 := RD0.data
          have k2 := RD0.free
          have k3 := RD0.own.cellAt yr.length (by omega)
          have k4 := RD0.own.frozenAt yr.length
          rw [bs_get _ _ (by simp), snoc_last yr] at k3
          clear RD0 KD0 c0 c1 c2 z1 z2 hown1 hgrow hown hnews
          generalize ((w1.setCell ⟨x, 1, none⟩ (.slice (some ⟨g, 0, none⟩) (yr.length + 1) cap)).setCell ⟨x, 2, none⟩ (.int .i64 8)).setCell ⟨x, 2, none⟩ (.int .i64 (8 - (m : Int))) = W at k1 k2 k3 k4 RD KD ⊢
          go_quiet (fail)
          go_wp2_with fail
          have j1 : (W.drewN nq).cell? ⟨x, 1, none⟩ = some (.slice (some ⟨g, 0, none⟩) (yr.length + 1) cap) := k1
          have j2 : (W.drewN nq).cell? ⟨x, 2, none⟩ = some (.int .i64 (8 - (m : Int))) := k2
          have j3 : (W.drewN nq).cell? ⟨g, yr.length, none⟩ = some (.int .u8 0) := k3
          have j4 : (W.drewN nq).frozen? ⟨g, yr.length, none⟩ = false := k4
          have RD2 : Hid (Rdy (W.drewN nq) B x g cap yr.length (yr ++ [0]) (8 - (m : Int))) := RD.out.drewN nq
          have KD2 : Hid (Kw x d (.slice (some ⟨g, 0, none⟩) (yr.length + 1) cap) w (W.drewN nq)) := KD.out.drewN nq
          clear k1 k2 k3 k4 RD KD
          generalize W.drewN nq = W2 at j1 j2 j3 j4 RD2 KD2 ⊢
          go_region
          go_wp2_with fail
          have B1 := HB.out m (by omega) (by omega) v
          have B2 := put_turn (t := t) (V := V) (v := v) (n := n) (m := m) (k := m) hm (Nat.le_refl _) (zr := (yr ++ [0]).set yr.length (0 + v % 2 ^ m * 2 ^ (8 - m))) (by rw [Nat.sub_self, Nat.pow_zero, Nat.div_one]; exact B1.2)
          rw [Nat.sub_self] at B2
          exact ⟨⟨0, _, (yr ++ [0]).set yr.length (0 + v % 2 ^ m * 2 ^ (8 - m)), by omega, rfl, RD2.out.stored (f' := 8 - m) (put_byte 0 v m (8 - m) (by omega) hv32 (by omega) B1.1) (by omega) B2 (by have := HLn.out; omega), (KD2.out.trans (Kw.setOwn rfl _ _)).drew⟩, by simp [intOf]; omega⟩
        · go_wp2_with (at_builtin; refine wpList_append_lies _ (by rfl) _ _ _ (by rfl) B 5 i (.int .u8 0) 1 1 Try.underlying24 hi hz0 hz1 hz2 rfl (by omega) _ yr.length (bs yr) (by rfl) hown ⟨wr.heap.size, 0, none⟩ 1 1 (bs [0]) (by rfl) (by rfl) hnews (bs_one _) (by omega) (by unfold maxLen; omega) (by omega) (by simp; omega) (wr.heap.size + 1) (by simp) ?_; intro g cap w1 hown1 hgrow hat hlt; have c0 := (far_cell hgrow hlow hap 0).1.trans hmade; have c1 := (far_cell hgrow hlow hap 1).1.trans hdat; have c2 := (far_cell hgrow hlow hap 2).1.trans hfree; have z1 := (far_cell hgrow hlow hap 1).2.trans ht1; have z2 := (far_cell hgrow hlow hap 2).2.trans ht2)
          obtain ⟨RD0, KD0⟩ := grow_rdy hw hgrow hown1 hat (.int .i64 8) (0 : Int)
          have RD : Hid _ := RD0
          have KD : Hid _ := hk.trans KD0
          have k1 := RD0.data
          have k2 := RD0.free
          have k3 := RD0.own.cellAt yr.length (by omega)
          have k4 := RD0.own.frozenAt yr.length
          rw [bs_get _ _ (by simp), snoc_last yr] at k3
          clear RD0 KD0 c0 c1 c2 z1 z2 hown1 hgrow hown hnews
          generalize ((w1.setCell ⟨x, 1, none⟩ (.slice (some ⟨g, 0, none⟩) (yr.length + 1) cap)).setCell ⟨x, 2, none⟩ (.int .i64 8)).setCell ⟨x, 2, none⟩ (.int .i64 (0 : Int)) = W at k1 k2 k3 k4 RD KD ⊢
          go_quiet (fail)
          go_wp2_with fail
          have j1 : (W.drewN nq).cell? ⟨x, 1, none⟩ = some (.slice (some ⟨g, 0, none⟩) (yr.length + 1) cap) := k1
          have j2 : (W.drewN nq).cell? ⟨x, 2, none⟩ = some (.int .i64 (0 : Int)) := k2
          have j3 : (W.drewN nq).cell? ⟨g, yr.length, none⟩ = some (.int .u8 0) := k3
          have j4 : (W.drewN nq).frozen? ⟨g, yr.length, none⟩ = false := k4
          have RD2 : Hid (Rdy (W.drewN nq) B x g cap yr.length (yr ++ [0]) (0 : Int)) := RD.out.drewN nq
          have KD2 : Hid (Kw x d (.slice (some ⟨g, 0, none⟩) (yr.length + 1) cap) w (W.drewN nq)) := KD.out.drewN nq
          clear k1 k2 k3 k4 RD KD
          generalize W.drewN nq = W2 at j1 j2 j3 j4 RD2 KD2 ⊢
          go_region
          go_wp2_with fail
          have B1 := HB.out 8 (by omega) (Nat.le_refl _) (v / 2 ^ (m - 8))
          have PB : bits .or .u8 0 (bits .and .u32 ((v : Int) / 2 ^ (m - 8)) 255 % 256) = ((0 + v / 2 ^ (m - 8) % 2 ^ 8 * 2 ^ (8 - 8) : Nat) : Int) := put_byte0 0 v (m - 8) 8 (by omega) hv32 (by omega) B1.1
          have B2 := put_turn (t := t) (V := V) (v := v) (n := n) (m := m) (k := 8) hm (by omega) B1.2
          exact ⟨⟨m - 8, _, (yr ++ [0]).set yr.length (0 + v / 2 ^ (m - 8) % 2 ^ 8 * 2 ^ (8 - 8)), by omega, by rw [show ((m : Int) - 8) = ((m - 8 : Nat) : Int) from by omega], RD2.out.stored (f' := 0) PB (by omega) B2 (by have := HLn.out; omega), (KD2.out.trans (Kw.setOwn rfl _ _)).drew⟩, by simp [intOf]; omega⟩
      · obtain ⟨f, hfe⟩ : ∃ f, f = 8 * yr.length - (t + (n - m)) := ⟨_, rfl⟩
        have hlen := hw.wv.len
        have hfree := hw.free
        rw [← hfe] at hfree
        have hf1 : 1 ≤ f := by omega
        have hf7 : f ≤ 7 := by omega
        obtain ⟨q, hq⟩ : ∃ q, yr.length = q + 1 := ⟨yr.length - 1, by omega⟩
        have hqb : q ≤ 1099511627776 := by omega
        have ht2 := hw.thaw2
        obtain ⟨g, cap, rfl, hg1, hg2⟩ := hw.own.form (by omega)
        have hdat := hw.data
        have hlow := hw.low.2
        have hgx : g ≠ x := fun e => hw.apart (by simp [Value.ownBlock, e])
        have hcap : yr.length ≤ cap := by rcases hw.own.2 with ⟨h1, _⟩ | ⟨g', c', cur, h1, _, _, h2, _⟩ <;> simp at h1; omega
        have hcell : wr.cell? ⟨g, q, none⟩ = some (.int .u8 (yr.getD q 0 : Nat)) := by
          rw [hw.own.cellAt _ (by omega)]; exact bs_get _ _ (by omega)
        have hgfz : wr.frozen? ⟨g, q, none⟩ = false := hw.own.frozenAt _
        have hbyt := hw.wv.byt q
        generalize hlast : yr.getD q 0 = last at *
        rw [hq] at hdat hcap
        have HF : Hid (f = 8 * yr.length - (t + (n - m))) := hfe
        have HQ : Hid (yr.length = q + 1) := hq
        have HLn : Hid (yr.length = (t + (n - m) + 7) / 8) := hlen
        have HLa : Hid (yr.getD q 0 = last) := hlast
        have HB : Hid (∀ (k : Nat), 1 ≤ k → k ≤ f → ∀ a, last % 2 ^ (k + (f - k)) = 0 ∧ Wv (yr.set q (last + a % 2 ^ k * 2 ^ (f - k))) (t + (n - m) + k) ((V * 2 ^ (n - m) + v / 2 ^ m) * 2 ^ k + a % 2 ^ k)) := fun k h1 h2 a =>
          put_book a hw.wv.byt hq hlast (by rw [hw.wv.val, hfe]) (by omega) hw.wv.vlt (by omega) h1 h2
        have hv32 : v < 4294967296 := Nat.lt_of_lt_of_le hv (show 2 ^ n ≤ 2 ^ 32 from Nat.pow_le_pow_right (by omega) hn)
        clear hfe hlen hlast hq
        have hfz : ((f : Int) == 0) = false := by simp; omega
        by_cases hmin : m ≤ f
        · go_wp2_with fail
          have k1 : (wr.setCell ⟨x, 2, none⟩ (.int .i64 ((f : Int) - m))).cell? ⟨x, 1, none⟩ = some (.slice (some ⟨g, 0, none⟩) (q + 1) cap) := by
            rw [World.cell?_setCell_other _ _ _ _ (by simp)]; exact hdat
          have k2 : (wr.setCell ⟨x, 2, none⟩ (.int .i64 ((f : Int) - m))).cell? ⟨x, 2, none⟩ = some (.int .i64 ((f : Int) - m)) := World.cell?_setCell_same wr ⟨x, 2, none⟩ _ hfree
          have k3 : (wr.setCell ⟨x, 2, none⟩ (.int .i64 ((f : Int) - m))).cell? ⟨g, q, none⟩ = some (.int .u8 last) := by
            rw [World.cell?_setCell_other _ _ _ _ (by simp)]; exact hcell
          have k4 : (wr.setCell ⟨x, 2, none⟩ (.int .i64 ((f : Int) - m))).frozen? ⟨g, q, none⟩ = false := by
            rw [World.frozen?_setCell]; exact hgfz
          have RD : Hid (Rdy (wr.setCell ⟨x, 2, none⟩ (.int .i64 ((f : Int) - m))) B x g cap q yr ((f : Int) - m)) := hw.rdy HQ.out _
          have KD : Hid (Kw x d (.slice (some ⟨g, 0, none⟩) (q + 1) cap) w (wr.setCell ⟨x, 2, none⟩ (.int .i64 ((f : Int) - m)))) := by
            rw [← HQ.out]; exact hk.trans (Kw.set _ _)
          generalize wr.setCell ⟨x, 2, none⟩ (.int .i64 ((f : Int) - m)) = W at k1 k2 k3 k4 RD KD ⊢
          go_quiet (fail)
          go_wp2_with fail
          have j1 : (W.drewN nq).cell? ⟨x, 1, none⟩ = some (.slice (some ⟨g, 0, none⟩) (q + 1) cap) := k1
          have j2 : (W.drewN nq).cell? ⟨x, 2, none⟩ = some (.int .i64 ((f : Int) - m)) := k2
          have j3 : (W.drewN nq).cell? ⟨g, q, none⟩ = some (.int .u8 last) := k3
          have j4 : (W.drewN nq).frozen? ⟨g, q, none⟩ = false := k4
          have RD2 : Hid (Rdy (W.drewN nq) B x g cap q yr ((f : Int) - m)) := RD.out.drewN nq
          have KD2 : Hid (Kw x d (.slice (some ⟨g, 0, none⟩) (q + 1) cap) w (W.drewN nq)) := KD.out.drewN nq
          clear k1 k2 k3 k4 RD KD
          generalize W.drewN nq = W2 at j1 j2 j3 j4 RD2 KD2 ⊢
          go_region
          go_wp2_with fail
          have B1 := HB.out m (by omega) (by omega) v
          have B2 := put_turn (t := t) (V := V) (v := v) (n := n) (m := m) (k := m) hm (Nat.le_refl _) (zr := yr.set q (last + v % 2 ^ m * 2 ^ (f - m))) (by rw [Nat.sub_self, Nat.pow_zero, Nat.div_one]; exact B1.2)
          rw [Nat.sub_self] at B2
          exact ⟨⟨0, _, yr.set q (last + v % 2 ^ m * 2 ^ (f - m)), by omega, rfl, RD2.out.stored (f' := f - m) (put_byte last v m (f - m) hbyt hv32 (by omega) B1.1) (by omega) B2 (by have := HF.out; have := HQ.out; omega), (KD2.out.trans (Kw.setOwn rfl _ _)).drew⟩, by simp [intOf]; omega⟩
        · have hmf : f < m := by omega
          go_wp2_with fail
          have k1 : (wr.setCell ⟨x, 2, none⟩ (.int .i64 0)).cell? ⟨x, 1, none⟩ = some (.slice (some ⟨g, 0, none⟩) (q + 1) cap) := by
            rw [World.cell?_setCell_other _ _ _ _ (by simp)]; exact hdat
          have k2 : (wr.setCell ⟨x, 2, none⟩ (.int .i64 0)).cell? ⟨x, 2, none⟩ = some (.int .i64 0) := World.cell?_setCell_same wr ⟨x, 2, none⟩ _ hfree
          have k3 : (wr.setCell ⟨x, 2, none⟩ (.int .i64 0)).cell? ⟨g, q, none⟩ = some (.int .u8 last) := by
            rw [World.cell?_setCell_other _ _ _ _ (by simp)]; exact hcell
          have k4 : (wr.setCell ⟨x, 2, none⟩ (.int .i64 0)).frozen? ⟨g, q, none⟩ = false := by
            rw [World.frozen?_setCell]; exact hgfz
          have RD : Hid (Rdy (wr.setCell ⟨x, 2, none⟩ (.int .i64 0)) B x g cap q yr 0) := hw.rdy HQ.out (0 : Int)
          have KD : Hid (Kw x d (.slice (some ⟨g, 0, none⟩) (q + 1) cap) w (wr.setCell ⟨x, 2, none⟩ (.int .i64 0))) := by
            rw [← HQ.out]; exact hk.trans (Kw.set _ _)
          generalize wr.setCell ⟨x, 2, none⟩ (.int .i64 0) = W at k1 k2 k3 k4 RD KD ⊢
          go_quiet (fail)
          go_wp2_with fail
          have j1 : (W.drewN nq).cell? ⟨x, 1, none⟩ = some (.slice (some ⟨g, 0, none⟩) (q + 1) cap) := k1
          have j2 : (W.drewN nq).cell? ⟨x, 2, none⟩ = some (.int .i64 0) := k2
          have j3 : (W.drewN nq).cell? ⟨g, q, none⟩ = some (.int .u8 last) := k3
          have j4 : (W.drewN nq).frozen? ⟨g, q, none⟩ = false := k4
          have RD2 : Hid (Rdy (W.drewN nq) B x g cap q yr 0) := RD.out.drewN nq
          have KD2 : Hid (Kw x d (.slice (some ⟨g, 0, none⟩) (q + 1) cap) w (W.drewN nq)) := KD.out.drewN nq
          clear k1 k2 k3 k4 RD KD
          generalize W.drewN nq = W2 at j1 j2 j3 j4 RD2 KD2 ⊢
          go_region
          go_wp2_with fail
          have B1 := HB.out f hf1 (Nat.le_refl _) (v / 2 ^ (m - f))
          have B2 := put_turn (t := t) (V := V) (v := v) (n := n) (m := m) (k := f) hm (by omega) B1.2
          exact ⟨⟨m - f, _, yr.set q (last + v / 2 ^ (m - f) % 2 ^ f * 2 ^ (f - f)), by omega, by rw [show ((m : Int) - (f : Int)) = ((m - f : Nat) : Int) from by omega], RD2.out.stored (f' := 0) (put_byte0 last v (m - f) f hbyt hv32 (by omega) B1.1) (by omega) B2 (by have := HF.out; have := HQ.out; omega), (KD2.out.trans (Kw.setOwn rfl _ _)).drew⟩, by simp [intOf]; omega⟩

end Go.Proofs.Ytkippnfijjhobab
