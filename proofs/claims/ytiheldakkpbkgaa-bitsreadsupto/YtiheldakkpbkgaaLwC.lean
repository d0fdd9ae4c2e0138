/- DERIVED. The walk of the statement BitsStays: what is refused moves nothing. -/
import Derived.Test.YtiheldakkpbkgaaLwB
namespace Go.Proofs.Ytiheldakkpbkgaa
open Go.RowKit

/-- a reader's blocks and a writer's are apart -/
def Sep (r : Nat) (v : Value) (x : Nat) (d : Value) : Prop := x ≠ r ∧ d.ownBlock ≠ some r ∧ ∀ g, v.ownBlock = some g → g ≠ x ∧ d.ownBlock ≠ some g
theorem Wr.kq {a b : World} {B x r : Nat} {d v : Value} {ys : List Nat} {t V : Nat} (h : Wr a B x d ys t V) (hk : Kq r a b) (hs : Sep r v x d) : Wr b B x d ys t V :=
  h.carry (hk.block x h.low.2 hs.1) (fun g hg => hk.block g (h.own.lt g hg).2 (fun e => hs.2.1 (by rw [hg, e]))) hk.size
theorem Rd.kw {a b : World} {r x : Nat} {v d d' : Value} {zs : List Nat} {p : Nat} (h : Rd a r v zs p) (hk : Kw x d d' a b) (hs : Sep r v x d) : Rd b r v zs p :=
  h.carry (hk.block r h.low (Ne.symm hs.1) hs.2.1) (fun g hg => hk.block g (h.own_lt g hg).1 (hs.2.2 g hg).1 (hs.2.2 g hg).2) hk.size
theorem Sep.kw {a b : World} {r x : Nat} {v d d' : Value} {zs : List Nat} {p : Nat} (hs : Sep r v x d) (hk : Kw x d d' a b) (h : Rd a r v zs p) : Sep r v x d' :=
  ⟨hs.1, fun e => by rcases hk.new r e with e | e; exact hs.2.1 e; have := h.low; omega,
   fun g hg => ⟨(hs.2.2 g hg).1, fun e => by rcases hk.new g e with e | e; exact (hs.2.2 g hg).2 e; have := (h.own_lt g hg).1; omega⟩⟩
theorem ownKw {a b : World} {C n x : Nat} {u d d' : Value} {xs : List Value} (h : a.ownsRow C 5 1 u n xs) (hk : Kw x d d' a b) (hl : ∀ g, u.ownBlock = some g → C ≤ g ∧ g < a.heap.size) (hx : x < C) (hd : ∀ g, d.ownBlock = some g → g < C) : b.ownsRow C 5 1 u n xs := by
  refine ⟨h.1, ?_⟩
  rcases h.2 with h1 | ⟨g, cap, cur, rfl, h2, h3, h4⟩
  · exact Or.inl h1
  · have := hl g rfl
    exact Or.inr ⟨g, cap, cur, rfl, h2, by rw [hk.block g this.2 (by omega) (fun e => by have := hd g e; omega)]; exact h3, h4⟩
theorem ownBelow {a b : World} {C n : Nat} {u : Value} {xs : List Value} (h : a.ownsRow C 5 1 u n xs) (hb : Below a.heap.size a b) : b.ownsRow C 5 1 u n xs := by
  have hlt := h.lt
  refine ⟨h.1, ?_⟩
  rcases h.2 with h1 | ⟨g, cap, cur, rfl, h2, h3, h4⟩
  · exact Or.inl h1
  · exact Or.inr ⟨g, cap, cur, rfl, h2, by rw [hb.block g (hlt g rfl).2]; exact h3, h4⟩
theorem doCells {W w : World} {b off k : Nat} {K N : Int} {VV : Nat} (hb : Below W.heap.size W w) (hbl : b < W.heap.size) (h0 : Hid (W.cell? ⟨b, off + k * 3, none⟩ = some (.int .i64 K))) (h1 : Hid (W.cell? ⟨b, off + k * 3 + 1, none⟩ = some (.int .i64 N))) (h2 : Hid (W.cell? ⟨b, off + k * 3 + 2, none⟩ = some (.int .u32 (VV : Nat)))) :
    w.cell? ⟨b, off + k * 3, none⟩ = some (.int .i64 K) ∧ w.cell? ⟨b, off + k * 3 + 1, none⟩ = some (.int .i64 N) ∧ w.cell? ⟨b, off + k * 3 + 2, none⟩ = some (.int .u32 (VV : Nat)) := by
  rw [hb.cell (p := ⟨b, off + k * 3, none⟩) hbl, hb.cell (p := ⟨b, off + k * 3 + 1, none⟩) hbl, hb.cell (p := ⟨b, off + k * 3 + 2, none⟩) hbl]
  exact ⟨h0.out, h1.out, h2.out⟩

def StInv (W : World) (n r : Nat) (v : Value) (zs : List Nat) (x : Nat) (i : Value) (wr : World) : Prop :=
  ∃ (k p t V : Nat) (d : Value) (ys : List Nat), i = .int .i64 k ∧ k ≤ n ∧ k ≤ 100 ∧ Rd wr r v zs p ∧ Wr wr W.heap.size x d ys t V ∧ t ≤ 64 * k ∧ Below W.heap.size W wr ∧ Sep r v x d

set_option maxHeartbeats 4000000 in
set_option maxRecDepth 100000 in
theorem stays_walk (W : World) (vb : Value) (zs : List Nat) (a : Option Addr) (c : Nat) (L : List (Int × Int × Nat)) (hb : SrcOf W vb zs) (hz : ∀ i, zs.getD i 0 < 256) (hzl : zs.length ≤ 140737488355328) (hL : DoAt W (.slice a L.length c) L) (hLl : L.length ≤ 140737488355328) :
    Calls Try.prog 7 #[vb, .slice a L.length c] W fun e w' => e = .returned (.bool true) ∧ Below W.heap.size W w' := by
  have HDo : Hid (DoAt W (.slice a L.length c) L) := hL
  have HSr : Hid (SrcOf W vb zs) := hb
  clear hL hb
  go_enter Try.func7, Try.ntmps7
  go_wp2_with fail
  refine (works_true W).mono ?_; rintro e u1 ⟨rfl, hu1⟩
  go_wp2_with fail
  have hsr1 : SrcOf u1 vb zs := by
    rcases HSr.out with h | ⟨ad, cc, rfl, hc⟩
    · exact Or.inl h
    · exact Or.inr ⟨ad, cc, rfl, fun j hj => by rw [hu1.cell (World.block_lt_of_cell? W _ (hc j hj))]; exact hc j hj⟩
  refine (new_any hsr1 hz hzl).mono ?_; rintro e u2 ⟨r, v, rfl, hr2, hrl, hvl, hb2⟩
  have HU2 : Hid (Below W.heap.size W u2) := hu1.trans (hb2.mono hu1.size)
  have hBr : W.heap.size ≤ r := Nat.le_trans hu1.size hrl
  have hvl' : Hid (∀ g, v.ownBlock = some g → u1.heap.size ≤ g) := hvl
  clear hvl hsr1 hb2
  go_wp2_with fail
  refine (write_new u2).mono ?_; rintro e u3 ⟨rfl, hw3, hb3⟩
  have hr3 := hr2.below hb3
  have HU3 : Hid (Below W.heap.size W u3) := HU2.out.trans (hb3.mono HU2.out.size)
  have hW2 : W.heap.size ≤ u2.heap.size := HU2.out.size
  have hw3' : Wr u3 W.heap.size u2.heap.size (.slice none 0 0) [] 0 0 := ⟨hw3.made, hw3.data, World.ownsRow_nil _ _ _ _, hw3.apart, hw3.free, hw3.thaw1, hw3.thaw2, ⟨hW2, hw3.low.2⟩, hw3.wv⟩
  have hsep : Sep r v u2.heap.size (.slice none 0 0) := ⟨by have := hr2.low; omega, by simp [Value.ownBlock], fun g hg => ⟨by have := (hr2.own_lt g hg).1; omega, by simp [Value.ownBlock]⟩⟩
  clear hw3 hb3 hr2
  generalize u2.heap.size = x at *
  go_wp2_with fail
  go_loopw [7] (fun i wr => StInv W L.length r v zs x i wr) (fun i _ => L.length - (intOf i).toNat)
  case atStart => exact ⟨0, 0, 0, 0, _, [], rfl, by omega, by omega, hr3, hw3', by omega, HU3.out, hsep⟩
  case round =>
    clear hr3 hw3' HU3 HU2 hsep hu1 HSr
    obtain ⟨k, p, t, V, d, ys, rfl, hk1, hk2, hr, hw, ht, hbW, hs⟩ := hrel
    have HB : Hid (Below W.heap.size W wr) := hbW
    clear hbW
    by_cases hlt : k < L.length ∧ k < 100
    · obtain ⟨hlt1, hlt2⟩ := hlt
      obtain ⟨b, off, rfl, hbl, hq0, hq1, hq2, hVV⟩ := HDo.out.cells k hlt1
      generalize L.getD k (0, 0, 0) = el at hq0 hq1 hq2 hVV
      obtain ⟨K, N, VV⟩ := el
      simp only at hq0 hq1 hq2 hVV
      replace hq0 : Hid _ := hq0
      replace hq1 : Hid _ := hq1
      replace hq2 : Hid _ := hq2
      obtain ⟨q0, q1, q2⟩ := doCells HB.out hbl hq0 hq1 hq2
      have hstay := rdOne_stays zs p K N
      have hgoes := rdOne_goes zs p K N
      have hsays := wrOne_says t V K N VV
      have hle := wrOne_le t V K N VV hVV
      obtain ⟨⟨val, er, p'⟩, hrd⟩ : ∃ y, rdOne zs p K N = y := ⟨_, rfl⟩
      obtain ⟨⟨fe, t', V'⟩, hwd⟩ : ∃ y, wrOne t V K N VV = y := ⟨_, rfl⟩
      rw [hrd] at hstay hgoes
      rw [hwd] at hsays hle
      simp only at hstay hgoes hsays hle
      have HRD : Hid (rdOne zs p K N = (val, er, p')) := hrd
      have HWD : Hid (wrOne t V K N VV = (fe, t', V')) := hwd
      have HSy : Hid (fe = 0 ∨ (fe, t', V') = (2, t, V)) := hsays
      clear q0 q1 q2 hrd hwd hsays
      by_cases her : er = 0
      · subst her
        have hll : ((8 * zs.length - p' : Nat) : Int) ≤ ((8 * zs.length - p : Nat) : Int) := by omega
        clear hstay
        by_cases hfe : fe = 0
        · subst hfe
          go_wp2_with fail
          refine (left_rd hr).mono ?_; rintro e w1 ⟨rfl, hr1, hk1⟩
          have hw1 := hw.kp hk1 hs.1 hs.2.1
          have HB1 : Hid (Below W.heap.size W w1) := HB.out.trans (hk1.toBelow hBr)
          obtain ⟨q0, q1, q2⟩ := doCells HB1.out hbl hq0 hq1 hq2
          clear hr hw hk1 HB
          go_wp2_with fail
          have c2 := read_rd hr1 K N (VV : Nat)
          rw [HRD.out] at c2
          refine c2.mono ?_; rintro e w2 ⟨rfl, hr2, hk2⟩
          have hw2 := hw1.kq hk2 hs
          have HB2 : Hid (Below W.heap.size W w2) := HB1.out.trans (hk2.toBelow hBr (by have := HB1.out.size; omega))
          clear c2 hk2 hw1 hr1 q0 q1 q2
          go_wp2_with fail
          refine (left_rd hr2).mono ?_; rintro e w4 ⟨rfl, hr4, hk4⟩
          have hw4 := hw2.kp hk4 hs.1 hs.2.1
          have HB4 : Hid (Below W.heap.size W w4) := HB2.out.trans (hk4.toBelow hBr)
          clear hr2 hw2 hk4 HB2
          go_wp2_with fail
          refine (bytes_wr hw4 (by omega)).mono ?_; rintro e w5 ⟨a5, c5, rfl, ho5, hb5⟩
          have hr5 := hr4.below hb5
          have hw5 := hw4.below hb5
          have HB5 : Hid (Below W.heap.size W w5) := HB4.out.trans (hb5.mono HB4.out.size)
          have hl5 := ho5.lt
          have HL5 : Hid (∀ g, (Value.slice a5 ys.length c5).ownBlock = some g → w4.heap.size ≤ g ∧ g < w5.heap.size) := hl5
          have hsz4 := hw4.low
          have hrl4 := hr4.low
          clear hl5
          obtain ⟨q0, q1, q2⟩ := doCells HB5.out hbl hq0 hq1 hq2
          go_wp2_with fail
          have c6 := write_wr hw5 (by omega) K N VV hVV
          rw [HWD.out] at c6
          refine c6.mono ?_; rintro e w6 ⟨rfl, d6, y6, hw6, hk6⟩
          have hr6 := hr5.kw hk6 hs
          have hs6 := hs.kw hk6 hr5
          have HB6 : Hid (Below W.heap.size W w6) := HB5.out.trans (hw5.kwBelow hk6)
          clear q0 q1 q2 c6
          go_wp2_with fail
          go_roundw
          case rel => exact ⟨k + 1, p', t', V', d6, y6, by go_num, by omega, by omega, hr6, hw6, by omega, HB6.out, hs6⟩
          case measure => simp [intOf]; omega
        · obtain ⟨rfl, rfl, rfl⟩ : fe = 2 ∧ t' = t ∧ V' = V := by
            rcases HSy.out with e | e
            · exact absurd e hfe
            · simpa using e
          clear hfe
          go_wp2_with fail
          refine (left_rd hr).mono ?_; rintro e w1 ⟨rfl, hr1, hk1⟩
          have hw1 := hw.kp hk1 hs.1 hs.2.1
          have HB1 : Hid (Below W.heap.size W w1) := HB.out.trans (hk1.toBelow hBr)
          obtain ⟨q0, q1, q2⟩ := doCells HB1.out hbl hq0 hq1 hq2
          clear hr hw hk1 HB
          go_wp2_with fail
          have c2 := read_rd hr1 K N (VV : Nat)
          rw [HRD.out] at c2
          refine c2.mono ?_; rintro e w2 ⟨rfl, hr2, hk2⟩
          have hw2 := hw1.kq hk2 hs
          have HB2 : Hid (Below W.heap.size W w2) := HB1.out.trans (hk2.toBelow hBr (by have := HB1.out.size; omega))
          clear c2 hk2 hw1 hr1 q0 q1 q2
          go_wp2_with fail
          refine (left_rd hr2).mono ?_; rintro e w4 ⟨rfl, hr4, hk4⟩
          have hw4 := hw2.kp hk4 hs.1 hs.2.1
          have HB4 : Hid (Below W.heap.size W w4) := HB2.out.trans (hk4.toBelow hBr)
          clear hr2 hw2 hk4 HB2
          go_wp2_with fail
          refine (bytes_wr hw4 (by omega)).mono ?_; rintro e w5 ⟨a5, c5, rfl, ho5, hb5⟩
          have hr5 := hr4.below hb5
          have hw5 := hw4.below hb5
          have HB5 : Hid (Below W.heap.size W w5) := HB4.out.trans (hb5.mono HB4.out.size)
          have hl5 := ho5.lt
          have HL5 : Hid (∀ g, (Value.slice a5 ys.length c5).ownBlock = some g → w4.heap.size ≤ g ∧ g < w5.heap.size) := hl5
          have hsz4 := hw4.low
          have hrl4 := hr4.low
          clear hl5
          obtain ⟨q0, q1, q2⟩ := doCells HB5.out hbl hq0 hq1 hq2
          go_wp2_with fail
          have c6 := write_wr hw5 (by omega) K N VV hVV
          rw [HWD.out] at c6
          refine c6.mono ?_; rintro e w6 ⟨rfl, d6, y6, hw6, hk6⟩
          have hr6 := hr5.kw hk6 hs
          have hs6 := hs.kw hk6 hr5
          have HB6 : Hid (Below W.heap.size W w6) := HB5.out.trans (hw5.kwBelow hk6)
          clear q0 q1 q2 c6
          have hdd : w6.ownsRow w4.heap.size 5 1 (.slice a5 ys.length c5) ys.length (bs ys) := ownKw ho5 hk6 (HL5.out) hsz4.2 (fun g hg => (hw4.own.lt g hg).2)
          go_wp2_with fail
          refine (bytes_wr hw6 (by omega)).mono ?_; rintro e w7 ⟨a7, c7, rfl, ho7, hb7⟩
          have hr7 := hr6.below hb7
          have hw7 := hw6.below hb7
          have HB7 : Hid (Below W.heap.size W w7) := HB6.out.trans (hb7.mono HB6.out.size)
          have hdd7 := ownBelow hdd hb7
          go_wp2_with fail
          have hyy : y6 = ys := hw6.wv.same hw5.wv
          have c8 := eqBytes_own (xs := y6) (ys := ys) ho7 hdd7 (by have := hw6.wv.len; omega) hw6.wv.byt hw5.wv.byt
          rw [show decide (y6 = ys) = true from by simp [hyy]] at c8
          clear hyy
          refine c8.mono ?_; rintro e w8 ⟨rfl, hb8⟩
          have hr8 := hr7.below hb8
          have hw8 := hw7.below hb8
          have HB8 : Hid (Below W.heap.size W w8) := HB7.out.trans (hb8.mono HB7.out.size)
          go_wp2_with fail
          go_roundw
          case rel => exact ⟨k + 1, p', t', V', d6, y6, by go_num, by omega, by omega, hr8, hw8, by omega, HB8.out, hs6⟩
          case measure => simp [intOf]; omega
      · obtain rfl : p' = p := hstay her
        have her1 : ((er : Int) != 0) = true := by rw [bne_iff_ne]; omega
        have her2 : ((er : Int) == 0) = false := by simp; omega
        clear hstay her
        by_cases hfe : fe = 0
        · subst hfe
          go_wp2_with fail
          refine (left_rd hr).mono ?_; rintro e w1 ⟨rfl, hr1, hk1⟩
          have hw1 := hw.kp hk1 hs.1 hs.2.1
          have HB1 : Hid (Below W.heap.size W w1) := HB.out.trans (hk1.toBelow hBr)
          obtain ⟨q0, q1, q2⟩ := doCells HB1.out hbl hq0 hq1 hq2
          clear hr hw hk1 HB
          go_wp2_with fail
          have c2 := read_rd hr1 K N (VV : Nat)
          rw [HRD.out] at c2
          refine c2.mono ?_; rintro e w2 ⟨rfl, hr2, hk2⟩
          have hw2 := hw1.kq hk2 hs
          have HB2 : Hid (Below W.heap.size W w2) := HB1.out.trans (hk2.toBelow hBr (by have := HB1.out.size; omega))
          clear c2 hk2 hw1 hr1 q0 q1 q2
          obtain ⟨q0, q1, q2⟩ := doCells HB2.out hbl hq0 hq1 hq2
          go_wp2_with fail
          have c3 := read_rd hr2 K N (VV : Nat)
          rw [HRD.out] at c3
          refine c3.mono ?_; rintro e w3 ⟨rfl, hr3, hk3⟩
          have hw3 := hw2.kq hk3 hs
          have HB3 : Hid (Below W.heap.size W w3) := HB2.out.trans (hk3.toBelow hBr (by have := HB2.out.size; omega))
          clear c3 hk3 hw2 hr2 q0 q1 q2
          go_wp2_with fail
          refine (left_rd hr3).mono ?_; rintro e w4 ⟨rfl, hr4, hk4⟩
          have hw4 := hw3.kp hk4 hs.1 hs.2.1
          have HB4 : Hid (Below W.heap.size W w4) := HB3.out.trans (hk4.toBelow hBr)
          clear hr3 hw3 hk4 HB3
          go_wp2_with fail
          refine (bytes_wr hw4 (by omega)).mono ?_; rintro e w5 ⟨a5, c5, rfl, ho5, hb5⟩
          have hr5 := hr4.below hb5
          have hw5 := hw4.below hb5
          have HB5 : Hid (Below W.heap.size W w5) := HB4.out.trans (hb5.mono HB4.out.size)
          have hl5 := ho5.lt
          have HL5 : Hid (∀ g, (Value.slice a5 ys.length c5).ownBlock = some g → w4.heap.size ≤ g ∧ g < w5.heap.size) := hl5
          have hsz4 := hw4.low
          have hrl4 := hr4.low
          clear hl5
          obtain ⟨q0, q1, q2⟩ := doCells HB5.out hbl hq0 hq1 hq2
          go_wp2_with fail
          have c6 := write_wr hw5 (by omega) K N VV hVV
          rw [HWD.out] at c6
          refine c6.mono ?_; rintro e w6 ⟨rfl, d6, y6, hw6, hk6⟩
          have hr6 := hr5.kw hk6 hs
          have hs6 := hs.kw hk6 hr5
          have HB6 : Hid (Below W.heap.size W w6) := HB5.out.trans (hw5.kwBelow hk6)
          clear q0 q1 q2 c6
          go_wp2_with fail
          go_roundw
          case rel => exact ⟨k + 1, p', t', V', d6, y6, by go_num, by omega, by omega, hr6, hw6, by omega, HB6.out, hs6⟩
          case measure => simp [intOf]; omega
        · obtain ⟨rfl, rfl, rfl⟩ : fe = 2 ∧ t' = t ∧ V' = V := by
            rcases HSy.out with e | e
            · exact absurd e hfe
            · simpa using e
          clear hfe
          go_wp2_with fail
          refine (left_rd hr).mono ?_; rintro e w1 ⟨rfl, hr1, hk1⟩
          have hw1 := hw.kp hk1 hs.1 hs.2.1
          have HB1 : Hid (Below W.heap.size W w1) := HB.out.trans (hk1.toBelow hBr)
          obtain ⟨q0, q1, q2⟩ := doCells HB1.out hbl hq0 hq1 hq2
          clear hr hw hk1 HB
          go_wp2_with fail
          have c2 := read_rd hr1 K N (VV : Nat)
          rw [HRD.out] at c2
          refine c2.mono ?_; rintro e w2 ⟨rfl, hr2, hk2⟩
          have hw2 := hw1.kq hk2 hs
          have HB2 : Hid (Below W.heap.size W w2) := HB1.out.trans (hk2.toBelow hBr (by have := HB1.out.size; omega))
          clear c2 hk2 hw1 hr1 q0 q1 q2
          obtain ⟨q0, q1, q2⟩ := doCells HB2.out hbl hq0 hq1 hq2
          go_wp2_with fail
          have c3 := read_rd hr2 K N (VV : Nat)
          rw [HRD.out] at c3
          refine c3.mono ?_; rintro e w3 ⟨rfl, hr3, hk3⟩
          have hw3 := hw2.kq hk3 hs
          have HB3 : Hid (Below W.heap.size W w3) := HB2.out.trans (hk3.toBelow hBr (by have := HB2.out.size; omega))
          clear c3 hk3 hw2 hr2 q0 q1 q2
          go_wp2_with fail
          refine (left_rd hr3).mono ?_; rintro e w4 ⟨rfl, hr4, hk4⟩
          have hw4 := hw3.kp hk4 hs.1 hs.2.1
          have HB4 : Hid (Below W.heap.size W w4) := HB3.out.trans (hk4.toBelow hBr)
          clear hr3 hw3 hk4 HB3
          go_wp2_with fail
          refine (bytes_wr hw4 (by omega)).mono ?_; rintro e w5 ⟨a5, c5, rfl, ho5, hb5⟩
          have hr5 := hr4.below hb5
          have hw5 := hw4.below hb5
          have HB5 : Hid (Below W.heap.size W w5) := HB4.out.trans (hb5.mono HB4.out.size)
          have hl5 := ho5.lt
          have HL5 : Hid (∀ g, (Value.slice a5 ys.length c5).ownBlock = some g → w4.heap.size ≤ g ∧ g < w5.heap.size) := hl5
          have hsz4 := hw4.low
          have hrl4 := hr4.low
          clear hl5
          obtain ⟨q0, q1, q2⟩ := doCells HB5.out hbl hq0 hq1 hq2
          go_wp2_with fail
          have c6 := write_wr hw5 (by omega) K N VV hVV
          rw [HWD.out] at c6
          refine c6.mono ?_; rintro e w6 ⟨rfl, d6, y6, hw6, hk6⟩
          have hr6 := hr5.kw hk6 hs
          have hs6 := hs.kw hk6 hr5
          have HB6 : Hid (Below W.heap.size W w6) := HB5.out.trans (hw5.kwBelow hk6)
          clear q0 q1 q2 c6
          have hdd : w6.ownsRow w4.heap.size 5 1 (.slice a5 ys.length c5) ys.length (bs ys) := ownKw ho5 hk6 (HL5.out) hsz4.2 (fun g hg => (hw4.own.lt g hg).2)
          go_wp2_with fail
          refine (bytes_wr hw6 (by omega)).mono ?_; rintro e w7 ⟨a7, c7, rfl, ho7, hb7⟩
          have hr7 := hr6.below hb7
          have hw7 := hw6.below hb7
          have HB7 : Hid (Below W.heap.size W w7) := HB6.out.trans (hb7.mono HB6.out.size)
          have hdd7 := ownBelow hdd hb7
          go_wp2_with fail
          have hyy : y6 = ys := hw6.wv.same hw5.wv
          have c8 := eqBytes_own (xs := y6) (ys := ys) ho7 hdd7 (by have := hw6.wv.len; omega) hw6.wv.byt hw5.wv.byt
          rw [show decide (y6 = ys) = true from by simp [hyy]] at c8
          clear hyy
          refine c8.mono ?_; rintro e w8 ⟨rfl, hb8⟩
          have hr8 := hr7.below hb8
          have hw8 := hw7.below hb8
          have HB8 : Hid (Below W.heap.size W w8) := HB7.out.trans (hb8.mono HB7.out.size)
          go_wp2_with fail
          go_roundw
          case rel => exact ⟨k + 1, p', t', V', d6, y6, by go_num, by omega, by omega, hr8, hw8, by omega, HB8.out, hs6⟩
          case measure => simp [intOf]; omega
    · by_cases h1 : k < L.length
      · have h2 : ¬ k < 100 := by omega
        go_wp2_with fail
        go_ret
        exact ⟨rfl, HB.out⟩
      · go_wp2_with fail
        go_ret
        exact ⟨rfl, HB.out⟩

end Go.Proofs.Ytiheldakkpbkgaa
