/- DERIVED. The walk of the statement BitsOnce: there is one way to write a number. -/
import Derived.Test.YtiheldakkpbkgaaMd
import Derived.Test.YtiheldakkpbkgaaLwD
namespace Go.Proofs.Ytiheldakkpbkgaa
open Go.RowKit

theorem SrcOf.plain {w : World} {a : Option Addr} {n c : Nat} {zs : List Nat} (h : SrcOf w (.slice a n c) zs) (h0 : 0 < zs.length) : ∃ b off, a = some ⟨b, off, none⟩ ∧ b < w.heap.size ∧ ∀ j, j < zs.length → w.cell? ⟨b, off + j, none⟩ = some (.int .u8 (zs.getD j 0 : Nat)) := by
  rcases h with ⟨rfl, _⟩ | ⟨ad, cc, hv, hc⟩
  · simp at h0
  · simp only [Value.slice.injEq] at hv
    obtain ⟨rfl, _, _⟩ := hv
    obtain ⟨b, off, spot⟩ := ad
    have hspot : spot = none := by simpa [Addr.add] using World.cell?_spot (hc 0 h0)
    subst hspot
    have hbl := World.block_lt_of_cell? w _ (hc 0 h0)
    rw [addr_add] at hbl
    exact ⟨b, off, rfl, hbl, fun j hj => by rw [← addr_add]; exact hc j hj⟩
theorem SrcOf.below {w w' : World} {v : Value} {zs : List Nat} (h : SrcOf w v zs) (hb : Below w.heap.size w w') : SrcOf w' v zs := by
  rcases h with h | ⟨ad, cc, rfl, hc⟩
  · exact Or.inl h
  · exact Or.inr ⟨ad, cc, rfl, fun j hj => by rw [hb.cell (World.block_lt_of_cell? w _ (hc j hj))]; exact hc j hj⟩
theorem Wr.drew {w : World} {B x : Nat} {d : Value} {ys : List Nat} {t V : Nat} (h : Wr w B x d ys t V) : Wr w.drew B x d ys t V := h.carry rfl (fun _ _ => rfl) (Nat.le_refl _)

theorem cutByte {yj zj e : Nat} (h : yj = zj / 2 ^ e * 2 ^ e) (hy : yj < 256) : ((yj : Int) != (zj : Int) / 2 ^ e * 2 ^ e % 256) = false := by
  have e1 : (zj : Int) / 2 ^ e * 2 ^ e = ((zj / 2 ^ e * 2 ^ e : Nat) : Int) := by simp
  rw [e1, ← h]
  simp
  omega

def OnInv (W : World) (n r : Nat) (v : Value) (zs : List Nat) (x : Nat) (i : Value) (wr : World) : Prop :=
  ∃ (k p : Nat) (d : Value) (ys : List Nat), i = .int .i64 k ∧ k ≤ n ∧ k ≤ 200 ∧ Rd wr r v zs p ∧ Wr wr W.heap.size x d ys p (num zs 0 p) ∧ p ≤ 64 * k ∧ Below W.heap.size W wr ∧ Sep r v x d

def WrK2 (W w' : World) (x r : Nat) (v : Value) (t V : Nat) : Prop := ∃ d' ys', Wr w' W.heap.size x d' ys' t V ∧ Sep r v x d'

set_option maxHeartbeats 4000000 in
set_option maxRecDepth 100000 in
theorem once_walk (W : World) (ab : Option Addr) (cb : Nat) (zs : List Nat) (a : Option Addr) (c : Nat) (L : List (Int × Int × Nat)) (hb : SrcOf W (.slice ab zs.length cb) zs) (hz : ∀ i, zs.getD i 0 < 256) (hzl : zs.length ≤ 140737488355328) (hL : DoAt W (.slice a L.length c) L) (hLl : L.length ≤ 140737488355328) :
    Calls Try.prog 6 #[.slice ab zs.length cb, .slice a L.length c] W fun e w' => e = .returned (.bool true) ∧ Below W.heap.size W w' := by
  have HDo : Hid (DoAt W (.slice a L.length c) L) := hL
  have HSr : Hid (SrcOf W (.slice ab zs.length cb) zs) := hb
  have HZ : Hid (∀ i, zs.getD i 0 < 256) := hz
  clear hL hb
  go_enter Try.func6, Try.ntmps6
  go_wp2_with fail
  refine (works_true W).mono ?_; rintro e u1 ⟨rfl, hu1⟩
  go_wp2_with fail
  refine (new_any (HSr.out.below hu1) hz hzl).mono ?_; rintro e u2 ⟨r, v, rfl, hr2, hrl, hvl, hb2⟩
  have HU2 : Hid (Below W.heap.size W u2) := hu1.trans (hb2.mono hu1.size)
  have hBr : W.heap.size ≤ r := Nat.le_trans hu1.size hrl
  clear hvl hb2 hz
  go_wp2_with fail
  refine (write_new u2).mono ?_; rintro e u3 ⟨rfl, hw3, hb3⟩
  have hr3 := hr2.below hb3
  have HU3 : Hid (Below W.heap.size W u3) := HU2.out.trans (hb3.mono HU2.out.size)
  have hW2 : W.heap.size ≤ u2.heap.size := HU2.out.size
  have hw3' : Wr u3 W.heap.size u2.heap.size (.slice none 0 0) [] 0 0 := ⟨hw3.made, hw3.data, World.ownsRow_nil _ _ _ _, hw3.apart, hw3.free, hw3.thaw1, hw3.thaw2, ⟨hW2, hw3.low.2⟩, hw3.wv⟩
  have hsep : Sep r v u2.heap.size (.slice none 0 0) := ⟨by have := hr2.low; omega, by simp [Value.ownBlock], fun g hg => ⟨by have := (hr2.own_lt g hg).1; omega, by simp [Value.ownBlock]⟩⟩
  clear hw3 hb3 hr2
  generalize u2.heap.size = x at *
  go_wp2_with fail
  go_loopw [7] (fun i wr => OnInv W L.length r v zs x i wr) (fun i _ => L.length - (intOf i).toNat)
  case atStart => exact ⟨0, 0, _, [], rfl, by omega, by omega, hr3, hw3', by omega, HU3.out, hsep⟩
  case round =>
    clear hr3 hw3' HU3 HU2 hsep hu1
    obtain ⟨k, p, d, ys, rfl, hk1, hk2, hr, hw, hp, hbW, hs⟩ := hrel
    have HB : Hid (Below W.heap.size W wr) := hbW
    clear hbW
    by_cases hlt : k < L.length ∧ k < 200
    · obtain ⟨hlt1, hlt2⟩ := hlt
      obtain ⟨b, off, rfl, hbl, hq0, hq1, hq2, hVV⟩ := HDo.out.cells k hlt1
      generalize L.getD k (0, 0, 0) = el at hq0 hq1 hq2 hVV
      obtain ⟨K, N, VV⟩ := el
      simp only at hq0 hq1 hq2 hVV
      replace hq0 : Hid _ := hq0
      replace hq1 : Hid _ := hq1
      replace hq2 : Hid _ := hq2
      obtain ⟨q0, q1, q2⟩ := doCells HB.out hbl hq0 hq1 hq2
      have hstay := rdOne_stays zs p K N
      obtain ⟨⟨val, er, p'⟩, hrd⟩ : ∃ y, rdOne zs p K N = y := ⟨_, rfl⟩
      rw [hrd] at hstay
      simp only at hstay
      have HRD : Hid (rdOne zs p K N = (val, er, p')) := hrd
      clear hrd
      have hkI : (0 : Int) ≤ (k : Int) := by omega
      have hkL : (k : Int) < (L.length : Int) := by omega
      by_cases her : er = 0
      · subst her
        obtain ⟨hwd, hval⟩ := once_one HZ.out HRD.out
        have hle := wrOne_le p (num zs 0 p) K N val hval
        rw [hwd] at hle
        simp only at hle
        have HWD : Hid (wrOne p (num zs 0 p) K N val = (0, p', num zs 0 p')) := hwd
        clear hwd hstay
        go_wp2_with fail
        have c2 := read_rd hr K N (VV : Nat)
        rw [HRD.out] at c2
        refine c2.mono ?_; rintro e w2 ⟨rfl, hr2, hk2⟩
        have hw2 := hw.kq hk2 hs
        have HB2 : Hid (Below W.heap.size W w2) := HB.out.trans (hk2.toBelow hBr (by have := HB.out.size; omega))
        clear c2 hk2 hw hr q0 q1 q2 HB
        obtain ⟨q0, q1, q2⟩ := doCells HB2.out hbl hq0 hq1 hq2
        have HC : Hid (Calls Try.prog 22 #[.pointer (some ⟨x, 0, none⟩), .agg #[.int .i64 K, .int .i64 N, .int .u32 (val : Nat)]] w2.drew fun e w' => e = .returned (.int .i64 0) ∧ (Rd w' r v zs p' ∧ WrK2 W w' x r v p' (num zs 0 p')) ∧ Below W.heap.size W w' ∧ w'.cell? ⟨b, off + k * 3, none⟩ = some (.int .i64 K) ∧ w'.cell? ⟨b, off + k * 3 + 1, none⟩ = some (.int .i64 N)) := by
          have c6 := write_wr hw2.drew (by omega) K N val hval
          rw [HWD.out] at c6
          refine c6.mono ?_
          rintro e w6 ⟨rfl, d6, y6, hw6, hk6⟩
          have hb6 : Below W.heap.size W w6 := (HB2.out.drew).trans (hw2.drew.kwBelow hk6)
          have hrd : Rd w2.drew r v zs p' := hr2.same rfl
          obtain ⟨y0, y1, _⟩ := doCells hb6 hbl hq0 hq1 hq2
          exact ⟨rfl, ⟨hrd.kw hk6 hs, d6, y6, hw6, hs.kw hk6 hrd⟩, hb6, y0, y1⟩
        go_wp2_with fail
        go_region_held3 (fun y => y.cell? ⟨b, off + k * 3, none⟩ = some (.int .i64 K) ∧ y.cell? ⟨b, off + k * 3 + 1, none⟩ = some (.int .i64 N)) (((try dsimp only); refine ⟨?_, ?_⟩ <;> first | assumption | go_keep)) (first | (go_at_call 22; refine HC.out.mono ?_; rintro e w6 ⟨rfl, hboth6, hb6, hc60, hc61⟩))
        go_wp2_with fail
        go_roundw
        case rel =>
          obtain ⟨hr6, d6, y6, hw6, hs6⟩ := hboth6
          exact ⟨k + 1, p', d6, y6, by go_num, by omega, by omega, hr6, hw6, by omega, hb6, hs6⟩
        case measure => simp [intOf]; omega
      · obtain rfl : p' = p := hstay her
        have her2 : ((er : Int) == 0) = false := by simp; omega
        clear hstay her
        go_wp2_with fail
        have c2 := read_rd hr K N (VV : Nat)
        rw [HRD.out] at c2
        refine c2.mono ?_; rintro e w2 ⟨rfl, hr2, hk2⟩
        have hw2 := hw.kq hk2 hs
        have HB2 : Hid (Below W.heap.size W w2) := HB.out.trans (hk2.toBelow hBr (by have := HB.out.size; omega))
        clear c2 hk2 hw hr q0 q1 q2 HB
        go_wp2_with fail
        go_quiet (fail)
        go_wp2_with fail
        go_roundw
        case rel => exact ⟨k + 1, p', d, ys, by go_num, by omega, by omega, hr2.same rfl, hw2.carry rfl (fun _ _ => rfl) (Nat.le_refl _), by omega, below_drewN HB2.out nq, hs⟩
        case measure => simp [intOf]; omega
    · have hcond : k < L.length → ¬ k < 200 := by omega
      have HC : Hid (k < L.length → ¬ k < 200) := hcond
      have hbnd := hr.bnd
      have HLn : Hid (ys.length = (p + 7) / 8) := hw.wv.len
      have hp64 : p ≤ 12800 := by omega
      clear hcond hlt
      by_cases h1 : k < L.length
      all_goals
        have h2 : k < L.length → ¬ k < 200 := HC.out
        first | (have h3 : ¬ k < 200 := h2 h1; clear h2) | clear h2
        go_wp2_with fail
        refine (left_rd hr).mono ?_; rintro e w2 ⟨rfl, hr2, hk2⟩
        have hw2 := hw.kp hk2 hs.1 hs.2.1
        have HB2 : Hid (Below W.heap.size W w2) := HB.out.trans (hk2.toBelow hBr)
        clear hr hk2 hw HB hr2
        go_wp2_with fail
        rw [show (8 * (zs.length : Int) - ((8 * zs.length - p : Nat) : Int)) = (p : Int) from by omega]
        refine (bytes_wr hw2 (by omega)).mono ?_; rintro e w3 ⟨a3, c3, rfl, ho3, hb3⟩
        have HB3 : Hid (Below W.heap.size W w3) := HB2.out.trans (hb3.mono HB2.out.size)
        have HOB : Hid (∀ i, i < ys.length → (8 ≤ p - 8 * i → ys.getD i 0 = zs.getD i 0) ∧ (p - 8 * i < 8 → ys.getD i 0 = zs.getD i 0 / 2 ^ (8 - (p - 8 * i)) * 2 ^ (8 - (p - 8 * i)))) := fun i hi => once_byte HZ.out hw2.wv hi
        have HYB : Hid (∀ i, ys.getD i 0 < 256) := hw2.wv.byt
        have hlb : (((ys.length : Nat) : Int) != ((p : Int) + 7) / 8) = false := by have := HLn.out; simp; omega
        have hbI : (p : Int) ≤ 8 * (zs.length : Int) := by omega
        clear hb3 hw2 HB2 hs
        go_wp2_with fail
        go_loop [12] (fun i => ∃ j : Nat, i = .int .i64 j ∧ j ≤ ys.length) (fun i => ys.length - (intOf i).toNat)
        case atStart => exact ⟨0, rfl, by omega⟩
        case round =>
          obtain ⟨j, rfl, hj⟩ := hrel
          by_cases hlt : j < ys.length
          · have hjz : j < zs.length := by have := HLn.out; omega
            obtain ⟨b, off, rfl, hbl, hcb⟩ := HSr.out.plain (by omega)
            obtain ⟨g, cap, e1, hg1, hg2⟩ := ho3.form (by omega)
            simp only [Value.slice.injEq, true_and] at e1
            obtain ⟨rfl, rfl⟩ := e1
            have y1 : w3.cell? ⟨b, off + j, none⟩ = some (.int .u8 (zs.getD j 0 : Nat)) := by rw [HB3.out.cell (p := ⟨b, off + j, none⟩) hbl]; exact hcb j hjz
            have y2 : w3.cell? ⟨g, j, none⟩ = some (.int .u8 (ys.getD j 0 : Nat)) := by rw [ho3.cellAt j (by omega)]; exact bs_get ys j hlt
            have b1 := HZ.out j
            have b2 := HYB.out j
            obtain ⟨o1, o2⟩ := HOB.out j hlt
            have hp8 : 8 * j < p := by have := HLn.out; omega
            generalize zs.getD j 0 = zj at *
            generalize ys.getD j 0 = yj at *
            have hcb' : Hid _ := hcb
            clear hcb
            by_cases h8 : 8 ≤ p - 8 * j
            · obtain rfl := o1 h8
              clear o1 o2
              go_wp2_with fail
              go_round
              case rel => exact ⟨j + 1, by go_num, by omega⟩
              case measure => simp [intOf]; omega
            · have o3 := cutByte (o2 (by omega)) b2
              have h8' : (p : Int) - 8 * (j : Int) < 8 := by omega
              clear o1 o2
              go_wp2_with fail
              go_round
              case rel => exact ⟨j + 1, by go_num, by omega⟩
              case measure => simp [intOf]; omega
          · go_wp2_with fail
            go_ret
            exact ⟨rfl, HB3.out⟩

end Go.Proofs.Ytiheldakkpbkgaa
