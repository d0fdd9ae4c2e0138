/- DERIVED. The walk of the statements' own 'works': some numbers, written and read. -/
import Derived.Test.YtiheldakkpbkgaaWrF
namespace Go.Proofs.Ytiheldakkpbkgaa
open Go.RowKit

/-- the bytes of a number, the highest first -/
def bytesOf (m N : Nat) : List Nat := (List.range m).map fun j => N / 2 ^ (8 * (m - 1 - j)) % 256
theorem bytes_acc (ys : List Nat) (hz : ∀ i, ys.getD i 0 < 256) : ys = bytesOf ys.length (acc ys 0 ys.length) := by
  refine list_eq_of_getD (by simp [bytesOf]) fun j hj => ?_
  have e1 : (bytesOf ys.length (acc ys 0 ys.length)).getD j 0 = acc ys 0 ys.length / 2 ^ (8 * (ys.length - 1 - j)) % 256 := by
    simp [bytesOf, List.getD_eq_getElem?_getD, hj]
  have h2 := num_cut ys 0 (8 * j) 8 (8 * (ys.length - 1 - j)) ys.length (by omega)
  rw [e1, acc_num ys hz, show (256 : Nat) = 2 ^ 8 from by decide, h2, Nat.mul_zero, Nat.zero_add, num_byte ys j (hz j)]
theorem Wv.bytes {ys : List Nat} {t V : Nat} (h : Wv ys t V) : ys = bytesOf ((t + 7) / 8) (V * 2 ^ (8 * ((t + 7) / 8) - t)) := by
  have h1 := bytes_acc ys h.byt
  rw [h.val, h.len] at h1
  exact h1

theorem Wr.kwBelow {a b : World} {B x : Nat} {d d' : Value} {ys : List Nat} {t V : Nat} (h : Wr a B x d ys t V) (hk : Kw x d d' a b) : Below B a b :=
  ⟨hk.os, hk.tape, hk.output, hk.size, fun k hkB => hk.block k (by have := h.low; omega) (by have := h.low; omega) (fun e => by have := (h.own.lt k e).1; omega)⟩
theorem Kp.toBelow {r B : Nat} {w w' : World} (h : Kp r w w') (hB : B ≤ r) : Below B w w' := ⟨h.os, h.tape, h.output, Nat.le_of_eq h.size.symm, fun k hk => h.block k (by omega)⟩

/-- a writer stays while a reader that was made later moves on -/
theorem Wr.kp {a b : World} {B x r : Nat} {d : Value} {ys : List Nat} {t V : Nat} (h : Wr a B x d ys t V) (hk : Kp r a b) (hx : x ≠ r) (hd : d.ownBlock ≠ some r) : Wr b B x d ys t V :=
  h.carry (hk.block x hx) (fun g hg => hk.block g (fun e => hd (by rw [hg, e]))) (Nat.le_of_eq hk.size.symm)

set_option maxHeartbeats 1000000 in
theorem works_true (w : World) : Calls Try.prog 19 #[] w fun e w' => e = .returned (.bool true) ∧ Below w.heap.size w w' := by
  go_enter Try.func19, Try.ntmps19
  go_wp2_with fail
  refine (write_new w).mono ?_; rintro e w1 ⟨rfl, hw1, hb1⟩
  have HB1 : Hid (Below w.heap.size w w1) := hb1
  clear hb1
  go_wp2_with fail
  have c2 := fixed_wr hw1 (by omega) 5 3 (by omega)
  rw [show wFixed 0 0 5 3 = (0, 3, 5) from by decide] at c2
  refine c2.mono ?_; rintro e w2 ⟨rfl, d2, y2, hw2, hk2⟩
  clear c2
  go_wp2_with fail
  have c3 := signed_wr hw2 (by omega) (-2) 2 (by omega) (by omega)
  rw [show wSigned 3 5 (-2) 2 = (0, 6, 46) from by decide] at c3
  refine c3.mono ?_; rintro e w3 ⟨rfl, d3, y3, hw3, hk3⟩
  clear c3
  go_wp2_with fail
  have c4 := uvlc_wr hw3 (by omega) 0 (by omega)
  rw [show wUvlc 6 46 0 = (0, 7, 93) from by decide] at c4
  refine c4.mono ?_; rintro e w4 ⟨rfl, d4, y4, hw4, hk4⟩
  clear c4
  go_wp2_with fail
  have c5 := align_wr hw4
  rw [show wAlign 7 93 = (8, 186) from by decide] at c5
  refine c5.mono ?_; rintro e w5 ⟨rfl, d5, y5, hw5, hk5⟩
  clear c5
  go_wp2_with fail
  have c6 := leb_wr hw5 (by omega) 300 (by omega)
  rw [show wLeb 8 186 300 = (0, 24, 12233730) from by decide] at c6
  refine c6.mono ?_; rintro e w6 ⟨rfl, d6, y6, hw6, hk6⟩
  clear c6
  have HB6 : Hid (Below w.heap.size w w6) := ((((HB1.out.trans (hw1.kwBelow hk2)).trans (hw2.kwBelow hk3)).trans (hw3.kwBelow hk4)).trans (hw4.kwBelow hk5)).trans (hw5.kwBelow hk6)
  have hy6 : y6 = [186, 172, 2] := by have := hw6.wv.bytes; rw [this]; decide
  subst hy6
  clear hw1 hw2 hw3 hw4 hw5 hk2 hk3 hk4 hk5 hk6 HB1
  go_wp2_with fail
  refine (bytes_wr hw6 (by omega)).mono ?_; rintro e w7 ⟨a7, c7, rfl, ho7, hb7⟩
  have hw7 := hw6.below hb7
  have HB7 : Hid (Below w.heap.size w w7) := HB6.out.trans (hb7.mono HB6.out.size)
  clear hb7 hw6 HB6
  go_wp2_with fail
  refine (new_any (SrcOf.ofOwn ho7) hw7.wv.byt (by decide)).mono ?_; rintro e w8 ⟨r, v8, rfl, hr8, hrl, hvl, hb8⟩
  have hw8 := hw7.below hb8
  have HB8 : Hid (Below w.heap.size w w8) := HB7.out.trans (hb8.mono HB7.out.size)
  have hx7 := hw7.low
  have hxr : w.heap.size ≠ r := by omega
  have hdr : d6.ownBlock ≠ some r := fun e => by have := (hw7.own.lt r e).2; omega
  have hBr : w.heap.size ≤ r := by omega
  clear hb8 hw7 HB7 ho7
  go_wp2_with fail
  have c9 := fixed_rd hr8 3
  rw [show rFixed [186, 172, 2] 0 3 = (5, 0, 3) from by decide] at c9
  refine c9.mono ?_; rintro e w9 ⟨rfl, hr9, hk9⟩
  have hw9 := hw8.kp hk9 hxr hdr
  have HB9 : Hid (Below w.heap.size w w9) := HB8.out.trans (hk9.toBelow hBr)
  clear c9 hw8 hr8 hk9 HB8
  go_wp2_with fail
  have c10 := signed_rd hr9 2
  rw [show rSigned [186, 172, 2] 3 2 = (-2, 0, 6) from by decide] at c10
  refine c10.mono ?_; rintro e w10 ⟨rfl, hr10, hk10⟩
  have hw10 := hw9.kp hk10 hxr hdr
  have HB10 : Hid (Below w.heap.size w w10) := HB9.out.trans (hk10.toBelow hBr)
  clear c10 hw9 hr9 hk10 HB9
  go_wp2_with fail
  have c11 := uvlc_rd hr10
  rw [show rUvlc [186, 172, 2] 6 = (0, 0, 7) from by decide +kernel] at c11
  refine c11.mono ?_; rintro e w11 ⟨rfl, hr11, hk11⟩
  have hw11 := hw10.kp hk11 hxr hdr
  have HB11 : Hid (Below w.heap.size w w11) := HB10.out.trans (hk11.toBelow hBr)
  clear c11 hw10 hr10 hk11 HB10
  go_wp2_with fail
  have c12 := align_rd hr11
  rw [show rAlign [186, 172, 2] 7 = (0, 8) from by decide +kernel] at c12
  refine c12.mono ?_; rintro e w12 ⟨rfl, hr12, hk12⟩
  have hw12 := hw11.kp hk12 hxr hdr
  have HB12 : Hid (Below w.heap.size w w12) := HB11.out.trans (hk12.toBelow hBr)
  clear c12 hw11 hr11 hk12 HB11
  go_wp2_with fail
  have c13 := leb_rd hr12
  rw [show rLeb [186, 172, 2] 8 = (300, 0, 24) from by decide +kernel] at c13
  refine c13.mono ?_; rintro e w13 ⟨rfl, hr13, hk13⟩
  have hw13 := hw12.kp hk13 hxr hdr
  have HB13 : Hid (Below w.heap.size w w13) := HB12.out.trans (hk13.toBelow hBr)
  clear c13 hw12 hr12 hk13 HB12
  go_wp2_with fail
  refine (bytes_wr hw13 (by omega)).mono ?_; rintro e w14 ⟨a14, c14, rfl, ho14, hb14⟩
  have hr14 := hr13.below hb14
  have HB14 : Hid (Below w.heap.size w w14) := HB13.out.trans (hb14.mono HB13.out.size)
  clear hb14 hr13 hw13 HB13
  go_wp2_with fail
  have hb15 : Below w14.heap.size w14 (w14.alloc (.cells #[.int .u8 186, .int .u8 172, .int .u8 2] 5)) := (Below.refl _ _).alloc (Nat.le_refl _) _
  have hlit : (w14.alloc (.cells #[.int .u8 186, .int .u8 172, .int .u8 2] 5)).ownsRow 0 5 1 (.slice (some ⟨w14.heap.size, 0, none⟩) ([186, 172, 2] : List Nat).length 3) ([186, 172, 2] : List Nat).length (bs [186, 172, 2]) := World.ownsRow_lit w14 #[.int .u8 186, .int .u8 172, .int .u8 2] 3 (Nat.zero_le _) (by decide) (by decide)
  have hr15 := hr14.below hb15
  have HB15 : Hid (Below w.heap.size w (w14.alloc (.cells #[.int .u8 186, .int .u8 172, .int .u8 2] 5))) := HB14.out.trans (hb15.mono HB14.out.size)
  have c15 := eqBytes_own (xs := [186, 172, 2]) (ys := [186, 172, 2]) (ho14.alloc (.cells #[.int .u8 186, .int .u8 172, .int .u8 2] 5)) hlit (by decide) hr14.byt hr14.byt
  rw [show decide (([186, 172, 2] : List Nat) = [186, 172, 2]) = true from by decide] at c15
  refine c15.mono ?_; rintro e w16 ⟨rfl, hb16⟩
  have hr16 := hr15.below hb16
  have HB16 : Hid (Below w.heap.size w w16) := HB15.out.trans (hb16.mono HB15.out.size)
  clear c15 hb16 hr15 hr14 HB14 HB15 ho14 hlit hb15
  go_wp2_with fail
  have c17 := left_rd hr16
  refine c17.mono ?_; rintro e w17 ⟨rfl, hr17, hk17⟩
  have HB17 : Hid (Below w.heap.size w w17) := HB16.out.trans (hk17.toBelow hBr)
  clear c17 hk17 hr16 HB16
  go_wp2_with fail
  go_ret
  exact ⟨rfl, HB17.out⟩

end Go.Proofs.Ytiheldakkpbkgaa
