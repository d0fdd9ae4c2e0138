/- DERIVED. What PlaneKnown calls, at its own numbers. -/
import Derived.Test.YtlgfkkegehpllabKr
import Derived.Test.YtlgfkkegehpllabRd
import Derived.Test.YtlgfkkegehpllabRc
import Derived.Test.YtlgfkkegehpllabLa
import Derived.Test.YtlgfkkegehpllabQc
namespace Go.Proofs.Ytlgfkkegehpllab
open Go.RowKit

theorem pok4 : POk 2 2 [1, 2, 3, 4] := ⟨by omega, by omega, by omega, by omega, rfl⟩
theorem pok21 : POk 2 1 [1, 2] := ⟨by omega, by omega, by omega, by omega, rfl⟩
theorem pok12 : POk 1 2 [1, 2] := ⟨by omega, by omega, by omega, by omega, rfl⟩
def dw : List Nat := [1, 2, 2, 2, 2, 3, 4, 4, 4, 4]
theorem dw_pad : padL 2 2 [1, 2, 3, 4] 5 2 = dw := by decide
/-- the plane that is made wider -/
def Wd (u w' : World) (e : Ending) : Prop := ∃ gw, e = .returned (.tuple #[.agg #[.int .i64 5, .int .i64 2, .slice (some ⟨gw, 0, none⟩) 10 10], .int .i64 0]) ∧ Rw w' gw dw ∧ Below u.heap.size u w'
theorem pad_five {u : World} {g : Nat} (hs : Sl u .u8 (some ⟨g, 0, none⟩) [1, 2, 3, 4]) : Calls Try.prog 7 #[.agg #[.int .i64 2, .int .i64 2, .slice (some ⟨g, 0, none⟩) 4 4], .int .i64 5, .int .i64 2] u fun e w' => Wd u w' e :=
  (pad_ok (x := 2) (y := 2) (wd := 5) (hd := 2) (c := 4) hs (by omega) (by omega) (by omega) (by omega) rfl (by decide) (by omega) (by omega) (by omega) (by omega)).mono fun e w' ⟨gw, h1, _, h3, h4⟩ => ⟨gw, by rw [h1, dw_pad]; rfl, by rw [← dw_pad]; exact h3, h4⟩
theorem lay_one {u : World} {g : Nat} {ab : Option Addr} {cb : Nat} : Calls Try.prog 10 #[.agg #[.int .i64 2, .int .i64 2, .slice (some ⟨g, 0, none⟩) 4 4], .agg #[.int .i64 0, .int .i64 0, .int .i64 1, .int .i64 1], .slice ab 2 cb] u fun e w' => Pz u w' e :=
  lay_len (C := [1, 2, 3, 4]) pok4 ⟨by omega, by omega, by omega, by omega, by omega, by omega⟩ (by omega) (by omega)
theorem lay_two {u : World} {g : Nat} {ab : Option Addr} {cb : Nat} : Calls Try.prog 10 #[.agg #[.int .i64 2, .int .i64 2, .slice (some ⟨g, 0, none⟩) 4 4], .agg #[.int .i64 0, .int .i64 1, .int .i64 2, .int .i64 1], .slice ab 1 cb] u fun e w' => Pz u w' e :=
  lay_len (C := [1, 2, 3, 4]) pok4 ⟨by omega, by omega, by omega, by omega, by omega, by omega⟩ (by omega) (by omega)
theorem apart_two {u : World} {a b : Option Addr} {c d : Nat} : Calls Try.prog 8 #[.agg #[.int .i64 2, .int .i64 1, .slice a 2 c], .agg #[.int .i64 1, .int .i64 2, .slice b 2 d]] u fun e w' => e = .returned (.tuple #[.int .u64 0, .int .i64 2]) ∧ Below u.heap.size u w' :=
  apart_bad3 (C := [1, 2]) (D := [1, 2]) pok21 pok12 (by omega)
theorem same_two {u : World} {a b : Option Addr} {c d : Nat} (h1 : Sl u .u8 a [1, 2]) (h2 : Sl u .u8 b [1, 2]) : Calls Try.prog 11 #[.agg #[.int .i64 2, .int .i64 1, .slice a 2 c], .agg #[.int .i64 1, .int .i64 2, .slice b 2 d]] u fun e w' => e = .returned (.bool false) ∧ Below u.heap.size u w' := by
  have := same_any (c := c) (d := d) (W := 2) (H := 1) (W' := 1) (H' := 2) h1 h2 (Or.inl rfl)
  rw [smB_no (by omega)] at this
  exact this
theorem two_rows (w : World) : Sl ((w.alloc (.cells #[.int .u8 1, .int .u8 2] 5)).alloc (.cells #[.int .u8 1, .int .u8 2] 5)) .u8 (some ⟨w.heap.size, 0, none⟩) [1, 2] ∧ Sl ((w.alloc (.cells #[.int .u8 1, .int .u8 2] 5)).alloc (.cells #[.int .u8 1, .int .u8 2] 5)) .u8 (some ⟨w.heap.size + 1, 0, none⟩) [1, 2] :=
  ⟨((Rw.ofAlloc (C := [1, 2]) rfl rfl : Rw (w.alloc (.cells #[.int .u8 1, .int .u8 2] 5)) w.heap.size [1, 2]).to (from_alloc _ _)).sl, (Rw.ofAlloc (C := [1, 2]) (by simp) rfl : Rw ((w.alloc (.cells #[.int .u8 1, .int .u8 2] 5)).alloc (.cells #[.int .u8 1, .int .u8 2] 5)) (w.heap.size + 1) [1, 2]).sl⟩
theorem eq_ten {u : World} {a b : Option Addr} {c d : Nat} (h1 : Sl u .u8 a dw) (h2 : Sl u .u8 b dw) : Calls Try.prog 12 #[.slice a 10 c, .slice b 10 d] u fun e w' => e = .returned (.bool true) ∧ Below u.heap.size u w' := by
  have := eqBytes_any (c := c) (d := d) h1 h2 (by decide) (by decide)
  rw [eqB_self] at this
  exact this
theorem pad_no1 {u : World} {g : Nat} : Calls Try.prog 7 #[.agg #[.int .i64 2, .int .i64 2, .slice (some ⟨g, 0, none⟩) 4 4], .int .i64 1, .int .i64 2] u fun e w' => Pz u w' e := pad_out (C := [1, 2, 3, 4]) pok4 (by omega)
theorem pad_no2 {u : World} {g : Nat} : Calls Try.prog 7 #[.agg #[.int .i64 2, .int .i64 2, .slice (some ⟨g, 0, none⟩) 4 4], .int .i64 513, .int .i64 2] u fun e w' => Pz u w' e := pad_out (C := [1, 2, 3, 4]) pok4 (by omega)
theorem new_no1 {u : World} : Calls Try.prog 13 #[.int .i64 0, .int .i64 1, .int .u8 0] u fun e w' => Pz u w' e := new_no (v := 0) (by omega)
theorem new_no2 {u : World} : Calls Try.prog 13 #[.int .i64 1, .int .i64 513, .int .u8 0] u fun e w' => Pz u w' e := new_no (v := 0) (by omega)
/-- the plane of one row -/
def On (u w' : World) (e : Ending) : Prop := ∃ gw D, e = .returned (.tuple #[.agg #[.int .i64 512, .int .i64 1, .slice (some ⟨gw, 0, none⟩) 512 512], .int .i64 0]) ∧ D.length = 512 ∧ D.getD 511 0 = 6 ∧ Rw w' gw D ∧ Below u.heap.size u w'
theorem new_one {u : World} : Calls Try.prog 13 #[.int .i64 512, .int .i64 1, .int .u8 6] u fun e w' => On u w' e :=
  (new_ok (x := 512) (y := 1) (v := 6) (by omega) (by omega) (by omega) (by omega)).mono fun e w' ⟨gw, h1, _, h3, h4⟩ => ⟨gw, _, by rw [h1, List.length_replicate]; rfl, by rw [List.length_replicate], by rw [List.getD_eq_getElem?_getD, List.getElem?_replicate, if_pos (by omega)]; rfl, h3, h4⟩
theorem at_one {u : World} {a : Option Addr} {D : List Nat} (hs : Sl u .u8 a D) (hl : D.length = 512) (hg : D.getD 511 0 = 6) : Calls Try.prog 5 #[.agg #[.int .i64 512, .int .i64 1, .slice a 512 512], .int .i64 511, .int .i64 0] u fun e w' => e = .returned (.int .u8 6) ∧ Below u.heap.size u w' := by
  have := at_ok (c := 512) (x := 512) (y := 1) (i := 511) (j := 0) hs (by omega) (by omega) (by omega) (by omega) hl
  rw [hl, show nr 0 1 * 512 + nr 511 512 = 511 from by decide, hg] at this
  exact this
theorem vs256 : Vs ((256 : Nat) : Int) := ⟨by omega, by omega, by omega⟩
theorem vs16 : Vs ((16 : Nat) : Int) := ⟨by omega, by omega, by omega⟩
/-- a frame in memory, by its three rows -/
structure Bg (w : World) (x x2 : Nat) (g0 g1 g2 : Nat) (n m : Nat) (D0 D1 D2 : List Nat) : Prop where
  fr : Fr w x x x2 x2 (some ⟨g0, 0, none⟩) (some ⟨g1, 0, none⟩) (some ⟨g2, 0, none⟩) n m m D0 D1 D2
  l0 : D0.length = n
  l1 : D1.length = m
  l2 : D2.length = m
theorem Bg.to {w w' : World} {x x2 g0 g1 g2 n m : Nat} {D0 D1 D2 : List Nat} (h : Bg w x x2 g0 g1 g2 n m D0 D1 D2) (hb : Below w.heap.size w w') : Bg w' x x2 g0 g1 g2 n m D0 D1 D2 := ⟨h.fr.to hb, h.l0, h.l1, h.l2⟩
/-- a frame that is answered -/
def Bf (u w' : World) (e : Ending) (x x2 n m : Nat) : Prop := ∃ g0 g1 g2 D0 D1 D2, e = .returned (.tuple #[.agg #[.int .i64 (x : Int), .int .i64 (x : Int), .slice (some ⟨g0, 0, none⟩) n n, .int .i64 (x2 : Int), .int .i64 (x2 : Int), .slice (some ⟨g1, 0, none⟩) m m, .int .i64 (x2 : Int), .int .i64 (x2 : Int), .slice (some ⟨g2, 0, none⟩) m m], .int .i64 0]) ∧ Bg w' x x2 g0 g1 g2 n m D0 D1 D2 ∧ Below u.heap.size u w'
theorem bf_of {u w' : World} {e : Ending} {x x2 n m : Nat} {D0 D1 D2 : List Nat} (h : Fn u w' e x x x2 x2 x2 x2 D0 D1 D2) (hv : Vs (x : Int)) (ex : x2 = x / 2) (l0 : D0.length = n) (l1 : D1.length = m) (l2 : D2.length = m) (hn : n = x * x) (hm : m = x2 * x2) : Bf u w' e x x2 n m := by
  obtain ⟨g0, g1, g2, h1, r0, r1, r2, _, _, _, _, _, _, hb⟩ := h
  subst l0
  refine ⟨g0, g1, g2, D0, D1, D2, by rw [h1, l1, l2], ⟨⟨hv, hv, ex, ex, hn, by omega, by omega, Nat.le_refl _, by omega, by omega, r0.sl, r1.sl, r2.sl⟩, rfl, l1, l2⟩, hb⟩
theorem frame_big {u : World} : Calls Try.prog 14 #[.int .i64 256, .int .i64 256, .int .u8 1] u fun e w' => Bf u w' e 256 128 65536 16384 :=
  (frame_ok (w := 256) (h := 256) (v := 1) vs256 vs256).mono fun _ _ h => bf_of h vs256 rfl (by rw [List.length_replicate]) (by rw [List.length_replicate]) (by rw [List.length_replicate]) rfl rfl
theorem crop_small {u : World} {g0 g1 g2 : Nat} {D0 D1 D2 : List Nat} (h : Bg u 256 128 g0 g1 g2 65536 16384 D0 D1 D2) : Calls Try.prog 15 #[.agg #[.int .i64 256, .int .i64 256, .slice (some ⟨g0, 0, none⟩) 65536 65536, .int .i64 128, .int .i64 128, .slice (some ⟨g1, 0, none⟩) 16384 16384, .int .i64 128, .int .i64 128, .slice (some ⟨g2, 0, none⟩) 16384 16384], .int .i64 16, .int .i64 16] u fun e w' => Bf u w' e 16 8 256 64 := by
  have := crop_ok h.fr (w := 16) (h := 16) (w2 := 8) (h2 := 8) vs16 vs16 (by omega) (by omega) rfl rfl
  rw [h.l0, h.l1, h.l2] at this
  exact this.mono fun _ _ h => bf_of h vs16 rfl (cutL_len _ _ _ _ _ _) (cutL_len _ _ _ _ _ _) (cutL_len _ _ _ _ _ _) rfl rfl
theorem crop_no1 {u : World} {g0 g1 g2 x x2 n m : Nat} {w h : Int} {D0 D1 D2 : List Nat} (hf : Bg u x x2 g0 g1 g2 n m D0 D1 D2) (hn : ¬ (Vs w ∧ Vs h ∧ w ≤ (x : Int) ∧ h ≤ (x : Int))) : Calls Try.prog 15 #[.agg #[.int .i64 (x : Int), .int .i64 (x : Int), .slice (some ⟨g0, 0, none⟩) n n, .int .i64 (x2 : Int), .int .i64 (x2 : Int), .slice (some ⟨g1, 0, none⟩) m m, .int .i64 (x2 : Int), .int .i64 (x2 : Int), .slice (some ⟨g2, 0, none⟩) m m], .int .i64 w, .int .i64 h] u fun e w' => Fz u w' e := by
  have := crop_no (u := u) hf.fr.fok hn
  rw [hf.l0, hf.l1, hf.l2] at this
  exact this
theorem whole_spoilt {u : World} {g0 g1 g2 : Nat} {D0 D1 D2 : List Nat} (h0 : D0.length = 256) (h1 : D1.length = 64) (h2 : D2.length = 64) : Calls Try.prog 17 #[.agg #[.int .i64 16, .int .i64 16, .slice (some ⟨g0, 0, none⟩) 256 256, .int .i64 8, .int .i64 8, .slice (some ⟨g1, 0, none⟩) 64 64, .int .i64 4, .int .i64 8, .slice (some ⟨g2, 0, none⟩) 64 64]] u fun e w' => e = .returned (.int .i64 2) ∧ Below u.heap.size u w' := by
  have := whole_any (u := u) (W0 := 16) (H0 := 16) (W1 := 8) (H1 := 8) (W2 := 4) (H2 := 8) (a0 := some ⟨g0, 0, none⟩) (a1 := some ⟨g1, 0, none⟩) (a2 := some ⟨g2, 0, none⟩) (c0 := 256) (c1 := 64) (c2 := 64) (C0 := D0) (C1 := D1) (C2 := D2)
  rw [fk_no (fun k => by have := k.w2; simp at this), h0, h1, h2] at this
  exact this
theorem whole_none {u : World} : Calls Try.prog 17 #[.agg #[.int .i64 0, .int .i64 0, .slice none 0 0, .int .i64 0, .int .i64 0, .slice none 0 0, .int .i64 0, .int .i64 0, .slice none 0 0]] u fun e w' => e = .returned (.int .i64 2) ∧ Below u.heap.size u w' := by
  have := whole_any (u := u) (W0 := 0) (H0 := 0) (W1 := 0) (H1 := 0) (W2 := 0) (H2 := 0) (a0 := none) (a1 := none) (a2 := none) (c0 := 0) (c1 := 0) (c2 := 0) (C0 := []) (C1 := []) (C2 := [])
  rw [fk_no (fun k => by have := k.w.lo; simp at this)] at this
  exact this

end Go.Proofs.Ytlgfkkegehpllab
