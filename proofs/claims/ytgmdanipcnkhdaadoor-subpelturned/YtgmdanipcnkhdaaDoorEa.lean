/- DERIVED. The chapter's plane, a row of its blocks, some blocks; a place that may be. -/
import Derived.Test.YtgmdanipcnkhdaaDoorCq
namespace Go.Proofs.YtgmdanipcnkhdaaDoor
open Go.RowKit

theorem eqBytes_at {w : World} {a b : Option Addr} {c d n m : Nat} {C D : List Nat} (h1 : Sl w .u8 a C) (h2 : Sl w .u8 b D) (e1 : C.length = n) (e2 : D.length = m) (hl : n ≤ 140737488355328) (hl2 : m ≤ 140737488355328) :
    Calls Tryd.prog 15 #[.slice a n c, .slice b m d] w fun e w' => e = .returned (.bool (eqB C D)) ∧ Below w.heap.size w w' := by
  subst e1 e2; exact eqBytes_any h1 h2 hl hl2

set_option maxRecDepth 100000 in
set_option maxHeartbeats 1000000 in
theorem given_any {u : World} : Calls Tryd.prog 40 #[] u fun e w' => e = .returned (.agg #[.int .i64 4, .int .i64 1, .slice (some ⟨u.heap.size + 1, 0, none⟩) 4 4]) ∧ Rw w' (u.heap.size + 1) [0, 100, 100, 0] ∧ Below u.heap.size u w' := by
  go_enter Tryd.func40, Tryd.ntmps40
  go_wp2_with fail
  refine bodyPost_ret (v := .agg #[.int .i64 4, .int .i64 1, .slice (some ⟨u.heap.size + 1, 0, none⟩) 4 4]) (by simp [results, Tryd.results40, go_sem]) rfl ⟨rfl, ?_, ?_⟩
  · refine ⟨?_⟩
    have := heap_alloc_new (u.alloc (.cells #[.int .i64 4, .int .i64 1, .slice (some ⟨u.heap.size + 1, 0, none⟩) 4 4] 30)) (.cells #[.int .u8 0, .int .u8 100, .int .u8 100, .int .u8 0] 5)
    simpa [ns] using this
  · exact to_alloc (from_alloc _ _) _

/-- a row in new memory -/
def Rn (u w' : World) (e : Ending) (L : List Nat) : Prop := ∃ g, e = .returned (.slice (some ⟨g, 0, none⟩) 4 16) ∧ Sl w' .u8 (some ⟨g, 0, none⟩) L ∧ Below u.heap.size u w'
/-- the chapter's first rows -/
def gR (px py : Int) (k : Nat) : List Nat := (fe [0, 100, 100, 0] 4 1 px py 4 4 k).take 4
theorem gR_len (px py : Int) (k : Nat) : (gR px py k).length = 4 := by unfold gR; rw [List.length_take, fe_len]; rfl
theorem byt_given : Byt [0, 100, 100, 0] := fun j => by
  match j with
  | 0 | 1 | 2 | 3 => decide
  | j + 4 => simp

set_option maxRecDepth 100000 in
set_option maxHeartbeats 1000000 in
theorem row_any {u : World} {px py : Int} {k : Nat} (hg : Gt u) (hx : -1048576 ≤ px ∧ px ≤ 1048576) (hy : -1048576 ≤ py ∧ py ≤ 1048576) (hk : k < 3) :
    Calls Tryd.prog 26 #[.int .i64 px, .int .i64 py, .int .i64 (k : Int)] u fun e w' => Rn u w' e (gR px py k) := by
  have HF : Hid (∀ t : World, ∀ g, Gt t → Rw t g [0, 100, 100, 0] → Calls Tryd.prog 13 #[.agg #[.int .i64 4, .int .i64 1, .slice (some ⟨g, 0, none⟩) 4 4], .int .i64 px, .int .i64 py, .int .i64 4, .int .i64 4, .int .i64 (k : Int)] t fun e w' => Fd t w' e (fe [0, 100, 100, 0] 4 1 px py 4 4 k)) := fun t g ht hr =>
    fetch_ok (x := 4) (y := 1) (wd := 4) (ht := 4) (C := [0, 100, 100, 0]) ht hr.sl byt_given ⟨⟨by omega, by omega, by omega, by omega, by simp⟩, hx, hy, by omega, by omega, by omega⟩
  have HG : Hid (Gt u) := hg
  have HL : Hid ((fe [0, 100, 100, 0] 4 1 px py 4 4 k).length = 16) := fe_len _ _ _ _ _ _ _ _
  have HR : Hid (gR px py k = (fe [0, 100, 100, 0] 4 1 px py 4 4 k).take 4) := rfl
  clear hg hx hy hk
  go_enter Tryd.func26, Tryd.ntmps26
  go_wp2_with fail
  refine given_any.mono ?_
  rintro e w1 ⟨rfl, hr, hb⟩
  have HR1 : Hid _ := hr
  have HB1 : Hid _ := hb
  clear hr hb
  go_wp2_with fail
  refine (HF.out _ _ (HG.out.to HB1.out) HR1.out).mono ?_
  rintro e w2 ⟨g, rfl, hr, _, hb⟩
  rw [HL.out]
  have HR2 : Hid _ := hr
  have HB2 : Hid _ := below_to HB1.out hb
  clear hr hb HF
  generalize fe [0, 100, 100, 0] 4 1 px py 4 4 k = L at *
  go_wp2_with fail
  go_ret
  refine ⟨g, rfl, ?_, HB2.out⟩
  rw [HR.out]
  refine Or.inr ⟨g, 0, rfl, HR2.out.lt, fun j hj => ?_⟩
  have hl := HL.out
  have h4 : j < 4 := by simp at hj; omega
  rw [Nat.zero_add, HR2.out.cell j (by omega), List.getD_eq_getElem?_getD, List.getD_eq_getElem?_getD, List.getElem?_take_of_lt h4]

theorem lit4 (w : World) (a b c d : Nat) : Rw (w.alloc (.cells #[.int .u8 (a : Int), .int .u8 (b : Int), .int .u8 (c : Int), .int .u8 (d : Int)] 5)) w.heap.size [a, b, c, d] := ⟨heap_alloc_new w _⟩
set_option maxRecDepth 100000 in
theorem gR_a : gR 16 99 1 = [100, 100, 0, 0] := by decide +kernel
set_option maxRecDepth 100000 in
theorem gR_b : gR 8 0 2 = [50, 100, 50, 0] := by decide +kernel

set_option maxRecDepth 100000 in
set_option maxHeartbeats 1000000 in
theorem works_true {u : World} (hg : Gt u) : Calls Tryd.prog 11 #[] u fun e w' => e = .returned (.bool true) ∧ Below u.heap.size u w' := by
  have HT : Hid (Calls Tryd.prog 9 #[.int .i64 0, .int .i64 15] u fun e w' => e = .returned (.tuple #[.agg #[.int .i64 0, .int .i64 0, .int .i64 (-2), .int .i64 8, .int .i64 126, .int .i64 (-6), .int .i64 2, .int .i64 0], .int .i64 0]) ∧ Below u.heap.size u w') := taps_ok (k := 0) (f := 15) hg (by omega) (by omega)
  have HR1 : Hid (∀ t : World, Below u.heap.size u t → Calls Tryd.prog 26 #[.int .i64 16, .int .i64 99, .int .i64 1] t fun e w' => Rn t w' e (gR 16 99 1)) := fun t ht => row_any (k := 1) (hg.to ht) (by omega) (by omega) (by omega)
  have HR2 : Hid (∀ t : World, Below u.heap.size u t → Calls Tryd.prog 26 #[.int .i64 8, .int .i64 0, .int .i64 2] t fun e w' => Rn t w' e (gR 8 0 2)) := fun t ht => row_any (k := 2) (hg.to ht) (by omega) (by omega) (by omega)
  rw [gR_a] at HR1
  rw [gR_b] at HR2
  clear hg
  go_enter Tryd.func11, Tryd.ntmps11
  go_wp2_with fail
  refine HT.out.mono ?_
  rintro e w1 ⟨rfl, hb1⟩
  have HB1 : Hid _ := hb1
  have hq := fun x => eq8s x 0 0 (-2) 8 126 (-6) 2 0
  clear hb1 HT
  go_wp2_with fail
  refine (HR1.out _ (to_alloc HB1.out _)).mono ?_
  rintro e w2 ⟨g, rfl, hs, hb⟩
  have HS2 : Hid (Sl w2 .u8 (some ⟨g, 0, none⟩) [100, 100, 0, 0]) := hs
  have HB2 : Hid (Below u.heap.size u w2) := below_to (to_alloc HB1.out _) hb
  have HE2 : Hid (Calls Tryd.prog 15 #[.slice (some ⟨g, 0, none⟩) 4 16, .slice (some ⟨w2.heap.size, 0, none⟩) 4 4] (w2.alloc (.cells #[.int .u8 100, .int .u8 100, .int .u8 0, .int .u8 0] 5)) fun e w' => e = .returned (.bool true) ∧ Below (w2.alloc (.cells #[.int .u8 100, .int .u8 100, .int .u8 0, .int .u8 0] 5)).heap.size (w2.alloc (.cells #[.int .u8 100, .int .u8 100, .int .u8 0, .int .u8 0] 5)) w') := by
    have := eqBytes_at (c := 16) (d := 4) (hs.alloc (.cells #[.int .u8 100, .int .u8 100, .int .u8 0, .int .u8 0] 5)) (lit4 w2 100 100 0 0).sl rfl rfl (by simp) (by simp)
    rwa [eqB_self] at this
  clear hs hb hq HR1
  go_wp2_with fail
  refine HE2.out.mono ?_
  rintro e w3 ⟨rfl, hb⟩
  have HB3 : Hid (Below u.heap.size u w3) := below_to (to_alloc HB2.out _) hb
  clear hb HE2 HS2
  go_wp2_with fail
  refine (HR2.out _ HB3.out).mono ?_
  rintro e w4 ⟨g4, rfl, hs, hb⟩
  have HB4 : Hid (Below u.heap.size u w4) := below_to HB3.out hb
  have HE4 : Hid (Calls Tryd.prog 15 #[.slice (some ⟨g4, 0, none⟩) 4 16, .slice (some ⟨w4.heap.size, 0, none⟩) 4 4] (w4.alloc (.cells #[.int .u8 50, .int .u8 100, .int .u8 50, .int .u8 0] 5)) fun e w' => e = .returned (.bool true) ∧ Below (w4.alloc (.cells #[.int .u8 50, .int .u8 100, .int .u8 50, .int .u8 0] 5)).heap.size (w4.alloc (.cells #[.int .u8 50, .int .u8 100, .int .u8 50, .int .u8 0] 5)) w') := by
    have := eqBytes_at (c := 16) (d := 4) (hs.alloc (.cells #[.int .u8 50, .int .u8 100, .int .u8 50, .int .u8 0] 5)) (lit4 w4 50 100 50 0).sl rfl rfl (by simp) (by simp)
    rwa [eqB_self] at this
  clear hs hb HR2
  go_wp2_with fail
  refine HE4.out.mono ?_
  rintro e w5 ⟨rfl, hb⟩
  have HB5 : Hid (Below u.heap.size u w5) := below_to (to_alloc HB4.out _) hb
  clear hb HE4
  go_wp2_with fail
  go_ret
  exact ⟨rfl, HB5.out⟩

/-- five numbers in a block -/
structure Fv (p : Nat) (a b c d f : Int) (t : World) : Prop where
  c0 : t.cell? ⟨p, 0, none⟩ = some (.int .i64 a)
  c1 : t.cell? ⟨p, 1, none⟩ = some (.int .i64 b)
  c2 : t.cell? ⟨p, 2, none⟩ = some (.int .i64 c)
  c3 : t.cell? ⟨p, 3, none⟩ = some (.int .i64 d)
  c4 : t.cell? ⟨p, 4, none⟩ = some (.int .i64 f)
theorem Fv.drew {p : Nat} {a b c d f : Int} {t : World} (h : Fv p a b c d f t) : Fv p a b c d f t.drew := ⟨h.c0, h.c1, h.c2, h.c3, h.c4⟩
theorem Fv.to {p : Nat} {a b c d f : Int} {t t' : World} (h : Fv p a b c d f t) (hp : p < t.heap.size) (hb : Below t.heap.size t t') : Fv p a b c d f t' := by
  refine ⟨?_, ?_, ?_, ?_, ?_⟩ <;> rw [newCell hb _ _ hp]
  · exact h.c0
  · exact h.c1
  · exact h.c2
  · exact h.c3
  · exact h.c4
theorem Fv.far {p : Nat} {a b c d f : Int} {t : World} (h : Fv p a b c d f t) {r k : Nat} {v : Value} (hr : p ≠ r) : Fv p a b c d f (t.setCell ⟨r, k, none⟩ v) := by
  refine ⟨?_, ?_, ?_, ?_, ?_⟩ <;> rw [World.cell?_setCell_other _ _ _ _ (by simp <;> omega)]
  · exact h.c0
  · exact h.c1
  · exact h.c2
  · exact h.c3
  · exact h.c4
theorem Fv.all {p : Nat} {a b c d f : Int} {t : World} (h : Fv p a b c d f t) : t.cell? ⟨p, 0, none⟩ = some (.int .i64 a) ∧ t.cell? ⟨p, 1, none⟩ = some (.int .i64 b) ∧ t.cell? ⟨p, 2, none⟩ = some (.int .i64 c) ∧ t.cell? ⟨p, 3, none⟩ = some (.int .i64 d) ∧ t.cell? ⟨p, 4, none⟩ = some (.int .i64 f) := ⟨h.c0, h.c1, h.c2, h.c3, h.c4⟩
theorem Fv.far5 {p : Nat} {a b c d f : Int} {t : World} (h : Fv p a b c d f t) {r : Nat} {v0 v1 v2 v3 v4 : Value} (hr : p ≠ r) : (((((t.setCell ⟨r, 0, none⟩ v0).setCell ⟨r, 1, none⟩ v1).setCell ⟨r, 2, none⟩ v2).setCell ⟨r, 3, none⟩ v3).setCell ⟨r, 4, none⟩ v4).cell? ⟨p, 0, none⟩ = some (.int .i64 a) ∧ (((((t.setCell ⟨r, 0, none⟩ v0).setCell ⟨r, 1, none⟩ v1).setCell ⟨r, 2, none⟩ v2).setCell ⟨r, 3, none⟩ v3).setCell ⟨r, 4, none⟩ v4).cell? ⟨p, 1, none⟩ = some (.int .i64 b) ∧ (((((t.setCell ⟨r, 0, none⟩ v0).setCell ⟨r, 1, none⟩ v1).setCell ⟨r, 2, none⟩ v2).setCell ⟨r, 3, none⟩ v3).setCell ⟨r, 4, none⟩ v4).cell? ⟨p, 2, none⟩ = some (.int .i64 c) ∧ (((((t.setCell ⟨r, 0, none⟩ v0).setCell ⟨r, 1, none⟩ v1).setCell ⟨r, 2, none⟩ v2).setCell ⟨r, 3, none⟩ v3).setCell ⟨r, 4, none⟩ v4).cell? ⟨p, 3, none⟩ = some (.int .i64 d) ∧ (((((t.setCell ⟨r, 0, none⟩ v0).setCell ⟨r, 1, none⟩ v1).setCell ⟨r, 2, none⟩ v2).setCell ⟨r, 3, none⟩ v3).setCell ⟨r, 4, none⟩ v4).cell? ⟨p, 4, none⟩ = some (.int .i64 f) := ((((((h.far (k := 0) (v := v0) hr).far (k := 1) (v := v1) hr).far (k := 2) (v := v2) hr).far (k := 3) (v := v3) hr).far (k := 4) (v := v4) hr)).all
theorem Fv.far5d {p : Nat} {a b c d f : Int} {t : World} (h : Fv p a b c d f t) {r : Nat} {v0 v1 v2 v3 v4 : Value} (hr : p ≠ r) : (((((t.setCell ⟨r, 0, none⟩ v0).setCell ⟨r, 1, none⟩ v1).setCell ⟨r, 2, none⟩ v2).setCell ⟨r, 3, none⟩ v3).setCell ⟨r, 4, none⟩ v4).drew.cell? ⟨p, 0, none⟩ = some (.int .i64 a) ∧ (((((t.setCell ⟨r, 0, none⟩ v0).setCell ⟨r, 1, none⟩ v1).setCell ⟨r, 2, none⟩ v2).setCell ⟨r, 3, none⟩ v3).setCell ⟨r, 4, none⟩ v4).drew.cell? ⟨p, 1, none⟩ = some (.int .i64 b) ∧ (((((t.setCell ⟨r, 0, none⟩ v0).setCell ⟨r, 1, none⟩ v1).setCell ⟨r, 2, none⟩ v2).setCell ⟨r, 3, none⟩ v3).setCell ⟨r, 4, none⟩ v4).drew.cell? ⟨p, 2, none⟩ = some (.int .i64 c) ∧ (((((t.setCell ⟨r, 0, none⟩ v0).setCell ⟨r, 1, none⟩ v1).setCell ⟨r, 2, none⟩ v2).setCell ⟨r, 3, none⟩ v3).setCell ⟨r, 4, none⟩ v4).drew.cell? ⟨p, 3, none⟩ = some (.int .i64 d) ∧ (((((t.setCell ⟨r, 0, none⟩ v0).setCell ⟨r, 1, none⟩ v1).setCell ⟨r, 2, none⟩ v2).setCell ⟨r, 3, none⟩ v3).setCell ⟨r, 4, none⟩ v4).drew.cell? ⟨p, 4, none⟩ = some (.int .i64 f) := ((((((h.far (k := 0) (v := v0) hr).far (k := 1) (v := v1) hr).far (k := 2) (v := v2) hr).far (k := 3) (v := v3) hr).far (k := 4) (v := v4) hr)).drew.all

set_option maxRecDepth 100000 in
set_option maxHeartbeats 2000000 in
theorem may_any {u : World} {a b c d f : Int} : Calls Tryd.prog 19 #[.agg #[.int .i64 a, .int .i64 b, .int .i64 c, .int .i64 d, .int .i64 f]] u fun e w' => e = .returned (.agg #[.int .i64 (a % 2000 - 500), .int .i64 (b % 2000 - 500), .int .i64 (4 + c % 13), .int .i64 (4 + d % 13), .int .i64 (f % 3)]) ∧ Below u.heap.size u w' := by
  have H1 : Hid (∀ t : World, Calls Tryd.prog 17 #[.int .i64 a, .int .i64 2000] t fun e w' => e = .returned (.int .i64 (a % 2000)) ∧ t = w') := fun t => bring_any (by omega) (by omega)
  have H2 : Hid (∀ t : World, Calls Tryd.prog 17 #[.int .i64 b, .int .i64 2000] t fun e w' => e = .returned (.int .i64 (b % 2000)) ∧ t = w') := fun t => bring_any (by omega) (by omega)
  have H3 : Hid (∀ t : World, Calls Tryd.prog 17 #[.int .i64 c, .int .i64 13] t fun e w' => e = .returned (.int .i64 (c % 13)) ∧ t = w') := fun t => bring_any (by omega) (by omega)
  have H4 : Hid (∀ t : World, Calls Tryd.prog 17 #[.int .i64 d, .int .i64 13] t fun e w' => e = .returned (.int .i64 (d % 13)) ∧ t = w') := fun t => bring_any (by omega) (by omega)
  have H5 : Hid (∀ t : World, Calls Tryd.prog 17 #[.int .i64 f, .int .i64 3] t fun e w' => e = .returned (.int .i64 (f % 3)) ∧ t = w') := fun t => bring_any (by omega) (by omega)
  have a0 : 0 ≤ a % 2000 := by omega
  have a1 : a % 2000 < 2000 := by omega
  have b0 : 0 ≤ b % 2000 := by omega
  have b1 : b % 2000 < 2000 := by omega
  have c0 : 0 ≤ c % 13 := by omega
  have c1 : c % 13 < 13 := by omega
  have d0 : 0 ≤ d % 13 := by omega
  have d1 : d % 13 < 13 := by omega
  generalize a % 2000 = a' at *
  generalize b % 2000 = b' at *
  generalize c % 13 = c' at *
  generalize d % 13 = d' at *
  generalize f % 3 = f' at *
  go_enter Tryd.func19, Tryd.ntmps19
  go_wp2_with fail
  have hfv : Fv u.heap.size a b c d f ((u.alloc (.cells #[.int .i64 a, .int .i64 b, .int .i64 c, .int .i64 d, .int .i64 f] 32)).alloc (.cells #[.int .i64 0, .int .i64 0, .int .i64 0, .int .i64 0, .int .i64 0] 32)).drew := by
    refine Fv.drew ?_
    refine ⟨?_, ?_, ?_, ?_, ?_⟩ <;> (rw [newCell (from_alloc _ _) _ _ (by simp)]; simp)
  have hz : Fv (u.heap.size + 1) 0 0 0 0 0 ((u.alloc (.cells #[.int .i64 a, .int .i64 b, .int .i64 c, .int .i64 d, .int .i64 f] 32)).alloc (.cells #[.int .i64 0, .int .i64 0, .int .i64 0, .int .i64 0, .int .i64 0] 32)).drew := by
    refine Fv.drew ?_
    refine ⟨?_, ?_, ?_, ?_, ?_⟩ <;> simp [go_sem]
  have hfr : ∀ j, ((u.alloc (.cells #[.int .i64 a, .int .i64 b, .int .i64 c, .int .i64 d, .int .i64 f] 32)).alloc (.cells #[.int .i64 0, .int .i64 0, .int .i64 0, .int .i64 0, .int .i64 0] 32)).drew.frozen? ⟨u.heap.size + 1, j, none⟩ = false := fun j => by
    show World.frozen? _ _ = false
    have := (Ri.built 32 (u.alloc (.cells #[.int .i64 a, .int .i64 b, .int .i64 c, .int .i64 d, .int .i64 f] 32)) [0, 0, 0, 0, 0] (g := u.heap.size + 1) (by simp)).drew.thaw j
    exact this
  have HB : Hid (Below u.heap.size u ((u.alloc (.cells #[.int .i64 a, .int .i64 b, .int .i64 c, .int .i64 d, .int .i64 f] 32)).alloc (.cells #[.int .i64 0, .int .i64 0, .int .i64 0, .int .i64 0, .int .i64 0] 32)).drew) := below_drew (to_alloc (from_alloc _ _) _)
  have z0 := hz.c0
  have z1 := hz.c1
  have z2 := hz.c2
  have z3 := hz.c3
  have z4 := hz.c4
  have f0 := hfr 0
  have f1 := hfr 1
  have f2 := hfr 2
  have f3 := hfr 3
  have f4 := hfr 4
  have hfw : Fv u.heap.size a b c d f ((u.alloc (.cells #[.int .i64 a, .int .i64 b, .int .i64 c, .int .i64 d, .int .i64 f] 32)).alloc (.cells #[.int .i64 0, .int .i64 0, .int .i64 0, .int .i64 0, .int .i64 0] 32)) := ⟨hfv.c0, hfv.c1, hfv.c2, hfv.c3, hfv.c4⟩
  clear hz hfr
  generalize (u.alloc (.cells #[.int .i64 a, .int .i64 b, .int .i64 c, .int .i64 d, .int .i64 f] 32)).alloc (.cells #[.int .i64 0, .int .i64 0, .int .i64 0, .int .i64 0, .int .i64 0] 32) = v at *
  have y0 : v.cell? ⟨u.heap.size + 1, 0, none⟩ = some (.int .i64 0) := z0
  have y1 : v.cell? ⟨u.heap.size + 1, 1, none⟩ = some (.int .i64 0) := z1
  have y2 : v.cell? ⟨u.heap.size + 1, 2, none⟩ = some (.int .i64 0) := z2
  have y3 : v.cell? ⟨u.heap.size + 1, 3, none⟩ = some (.int .i64 0) := z3
  have y4 : v.cell? ⟨u.heap.size + 1, 4, none⟩ = some (.int .i64 0) := z4
  have g0 : v.frozen? ⟨u.heap.size + 1, 0, none⟩ = false := f0
  have g1 : v.frozen? ⟨u.heap.size + 1, 1, none⟩ = false := f1
  have g2 : v.frozen? ⟨u.heap.size + 1, 2, none⟩ = false := f2
  have g3 : v.frozen? ⟨u.heap.size + 1, 3, none⟩ = false := f3
  have g4 : v.frozen? ⟨u.heap.size + 1, 4, none⟩ = false := f4
  go_region_held3 (fun t => t.cell? ⟨u.heap.size, 0, none⟩ = some (.int .i64 a) ∧ t.cell? ⟨u.heap.size, 1, none⟩ = some (.int .i64 b) ∧ t.cell? ⟨u.heap.size, 2, none⟩ = some (.int .i64 c) ∧ t.cell? ⟨u.heap.size, 3, none⟩ = some (.int .i64 d) ∧ t.cell? ⟨u.heap.size, 4, none⟩ = some (.int .i64 f)) ((first | (with_reducible exact hfv.all) | (with_reducible exact hfw.far5d (by omega)) | (with_reducible exact hfw.far5 (by omega)))) ((first | (go_at_call 17; with_reducible refine (H1.out _).mono ?_; rintro e w5 ⟨rfl, rfl⟩) | (go_at_call 17; with_reducible refine (H2.out _).mono ?_; rintro e w5 ⟨rfl, rfl⟩) | (go_at_call 17; with_reducible refine (H3.out _).mono ?_; rintro e w5 ⟨rfl, rfl⟩) | (go_at_call 17; with_reducible refine (H4.out _).mono ?_; rintro e w5 ⟨rfl, rfl⟩) | (go_at_call 17; with_reducible refine (H5.out _).mono ?_; rintro e w5 ⟨rfl, rfl⟩)))
  have w1 : IntKind.i64.wrap (a' - 500) = a' - 500 := by rw [IntKind.wrap_i64]; omega
  have w2 : IntKind.i64.wrap (b' - 500) = b' - 500 := by rw [IntKind.wrap_i64]; omega
  have w3 : IntKind.i64.wrap (4 + c') = 4 + c' := by rw [IntKind.wrap_i64]; omega
  have w4 : IntKind.i64.wrap (4 + d') = 4 + d' := by rw [IntKind.wrap_i64]; omega
  rw [w1, w2, w3, w4]
  have HB' : Hid (Below u.heap.size u v) := ⟨HB.out.os, HB.out.tape, HB.out.output, HB.out.size, HB.out.block⟩
  go_wp2_with fail
  refine bodyPost_ret (v := .agg #[.int .i64 (a' - 500), .int .i64 (b' - 500), .int .i64 (4 + c'), .int .i64 (4 + d'), .int .i64 f']) (by simp [results, Tryd.results19, go_sem, y0, y1, y2, y3, y4]) rfl ⟨rfl, ?_⟩
  exact below_drew (below_set (below_set (below_set (below_set (below_set HB'.out (by simp) _) (by simp) _) (by simp) _) (by simp) _) (by simp) _)

end Go.Proofs.YtgmdanipcnkhdaaDoor
