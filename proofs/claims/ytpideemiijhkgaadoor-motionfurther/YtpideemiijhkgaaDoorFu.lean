/- DERIVED. The walk of MotionFurther. -/
import Derived.Test.YtpideemiijhkgaaDoorWh
import Derived.Deep.DeepCutAuto
import Derived.Deep.Light
namespace Go.Proofs.YtpideemiijhkgaaDoor
open Go.RowKit

/-- beside it two numbers in a block -/
structure Wx (u : World) (W0 H0 W1 H1 W2 H2 : Int) (a0 a1 a2 : Option Addr) (n0 n1 n2 k0 k1 k2 : Nat) (d0 d1 d2 d3 d4 d5 d6 d7 b0 b1 : Int) (t : World) : Prop where
  w : Ww u W0 H0 W1 H1 W2 H2 a0 a1 a2 n0 n1 n2 k0 k1 k2 d0 d1 d2 d3 d4 d5 d6 d7 t
  lt : u.heap.size + 1 + 1 < t.heap.size
  p0 : t.cell? ⟨u.heap.size + 1 + 1, 0, none⟩ = some (.int .i64 b0)
  p1 : t.cell? ⟨u.heap.size + 1 + 1, 1, none⟩ = some (.int .i64 b1)
theorem Wx.to {u : World} {W0 H0 W1 H1 W2 H2 : Int} {a0 a1 a2 : Option Addr} {n0 n1 n2 k0 k1 k2 : Nat} {d0 d1 d2 d3 d4 d5 d6 d7 b0 b1 : Int} {t t' : World} (h : Wx u W0 H0 W1 H1 W2 H2 a0 a1 a2 n0 n1 n2 k0 k1 k2 d0 d1 d2 d3 d4 d5 d6 d7 b0 b1 t) (hb : Below t.heap.size t t') : Wx u W0 H0 W1 H1 W2 H2 a0 a1 a2 n0 n1 n2 k0 k1 k2 d0 d1 d2 d3 d4 d5 d6 d7 b0 b1 t' :=
  ⟨h.w.to hb, Nat.lt_of_lt_of_le h.lt hb.size, by rw [newCell hb _ _ h.lt]; exact h.p0, by rw [newCell hb _ _ h.lt]; exact h.p1⟩
theorem Wx.put {u : World} {W0 H0 W1 H1 W2 H2 : Int} {a0 a1 a2 : Option Addr} {n0 n1 n2 k0 k1 k2 : Nat} {d0 d1 d2 d3 d4 d5 d6 d7 b0 b1 : Int} {t : World} (h : Wx u W0 H0 W1 H1 W2 H2 a0 a1 a2 n0 n1 n2 k0 k1 k2 d0 d1 d2 d3 d4 d5 d6 d7 b0 b1 t) (hf : ∀ j, t.frozen? ⟨u.heap.size + 1, j, none⟩ = false) (f0 f1 f2 f3 f4 f5 f6 f7 : Int) :
    Wx u W0 H0 W1 H1 W2 H2 a0 a1 a2 n0 n1 n2 k0 k1 k2 f0 f1 f2 f3 f4 f5 f6 f7 b0 b1 ((((((((t.setCell ⟨u.heap.size + 1, 0, none⟩ (.int .i64 f0)).setCell ⟨u.heap.size + 1, 1, none⟩ (.int .i64 f1)).setCell ⟨u.heap.size + 1, 2, none⟩ (.int .i64 f2)).setCell ⟨u.heap.size + 1, 3, none⟩ (.int .i64 f3)).setCell ⟨u.heap.size + 1, 4, none⟩ (.int .i64 f4)).setCell ⟨u.heap.size + 1, 5, none⟩ (.int .i64 f5)).setCell ⟨u.heap.size + 1, 6, none⟩ (.int .i64 f6)).setCell ⟨u.heap.size + 1, 7, none⟩ (.int .i64 f7)) := by
  refine ⟨h.w.put hf _ _ _ _ _ _ _ _, by simpa using h.lt, ?_, ?_⟩
  · iterate 8 rw [World.cell?_setCell_other _ _ _ _ (by simp)]
    exact h.p0
  · iterate 8 rw [World.cell?_setCell_other _ _ _ _ (by simp)]
    exact h.p1
theorem tdiv2_in {a : Int} (h0 : -4095 ≤ a) (h1 : a ≤ 4095) : -2047 ≤ a.tdiv 2 ∧ a.tdiv 2 ≤ 2047 := by
  rcases Int.le_total 0 a with h | h
  · rw [Int.tdiv_eq_ediv_of_nonneg h]; omega
  · rw [show a.tdiv 2 = -((-a) / 2) from by rw [← Int.tdiv_eq_ediv_of_nonneg (by omega), Int.neg_tdiv, Int.neg_neg]]; omega

set_option maxRecDepth 100000 in
set_option maxHeartbeats 4000000 in
theorem further_walk {u : World} {W0 H0 W1 H1 W2 H2 : Int} {a0 a1 a2 : Option Addr} {c0 c1 c2 : Nat} {C0 C1 C2 : List Nat} {n X Y w ht vx vy k b0 b1 : Int} (hg : Gt u) (i0 : PlIn u W0 H0 a0 c0 C0) (i1 : PlIn u W1 H1 a1 c1 C1) (i2 : PlIn u W2 H2 a2 c2 C2) :
    Calls Tryd.prog 7 #[.agg #[.int .i64 W0, .int .i64 H0, .slice a0 C0.length c0, .int .i64 W1, .int .i64 H1, .slice a1 C1.length c1, .int .i64 W2, .int .i64 H2, .slice a2 C2.length c2], .agg #[.int .i64 n, .int .i64 X, .int .i64 Y, .int .i64 w, .int .i64 ht, .int .i64 vx, .int .i64 vy, .int .i64 k], .agg #[.int .i64 b0, .int .i64 b1]] u fun e w' => e = .returned (.bool true) ∧ Below u.heap.size u w' := by
  have HG : Hid (Gt u) := hg
  have I0 : Hid (PlIn u W0 H0 a0 c0 C0) := i0
  have I1 : Hid (PlIn u W1 H1 a1 c1 C1) := i1
  have I2 : Hid (PlIn u W2 H2 a2 c2 C2) := i2
  have HW0 : Hid (Wx u W0 H0 W1 H1 W2 H2 a0 a1 a2 C0.length C1.length C2.length c0 c1 c2 n X Y w ht vx vy k b0 b1 (((u.alloc (.cells #[.int .i64 W0, .int .i64 H0, .slice a0 C0.length c0, .int .i64 W1, .int .i64 H1, .slice a1 C1.length c1, .int .i64 W2, .int .i64 H2, .slice a2 C2.length c2] 27)).alloc (.cells #[.int .i64 n, .int .i64 X, .int .i64 Y, .int .i64 w, .int .i64 ht, .int .i64 vx, .int .i64 vy, .int .i64 k] 33)).alloc (.cells #[.int .i64 b0, .int .i64 b1] 57))) := by
    have h : Ww u W0 H0 W1 H1 W2 H2 a0 a1 a2 C0.length C1.length C2.length c0 c1 c2 n X Y w ht vx vy k ((u.alloc (.cells #[.int .i64 W0, .int .i64 H0, .slice a0 C0.length c0, .int .i64 W1, .int .i64 H1, .slice a1 C1.length c1, .int .i64 W2, .int .i64 H2, .slice a2 C2.length c2] 27)).alloc (.cells #[.int .i64 n, .int .i64 X, .int .i64 Y, .int .i64 w, .int .i64 ht, .int .i64 vx, .int .i64 vy, .int .i64 k] 33)) := ⟨(Fc.built u W0 H0 a0 C0.length c0 W1 H1 a1 C1.length c1 W2 H2 a2 C2.length c2).below (by simp) (from_alloc _ _), Ev.built _ n X Y w ht vx vy k (by simp), to_alloc (from_alloc _ _) _, by simp⟩
    have hr := Ri.built 57 ((u.alloc (.cells #[.int .i64 W0, .int .i64 H0, .slice a0 C0.length c0, .int .i64 W1, .int .i64 H1, .slice a1 C1.length c1, .int .i64 W2, .int .i64 H2, .slice a2 C2.length c2] 27)).alloc (.cells #[.int .i64 n, .int .i64 X, .int .i64 Y, .int .i64 w, .int .i64 ht, .int .i64 vx, .int .i64 vy, .int .i64 k] 33)) [b0, b1] (g := u.heap.size + 1 + 1) (by simp)
    exact ⟨h.to (from_alloc _ _), hr.lt, hr.cell 0 (by simp), hr.cell 1 (by simp)⟩
  have HF0 : Hid (∀ j, (((u.alloc (.cells #[.int .i64 W0, .int .i64 H0, .slice a0 C0.length c0, .int .i64 W1, .int .i64 H1, .slice a1 C1.length c1, .int .i64 W2, .int .i64 H2, .slice a2 C2.length c2] 27)).alloc (.cells #[.int .i64 n, .int .i64 X, .int .i64 Y, .int .i64 w, .int .i64 ht, .int .i64 vx, .int .i64 vy, .int .i64 k] 33)).alloc (.cells #[.int .i64 b0, .int .i64 b1] 57)).frozen? ⟨u.heap.size + 1, j, none⟩ = false) := fun j => by
    rw [newFrozen (from_alloc _ _) _ _ (by simp)]
    exact built_thaw _ n X Y w ht vx vy k (by simp) j
  clear hg i0 i1 i2
  go_enter Tryd.func7, Tryd.ntmps7
  go_wp2_with fail
  generalize (((u.alloc (.cells #[.int .i64 W0, .int .i64 H0, .slice a0 C0.length c0, .int .i64 W1, .int .i64 H1, .slice a1 C1.length c1, .int .i64 W2, .int .i64 H2, .slice a2 C2.length c2] 27)).alloc (.cells #[.int .i64 n, .int .i64 X, .int .i64 Y, .int .i64 w, .int .i64 ht, .int .i64 vx, .int .i64 vy, .int .i64 k] 33)).alloc (.cells #[.int .i64 b0, .int .i64 b1] 57)) = V at *
  refine (works_true (HG.out.to HW0.out.w.bel)).mono ?_
  rintro e v1 ⟨rfl, hb⟩
  have hw := HW0.out.to hb
  have HW1 : Hid (Wx u W0 H0 W1 H1 W2 H2 a0 a1 a2 C0.length C1.length C2.length c0 c1 c2 n X Y w ht vx vy k b0 b1 v1) := hw
  have HF1 : Hid (∀ j, v1.frozen? ⟨u.heap.size + 1, j, none⟩ = false) := fun j => by rw [newFrozen hb _ _ (by have := HW0.out.lt; omega)]; exact HF0.out j
  have q0 := hw.w.fc.c0
  have q1 := hw.w.fc.c1
  have q2 := hw.w.fc.c2
  have q3 := hw.w.fc.c3
  have q4 := hw.w.fc.c4
  have q5 := hw.w.fc.c5
  have q6 := hw.w.fc.c6
  have q7 := hw.w.fc.c7
  have q8 := hw.w.fc.c8
  clear hb hw HW0 HF0
  go_wp2_with fail
  by_cases hf : FrOk ⟨W0, H0, a0, c0, C0⟩ ⟨W1, H1, a1, c1, C1⟩ ⟨W2, H2, a2, c2, C2⟩
  · have HWh : Hid (∀ t : World, Calls Tryd.prog 26 #[.agg #[.int .i64 W0, .int .i64 H0, .slice a0 C0.length c0, .int .i64 W1, .int .i64 H1, .slice a1 C1.length c1, .int .i64 W2, .int .i64 H2, .slice a2 C2.length c2]] t fun e w' => e = .returned (.int .i64 0) ∧ Below t.heap.size t w') := fun t => by
      have := whole_any (u := t) (W0 := W0) (H0 := H0) (W1 := W1) (H1 := H1) (W2 := W2) (H2 := H2) (a0 := a0) (a1 := a1) (a2 := a2) (c0 := c0) (c1 := c1) (c2 := c2) (C0 := C0) (C1 := C1) (C2 := C2)
      rwa [fk_ok hf] at this
    have HF : Hid (FrOk ⟨W0, H0, a0, c0, C0⟩ ⟨W1, H1, a1, c1, C1⟩ ⟨W2, H2, a2, c2, C2⟩) := hf
    clear hf
    refine (HWh.out _).mono ?_
    rintro e v2 ⟨rfl, hb⟩
    have hw := HW1.out.to hb
    have HW2 : Hid (Wx u W0 H0 W1 H1 W2 H2 a0 a1 a2 C0.length C1.length C2.length c0 c1 c2 n X Y w ht vx vy k b0 b1 v2) := hw
    have HF2 : Hid (∀ j, v2.frozen? ⟨u.heap.size + 1, j, none⟩ = false) := fun j => by rw [newFrozen hb _ _ (by have := HW1.out.lt; omega)]; exact HF1.out j
    have e0 := hw.w.ev.c0
    have e1 := hw.w.ev.c1
    have e2 := hw.w.ev.c2
    have e3 := hw.w.ev.c3
    have e4 := hw.w.ev.c4
    have e5 := hw.w.ev.c5
    have e6 := hw.w.ev.c6
    have e7 := hw.w.ev.c7
    clear hb hw HW1 HF1 HWh q0 q1 q2 q3 q4 q5 q6 q7 q8
    go_upto_region 5 with fail
    go_cut [3] (fun s T => s = .pointer (some ⟨u.heap.size, 0, none⟩) ∧ Wx u W0 H0 W1 H1 W2 H2 a0 a1 a2 C0.length C1.length C2.length c0 c1 c2 (n % 3) (X % 60) (Y % 60) (4 + w % 29) (4 + ht % 29) (vx % 8191 - 4095) (vy % 8191 - 4095) (k % 3) b0 b1 T)
    case first =>
      go_wp2_with fail
      refine may_any.mono ?_
      rintro e v3 ⟨rfl, hb⟩
      have hw := HW2.out.to hb
      have HW3 : Hid (Wx u W0 H0 W1 H1 W2 H2 a0 a1 a2 C0.length C1.length C2.length c0 c1 c2 n X Y w ht vx vy k b0 b1 v3) := hw
      have HF3 : Hid (∀ j, v3.frozen? ⟨u.heap.size + 1, j, none⟩ = false) := fun j => by rw [newFrozen hb _ _ (by have := HW2.out.lt; omega)]; exact HF2.out j
      clear e0 e1 e2 e3 e4 e5 e6 e7
      have e0 := hw.w.ev.c0
      have e1 := hw.w.ev.c1
      have e2 := hw.w.ev.c2
      have e3 := hw.w.ev.c3
      have e4 := hw.w.ev.c4
      have e5 := hw.w.ev.c5
      have e6 := hw.w.ev.c6
      have e7 := hw.w.ev.c7
      have f0 := HF3.out 0
      have f1 := HF3.out 1
      have f2 := HF3.out 2
      have f3 := HF3.out 3
      have f4 := HF3.out 4
      have f5 := HF3.out 5
      have f6 := HF3.out 6
      have f7 := HF3.out 7
      clear hb hw
      go_wp2_with fail
      go_meet
      exact ⟨rfl, HW3.out.put HF3.out _ _ _ _ _ _ _ _⟩
    obtain ⟨rfl, hw⟩ := hcut
    rename World => v3
    clear e0 e1 e2 e3 e4 e5 e6 e7 HW2 HF2
    obtain ⟨x1, hx1, hx1b⟩ : ∃ m : Nat, X % 60 = (m : Int) ∧ m < 60 := ⟨(X % 60).toNat, by omega, by omega⟩
    obtain ⟨y1, hy1, hy1b⟩ : ∃ m : Nat, Y % 60 = (m : Int) ∧ m < 60 := ⟨(Y % 60).toNat, by omega, by omega⟩
    obtain ⟨wd, hwd, wd0, wd1⟩ : ∃ m : Nat, 4 + w % 29 = (m : Int) ∧ 4 ≤ m ∧ m ≤ 32 := ⟨(4 + w % 29).toNat, by omega, by omega, by omega⟩
    obtain ⟨hd, hhd, hd0, hd1⟩ : ∃ m : Nat, 4 + ht % 29 = (m : Int) ∧ 4 ≤ m ∧ m ≤ 32 := ⟨(4 + ht % 29).toNat, by omega, by omega, by omega⟩
    obtain ⟨kk, hkk, hk3⟩ : ∃ m : Nat, k % 3 = (m : Int) ∧ m < 3 := ⟨(k % 3).toNat, by omega, by omega⟩
    obtain ⟨zx, hzx, zx0, zx1⟩ : ∃ m : Int, vx % 8191 - 4095 = m ∧ -4095 ≤ m ∧ m ≤ 4095 := ⟨_, rfl, by omega, by omega⟩
    obtain ⟨zy, hzy, zy0, zy1⟩ : ∃ m : Int, vy % 8191 - 4095 = m ∧ -4095 ≤ m ∧ m ≤ 4095 := ⟨_, rfl, by omega, by omega⟩
    have hn3 : n % 3 = 0 ∨ n % 3 = 1 ∨ n % 3 = 2 := by omega
    rw [hx1, hy1, hwd, hhd, hkk, hzx, hzy] at hw
    clear hx1 hy1 hwd hhd hkk hzx hzy
    obtain ⟨dx, hdx, hdx1⟩ : ∃ m : Nat, b0 % 40 = (m : Int) ∧ m < 40 := ⟨(b0 % 40).toNat, by omega, by omega⟩
    obtain ⟨dy, hdy, hdy1⟩ : ∃ m : Nat, b1 % 40 = (m : Int) ∧ m < 40 := ⟨(b1 % 40).toNat, by omega, by omega⟩
    have HBx : Hid (∀ t : World, Calls Tryd.prog 29 #[.int .i64 b0, .int .i64 40] t fun e w' => e = .returned (.int .i64 (dx : Int)) ∧ w' = t) := fun t => (bring_any (by omega) (by omega)).mono fun e w' h => ⟨by rw [h.1, hdx], h.2.symm⟩
    have HBy : Hid (∀ t : World, Calls Tryd.prog 29 #[.int .i64 b1, .int .i64 40] t fun e w' => e = .returned (.int .i64 (dy : Int)) ∧ w' = t) := fun t => (bring_any (by omega) (by omega)).mono fun e w' h => ⟨by rw [h.1, hdy], h.2.symm⟩
    have bx := tdiv2_in zx0 zx1
    have by' := tdiv2_in zy0 zy1
    obtain ⟨qx, hqx⟩ : ∃ d, d = zx.tdiv 2 := ⟨_, rfl⟩
    obtain ⟨qy, hqy⟩ : ∃ d, d = zy.tdiv 2 := ⟨_, rfl⟩
    rw [← hqx] at bx
    rw [← hqy] at by'
    obtain ⟨bx0, bx1⟩ := bx
    obtain ⟨by0, by1⟩ := by'
    have tx : zx.tdiv 2 = qx := hqx.symm
    have ty : zy.tdiv 2 = qy := hqy.symm
    have dxc : (dx : Int) < 40 := by omega
    have dyc : (dy : Int) < 40 := by omega
    clear hdx hdy hqx hqy
    rcases hn3 with hn | hn | hn
    · have hpk : POk W0 H0 C0 := HF.out.p0
      obtain ⟨x, y, rfl, rfl, px0, px1, py0, py1, hlen⟩ := hpk.nat
      have HP : Hid (1 ≤ x ∧ x ≤ 512 ∧ 1 ≤ y ∧ y ≤ 512 ∧ C0.length = x * y) := ⟨px0, px1, py0, py1, hlen⟩
      rw [hn] at hw
      have HW3 : Hid (Wx u (x : Int) (y : Int) W1 H1 W2 H2 a0 a1 a2 C0.length C1.length C2.length c0 c1 c2 0 (x1 : Int) (y1 : Int) (wd : Int) (hd : Int) zx zy (kk : Int) b0 b1 v3) := hw
      have e0 := hw.w.ev.c0
      have e1 := hw.w.ev.c1
      have e2 := hw.w.ev.c2
      have e3 := hw.w.ev.c3
      have e4 := hw.w.ev.c4
      have e5 := hw.w.ev.c5
      have e6 := hw.w.ev.c6
      have e7 := hw.w.ev.c7
      have g0 := hw.p0
      have g1 := hw.p1
      clear hw hn hpk hlen px0 px1 py0 py1
      obtain ⟨nn, hnn⟩ : ∃ m, m = wd * hd := ⟨_, rfl⟩
      have nn1 : nn ≤ 32 * 32 := by rw [hnn]; exact Nat.mul_le_mul wd1 hd1
      have en : (wd : Int) * (hd : Int) = (nn : Int) := by rw [← Int.natCast_mul, hnn]
      have HFe : Hid (∀ t : World, Below u.heap.size u t → Calls Tryd.prog 35 #[.agg #[.int .i64 (x : Int), .int .i64 (y : Int), .slice a0 C0.length c0], .int .i64 (16 * ((x1 : Int) + (dx : Int)) + 2 * qx), .int .i64 (16 * ((y1 : Int) + (dy : Int)) + 2 * qy), .int .i64 (wd : Int), .int .i64 (hd : Int), .int .i64 (kk : Int)] t fun e w' => Rs t w' e (fe C0 x y (16 * ((x1 : Int) + (dx : Int)) + 2 * qx) (16 * ((y1 : Int) + (dy : Int)) + 2 * qy) wd hd kk) 0) := fun t ht => by
        obtain ⟨q0, q1, q2, q3, q4⟩ := HP.out
        exact (fetch_ok (HG.out.to ht) (I0.out.sl.to ht) I0.out.byt ⟨POk.of q0 q1 q2 q3 q4, by omega, by omega, by omega, by omega, by omega⟩).mono fun _ _ h => h.rs
      have HS1 : Hid (∀ t : World, Below u.heap.size u t → Calls Tryd.prog 10 #[.agg #[.int .i64 (x : Int), .int .i64 (y : Int), .slice a0 C0.length c0, .int .i64 W1, .int .i64 H1, .slice a1 C1.length c1, .int .i64 W2, .int .i64 H2, .slice a2 C2.length c2], .int .i64 0, .agg #[.int .i64 (x1 : Int), .int .i64 (y1 : Int), .int .i64 (wd : Int), .int .i64 (hd : Int)], .agg #[.int .i64 (qx + 8 * (dx : Int)), .int .i64 (qy + 8 * (dy : Int))], .int .i64 (kk : Int)] t fun e w' => Rs t w' e (fe C0 x y (16 * ((x1 : Int) + (dx : Int)) + 2 * qx) (16 * ((y1 : Int) + (dy : Int)) + 2 * qy) wd hd kk) 0) := fun t ht => by
        refine single_0 HF.out ⟨by omega, by omega, by omega, by omega, by omega, by omega⟩ (fun t' ht' => ?_)
        rw [show 16 * (x1 : Int) + 2 * (qx + 8 * (dx : Int)) = 16 * ((x1 : Int) + (dx : Int)) + 2 * qx from by omega, show 16 * (y1 : Int) + 2 * (qy + 8 * (dy : Int)) = 16 * ((y1 : Int) + (dy : Int)) + 2 * qy from by omega]
        exact HFe.out _ (below_to ht ht')
      have HS2 : Hid (∀ t : World, Below u.heap.size u t → Calls Tryd.prog 10 #[.agg #[.int .i64 (x : Int), .int .i64 (y : Int), .slice a0 C0.length c0, .int .i64 W1, .int .i64 H1, .slice a1 C1.length c1, .int .i64 W2, .int .i64 H2, .slice a2 C2.length c2], .int .i64 0, .agg #[.int .i64 ((x1 : Int) + (dx : Int)), .int .i64 ((y1 : Int) + (dy : Int)), .int .i64 (wd : Int), .int .i64 (hd : Int)], .agg #[.int .i64 qx, .int .i64 qy], .int .i64 (kk : Int)] t fun e w' => Rs t w' e (fe C0 x y (16 * ((x1 : Int) + (dx : Int)) + 2 * qx) (16 * ((y1 : Int) + (dy : Int)) + 2 * qy) wd hd kk) 0) := fun t ht =>
        single_0 HF.out ⟨by omega, by omega, by omega, by omega, by omega, by omega⟩ (fun t' ht' => HFe.out _ (below_to ht ht'))
      have HLl : Hid ((fe C0 x y (16 * ((x1 : Int) + (dx : Int)) + 2 * qx) (16 * ((y1 : Int) + (dy : Int)) + 2 * qy) wd hd kk).length = nn) := by show _ = _; rw [fe_len, hnn]
      generalize fe C0 x y (16 * ((x1 : Int) + (dx : Int)) + 2 * qx) (16 * ((y1 : Int) + (dy : Int)) + 2 * qy) wd hd kk = L at *
      have wd2 : (4 : Int) ≤ (wd : Int) := by omega
      have wd3 : (wd : Int) ≤ 32 := by omega
      have hd2 : (hd : Int) ≤ 32 := by omega
      have x1c : (x1 : Int) < 60 := by omega
      have y1c : (y1 : Int) < 60 := by omega
      have nn2 : (nn : Int) ≤ 1024 := by omega
      clear hnn HFe
      go_upto_region 9 with fail
      go_wp2_with fail
      go_quiet ((first | (go_at_call 29; with_reducible exact Calls.quiet_of_same (HBx.out _)) | (go_at_call 29; with_reducible exact Calls.quiet_of_same (HBy.out _))))
      have hb3 : Hid (Below v3.heap.size v3 (v3.drewN nq)) := below_drewN (Below.refl _ _) nq
      have hw4 := HW3.out.to hb3.out
      generalize v3.drewN nq = v3d at *
      clear e0 e1 e2 e3 e4 e5 e6 e7 g0 g1 HW3 hb3 HBx HBy
      have hw5 := hw4.to (from_alloc v3d (.cells #[.int .i64 qx, .int .i64 qy] 31))
      have HW5 : Hid (Wx u (x : Int) (y : Int) W1 H1 W2 H2 a0 a1 a2 C0.length C1.length C2.length c0 c1 c2 0 (x1 : Int) (y1 : Int) (wd : Int) (hd : Int) zx zy (kk : Int) b0 b1 (v3d.alloc (.cells #[.int .i64 qx, .int .i64 qy] 31))) := hw5
      have r0 : (v3d.alloc (.cells #[.int .i64 qx, .int .i64 qy] 31)).cell? ⟨v3d.heap.size, 0, none⟩ = some (.int .i64 qx) := by simp [go_sem]
      have r1 : (v3d.alloc (.cells #[.int .i64 qx, .int .i64 qy] 31)).cell? ⟨v3d.heap.size, 1, none⟩ = some (.int .i64 qy) := by simp [go_sem]
      have rl : v3d.heap.size < (v3d.alloc (.cells #[.int .i64 qx, .int .i64 qy] 31)).heap.size := by simp
      have q0 := hw5.w.fc.c0
      have q1 := hw5.w.fc.c1
      have q2 := hw5.w.fc.c2
      have q3 := hw5.w.fc.c3
      have q4 := hw5.w.fc.c4
      have q5 := hw5.w.fc.c5
      have q6 := hw5.w.fc.c6
      have q7 := hw5.w.fc.c7
      have q8 := hw5.w.fc.c8
      have e0 := hw5.w.ev.c0
      have e1 := hw5.w.ev.c1
      have e2 := hw5.w.ev.c2
      have e3 := hw5.w.ev.c3
      have e4 := hw5.w.ev.c4
      have e5 := hw5.w.ev.c5
      have e6 := hw5.w.ev.c6
      have e7 := hw5.w.ev.c7
      have k5 := hw4.w.ev.c5
      have k6 := hw4.w.ev.c6
      clear hw4 hw5
      go_upto_region 11 with fail
      generalize (v3d.alloc (.cells #[.int .i64 qx, .int .i64 qy] 31)) = v4 at *
      clear k5 k6
      go_wp2_with fail
      refine (HS1.out _ HW5.out.w.bel).mono ?_
      rintro e v5 ⟨ad, rfl, haw, hb5⟩
      rw [HLl.out]
      have hw6 := HW5.out.to hb5
      have HW6 : Hid (Wx u (x : Int) (y : Int) W1 H1 W2 H2 a0 a1 a2 C0.length C1.length C2.length c0 c1 c2 0 (x1 : Int) (y1 : Int) (wd : Int) (hd : Int) zx zy (kk : Int) b0 b1 v5) := hw6
      have HA : Hid (Sl v5 .u8 ad L) := haw.sl
      have s0 : v5.cell? ⟨v3d.heap.size, 0, none⟩ = some (.int .i64 qx) := by rw [newCell hb5 _ _ rl]; exact r0
      have s1 : v5.cell? ⟨v3d.heap.size, 1, none⟩ = some (.int .i64 qy) := by rw [newCell hb5 _ _ rl]; exact r1
      clear e0 e1 e2 e3 e4 e5 e6 e7 q0 q1 q2 q3 q4 q5 q6 q7 q8 r0 r1 rl HW5 HS1 haw hb5
      have q0 := hw6.w.fc.c0
      have q1 := hw6.w.fc.c1
      have q2 := hw6.w.fc.c2
      have q3 := hw6.w.fc.c3
      have q4 := hw6.w.fc.c4
      have q5 := hw6.w.fc.c5
      have q6 := hw6.w.fc.c6
      have q7 := hw6.w.fc.c7
      have q8 := hw6.w.fc.c8
      have e0 := hw6.w.ev.c0
      have e1 := hw6.w.ev.c1
      have e2 := hw6.w.ev.c2
      have e3 := hw6.w.ev.c3
      have e4 := hw6.w.ev.c4
      have e5 := hw6.w.ev.c5
      have e6 := hw6.w.ev.c6
      have e7 := hw6.w.ev.c7
      clear hw6
      go_wp2_with fail
      refine (HS2.out _ HW6.out.w.bel).mono ?_
      rintro e v6 ⟨bd, rfl, haw, hb6⟩
      rw [HLl.out]
      have hw7 := HW6.out.to hb6
      have HB7 : Hid (Below u.heap.size u v6) := hw7.w.bel
      have HA7 : Hid (Sl v6 .u8 ad L) := HA.out.to hb6
      have HB : Hid (Sl v6 .u8 bd L) := haw.sl
      have HW7 : Hid (Wx u (x : Int) (y : Int) W1 H1 W2 H2 a0 a1 a2 C0.length C1.length C2.length c0 c1 c2 0 (x1 : Int) (y1 : Int) (wd : Int) (hd : Int) zx zy (kk : Int) b0 b1 v6) := hw7
      clear e0 e1 e2 e3 e4 e5 e6 e7 q0 q1 q2 q3 q4 q5 q6 q7 q8 s0 s1 HW6 HS2 haw hb6 HA hw7
      go_wp2_with fail
      refine (eqBytes_same (n := nn) (C := L) HA7.out HB.out HLl.out (by omega)).mono ?_
      rintro e v7 ⟨rfl, hb7⟩
      have hw8 := HW7.out.to hb7
      have e3 := hw8.w.ev.c3
      have e4 := hw8.w.ev.c4
      have HB8 : Hid (Below u.heap.size u v7) := hw8.w.bel
      have hee : ((nn : Int) == (nn : Int)) = true := by simp
      clear hb7 hw8 HW7 HA7 HB HB7
      go_wp2_with fail
      go_ret
      exact ⟨rfl, HB8.out⟩
    · have hpk : POk W1 H1 C1 := HF.out.p1
      obtain ⟨x, y, rfl, rfl, px0, px1, py0, py1, hlen⟩ := hpk.nat
      have HP : Hid (1 ≤ x ∧ x ≤ 512 ∧ 1 ≤ y ∧ y ≤ 512 ∧ C1.length = x * y) := ⟨px0, px1, py0, py1, hlen⟩
      rw [hn] at hw
      have HW3 : Hid (Wx u W0 H0 (x : Int) (y : Int) W2 H2 a0 a1 a2 C0.length C1.length C2.length c0 c1 c2 1 (x1 : Int) (y1 : Int) (wd : Int) (hd : Int) zx zy (kk : Int) b0 b1 v3) := hw
      have e0 := hw.w.ev.c0
      have e1 := hw.w.ev.c1
      have e2 := hw.w.ev.c2
      have e3 := hw.w.ev.c3
      have e4 := hw.w.ev.c4
      have e5 := hw.w.ev.c5
      have e6 := hw.w.ev.c6
      have e7 := hw.w.ev.c7
      have g0 := hw.p0
      have g1 := hw.p1
      clear hw hn hpk hlen px0 px1 py0 py1
      obtain ⟨nn, hnn⟩ : ∃ m, m = wd * hd := ⟨_, rfl⟩
      have nn1 : nn ≤ 32 * 32 := by rw [hnn]; exact Nat.mul_le_mul wd1 hd1
      have en : (wd : Int) * (hd : Int) = (nn : Int) := by rw [← Int.natCast_mul, hnn]
      have HFe : Hid (∀ t : World, Below u.heap.size u t → Calls Tryd.prog 35 #[.agg #[.int .i64 (x : Int), .int .i64 (y : Int), .slice a1 C1.length c1], .int .i64 (16 * ((x1 : Int) + (dx : Int)) + qx), .int .i64 (16 * ((y1 : Int) + (dy : Int)) + qy), .int .i64 (wd : Int), .int .i64 (hd : Int), .int .i64 (kk : Int)] t fun e w' => Rs t w' e (fe C1 x y (16 * ((x1 : Int) + (dx : Int)) + qx) (16 * ((y1 : Int) + (dy : Int)) + qy) wd hd kk) 0) := fun t ht => by
        obtain ⟨q0, q1, q2, q3, q4⟩ := HP.out
        exact (fetch_ok (HG.out.to ht) (I1.out.sl.to ht) I1.out.byt ⟨POk.of q0 q1 q2 q3 q4, by omega, by omega, by omega, by omega, by omega⟩).mono fun _ _ h => h.rs
      have HS1 : Hid (∀ t : World, Below u.heap.size u t → Calls Tryd.prog 10 #[.agg #[.int .i64 W0, .int .i64 H0, .slice a0 C0.length c0, .int .i64 (x : Int), .int .i64 (y : Int), .slice a1 C1.length c1, .int .i64 W2, .int .i64 H2, .slice a2 C2.length c2], .int .i64 1, .agg #[.int .i64 (x1 : Int), .int .i64 (y1 : Int), .int .i64 (wd : Int), .int .i64 (hd : Int)], .agg #[.int .i64 (qx + 16 * (dx : Int)), .int .i64 (qy + 16 * (dy : Int))], .int .i64 (kk : Int)] t fun e w' => Rs t w' e (fe C1 x y (16 * ((x1 : Int) + (dx : Int)) + qx) (16 * ((y1 : Int) + (dy : Int)) + qy) wd hd kk) 0) := fun t ht => by
        refine single_1 HF.out ⟨by omega, by omega, by omega, by omega, by omega, by omega⟩ (fun t' ht' => ?_)
        rw [show 16 * (x1 : Int) + (qx + 16 * (dx : Int)) = 16 * ((x1 : Int) + (dx : Int)) + qx from by omega, show 16 * (y1 : Int) + (qy + 16 * (dy : Int)) = 16 * ((y1 : Int) + (dy : Int)) + qy from by omega]
        exact HFe.out _ (below_to ht ht')
      have HS2 : Hid (∀ t : World, Below u.heap.size u t → Calls Tryd.prog 10 #[.agg #[.int .i64 W0, .int .i64 H0, .slice a0 C0.length c0, .int .i64 (x : Int), .int .i64 (y : Int), .slice a1 C1.length c1, .int .i64 W2, .int .i64 H2, .slice a2 C2.length c2], .int .i64 1, .agg #[.int .i64 ((x1 : Int) + (dx : Int)), .int .i64 ((y1 : Int) + (dy : Int)), .int .i64 (wd : Int), .int .i64 (hd : Int)], .agg #[.int .i64 qx, .int .i64 qy], .int .i64 (kk : Int)] t fun e w' => Rs t w' e (fe C1 x y (16 * ((x1 : Int) + (dx : Int)) + qx) (16 * ((y1 : Int) + (dy : Int)) + qy) wd hd kk) 0) := fun t ht =>
        single_1 HF.out ⟨by omega, by omega, by omega, by omega, by omega, by omega⟩ (fun t' ht' => HFe.out _ (below_to ht ht'))
      have HLl : Hid ((fe C1 x y (16 * ((x1 : Int) + (dx : Int)) + qx) (16 * ((y1 : Int) + (dy : Int)) + qy) wd hd kk).length = nn) := by show _ = _; rw [fe_len, hnn]
      generalize fe C1 x y (16 * ((x1 : Int) + (dx : Int)) + qx) (16 * ((y1 : Int) + (dy : Int)) + qy) wd hd kk = L at *
      have wd2 : (4 : Int) ≤ (wd : Int) := by omega
      have wd3 : (wd : Int) ≤ 32 := by omega
      have hd2 : (hd : Int) ≤ 32 := by omega
      have x1c : (x1 : Int) < 60 := by omega
      have y1c : (y1 : Int) < 60 := by omega
      have nn2 : (nn : Int) ≤ 1024 := by omega
      clear hnn HFe
      go_upto_region 9 with fail
      go_wp2_with fail
      go_quiet ((first | (go_at_call 29; with_reducible exact Calls.quiet_of_same (HBx.out _)) | (go_at_call 29; with_reducible exact Calls.quiet_of_same (HBy.out _))))
      have hb3 : Hid (Below v3.heap.size v3 (v3.drewN nq)) := below_drewN (Below.refl _ _) nq
      have hw4 := HW3.out.to hb3.out
      generalize v3.drewN nq = v3d at *
      clear e0 e1 e2 e3 e4 e5 e6 e7 g0 g1 HW3 hb3 HBx HBy
      have hw5 := hw4.to (from_alloc v3d (.cells #[.int .i64 qx, .int .i64 qy] 31))
      have HW5 : Hid (Wx u W0 H0 (x : Int) (y : Int) W2 H2 a0 a1 a2 C0.length C1.length C2.length c0 c1 c2 1 (x1 : Int) (y1 : Int) (wd : Int) (hd : Int) zx zy (kk : Int) b0 b1 (v3d.alloc (.cells #[.int .i64 qx, .int .i64 qy] 31))) := hw5
      have r0 : (v3d.alloc (.cells #[.int .i64 qx, .int .i64 qy] 31)).cell? ⟨v3d.heap.size, 0, none⟩ = some (.int .i64 qx) := by simp [go_sem]
      have r1 : (v3d.alloc (.cells #[.int .i64 qx, .int .i64 qy] 31)).cell? ⟨v3d.heap.size, 1, none⟩ = some (.int .i64 qy) := by simp [go_sem]
      have rl : v3d.heap.size < (v3d.alloc (.cells #[.int .i64 qx, .int .i64 qy] 31)).heap.size := by simp
      have q0 := hw5.w.fc.c0
      have q1 := hw5.w.fc.c1
      have q2 := hw5.w.fc.c2
      have q3 := hw5.w.fc.c3
      have q4 := hw5.w.fc.c4
      have q5 := hw5.w.fc.c5
      have q6 := hw5.w.fc.c6
      have q7 := hw5.w.fc.c7
      have q8 := hw5.w.fc.c8
      have e0 := hw5.w.ev.c0
      have e1 := hw5.w.ev.c1
      have e2 := hw5.w.ev.c2
      have e3 := hw5.w.ev.c3
      have e4 := hw5.w.ev.c4
      have e5 := hw5.w.ev.c5
      have e6 := hw5.w.ev.c6
      have e7 := hw5.w.ev.c7
      have k5 := hw4.w.ev.c5
      have k6 := hw4.w.ev.c6
      clear hw4 hw5
      go_upto_region 11 with fail
      generalize (v3d.alloc (.cells #[.int .i64 qx, .int .i64 qy] 31)) = v4 at *
      clear k5 k6
      go_wp2_with fail
      refine (HS1.out _ HW5.out.w.bel).mono ?_
      rintro e v5 ⟨ad, rfl, haw, hb5⟩
      rw [HLl.out]
      have hw6 := HW5.out.to hb5
      have HW6 : Hid (Wx u W0 H0 (x : Int) (y : Int) W2 H2 a0 a1 a2 C0.length C1.length C2.length c0 c1 c2 1 (x1 : Int) (y1 : Int) (wd : Int) (hd : Int) zx zy (kk : Int) b0 b1 v5) := hw6
      have HA : Hid (Sl v5 .u8 ad L) := haw.sl
      have s0 : v5.cell? ⟨v3d.heap.size, 0, none⟩ = some (.int .i64 qx) := by rw [newCell hb5 _ _ rl]; exact r0
      have s1 : v5.cell? ⟨v3d.heap.size, 1, none⟩ = some (.int .i64 qy) := by rw [newCell hb5 _ _ rl]; exact r1
      clear e0 e1 e2 e3 e4 e5 e6 e7 q0 q1 q2 q3 q4 q5 q6 q7 q8 r0 r1 rl HW5 HS1 haw hb5
      have q0 := hw6.w.fc.c0
      have q1 := hw6.w.fc.c1
      have q2 := hw6.w.fc.c2
      have q3 := hw6.w.fc.c3
      have q4 := hw6.w.fc.c4
      have q5 := hw6.w.fc.c5
      have q6 := hw6.w.fc.c6
      have q7 := hw6.w.fc.c7
      have q8 := hw6.w.fc.c8
      have e0 := hw6.w.ev.c0
      have e1 := hw6.w.ev.c1
      have e2 := hw6.w.ev.c2
      have e3 := hw6.w.ev.c3
      have e4 := hw6.w.ev.c4
      have e5 := hw6.w.ev.c5
      have e6 := hw6.w.ev.c6
      have e7 := hw6.w.ev.c7
      clear hw6
      go_wp2_with fail
      refine (HS2.out _ HW6.out.w.bel).mono ?_
      rintro e v6 ⟨bd, rfl, haw, hb6⟩
      rw [HLl.out]
      have hw7 := HW6.out.to hb6
      have HB7 : Hid (Below u.heap.size u v6) := hw7.w.bel
      have HA7 : Hid (Sl v6 .u8 ad L) := HA.out.to hb6
      have HB : Hid (Sl v6 .u8 bd L) := haw.sl
      have HW7 : Hid (Wx u W0 H0 (x : Int) (y : Int) W2 H2 a0 a1 a2 C0.length C1.length C2.length c0 c1 c2 1 (x1 : Int) (y1 : Int) (wd : Int) (hd : Int) zx zy (kk : Int) b0 b1 v6) := hw7
      clear e0 e1 e2 e3 e4 e5 e6 e7 q0 q1 q2 q3 q4 q5 q6 q7 q8 s0 s1 HW6 HS2 haw hb6 HA hw7
      go_wp2_with fail
      refine (eqBytes_same (n := nn) (C := L) HA7.out HB.out HLl.out (by omega)).mono ?_
      rintro e v7 ⟨rfl, hb7⟩
      have hw8 := HW7.out.to hb7
      have e3 := hw8.w.ev.c3
      have e4 := hw8.w.ev.c4
      have HB8 : Hid (Below u.heap.size u v7) := hw8.w.bel
      have hee : ((nn : Int) == (nn : Int)) = true := by simp
      clear hb7 hw8 HW7 HA7 HB HB7
      go_wp2_with fail
      go_ret
      exact ⟨rfl, HB8.out⟩
    · have hpk : POk W2 H2 C2 := HF.out.p2
      obtain ⟨x, y, rfl, rfl, px0, px1, py0, py1, hlen⟩ := hpk.nat
      have HP : Hid (1 ≤ x ∧ x ≤ 512 ∧ 1 ≤ y ∧ y ≤ 512 ∧ C2.length = x * y) := ⟨px0, px1, py0, py1, hlen⟩
      rw [hn] at hw
      have HW3 : Hid (Wx u W0 H0 W1 H1 (x : Int) (y : Int) a0 a1 a2 C0.length C1.length C2.length c0 c1 c2 2 (x1 : Int) (y1 : Int) (wd : Int) (hd : Int) zx zy (kk : Int) b0 b1 v3) := hw
      have e0 := hw.w.ev.c0
      have e1 := hw.w.ev.c1
      have e2 := hw.w.ev.c2
      have e3 := hw.w.ev.c3
      have e4 := hw.w.ev.c4
      have e5 := hw.w.ev.c5
      have e6 := hw.w.ev.c6
      have e7 := hw.w.ev.c7
      have g0 := hw.p0
      have g1 := hw.p1
      clear hw hn hpk hlen px0 px1 py0 py1
      obtain ⟨nn, hnn⟩ : ∃ m, m = wd * hd := ⟨_, rfl⟩
      have nn1 : nn ≤ 32 * 32 := by rw [hnn]; exact Nat.mul_le_mul wd1 hd1
      have en : (wd : Int) * (hd : Int) = (nn : Int) := by rw [← Int.natCast_mul, hnn]
      have HFe : Hid (∀ t : World, Below u.heap.size u t → Calls Tryd.prog 35 #[.agg #[.int .i64 (x : Int), .int .i64 (y : Int), .slice a2 C2.length c2], .int .i64 (16 * ((x1 : Int) + (dx : Int)) + qx), .int .i64 (16 * ((y1 : Int) + (dy : Int)) + qy), .int .i64 (wd : Int), .int .i64 (hd : Int), .int .i64 (kk : Int)] t fun e w' => Rs t w' e (fe C2 x y (16 * ((x1 : Int) + (dx : Int)) + qx) (16 * ((y1 : Int) + (dy : Int)) + qy) wd hd kk) 0) := fun t ht => by
        obtain ⟨q0, q1, q2, q3, q4⟩ := HP.out
        exact (fetch_ok (HG.out.to ht) (I2.out.sl.to ht) I2.out.byt ⟨POk.of q0 q1 q2 q3 q4, by omega, by omega, by omega, by omega, by omega⟩).mono fun _ _ h => h.rs
      have HS1 : Hid (∀ t : World, Below u.heap.size u t → Calls Tryd.prog 10 #[.agg #[.int .i64 W0, .int .i64 H0, .slice a0 C0.length c0, .int .i64 W1, .int .i64 H1, .slice a1 C1.length c1, .int .i64 (x : Int), .int .i64 (y : Int), .slice a2 C2.length c2], .int .i64 2, .agg #[.int .i64 (x1 : Int), .int .i64 (y1 : Int), .int .i64 (wd : Int), .int .i64 (hd : Int)], .agg #[.int .i64 (qx + 16 * (dx : Int)), .int .i64 (qy + 16 * (dy : Int))], .int .i64 (kk : Int)] t fun e w' => Rs t w' e (fe C2 x y (16 * ((x1 : Int) + (dx : Int)) + qx) (16 * ((y1 : Int) + (dy : Int)) + qy) wd hd kk) 0) := fun t ht => by
        refine single_2 HF.out ⟨by omega, by omega, by omega, by omega, by omega, by omega⟩ (fun t' ht' => ?_)
        rw [show 16 * (x1 : Int) + (qx + 16 * (dx : Int)) = 16 * ((x1 : Int) + (dx : Int)) + qx from by omega, show 16 * (y1 : Int) + (qy + 16 * (dy : Int)) = 16 * ((y1 : Int) + (dy : Int)) + qy from by omega]
        exact HFe.out _ (below_to ht ht')
      have HS2 : Hid (∀ t : World, Below u.heap.size u t → Calls Tryd.prog 10 #[.agg #[.int .i64 W0, .int .i64 H0, .slice a0 C0.length c0, .int .i64 W1, .int .i64 H1, .slice a1 C1.length c1, .int .i64 (x : Int), .int .i64 (y : Int), .slice a2 C2.length c2], .int .i64 2, .agg #[.int .i64 ((x1 : Int) + (dx : Int)), .int .i64 ((y1 : Int) + (dy : Int)), .int .i64 (wd : Int), .int .i64 (hd : Int)], .agg #[.int .i64 qx, .int .i64 qy], .int .i64 (kk : Int)] t fun e w' => Rs t w' e (fe C2 x y (16 * ((x1 : Int) + (dx : Int)) + qx) (16 * ((y1 : Int) + (dy : Int)) + qy) wd hd kk) 0) := fun t ht =>
        single_2 HF.out ⟨by omega, by omega, by omega, by omega, by omega, by omega⟩ (fun t' ht' => HFe.out _ (below_to ht ht'))
      have HLl : Hid ((fe C2 x y (16 * ((x1 : Int) + (dx : Int)) + qx) (16 * ((y1 : Int) + (dy : Int)) + qy) wd hd kk).length = nn) := by show _ = _; rw [fe_len, hnn]
      generalize fe C2 x y (16 * ((x1 : Int) + (dx : Int)) + qx) (16 * ((y1 : Int) + (dy : Int)) + qy) wd hd kk = L at *
      have wd2 : (4 : Int) ≤ (wd : Int) := by omega
      have wd3 : (wd : Int) ≤ 32 := by omega
      have hd2 : (hd : Int) ≤ 32 := by omega
      have x1c : (x1 : Int) < 60 := by omega
      have y1c : (y1 : Int) < 60 := by omega
      have nn2 : (nn : Int) ≤ 1024 := by omega
      clear hnn HFe
      go_upto_region 9 with fail
      go_wp2_with fail
      go_quiet ((first | (go_at_call 29; with_reducible exact Calls.quiet_of_same (HBx.out _)) | (go_at_call 29; with_reducible exact Calls.quiet_of_same (HBy.out _))))
      have hb3 : Hid (Below v3.heap.size v3 (v3.drewN nq)) := below_drewN (Below.refl _ _) nq
      have hw4 := HW3.out.to hb3.out
      generalize v3.drewN nq = v3d at *
      clear e0 e1 e2 e3 e4 e5 e6 e7 g0 g1 HW3 hb3 HBx HBy
      have hw5 := hw4.to (from_alloc v3d (.cells #[.int .i64 qx, .int .i64 qy] 31))
      have HW5 : Hid (Wx u W0 H0 W1 H1 (x : Int) (y : Int) a0 a1 a2 C0.length C1.length C2.length c0 c1 c2 2 (x1 : Int) (y1 : Int) (wd : Int) (hd : Int) zx zy (kk : Int) b0 b1 (v3d.alloc (.cells #[.int .i64 qx, .int .i64 qy] 31))) := hw5
      have r0 : (v3d.alloc (.cells #[.int .i64 qx, .int .i64 qy] 31)).cell? ⟨v3d.heap.size, 0, none⟩ = some (.int .i64 qx) := by simp [go_sem]
      have r1 : (v3d.alloc (.cells #[.int .i64 qx, .int .i64 qy] 31)).cell? ⟨v3d.heap.size, 1, none⟩ = some (.int .i64 qy) := by simp [go_sem]
      have rl : v3d.heap.size < (v3d.alloc (.cells #[.int .i64 qx, .int .i64 qy] 31)).heap.size := by simp
      have q0 := hw5.w.fc.c0
      have q1 := hw5.w.fc.c1
      have q2 := hw5.w.fc.c2
      have q3 := hw5.w.fc.c3
      have q4 := hw5.w.fc.c4
      have q5 := hw5.w.fc.c5
      have q6 := hw5.w.fc.c6
      have q7 := hw5.w.fc.c7
      have q8 := hw5.w.fc.c8
      have e0 := hw5.w.ev.c0
      have e1 := hw5.w.ev.c1
      have e2 := hw5.w.ev.c2
      have e3 := hw5.w.ev.c3
      have e4 := hw5.w.ev.c4
      have e5 := hw5.w.ev.c5
      have e6 := hw5.w.ev.c6
      have e7 := hw5.w.ev.c7
      have k5 := hw4.w.ev.c5
      have k6 := hw4.w.ev.c6
      clear hw4 hw5
      go_upto_region 11 with fail
      generalize (v3d.alloc (.cells #[.int .i64 qx, .int .i64 qy] 31)) = v4 at *
      clear k5 k6
      go_wp2_with fail
      refine (HS1.out _ HW5.out.w.bel).mono ?_
      rintro e v5 ⟨ad, rfl, haw, hb5⟩
      rw [HLl.out]
      have hw6 := HW5.out.to hb5
      have HW6 : Hid (Wx u W0 H0 W1 H1 (x : Int) (y : Int) a0 a1 a2 C0.length C1.length C2.length c0 c1 c2 2 (x1 : Int) (y1 : Int) (wd : Int) (hd : Int) zx zy (kk : Int) b0 b1 v5) := hw6
      have HA : Hid (Sl v5 .u8 ad L) := haw.sl
      have s0 : v5.cell? ⟨v3d.heap.size, 0, none⟩ = some (.int .i64 qx) := by rw [newCell hb5 _ _ rl]; exact r0
      have s1 : v5.cell? ⟨v3d.heap.size, 1, none⟩ = some (.int .i64 qy) := by rw [newCell hb5 _ _ rl]; exact r1
      clear e0 e1 e2 e3 e4 e5 e6 e7 q0 q1 q2 q3 q4 q5 q6 q7 q8 r0 r1 rl HW5 HS1 haw hb5
      have q0 := hw6.w.fc.c0
      have q1 := hw6.w.fc.c1
      have q2 := hw6.w.fc.c2
      have q3 := hw6.w.fc.c3
      have q4 := hw6.w.fc.c4
      have q5 := hw6.w.fc.c5
      have q6 := hw6.w.fc.c6
      have q7 := hw6.w.fc.c7
      have q8 := hw6.w.fc.c8
      have e0 := hw6.w.ev.c0
      have e1 := hw6.w.ev.c1
      have e2 := hw6.w.ev.c2
      have e3 := hw6.w.ev.c3
      have e4 := hw6.w.ev.c4
      have e5 := hw6.w.ev.c5
      have e6 := hw6.w.ev.c6
      have e7 := hw6.w.ev.c7
      clear hw6
      go_wp2_with fail
      refine (HS2.out _ HW6.out.w.bel).mono ?_
      rintro e v6 ⟨bd, rfl, haw, hb6⟩
      rw [HLl.out]
      have hw7 := HW6.out.to hb6
      have HB7 : Hid (Below u.heap.size u v6) := hw7.w.bel
      have HA7 : Hid (Sl v6 .u8 ad L) := HA.out.to hb6
      have HB : Hid (Sl v6 .u8 bd L) := haw.sl
      have HW7 : Hid (Wx u W0 H0 W1 H1 (x : Int) (y : Int) a0 a1 a2 C0.length C1.length C2.length c0 c1 c2 2 (x1 : Int) (y1 : Int) (wd : Int) (hd : Int) zx zy (kk : Int) b0 b1 v6) := hw7
      clear e0 e1 e2 e3 e4 e5 e6 e7 q0 q1 q2 q3 q4 q5 q6 q7 q8 s0 s1 HW6 HS2 haw hb6 HA hw7
      go_wp2_with fail
      refine (eqBytes_same (n := nn) (C := L) HA7.out HB.out HLl.out (by omega)).mono ?_
      rintro e v7 ⟨rfl, hb7⟩
      have hw8 := HW7.out.to hb7
      have e3 := hw8.w.ev.c3
      have e4 := hw8.w.ev.c4
      have HB8 : Hid (Below u.heap.size u v7) := hw8.w.bel
      have hee : ((nn : Int) == (nn : Int)) = true := by simp
      clear hb7 hw8 HW7 HA7 HB HB7
      go_wp2_with fail
      go_ret
      exact ⟨rfl, HB8.out⟩
  · have HWh : Hid (∀ t : World, Calls Tryd.prog 26 #[.agg #[.int .i64 W0, .int .i64 H0, .slice a0 C0.length c0, .int .i64 W1, .int .i64 H1, .slice a1 C1.length c1, .int .i64 W2, .int .i64 H2, .slice a2 C2.length c2]] t fun e w' => e = .returned (.int .i64 2) ∧ Below t.heap.size t w') := fun t => by
      have := whole_any (u := t) (W0 := W0) (H0 := H0) (W1 := W1) (H1 := H1) (W2 := W2) (H2 := H2) (a0 := a0) (a1 := a1) (a2 := a2) (c0 := c0) (c1 := c1) (c2 := c2) (C0 := C0) (C1 := C1) (C2 := C2)
      rwa [fk_no hf] at this
    clear hf
    refine (HWh.out _).mono ?_
    rintro e v2 ⟨rfl, hb⟩
    have B2 : Hid (Below u.heap.size u v2) := (HW1.out.to hb).w.bel
    clear hb HW1 HF1 HWh q0 q1 q2 q3 q4 q5 q6 q7 q8
    go_wp2_with fail
    go_ret
    exact ⟨rfl, B2.out⟩

end Go.Proofs.YtpideemiijhkgaaDoor
