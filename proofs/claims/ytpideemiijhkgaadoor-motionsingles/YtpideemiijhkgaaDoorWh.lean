/- DERIVED. The walk of MotionWhole. -/
import Derived.Test.YtpideemiijhkgaaDoorHa
import Derived.Deep.DeepCutAuto
import Derived.Deep.Light
namespace Go.Proofs.YtpideemiijhkgaaDoor
open Go.RowKit

/-- a frame and a move in their variables, behind what made them -/
structure Ww (u : World) (W0 H0 W1 H1 W2 H2 : Int) (a0 a1 a2 : Option Addr) (n0 n1 n2 k0 k1 k2 : Nat) (b0 b1 b2 b3 b4 b5 b6 b7 : Int) (t : World) : Prop where
  fc : Fc u.heap.size W0 H0 a0 n0 k0 W1 H1 a1 n1 k1 W2 H2 a2 n2 k2 t
  ev : Ev (u.heap.size + 1) b0 b1 b2 b3 b4 b5 b6 b7 t
  bel : Below u.heap.size u t
  lt : u.heap.size + 2 ≤ t.heap.size
theorem Ww.to {u : World} {W0 H0 W1 H1 W2 H2 : Int} {a0 a1 a2 : Option Addr} {n0 n1 n2 k0 k1 k2 : Nat} {b0 b1 b2 b3 b4 b5 b6 b7 : Int} {t t' : World} (h : Ww u W0 H0 W1 H1 W2 H2 a0 a1 a2 n0 n1 n2 k0 k1 k2 b0 b1 b2 b3 b4 b5 b6 b7 t) (hb : Below t.heap.size t t') : Ww u W0 H0 W1 H1 W2 H2 a0 a1 a2 n0 n1 n2 k0 k1 k2 b0 b1 b2 b3 b4 b5 b6 b7 t' := by
  have hl := h.lt
  exact ⟨h.fc.below (by omega) hb, h.ev.to (by omega) hb, below_to h.bel hb, by have := hb.size; omega⟩
/-- another move is laid -/
theorem Ww.put {u : World} {W0 H0 W1 H1 W2 H2 : Int} {a0 a1 a2 : Option Addr} {n0 n1 n2 k0 k1 k2 : Nat} {b0 b1 b2 b3 b4 b5 b6 b7 : Int} {t : World} (h : Ww u W0 H0 W1 H1 W2 H2 a0 a1 a2 n0 n1 n2 k0 k1 k2 b0 b1 b2 b3 b4 b5 b6 b7 t) (hf : ∀ j, t.frozen? ⟨u.heap.size + 1, j, none⟩ = false) (d0 d1 d2 d3 d4 d5 d6 d7 : Int) :
    Ww u W0 H0 W1 H1 W2 H2 a0 a1 a2 n0 n1 n2 k0 k1 k2 d0 d1 d2 d3 d4 d5 d6 d7 ((((((((t.setCell ⟨u.heap.size + 1, 0, none⟩ (.int .i64 d0)).setCell ⟨u.heap.size + 1, 1, none⟩ (.int .i64 d1)).setCell ⟨u.heap.size + 1, 2, none⟩ (.int .i64 d2)).setCell ⟨u.heap.size + 1, 3, none⟩ (.int .i64 d3)).setCell ⟨u.heap.size + 1, 4, none⟩ (.int .i64 d4)).setCell ⟨u.heap.size + 1, 5, none⟩ (.int .i64 d5)).setCell ⟨u.heap.size + 1, 6, none⟩ (.int .i64 d6)).setCell ⟨u.heap.size + 1, 7, none⟩ (.int .i64 d7)) := by
  have hl := h.lt
  have hm : Mo t (u.heap.size + 1) b0 b1 b2 b3 b4 b5 b6 b7 t := ⟨h.ev, hf, by omega, Below.refl _ _⟩
  have hm2 := hm.all d0 d1 d2 d3 d4 d5 d6 d7
  exact ⟨h.fc.below (by omega) hm2.bel, hm2.e, below_set8 h.bel (by omega), by simpa using hl⟩
theorem tdiv_in {a M : Int} {d : Int} (hd : d = 8 ∨ d = 16) (h0 : -4095 ≤ a) (h1 : a ≤ 4095) (hM : M = 4095 / d) : -M ≤ a.tdiv d ∧ a.tdiv d ≤ M := by
  have e : a.tdiv d = a / d ∨ a.tdiv d = -((-a) / d) := by
    rcases Int.le_total 0 a with h | h
    · exact Or.inl (Int.tdiv_eq_ediv_of_nonneg h)
    · refine Or.inr ?_
      rw [← Int.tdiv_eq_ediv_of_nonneg (by omega), Int.neg_tdiv, Int.neg_neg]
  rcases Int.le_total 0 a with h | h
  · rw [Int.tdiv_eq_ediv_of_nonneg h, hM]
    rcases hd with rfl | rfl <;> omega
  · rw [show a.tdiv d = -((-a) / d) from by rw [← Int.tdiv_eq_ediv_of_nonneg (by omega), Int.neg_tdiv, Int.neg_neg], hM]
    rcases hd with rfl | rfl <;> omega

set_option maxRecDepth 100000 in
set_option maxHeartbeats 4000000 in
theorem whole_walk {u : World} {W0 H0 W1 H1 W2 H2 : Int} {a0 a1 a2 : Option Addr} {c0 c1 c2 : Nat} {C0 C1 C2 : List Nat} {n X Y w ht vx vy k : Int} (hg : Gt u) (i0 : PlIn u W0 H0 a0 c0 C0) (i1 : PlIn u W1 H1 a1 c1 C1) (i2 : PlIn u W2 H2 a2 c2 C2) :
    Calls Tryd.prog 6 #[.agg #[.int .i64 W0, .int .i64 H0, .slice a0 C0.length c0, .int .i64 W1, .int .i64 H1, .slice a1 C1.length c1, .int .i64 W2, .int .i64 H2, .slice a2 C2.length c2], .agg #[.int .i64 n, .int .i64 X, .int .i64 Y, .int .i64 w, .int .i64 ht, .int .i64 vx, .int .i64 vy, .int .i64 k]] u fun e w' => e = .returned (.bool true) ∧ Below u.heap.size u w' := by
  have HG : Hid (Gt u) := hg
  have I0 : Hid (PlIn u W0 H0 a0 c0 C0) := i0
  have I1 : Hid (PlIn u W1 H1 a1 c1 C1) := i1
  have I2 : Hid (PlIn u W2 H2 a2 c2 C2) := i2
  have HW0 : Hid (Ww u W0 H0 W1 H1 W2 H2 a0 a1 a2 C0.length C1.length C2.length c0 c1 c2 n X Y w ht vx vy k ((u.alloc (.cells #[.int .i64 W0, .int .i64 H0, .slice a0 C0.length c0, .int .i64 W1, .int .i64 H1, .slice a1 C1.length c1, .int .i64 W2, .int .i64 H2, .slice a2 C2.length c2] 27)).alloc (.cells #[.int .i64 n, .int .i64 X, .int .i64 Y, .int .i64 w, .int .i64 ht, .int .i64 vx, .int .i64 vy, .int .i64 k] 33))) := by
    refine ⟨(Fc.built u W0 H0 a0 C0.length c0 W1 H1 a1 C1.length c1 W2 H2 a2 C2.length c2).below (by simp) (from_alloc _ _), Ev.built _ n X Y w ht vx vy k (by simp), to_alloc (from_alloc _ _) _, by simp⟩
  have HF0 : Hid (∀ j, ((u.alloc (.cells #[.int .i64 W0, .int .i64 H0, .slice a0 C0.length c0, .int .i64 W1, .int .i64 H1, .slice a1 C1.length c1, .int .i64 W2, .int .i64 H2, .slice a2 C2.length c2] 27)).alloc (.cells #[.int .i64 n, .int .i64 X, .int .i64 Y, .int .i64 w, .int .i64 ht, .int .i64 vx, .int .i64 vy, .int .i64 k] 33)).frozen? ⟨u.heap.size + 1, j, none⟩ = false) := fun j => built_thaw _ n X Y w ht vx vy k (by simp) j
  clear hg i0 i1 i2
  go_enter Tryd.func6, Tryd.ntmps6
  go_wp2_with fail
  generalize ((u.alloc (.cells #[.int .i64 W0, .int .i64 H0, .slice a0 C0.length c0, .int .i64 W1, .int .i64 H1, .slice a1 C1.length c1, .int .i64 W2, .int .i64 H2, .slice a2 C2.length c2] 27)).alloc (.cells #[.int .i64 n, .int .i64 X, .int .i64 Y, .int .i64 w, .int .i64 ht, .int .i64 vx, .int .i64 vy, .int .i64 k] 33)) = V at *
  refine (works_true (HG.out.to HW0.out.bel)).mono ?_
  rintro e v1 ⟨rfl, hb⟩
  have hw := HW0.out.to hb
  have HW1 : Hid (Ww u W0 H0 W1 H1 W2 H2 a0 a1 a2 C0.length C1.length C2.length c0 c1 c2 n X Y w ht vx vy k v1) := hw
  have HF1 : Hid (∀ j, v1.frozen? ⟨u.heap.size + 1, j, none⟩ = false) := fun j => by rw [newFrozen hb _ _ (by have := HW0.out.lt; omega)]; exact HF0.out j
  have q0 := hw.fc.c0
  have q1 := hw.fc.c1
  have q2 := hw.fc.c2
  have q3 := hw.fc.c3
  have q4 := hw.fc.c4
  have q5 := hw.fc.c5
  have q6 := hw.fc.c6
  have q7 := hw.fc.c7
  have q8 := hw.fc.c8
  clear hb hw HW0 HF0
  go_wp2_with fail
  by_cases hf : FrOk ⟨W0, H0, a0, c0, C0⟩ ⟨W1, H1, a1, c1, C1⟩ ⟨W2, H2, a2, c2, C2⟩
  · have HWh : Hid (∀ t : World, Calls Tryd.prog 26 #[.agg #[.int .i64 W0, .int .i64 H0, .slice a0 C0.length c0, .int .i64 W1, .int .i64 H1, .slice a1 C1.length c1, .int .i64 W2, .int .i64 H2, .slice a2 C2.length c2]] t fun e w' => e = .returned (.int .i64 0) ∧ Below t.heap.size t w') := fun t => by
      have := whole_any (u := t) (W0 := W0) (H0 := H0) (W1 := W1) (H1 := H1) (W2 := W2) (H2 := H2) (a0 := a0) (a1 := a1) (a2 := a2) (c0 := c0) (c1 := c1) (c2 := c2) (C0 := C0) (C1 := C1) (C2 := C2)
      rwa [fk_ok hf] at this
    have HF : Hid (FrOk ⟨W0, H0, a0, c0, C0⟩ ⟨W1, H1, a1, c1, C1⟩ ⟨W2, H2, a2, c2, C2⟩) := hf
    clear hf
    refine (HWh.out _).mono ?_
    rintro e v2 ⟨rfl, hb⟩
    have hw := HW1.out.to hb
    have HW2 : Hid (Ww u W0 H0 W1 H1 W2 H2 a0 a1 a2 C0.length C1.length C2.length c0 c1 c2 n X Y w ht vx vy k v2) := hw
    have HF2 : Hid (∀ j, v2.frozen? ⟨u.heap.size + 1, j, none⟩ = false) := fun j => by rw [newFrozen hb _ _ (by have := HW1.out.lt; omega)]; exact HF1.out j
    have e0 := hw.ev.c0
    have e1 := hw.ev.c1
    have e2 := hw.ev.c2
    have e3 := hw.ev.c3
    have e4 := hw.ev.c4
    have e5 := hw.ev.c5
    have e6 := hw.ev.c6
    have e7 := hw.ev.c7
    clear hb hw HW1 HF1 HWh q0 q1 q2 q3 q4 q5 q6 q7 q8
    go_upto_region 6 with fail
    go_cut [2] (fun s T => s = .pointer (some ⟨u.heap.size, 0, none⟩) ∧ Ww u W0 H0 W1 H1 W2 H2 a0 a1 a2 C0.length C1.length C2.length c0 c1 c2 (n % 3) (X % 60) (Y % 60) (4 + w % 29) (4 + ht % 29) (vx % 8191 - 4095) (vy % 8191 - 4095) (k % 3) T)
    case first =>
      go_wp2_with fail
      refine may_any.mono ?_
      rintro e v3 ⟨rfl, hb⟩
      have hw := HW2.out.to hb
      have HW3 : Hid (Ww u W0 H0 W1 H1 W2 H2 a0 a1 a2 C0.length C1.length C2.length c0 c1 c2 n X Y w ht vx vy k v3) := hw
      have HF3 : Hid (∀ j, v3.frozen? ⟨u.heap.size + 1, j, none⟩ = false) := fun j => by rw [newFrozen hb _ _ (by have := HW2.out.lt; omega)]; exact HF2.out j
      clear e0 e1 e2 e3 e4 e5 e6 e7
      have e0 := hw.ev.c0
      have e1 := hw.ev.c1
      have e2 := hw.ev.c2
      have e3 := hw.ev.c3
      have e4 := hw.ev.c4
      have e5 := hw.ev.c5
      have e6 := hw.ev.c6
      have e7 := hw.ev.c7
      have f0 := HF3.out 0
      have f1 := HF3.out 1
      have f2 := HF3.out 2
      have f3 := HF3.out 3
      have f4 := HF3.out 4
      have f5 := HF3.out 5
      have f6 := HF3.out 6
      have f7 := HF3.out 7
      clear hb hw
      go_wp2_with fail
      go_meet
      exact ⟨rfl, HW3.out.put HF3.out _ _ _ _ _ _ _ _⟩
    obtain ⟨rfl, hw⟩ := hcut
    rename World => v3
    clear e0 e1 e2 e3 e4 e5 e6 e7 HW2 HF2
    obtain ⟨x1, hx1, hx1b⟩ : ∃ m : Nat, X % 60 = (m : Int) ∧ m < 60 := ⟨(X % 60).toNat, by omega, by omega⟩
    obtain ⟨y1, hy1, hy1b⟩ : ∃ m : Nat, Y % 60 = (m : Int) ∧ m < 60 := ⟨(Y % 60).toNat, by omega, by omega⟩
    obtain ⟨wd, hwd, wd0, wd1⟩ : ∃ m : Nat, 4 + w % 29 = (m : Int) ∧ 4 ≤ m ∧ m ≤ 32 := ⟨(4 + w % 29).toNat, by omega, by omega, by omega⟩
    obtain ⟨hd, hhd, hd0, hd1⟩ : ∃ m : Nat, 4 + ht % 29 = (m : Int) ∧ 4 ≤ m ∧ m ≤ 32 := ⟨(4 + ht % 29).toNat, by omega, by omega, by omega⟩
    obtain ⟨kk, hkk, hk3⟩ : ∃ m : Nat, k % 3 = (m : Int) ∧ m < 3 := ⟨(k % 3).toNat, by omega, by omega⟩
    obtain ⟨zx, hzx, zx0, zx1⟩ : ∃ m : Int, vx % 8191 - 4095 = m ∧ -4095 ≤ m ∧ m ≤ 4095 := ⟨_, rfl, by omega, by omega⟩
    obtain ⟨zy, hzy, zy0, zy1⟩ : ∃ m : Int, vy % 8191 - 4095 = m ∧ -4095 ≤ m ∧ m ≤ 4095 := ⟨_, rfl, by omega, by omega⟩
    have hn3 : n % 3 = 0 ∨ n % 3 = 1 ∨ n % 3 = 2 := by omega
    rw [hx1, hy1, hwd, hhd, hkk, hzx, hzy] at hw
    clear hx1 hy1 hwd hhd hkk hzx hzy
    rcases hn3 with hn | hn | hn
    · have hpk : POk W0 H0 C0 := HF.out.p0
      obtain ⟨x, y, rfl, rfl, px0, px1, py0, py1, hlen⟩ := hpk.nat
      have HP : Hid (1 ≤ x ∧ x ≤ 512 ∧ 1 ≤ y ∧ y ≤ 512 ∧ C0.length = x * y) := ⟨px0, px1, py0, py1, hlen⟩
      have HW3 : Hid (Ww u (x : Int) (y : Int) W1 H1 W2 H2 a0 a1 a2 C0.length C1.length C2.length c0 c1 c2 0 (x1 : Int) (y1 : Int) (wd : Int) (hd : Int) zx zy (kk : Int) v3) := by show Ww _ _ _ _ _ _ _ _ _ _ _ _ _ _ _ _ _ _ _ _ _ _ _ _ _; rw [hn] at hw; exact hw
      have hw3 := HW3.out
      have e0 := hw3.ev.c0
      have e1 := hw3.ev.c1
      have e2 := hw3.ev.c2
      have e3 := hw3.ev.c3
      have e4 := hw3.ev.c4
      have e5 := hw3.ev.c5
      have e6 := hw3.ev.c6
      have e7 := hw3.ev.c7
      clear hw hn hw3 hpk hlen px0 px1 py0 py1
      obtain ⟨dx, hdx⟩ : ∃ d, d = zx.tdiv 8 := ⟨_, rfl⟩
      obtain ⟨dy, hdy⟩ : ∃ d, d = zy.tdiv 8 := ⟨_, rfl⟩
      have bx := tdiv_in (a := zx) (d := 8) (M := 511) (by omega) zx0 zx1 (by omega)
      have by' := tdiv_in (a := zy) (d := 8) (M := 511) (by omega) zy0 zy1 (by omega)
      rw [← hdx] at bx
      rw [← hdy] at by'
      obtain ⟨bx0, bx1⟩ := bx
      obtain ⟨by0, by1⟩ := by'
      have tx : zx.tdiv 8 = dx := hdx.symm
      have ty : zy.tdiv 8 = dy := hdy.symm
      have wx : IntKind.i64.wrap dx = dx := by rw [IntKind.wrap_i64]; omega
      have wy : IntKind.i64.wrap dy = dy := by rw [IntKind.wrap_i64]; omega
      obtain ⟨nn, hnn⟩ : ∃ m, m = wd * hd := ⟨_, rfl⟩
      have nn1 : nn ≤ 32 * 32 := by rw [hnn]; exact Nat.mul_le_mul wd1 hd1
      have nn0 : 0 < nn := by rw [hnn]; exact Nat.mul_pos (by omega) (by omega)
      have HN : Hid (nn = wd * hd) := hnn
      have en : (wd : Int) * (hd : Int) = (nn : Int) := by rw [← Int.natCast_mul, hnn]
      have HSi : Hid (∀ t : World, Below u.heap.size u t → Calls Tryd.prog 10 #[.agg #[.int .i64 (x : Int), .int .i64 (y : Int), .slice a0 C0.length c0, .int .i64 W1, .int .i64 H1, .slice a1 C1.length c1, .int .i64 W2, .int .i64 H2, .slice a2 C2.length c2], .int .i64 0, .agg #[.int .i64 (x1 : Int), .int .i64 (y1 : Int), .int .i64 (wd : Int), .int .i64 (hd : Int)], .agg #[.int .i64 (dx * 8), .int .i64 (dy * 8)], .int .i64 (kk : Int)] t fun e w' => Rs t w' e (fe C0 x y (((x1 : Int) + dx) * 16) (((y1 : Int) + dy) * 16) wd hd kk) 0) := fun t ht => by
        refine single_0 HF.out ⟨by omega, by omega, by omega, by omega, by omega, by omega⟩ (fun t' ht' => ?_)
        rw [show 16 * (x1 : Int) + 2 * (dx * 8) = ((x1 : Int) + dx) * 16 from by omega, show 16 * (y1 : Int) + 2 * (dy * 8) = ((y1 : Int) + dy) * 16 from by omega]
        obtain ⟨q0, q1, q2, q3, q4⟩ := HP.out
        exact (fetch_ok ((HG.out.to ht).to ht') ((I0.out.sl.to ht).to ht') I0.out.byt ⟨POk.of q0 q1 q2 q3 q4, by omega, by omega, by omega, by omega, by omega⟩).mono fun _ _ h => h.rs
      have HLl : Hid ((fe C0 x y (((x1 : Int) + dx) * 16) (((y1 : Int) + dy) * 16) wd hd kk).length = nn) := by show _ = _; rw [fe_len, hnn]
      have HV : Hid (∀ j, j < nn → (fe C0 x y (((x1 : Int) + dx) * 16) (((y1 : Int) + dy) * 16) wd hd kk).getD j 0 = sp C0 x y ((x1 : Int) + dx + ((j % wd : Nat) : Int)) ((y1 : Int) + dy + ((j / wd : Nat) : Int))) := fun j hj => fe_whole I0.out.byt hk3 (by rw [← hnn]; exact hj)
      generalize fe C0 x y (((x1 : Int) + dx) * 16) (((y1 : Int) + dy) * 16) wd hd kk = L at *
      have wd2 : (4 : Int) ≤ (wd : Int) := by omega
      have wd3 : (wd : Int) ≤ 32 := by omega
      have x1c : (x1 : Int) < 60 := by omega
      have y1c : (y1 : Int) < 60 := by omega
      have nn2 : (nn : Int) ≤ 1024 := by omega
      clear hdx hdy hnn
      go_upto_region 10 with fail
      go_wp2_with fail
      go_quiet (fail)
      have hb3 : Hid (Below v3.heap.size v3 (v3.drewN nq)) := below_drewN (Below.refl _ _) nq
      have hw4 := HW3.out.to hb3.out
      generalize v3.drewN nq = v3d at *
      have HW3d : Hid (Ww u (x : Int) (y : Int) W1 H1 W2 H2 a0 a1 a2 C0.length C1.length C2.length c0 c1 c2 0 (x1 : Int) (y1 : Int) (wd : Int) (hd : Int) zx zy (kk : Int) v3d) := hw4
      clear e0 e1 e2 e3 e4 e5 e6 e7
      have q0 := hw4.fc.c0
      have q1 := hw4.fc.c1
      have q2 := hw4.fc.c2
      have q3 := hw4.fc.c3
      have q4 := hw4.fc.c4
      have q5 := hw4.fc.c5
      have q6 := hw4.fc.c6
      have q7 := hw4.fc.c7
      have q8 := hw4.fc.c8
      have e0 := hw4.ev.c0
      have e1 := hw4.ev.c1
      have e2 := hw4.ev.c2
      have e3 := hw4.ev.c3
      have e4 := hw4.ev.c4
      have e5 := hw4.ev.c5
      have e6 := hw4.ev.c6
      have e7 := hw4.ev.c7
      clear hw4 hb3 HW3
      go_wp2_with fail
      refine (HSi.out _ HW3d.out.bel).mono ?_
      rintro e v4 ⟨a', rfl, haw, hb4⟩
      rw [HLl.out]
      have hw4 := HW3d.out.to hb4
      have HW4 : Hid (Ww u (x : Int) (y : Int) W1 H1 W2 H2 a0 a1 a2 C0.length C1.length C2.length c0 c1 c2 0 (x1 : Int) (y1 : Int) (wd : Int) (hd : Int) zx zy (kk : Int) v4) := hw4
      clear e0 e1 e2 e3 e4 e5 e6 e7 q0 q1 q2 q3 q4 q5 q6 q7 q8
      have e0 := hw4.ev.c0
      have e1 := hw4.ev.c1
      have e2 := hw4.ev.c2
      have e3 := hw4.ev.c3
      have e4 := hw4.ev.c4
      have e5 := hw4.ev.c5
      have e6 := hw4.ev.c6
      have e7 := hw4.ev.c7
      obtain ⟨g, rfl, hr, _⟩ : ∃ g, a' = some ⟨g, 0, none⟩ ∧ Rw v4 g L ∧ v3d.heap.size ≤ g := by
        rcases haw with ⟨h0, _⟩ | h
        · have := HLl.out; rw [h0] at this; simp at this; omega
        · exact h
      have HR4 : Hid (Rw v4 g L) := hr
      have hnn' : ((nn : Int) != (nn : Int)) = false := by simp
      clear hr haw hb4 hw4 HSi HW3d
      go_wp2_with fail
      go_loopw [12] (fun i wr => ∃ j : Nat, j ≤ nn ∧ i = .int .i64 j ∧ Below v4.heap.size v4 wr) (fun i _ => nn - (intOf i).toNat)
      case atStart => exact ⟨0, by omega, rfl, Below.refl _ _⟩
      case round =>
        obtain ⟨j, hj, rfl, hbr⟩ := hrel
        have HBr : Hid (Below v4.heap.size v4 wr) := hbr
        have HWr : Hid (Ww u (x : Int) (y : Int) W1 H1 W2 H2 a0 a1 a2 C0.length C1.length C2.length c0 c1 c2 0 (x1 : Int) (y1 : Int) (wd : Int) (hd : Int) zx zy (kk : Int) wr) := HW4.out.to hbr
        clear e0 e1 e2 e3 e4 e5 e6 e7
        by_cases hlt : j < nn
        · have hv := HV.out j hlt
          have HRr : Hid (Rw wr g L) := HR4.out.to hbr
          have HA : Hid (Calls Tryd.prog 28 #[.agg #[.int .i64 (x : Int), .int .i64 (y : Int), .slice a0 C0.length c0], .int .i64 ((x1 : Int) + ((j % wd : Nat) : Int) + dx), .int .i64 ((y1 : Int) + ((j / wd : Nat) : Int) + dy)] wr.drew fun e w' => e = .returned (.int .u8 (L.getD j 0 : Nat)) ∧ Below wr.drew.heap.size wr.drew w') := by
            rw [show (x1 : Int) + ((j % wd : Nat) : Int) + dx = (x1 : Int) + dx + ((j % wd : Nat) : Int) from by omega, show (y1 : Int) + ((j / wd : Nat) : Int) + dy = (y1 : Int) + dy + ((j / wd : Nat) : Int) from by omega, hv]
            obtain ⟨q0, q1, q2, q3, q4⟩ := HP.out
            exact at_ok (I0.out.sl.to (below_drew HWr.out.bel)) q0 q1 q2 q3 q4
          have HK : Hid (∀ t : World, Below wr.drew.heap.size wr.drew t → Below v4.heap.size v4 t ∧ Ww u (x : Int) (y : Int) W1 H1 W2 H2 a0 a1 a2 C0.length C1.length C2.length c0 c1 c2 0 (x1 : Int) (y1 : Int) (wd : Int) (hd : Int) zx zy (kk : Int) t ∧ t.cell? ⟨g, j, none⟩ = some (.int .u8 (L.getD j 0 : Nat))) := fun t ht => by
            have h1 : Below wr.heap.size wr t := Below.trans (below_drew (Below.refl _ _)) ht
            exact ⟨below_to HBr.out h1, HWr.out.to h1, (HRr.out.to h1).cell j (by rw [HLl.out]; exact hlt)⟩
          have m1 : (j : Int).tmod (wd : Int) = ((j % wd : Nat) : Int) := by rw [Int.tmod_eq_emod_of_nonneg (by omega)]; rfl
          have m2 : (j : Int).tdiv (wd : Int) = ((j / wd : Nat) : Int) := by rw [Int.tdiv_eq_ediv_of_nonneg (by omega)]; rfl
          have m3 : ((j % wd : Nat) : Int) ≤ 32 := by have := Nat.mod_lt j (show wd > 0 by omega); omega
          have m4 : ((j / wd : Nat) : Int) ≤ 1024 := by have := Nat.div_le_self j wd; omega
          have m5 : (j : Int) % (wd : Int) = ((j % wd : Nat) : Int) := by rfl
          have m6 : (j : Int) / (wd : Int) = ((j / wd : Nat) : Int) := by rfl
          have wz : ¬ (wd : Int) = 0 := by omega
          have wz2 : ¬ wd = 0 := by omega
          generalize j % wd = p at *
          generalize j / wd = q at *
          have t6 : IntKind.i64.wrap (q : Int) = (q : Int) := by rw [IntKind.wrap_i64]; omega
          have t7 : IntKind.i64.wrap (p : Int) = (p : Int) := by rw [IntKind.wrap_i64]; omega
          have t8 : IntKind.i64.wrap ((x1 : Int) + (p : Int)) = (x1 : Int) + (p : Int) := by rw [IntKind.wrap_i64]; omega
          have t9 : IntKind.i64.wrap ((y1 : Int) + (q : Int)) = (y1 : Int) + (q : Int) := by rw [IntKind.wrap_i64]; omega
          have u8 : IntKind.i64.wrap ((x1 : Int) + (p : Int) + dx) = (x1 : Int) + (p : Int) + dx := by rw [IntKind.wrap_i64]; omega
          have u9 : IntKind.i64.wrap ((y1 : Int) + (q : Int) + dy) = (y1 : Int) + (q : Int) + dy := by rw [IntKind.wrap_i64]; omega
          have j0 : (0 : Int) ≤ (j : Int) := by omega
          have j1 : (j : Int) < (nn : Int) := by omega
          clear hv hbr
          generalize L.getD j 0 = s at *
          have hss : ((s : Int) != (s : Int)) = false := by simp
          have HKK : Hid (∀ t : World, Below wr.drew.heap.size wr.drew t → t.cell? ⟨u.heap.size, 0, none⟩ = some (.int .i64 (x : Int)) ∧ t.cell? ⟨u.heap.size, 1, none⟩ = some (.int .i64 (y : Int)) ∧ t.cell? ⟨u.heap.size, 2, none⟩ = some (.slice a0 C0.length c0) ∧ t.cell? ⟨u.heap.size + 1, 0, none⟩ = some (.int .i64 0) ∧ t.cell? ⟨u.heap.size + 1, 1, none⟩ = some (.int .i64 (x1 : Int)) ∧ t.cell? ⟨u.heap.size + 1, 2, none⟩ = some (.int .i64 (y1 : Int)) ∧ t.cell? ⟨u.heap.size + 1, 3, none⟩ = some (.int .i64 (wd : Int)) ∧ t.cell? ⟨g, j, none⟩ = some (.int .u8 (s : Int)) ∧ Below v4.heap.size v4 t) := fun t ht => by
            obtain ⟨h1, h2, h3⟩ := HK.out t ht
            exact ⟨h2.fc.c0, h2.fc.c1, h2.fc.c2, h2.ev.c0, h2.ev.c1, h2.ev.c2, h2.ev.c3, h3, h1⟩
          go_wp2_with fail
          go_region_held3 (fun t => t.cell? ⟨u.heap.size, 0, none⟩ = some (.int .i64 (x : Int)) ∧ t.cell? ⟨u.heap.size, 1, none⟩ = some (.int .i64 (y : Int)) ∧ t.cell? ⟨u.heap.size, 2, none⟩ = some (.slice a0 C0.length c0) ∧ t.cell? ⟨u.heap.size + 1, 0, none⟩ = some (.int .i64 0) ∧ t.cell? ⟨u.heap.size + 1, 1, none⟩ = some (.int .i64 (x1 : Int)) ∧ t.cell? ⟨u.heap.size + 1, 2, none⟩ = some (.int .i64 (y1 : Int)) ∧ t.cell? ⟨u.heap.size + 1, 3, none⟩ = some (.int .i64 (wd : Int)) ∧ t.cell? ⟨g, j, none⟩ = some (.int .u8 (s : Int)) ∧ Below v4.heap.size v4 t)
            ((exact HKK.out _ (by first | exact Below.refl _ _ | assumption)))
            ((go_at_call 28; refine HA.out.mono ?_; rintro e w6 ⟨rfl, hb6⟩))
          all_goals
            have HB6 : Hid (Below v4.heap.size v4 w6) := (HK.out _ hb6).1
            go_wp2_with fail
            go_roundw
            case rel => exact ⟨j + 1, by omega, by go_num, HB6.out⟩
            case measure => simp [intOf]; omega
        · obtain rfl : j = nn := by omega
          have HB6 : Hid (Below u.heap.size u wr) := HWr.out.bel
          clear hbr
          go_wp2_with fail
          go_ret
          exact ⟨rfl, HB6.out⟩
    · have hpk : POk W1 H1 C1 := HF.out.p1
      obtain ⟨x, y, rfl, rfl, px0, px1, py0, py1, hlen⟩ := hpk.nat
      have HP : Hid (1 ≤ x ∧ x ≤ 512 ∧ 1 ≤ y ∧ y ≤ 512 ∧ C1.length = x * y) := ⟨px0, px1, py0, py1, hlen⟩
      have HW3 : Hid (Ww u W0 H0 (x : Int) (y : Int) W2 H2 a0 a1 a2 C0.length C1.length C2.length c0 c1 c2 1 (x1 : Int) (y1 : Int) (wd : Int) (hd : Int) zx zy (kk : Int) v3) := by show Ww _ _ _ _ _ _ _ _ _ _ _ _ _ _ _ _ _ _ _ _ _ _ _ _ _; rw [hn] at hw; exact hw
      have hw3 := HW3.out
      have e0 := hw3.ev.c0
      have e1 := hw3.ev.c1
      have e2 := hw3.ev.c2
      have e3 := hw3.ev.c3
      have e4 := hw3.ev.c4
      have e5 := hw3.ev.c5
      have e6 := hw3.ev.c6
      have e7 := hw3.ev.c7
      clear hw hn hw3 hpk hlen px0 px1 py0 py1
      obtain ⟨dx, hdx⟩ : ∃ d, d = zx.tdiv 16 := ⟨_, rfl⟩
      obtain ⟨dy, hdy⟩ : ∃ d, d = zy.tdiv 16 := ⟨_, rfl⟩
      have bx := tdiv_in (a := zx) (d := 16) (M := 255) (by omega) zx0 zx1 (by omega)
      have by' := tdiv_in (a := zy) (d := 16) (M := 255) (by omega) zy0 zy1 (by omega)
      rw [← hdx] at bx
      rw [← hdy] at by'
      obtain ⟨bx0, bx1⟩ := bx
      obtain ⟨by0, by1⟩ := by'
      have tx : zx.tdiv 16 = dx := hdx.symm
      have ty : zy.tdiv 16 = dy := hdy.symm
      have wx : IntKind.i64.wrap dx = dx := by rw [IntKind.wrap_i64]; omega
      have wy : IntKind.i64.wrap dy = dy := by rw [IntKind.wrap_i64]; omega
      obtain ⟨nn, hnn⟩ : ∃ m, m = wd * hd := ⟨_, rfl⟩
      have nn1 : nn ≤ 32 * 32 := by rw [hnn]; exact Nat.mul_le_mul wd1 hd1
      have nn0 : 0 < nn := by rw [hnn]; exact Nat.mul_pos (by omega) (by omega)
      have HN : Hid (nn = wd * hd) := hnn
      have en : (wd : Int) * (hd : Int) = (nn : Int) := by rw [← Int.natCast_mul, hnn]
      have HSi : Hid (∀ t : World, Below u.heap.size u t → Calls Tryd.prog 10 #[.agg #[.int .i64 W0, .int .i64 H0, .slice a0 C0.length c0, .int .i64 (x : Int), .int .i64 (y : Int), .slice a1 C1.length c1, .int .i64 W2, .int .i64 H2, .slice a2 C2.length c2], .int .i64 1, .agg #[.int .i64 (x1 : Int), .int .i64 (y1 : Int), .int .i64 (wd : Int), .int .i64 (hd : Int)], .agg #[.int .i64 (dx * 16), .int .i64 (dy * 16)], .int .i64 (kk : Int)] t fun e w' => Rs t w' e (fe C1 x y (((x1 : Int) + dx) * 16) (((y1 : Int) + dy) * 16) wd hd kk) 0) := fun t ht => by
        refine single_1 HF.out ⟨by omega, by omega, by omega, by omega, by omega, by omega⟩ (fun t' ht' => ?_)
        rw [show 16 * (x1 : Int) + dx * 16 = ((x1 : Int) + dx) * 16 from by omega, show 16 * (y1 : Int) + dy * 16 = ((y1 : Int) + dy) * 16 from by omega]
        obtain ⟨q0, q1, q2, q3, q4⟩ := HP.out
        exact (fetch_ok ((HG.out.to ht).to ht') ((I1.out.sl.to ht).to ht') I1.out.byt ⟨POk.of q0 q1 q2 q3 q4, by omega, by omega, by omega, by omega, by omega⟩).mono fun _ _ h => h.rs
      have HLl : Hid ((fe C1 x y (((x1 : Int) + dx) * 16) (((y1 : Int) + dy) * 16) wd hd kk).length = nn) := by show _ = _; rw [fe_len, hnn]
      have HV : Hid (∀ j, j < nn → (fe C1 x y (((x1 : Int) + dx) * 16) (((y1 : Int) + dy) * 16) wd hd kk).getD j 0 = sp C1 x y ((x1 : Int) + dx + ((j % wd : Nat) : Int)) ((y1 : Int) + dy + ((j / wd : Nat) : Int))) := fun j hj => fe_whole I1.out.byt hk3 (by rw [← hnn]; exact hj)
      generalize fe C1 x y (((x1 : Int) + dx) * 16) (((y1 : Int) + dy) * 16) wd hd kk = L at *
      have wd2 : (4 : Int) ≤ (wd : Int) := by omega
      have wd3 : (wd : Int) ≤ 32 := by omega
      have x1c : (x1 : Int) < 60 := by omega
      have y1c : (y1 : Int) < 60 := by omega
      have nn2 : (nn : Int) ≤ 1024 := by omega
      clear hdx hdy hnn
      go_upto_region 10 with fail
      go_wp2_with fail
      go_quiet (fail)
      have hb3 : Hid (Below v3.heap.size v3 (v3.drewN nq)) := below_drewN (Below.refl _ _) nq
      have hw4 := HW3.out.to hb3.out
      generalize v3.drewN nq = v3d at *
      have HW3d : Hid (Ww u W0 H0 (x : Int) (y : Int) W2 H2 a0 a1 a2 C0.length C1.length C2.length c0 c1 c2 1 (x1 : Int) (y1 : Int) (wd : Int) (hd : Int) zx zy (kk : Int) v3d) := hw4
      clear e0 e1 e2 e3 e4 e5 e6 e7
      have q0 := hw4.fc.c0
      have q1 := hw4.fc.c1
      have q2 := hw4.fc.c2
      have q3 := hw4.fc.c3
      have q4 := hw4.fc.c4
      have q5 := hw4.fc.c5
      have q6 := hw4.fc.c6
      have q7 := hw4.fc.c7
      have q8 := hw4.fc.c8
      have e0 := hw4.ev.c0
      have e1 := hw4.ev.c1
      have e2 := hw4.ev.c2
      have e3 := hw4.ev.c3
      have e4 := hw4.ev.c4
      have e5 := hw4.ev.c5
      have e6 := hw4.ev.c6
      have e7 := hw4.ev.c7
      clear hw4 hb3 HW3
      go_wp2_with fail
      refine (HSi.out _ HW3d.out.bel).mono ?_
      rintro e v4 ⟨a', rfl, haw, hb4⟩
      rw [HLl.out]
      have hw4 := HW3d.out.to hb4
      have HW4 : Hid (Ww u W0 H0 (x : Int) (y : Int) W2 H2 a0 a1 a2 C0.length C1.length C2.length c0 c1 c2 1 (x1 : Int) (y1 : Int) (wd : Int) (hd : Int) zx zy (kk : Int) v4) := hw4
      clear e0 e1 e2 e3 e4 e5 e6 e7 q0 q1 q2 q3 q4 q5 q6 q7 q8
      have e0 := hw4.ev.c0
      have e1 := hw4.ev.c1
      have e2 := hw4.ev.c2
      have e3 := hw4.ev.c3
      have e4 := hw4.ev.c4
      have e5 := hw4.ev.c5
      have e6 := hw4.ev.c6
      have e7 := hw4.ev.c7
      obtain ⟨g, rfl, hr, _⟩ : ∃ g, a' = some ⟨g, 0, none⟩ ∧ Rw v4 g L ∧ v3d.heap.size ≤ g := by
        rcases haw with ⟨h0, _⟩ | h
        · have := HLl.out; rw [h0] at this; simp at this; omega
        · exact h
      have HR4 : Hid (Rw v4 g L) := hr
      have hnn' : ((nn : Int) != (nn : Int)) = false := by simp
      clear hr haw hb4 hw4 HSi HW3d
      go_wp2_with fail
      go_loopw [12] (fun i wr => ∃ j : Nat, j ≤ nn ∧ i = .int .i64 j ∧ Below v4.heap.size v4 wr) (fun i _ => nn - (intOf i).toNat)
      case atStart => exact ⟨0, by omega, rfl, Below.refl _ _⟩
      case round =>
        obtain ⟨j, hj, rfl, hbr⟩ := hrel
        have HBr : Hid (Below v4.heap.size v4 wr) := hbr
        have HWr : Hid (Ww u W0 H0 (x : Int) (y : Int) W2 H2 a0 a1 a2 C0.length C1.length C2.length c0 c1 c2 1 (x1 : Int) (y1 : Int) (wd : Int) (hd : Int) zx zy (kk : Int) wr) := HW4.out.to hbr
        clear e0 e1 e2 e3 e4 e5 e6 e7
        by_cases hlt : j < nn
        · have hv := HV.out j hlt
          have HRr : Hid (Rw wr g L) := HR4.out.to hbr
          have HA : Hid (Calls Tryd.prog 28 #[.agg #[.int .i64 (x : Int), .int .i64 (y : Int), .slice a1 C1.length c1], .int .i64 ((x1 : Int) + ((j % wd : Nat) : Int) + dx), .int .i64 ((y1 : Int) + ((j / wd : Nat) : Int) + dy)] wr.drew fun e w' => e = .returned (.int .u8 (L.getD j 0 : Nat)) ∧ Below wr.drew.heap.size wr.drew w') := by
            rw [show (x1 : Int) + ((j % wd : Nat) : Int) + dx = (x1 : Int) + dx + ((j % wd : Nat) : Int) from by omega, show (y1 : Int) + ((j / wd : Nat) : Int) + dy = (y1 : Int) + dy + ((j / wd : Nat) : Int) from by omega, hv]
            obtain ⟨q0, q1, q2, q3, q4⟩ := HP.out
            exact at_ok (I1.out.sl.to (below_drew HWr.out.bel)) q0 q1 q2 q3 q4
          have HK : Hid (∀ t : World, Below wr.drew.heap.size wr.drew t → Below v4.heap.size v4 t ∧ Ww u W0 H0 (x : Int) (y : Int) W2 H2 a0 a1 a2 C0.length C1.length C2.length c0 c1 c2 1 (x1 : Int) (y1 : Int) (wd : Int) (hd : Int) zx zy (kk : Int) t ∧ t.cell? ⟨g, j, none⟩ = some (.int .u8 (L.getD j 0 : Nat))) := fun t ht => by
            have h1 : Below wr.heap.size wr t := Below.trans (below_drew (Below.refl _ _)) ht
            exact ⟨below_to HBr.out h1, HWr.out.to h1, (HRr.out.to h1).cell j (by rw [HLl.out]; exact hlt)⟩
          have m1 : (j : Int).tmod (wd : Int) = ((j % wd : Nat) : Int) := by rw [Int.tmod_eq_emod_of_nonneg (by omega)]; rfl
          have m2 : (j : Int).tdiv (wd : Int) = ((j / wd : Nat) : Int) := by rw [Int.tdiv_eq_ediv_of_nonneg (by omega)]; rfl
          have m3 : ((j % wd : Nat) : Int) ≤ 32 := by have := Nat.mod_lt j (show wd > 0 by omega); omega
          have m4 : ((j / wd : Nat) : Int) ≤ 1024 := by have := Nat.div_le_self j wd; omega
          have m5 : (j : Int) % (wd : Int) = ((j % wd : Nat) : Int) := by rfl
          have m6 : (j : Int) / (wd : Int) = ((j / wd : Nat) : Int) := by rfl
          have wz : ¬ (wd : Int) = 0 := by omega
          have wz2 : ¬ wd = 0 := by omega
          generalize j % wd = p at *
          generalize j / wd = q at *
          have t6 : IntKind.i64.wrap (q : Int) = (q : Int) := by rw [IntKind.wrap_i64]; omega
          have t7 : IntKind.i64.wrap (p : Int) = (p : Int) := by rw [IntKind.wrap_i64]; omega
          have t8 : IntKind.i64.wrap ((x1 : Int) + (p : Int)) = (x1 : Int) + (p : Int) := by rw [IntKind.wrap_i64]; omega
          have t9 : IntKind.i64.wrap ((y1 : Int) + (q : Int)) = (y1 : Int) + (q : Int) := by rw [IntKind.wrap_i64]; omega
          have u8 : IntKind.i64.wrap ((x1 : Int) + (p : Int) + dx) = (x1 : Int) + (p : Int) + dx := by rw [IntKind.wrap_i64]; omega
          have u9 : IntKind.i64.wrap ((y1 : Int) + (q : Int) + dy) = (y1 : Int) + (q : Int) + dy := by rw [IntKind.wrap_i64]; omega
          have j0 : (0 : Int) ≤ (j : Int) := by omega
          have j1 : (j : Int) < (nn : Int) := by omega
          clear hv hbr
          generalize L.getD j 0 = s at *
          have hss : ((s : Int) != (s : Int)) = false := by simp
          have HKK : Hid (∀ t : World, Below wr.drew.heap.size wr.drew t → t.cell? ⟨u.heap.size, 3, none⟩ = some (.int .i64 (x : Int)) ∧ t.cell? ⟨u.heap.size, 4, none⟩ = some (.int .i64 (y : Int)) ∧ t.cell? ⟨u.heap.size, 5, none⟩ = some (.slice a1 C1.length c1) ∧ t.cell? ⟨u.heap.size + 1, 0, none⟩ = some (.int .i64 1) ∧ t.cell? ⟨u.heap.size + 1, 1, none⟩ = some (.int .i64 (x1 : Int)) ∧ t.cell? ⟨u.heap.size + 1, 2, none⟩ = some (.int .i64 (y1 : Int)) ∧ t.cell? ⟨u.heap.size + 1, 3, none⟩ = some (.int .i64 (wd : Int)) ∧ t.cell? ⟨g, j, none⟩ = some (.int .u8 (s : Int)) ∧ Below v4.heap.size v4 t) := fun t ht => by
            obtain ⟨h1, h2, h3⟩ := HK.out t ht
            exact ⟨h2.fc.c3, h2.fc.c4, h2.fc.c5, h2.ev.c0, h2.ev.c1, h2.ev.c2, h2.ev.c3, h3, h1⟩
          go_wp2_with fail
          go_region_held3 (fun t => t.cell? ⟨u.heap.size, 3, none⟩ = some (.int .i64 (x : Int)) ∧ t.cell? ⟨u.heap.size, 4, none⟩ = some (.int .i64 (y : Int)) ∧ t.cell? ⟨u.heap.size, 5, none⟩ = some (.slice a1 C1.length c1) ∧ t.cell? ⟨u.heap.size + 1, 0, none⟩ = some (.int .i64 1) ∧ t.cell? ⟨u.heap.size + 1, 1, none⟩ = some (.int .i64 (x1 : Int)) ∧ t.cell? ⟨u.heap.size + 1, 2, none⟩ = some (.int .i64 (y1 : Int)) ∧ t.cell? ⟨u.heap.size + 1, 3, none⟩ = some (.int .i64 (wd : Int)) ∧ t.cell? ⟨g, j, none⟩ = some (.int .u8 (s : Int)) ∧ Below v4.heap.size v4 t)
            ((exact HKK.out _ (by first | exact Below.refl _ _ | assumption)))
            ((go_at_call 28; refine HA.out.mono ?_; rintro e w6 ⟨rfl, hb6⟩))
          all_goals
            have HB6 : Hid (Below v4.heap.size v4 w6) := (HK.out _ hb6).1
            go_wp2_with fail
            go_roundw
            case rel => exact ⟨j + 1, by omega, by go_num, HB6.out⟩
            case measure => simp [intOf]; omega
        · obtain rfl : j = nn := by omega
          have HB6 : Hid (Below u.heap.size u wr) := HWr.out.bel
          clear hbr
          go_wp2_with fail
          go_ret
          exact ⟨rfl, HB6.out⟩
    · have hpk : POk W2 H2 C2 := HF.out.p2
      obtain ⟨x, y, rfl, rfl, px0, px1, py0, py1, hlen⟩ := hpk.nat
      have HP : Hid (1 ≤ x ∧ x ≤ 512 ∧ 1 ≤ y ∧ y ≤ 512 ∧ C2.length = x * y) := ⟨px0, px1, py0, py1, hlen⟩
      have HW3 : Hid (Ww u W0 H0 W1 H1 (x : Int) (y : Int) a0 a1 a2 C0.length C1.length C2.length c0 c1 c2 2 (x1 : Int) (y1 : Int) (wd : Int) (hd : Int) zx zy (kk : Int) v3) := by show Ww _ _ _ _ _ _ _ _ _ _ _ _ _ _ _ _ _ _ _ _ _ _ _ _ _; rw [hn] at hw; exact hw
      have hw3 := HW3.out
      have e0 := hw3.ev.c0
      have e1 := hw3.ev.c1
      have e2 := hw3.ev.c2
      have e3 := hw3.ev.c3
      have e4 := hw3.ev.c4
      have e5 := hw3.ev.c5
      have e6 := hw3.ev.c6
      have e7 := hw3.ev.c7
      clear hw hn hw3 hpk hlen px0 px1 py0 py1
      obtain ⟨dx, hdx⟩ : ∃ d, d = zx.tdiv 16 := ⟨_, rfl⟩
      obtain ⟨dy, hdy⟩ : ∃ d, d = zy.tdiv 16 := ⟨_, rfl⟩
      have bx := tdiv_in (a := zx) (d := 16) (M := 255) (by omega) zx0 zx1 (by omega)
      have by' := tdiv_in (a := zy) (d := 16) (M := 255) (by omega) zy0 zy1 (by omega)
      rw [← hdx] at bx
      rw [← hdy] at by'
      obtain ⟨bx0, bx1⟩ := bx
      obtain ⟨by0, by1⟩ := by'
      have tx : zx.tdiv 16 = dx := hdx.symm
      have ty : zy.tdiv 16 = dy := hdy.symm
      have wx : IntKind.i64.wrap dx = dx := by rw [IntKind.wrap_i64]; omega
      have wy : IntKind.i64.wrap dy = dy := by rw [IntKind.wrap_i64]; omega
      obtain ⟨nn, hnn⟩ : ∃ m, m = wd * hd := ⟨_, rfl⟩
      have nn1 : nn ≤ 32 * 32 := by rw [hnn]; exact Nat.mul_le_mul wd1 hd1
      have nn0 : 0 < nn := by rw [hnn]; exact Nat.mul_pos (by omega) (by omega)
      have HN : Hid (nn = wd * hd) := hnn
      have en : (wd : Int) * (hd : Int) = (nn : Int) := by rw [← Int.natCast_mul, hnn]
      have HSi : Hid (∀ t : World, Below u.heap.size u t → Calls Tryd.prog 10 #[.agg #[.int .i64 W0, .int .i64 H0, .slice a0 C0.length c0, .int .i64 W1, .int .i64 H1, .slice a1 C1.length c1, .int .i64 (x : Int), .int .i64 (y : Int), .slice a2 C2.length c2], .int .i64 2, .agg #[.int .i64 (x1 : Int), .int .i64 (y1 : Int), .int .i64 (wd : Int), .int .i64 (hd : Int)], .agg #[.int .i64 (dx * 16), .int .i64 (dy * 16)], .int .i64 (kk : Int)] t fun e w' => Rs t w' e (fe C2 x y (((x1 : Int) + dx) * 16) (((y1 : Int) + dy) * 16) wd hd kk) 0) := fun t ht => by
        refine single_2 HF.out ⟨by omega, by omega, by omega, by omega, by omega, by omega⟩ (fun t' ht' => ?_)
        rw [show 16 * (x1 : Int) + dx * 16 = ((x1 : Int) + dx) * 16 from by omega, show 16 * (y1 : Int) + dy * 16 = ((y1 : Int) + dy) * 16 from by omega]
        obtain ⟨q0, q1, q2, q3, q4⟩ := HP.out
        exact (fetch_ok ((HG.out.to ht).to ht') ((I2.out.sl.to ht).to ht') I2.out.byt ⟨POk.of q0 q1 q2 q3 q4, by omega, by omega, by omega, by omega, by omega⟩).mono fun _ _ h => h.rs
      have HLl : Hid ((fe C2 x y (((x1 : Int) + dx) * 16) (((y1 : Int) + dy) * 16) wd hd kk).length = nn) := by show _ = _; rw [fe_len, hnn]
      have HV : Hid (∀ j, j < nn → (fe C2 x y (((x1 : Int) + dx) * 16) (((y1 : Int) + dy) * 16) wd hd kk).getD j 0 = sp C2 x y ((x1 : Int) + dx + ((j % wd : Nat) : Int)) ((y1 : Int) + dy + ((j / wd : Nat) : Int))) := fun j hj => fe_whole I2.out.byt hk3 (by rw [← hnn]; exact hj)
      generalize fe C2 x y (((x1 : Int) + dx) * 16) (((y1 : Int) + dy) * 16) wd hd kk = L at *
      have wd2 : (4 : Int) ≤ (wd : Int) := by omega
      have wd3 : (wd : Int) ≤ 32 := by omega
      have x1c : (x1 : Int) < 60 := by omega
      have y1c : (y1 : Int) < 60 := by omega
      have nn2 : (nn : Int) ≤ 1024 := by omega
      clear hdx hdy hnn
      go_upto_region 10 with fail
      go_wp2_with fail
      go_quiet (fail)
      have hb3 : Hid (Below v3.heap.size v3 (v3.drewN nq)) := below_drewN (Below.refl _ _) nq
      have hw4 := HW3.out.to hb3.out
      generalize v3.drewN nq = v3d at *
      have HW3d : Hid (Ww u W0 H0 W1 H1 (x : Int) (y : Int) a0 a1 a2 C0.length C1.length C2.length c0 c1 c2 2 (x1 : Int) (y1 : Int) (wd : Int) (hd : Int) zx zy (kk : Int) v3d) := hw4
      clear e0 e1 e2 e3 e4 e5 e6 e7
      have q0 := hw4.fc.c0
      have q1 := hw4.fc.c1
      have q2 := hw4.fc.c2
      have q3 := hw4.fc.c3
      have q4 := hw4.fc.c4
      have q5 := hw4.fc.c5
      have q6 := hw4.fc.c6
      have q7 := hw4.fc.c7
      have q8 := hw4.fc.c8
      have e0 := hw4.ev.c0
      have e1 := hw4.ev.c1
      have e2 := hw4.ev.c2
      have e3 := hw4.ev.c3
      have e4 := hw4.ev.c4
      have e5 := hw4.ev.c5
      have e6 := hw4.ev.c6
      have e7 := hw4.ev.c7
      clear hw4 hb3 HW3
      go_wp2_with fail
      refine (HSi.out _ HW3d.out.bel).mono ?_
      rintro e v4 ⟨a', rfl, haw, hb4⟩
      rw [HLl.out]
      have hw4 := HW3d.out.to hb4
      have HW4 : Hid (Ww u W0 H0 W1 H1 (x : Int) (y : Int) a0 a1 a2 C0.length C1.length C2.length c0 c1 c2 2 (x1 : Int) (y1 : Int) (wd : Int) (hd : Int) zx zy (kk : Int) v4) := hw4
      clear e0 e1 e2 e3 e4 e5 e6 e7 q0 q1 q2 q3 q4 q5 q6 q7 q8
      have e0 := hw4.ev.c0
      have e1 := hw4.ev.c1
      have e2 := hw4.ev.c2
      have e3 := hw4.ev.c3
      have e4 := hw4.ev.c4
      have e5 := hw4.ev.c5
      have e6 := hw4.ev.c6
      have e7 := hw4.ev.c7
      obtain ⟨g, rfl, hr, _⟩ : ∃ g, a' = some ⟨g, 0, none⟩ ∧ Rw v4 g L ∧ v3d.heap.size ≤ g := by
        rcases haw with ⟨h0, _⟩ | h
        · have := HLl.out; rw [h0] at this; simp at this; omega
        · exact h
      have HR4 : Hid (Rw v4 g L) := hr
      have hnn' : ((nn : Int) != (nn : Int)) = false := by simp
      clear hr haw hb4 hw4 HSi HW3d
      go_wp2_with fail
      go_loopw [12] (fun i wr => ∃ j : Nat, j ≤ nn ∧ i = .int .i64 j ∧ Below v4.heap.size v4 wr) (fun i _ => nn - (intOf i).toNat)
      case atStart => exact ⟨0, by omega, rfl, Below.refl _ _⟩
      case round =>
        obtain ⟨j, hj, rfl, hbr⟩ := hrel
        have HBr : Hid (Below v4.heap.size v4 wr) := hbr
        have HWr : Hid (Ww u W0 H0 W1 H1 (x : Int) (y : Int) a0 a1 a2 C0.length C1.length C2.length c0 c1 c2 2 (x1 : Int) (y1 : Int) (wd : Int) (hd : Int) zx zy (kk : Int) wr) := HW4.out.to hbr
        clear e0 e1 e2 e3 e4 e5 e6 e7
        by_cases hlt : j < nn
        · have hv := HV.out j hlt
          have HRr : Hid (Rw wr g L) := HR4.out.to hbr
          have HA : Hid (Calls Tryd.prog 28 #[.agg #[.int .i64 (x : Int), .int .i64 (y : Int), .slice a2 C2.length c2], .int .i64 ((x1 : Int) + ((j % wd : Nat) : Int) + dx), .int .i64 ((y1 : Int) + ((j / wd : Nat) : Int) + dy)] wr.drew fun e w' => e = .returned (.int .u8 (L.getD j 0 : Nat)) ∧ Below wr.drew.heap.size wr.drew w') := by
            rw [show (x1 : Int) + ((j % wd : Nat) : Int) + dx = (x1 : Int) + dx + ((j % wd : Nat) : Int) from by omega, show (y1 : Int) + ((j / wd : Nat) : Int) + dy = (y1 : Int) + dy + ((j / wd : Nat) : Int) from by omega, hv]
            obtain ⟨q0, q1, q2, q3, q4⟩ := HP.out
            exact at_ok (I2.out.sl.to (below_drew HWr.out.bel)) q0 q1 q2 q3 q4
          have HK : Hid (∀ t : World, Below wr.drew.heap.size wr.drew t → Below v4.heap.size v4 t ∧ Ww u W0 H0 W1 H1 (x : Int) (y : Int) a0 a1 a2 C0.length C1.length C2.length c0 c1 c2 2 (x1 : Int) (y1 : Int) (wd : Int) (hd : Int) zx zy (kk : Int) t ∧ t.cell? ⟨g, j, none⟩ = some (.int .u8 (L.getD j 0 : Nat))) := fun t ht => by
            have h1 : Below wr.heap.size wr t := Below.trans (below_drew (Below.refl _ _)) ht
            exact ⟨below_to HBr.out h1, HWr.out.to h1, (HRr.out.to h1).cell j (by rw [HLl.out]; exact hlt)⟩
          have m1 : (j : Int).tmod (wd : Int) = ((j % wd : Nat) : Int) := by rw [Int.tmod_eq_emod_of_nonneg (by omega)]; rfl
          have m2 : (j : Int).tdiv (wd : Int) = ((j / wd : Nat) : Int) := by rw [Int.tdiv_eq_ediv_of_nonneg (by omega)]; rfl
          have m3 : ((j % wd : Nat) : Int) ≤ 32 := by have := Nat.mod_lt j (show wd > 0 by omega); omega
          have m4 : ((j / wd : Nat) : Int) ≤ 1024 := by have := Nat.div_le_self j wd; omega
          have m5 : (j : Int) % (wd : Int) = ((j % wd : Nat) : Int) := by rfl
          have m6 : (j : Int) / (wd : Int) = ((j / wd : Nat) : Int) := by rfl
          have wz : ¬ (wd : Int) = 0 := by omega
          have wz2 : ¬ wd = 0 := by omega
          generalize j % wd = p at *
          generalize j / wd = q at *
          have t6 : IntKind.i64.wrap (q : Int) = (q : Int) := by rw [IntKind.wrap_i64]; omega
          have t7 : IntKind.i64.wrap (p : Int) = (p : Int) := by rw [IntKind.wrap_i64]; omega
          have t8 : IntKind.i64.wrap ((x1 : Int) + (p : Int)) = (x1 : Int) + (p : Int) := by rw [IntKind.wrap_i64]; omega
          have t9 : IntKind.i64.wrap ((y1 : Int) + (q : Int)) = (y1 : Int) + (q : Int) := by rw [IntKind.wrap_i64]; omega
          have u8 : IntKind.i64.wrap ((x1 : Int) + (p : Int) + dx) = (x1 : Int) + (p : Int) + dx := by rw [IntKind.wrap_i64]; omega
          have u9 : IntKind.i64.wrap ((y1 : Int) + (q : Int) + dy) = (y1 : Int) + (q : Int) + dy := by rw [IntKind.wrap_i64]; omega
          have j0 : (0 : Int) ≤ (j : Int) := by omega
          have j1 : (j : Int) < (nn : Int) := by omega
          clear hv hbr
          generalize L.getD j 0 = s at *
          have hss : ((s : Int) != (s : Int)) = false := by simp
          have HKK : Hid (∀ t : World, Below wr.drew.heap.size wr.drew t → t.cell? ⟨u.heap.size, 6, none⟩ = some (.int .i64 (x : Int)) ∧ t.cell? ⟨u.heap.size, 7, none⟩ = some (.int .i64 (y : Int)) ∧ t.cell? ⟨u.heap.size, 8, none⟩ = some (.slice a2 C2.length c2) ∧ t.cell? ⟨u.heap.size + 1, 0, none⟩ = some (.int .i64 2) ∧ t.cell? ⟨u.heap.size + 1, 1, none⟩ = some (.int .i64 (x1 : Int)) ∧ t.cell? ⟨u.heap.size + 1, 2, none⟩ = some (.int .i64 (y1 : Int)) ∧ t.cell? ⟨u.heap.size + 1, 3, none⟩ = some (.int .i64 (wd : Int)) ∧ t.cell? ⟨g, j, none⟩ = some (.int .u8 (s : Int)) ∧ Below v4.heap.size v4 t) := fun t ht => by
            obtain ⟨h1, h2, h3⟩ := HK.out t ht
            exact ⟨h2.fc.c6, h2.fc.c7, h2.fc.c8, h2.ev.c0, h2.ev.c1, h2.ev.c2, h2.ev.c3, h3, h1⟩
          go_wp2_with fail
          go_region_held3 (fun t => t.cell? ⟨u.heap.size, 6, none⟩ = some (.int .i64 (x : Int)) ∧ t.cell? ⟨u.heap.size, 7, none⟩ = some (.int .i64 (y : Int)) ∧ t.cell? ⟨u.heap.size, 8, none⟩ = some (.slice a2 C2.length c2) ∧ t.cell? ⟨u.heap.size + 1, 0, none⟩ = some (.int .i64 2) ∧ t.cell? ⟨u.heap.size + 1, 1, none⟩ = some (.int .i64 (x1 : Int)) ∧ t.cell? ⟨u.heap.size + 1, 2, none⟩ = some (.int .i64 (y1 : Int)) ∧ t.cell? ⟨u.heap.size + 1, 3, none⟩ = some (.int .i64 (wd : Int)) ∧ t.cell? ⟨g, j, none⟩ = some (.int .u8 (s : Int)) ∧ Below v4.heap.size v4 t)
            ((exact HKK.out _ (by first | exact Below.refl _ _ | assumption)))
            ((go_at_call 28; refine HA.out.mono ?_; rintro e w6 ⟨rfl, hb6⟩))
          all_goals
            have HB6 : Hid (Below v4.heap.size v4 w6) := (HK.out _ hb6).1
            go_wp2_with fail
            go_roundw
            case rel => exact ⟨j + 1, by omega, by go_num, HB6.out⟩
            case measure => simp [intOf]; omega
        · obtain rfl : j = nn := by omega
          have HB6 : Hid (Below u.heap.size u wr) := HWr.out.bel
          clear hbr
          go_wp2_with fail
          go_ret
          exact ⟨rfl, HB6.out⟩
  · have HWh : Hid (∀ t : World, Calls Tryd.prog 26 #[.agg #[.int .i64 W0, .int .i64 H0, .slice a0 C0.length c0, .int .i64 W1, .int .i64 H1, .slice a1 C1.length c1, .int .i64 W2, .int .i64 H2, .slice a2 C2.length c2]] t fun e w' => e = .returned (.int .i64 2) ∧ Below t.heap.size t w') := fun t => by
      have := whole_any (u := t) (W0 := W0) (H0 := H0) (W1 := W1) (H1 := H1) (W2 := W2) (H2 := H2) (a0 := a0) (a1 := a1) (a2 := a2) (c0 := c0) (c1 := c1) (c2 := c2) (C0 := C0) (C1 := C1) (C2 := C2)
      rwa [fk_no hf] at this
    have HSi : Hid (∀ t : World, Calls Tryd.prog 10 #[.agg #[.int .i64 W0, .int .i64 H0, .slice a0 C0.length c0, .int .i64 W1, .int .i64 H1, .slice a1 C1.length c1, .int .i64 W2, .int .i64 H2, .slice a2 C2.length c2], .int .i64 0, .agg #[.int .i64 0, .int .i64 0, .int .i64 4, .int .i64 4], .agg #[.int .i64 0, .int .i64 0], .int .i64 0] t fun e w' => e = .returned (.tuple #[.slice none 0 0, .int .i64 2]) ∧ Below t.heap.size t w') := fun t => single_no (fun h => hf h.1)
    clear hf
    refine (HWh.out _).mono ?_
    rintro e v2 ⟨rfl, hb⟩
    have hw := HW1.out.to hb
    have B2 : Hid (Below u.heap.size u v2) := hw.bel
    clear q0 q1 q2 q3 q4 q5 q6 q7 q8
    have q0 := hw.fc.c0
    have q1 := hw.fc.c1
    have q2 := hw.fc.c2
    have q3 := hw.fc.c3
    have q4 := hw.fc.c4
    have q5 := hw.fc.c5
    have q6 := hw.fc.c6
    have q7 := hw.fc.c7
    have q8 := hw.fc.c8
    clear hb hw HW1 HF1 HWh
    go_wp2_with fail
    refine (HSi.out _).mono ?_
    rintro e v3 ⟨rfl, hb⟩
    have B3 : Hid (Below u.heap.size u v3) := below_to B2.out hb
    clear hb
    go_wp2_with fail
    go_ret
    exact ⟨rfl, B3.out⟩

end Go.Proofs.YtpideemiijhkgaaDoor
