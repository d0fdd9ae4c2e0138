/- DERIVED. What MotionKnown asks: blocks and rectangles that are refused, and a block far out. -/
import Derived.Test.YtpideemiijhkgabDoorMh
namespace Go.Proofs.YtpideemiijhkgabDoor
open Go.RowKit

/-- blocks that Single refuses (of a frame of 16 x 16) -/
def kM : List Int := [3, 0, 0, 4, 4, 0, 0, 0, -1, 0, 0, 4, 4, 0, 0, 0, 0, -1, 0, 4, 4, 0, 0, 0, 0, 0, 1025, 4, 4, 0, 0, 0, 0, 0, 0, 3, 4, 0, 0, 0, 0, 0, 0, 4, 65, 0, 0, 0, 0, 0, 0, 4, 4, 4096, 0, 0, 0, 0, 0, 4, 4, -4096, 0, 0, 0, 0, 0, 4, 4, 0, 4096, 0, 0, 0, 0, 4, 4, 0, -4096, 0, 0, 0, 0, 4, 4, 0, 0, 3, 0, 0, 0, 4, 4, 0, 0, -1]
def bdM (n X Y w h vx vy k : Int) : Bool := !(decide (0 ≤ n ∧ n ≤ 2) && decide (0 ≤ X ∧ X ≤ 1024) && decide (0 ≤ Y ∧ Y ≤ 1024) && decide (-4095 ≤ vx ∧ vx ≤ 4095) && decide (-4095 ≤ vy ∧ vy ≤ 4095)) || (decide (n = 0) && !(decide (4 ≤ w ∧ w ≤ 64) && decide (4 ≤ h ∧ h ≤ 64) && decide (0 ≤ k ∧ k ≤ 2)))
theorem kM_bad : ∀ q, q < 12 → bdM (kM.getD (q * 8) 0) (kM.getD (q * 8 + 1) 0) (kM.getD (q * 8 + 2) 0) (kM.getD (q * 8 + 3) 0) (kM.getD (q * 8 + 4) 0) (kM.getD (q * 8 + 5) 0) (kM.getD (q * 8 + 6) 0) (kM.getD (q * 8 + 7) 0) = true := by decide +kernel
/-- rectangles that Above refuses (of 2 x 4) -/
def kR : List Int := [0, 0, 1, 3, 1, 0, 2, 4, 0, 1, 1, 4, -1, 0, 1, 4, 0, 0, 1, 33, 0, 0, 0, 4]
def bdR (X Y w h : Int) : Bool := !(decide (4 ≤ h ∧ h ≤ 32) && decide (0 ≤ X) && decide (0 ≤ Y) && decide (1 ≤ w) && decide (X + w ≤ 2) && decide (Y + h ≤ 4)) && decide (X ≤ 1) && decide (Y ≤ 1) && decide (0 ≤ w ∧ w ≤ 2) && decide (0 ≤ h ∧ h ≤ 33)
theorem kR_bad : ∀ q, q < 6 → bdR (kR.getD (q * 4) 0) (kR.getD (q * 4 + 1) 0) (kR.getD (q * 4 + 2) 0) (kR.getD (q * 4 + 3) 0) = true := by decide +kernel
theorem tp_sum : ∀ k, k < 3 → ∀ f, f < 16 → dt (tp k f) (fun _ => 1) 8 = 128 := by decide +kernel
theorem dt_const (T : List Int) (v : Int) : ∀ k, dt T (fun _ => v) k = dt T (fun _ => 1) k * v
  | 0 => by simp [dt]
  | k + 1 => by rw [dt_succ, dt_succ, dt_const T v k, Int.mul_one, Int.add_mul]
theorem sp_flat {x y v : Nat} (hx : 1 ≤ x) (hy : 1 ≤ y) (a b : Int) : sp (List.replicate (x * y) v) x y a b = v := rep_get (at_lt (nr_lt hy) (nr_lt hx))
theorem fe_flat {x y v : Nat} (hx : 1 ≤ x) (hy : 1 ≤ y) (hv : v < 256) {px py : Int} {w h k i : Nat} (hk : k < 3) (hi : i < w * h) : (fe (List.replicate (x * y) v) x y px py w h k).getD i 0 = v := by
  rw [fe_get hi]
  have f1 : (px % 16).toNat < 16 := by omega
  have f2 : (py % 16).toNat < 16 := by omega
  generalize (px % 16).toNat = f at *
  generalize (py % 16).toNat = g at *
  have hm : ∀ a b, mm (List.replicate (x * y) v) x y (px / 16) (py / 16) (tp k f) a b = 16 * (v : Int) := fun a b => by
    unfold mm
    rw [dt_eq (g := fun _ => (v : Int)) (fun j _ => by rw [sp_flat hx hy]), dt_const, tp_sum k hk f f1]
    omega
  unfold bk
  rw [dt_eq (g := fun _ => 16 * (v : Int)) (fun j _ => hm _ _), dt_const, tp_sum k hk g f2]
  unfold clp
  rw [if_neg (by omega), if_neg (by omega)]
  omega
theorem fe_far : fe (List.replicate 64 5) 8 8 (16 * 1024 + 4095) (16 * 1024 + -4095) 64 64 1 = List.replicate 4096 5 := list_eq_of_getD (by rw [fe_len, List.length_replicate]) fun j hj => by
  rw [fe_len] at hj
  rw [rep_get (by omega)]
  exact fe_flat (x := 8) (y := 8) (by omega) (by omega) (by omega) (by omega) hj
set_option maxRecDepth 100000 in
theorem fr16 (g0 g1 g2 : Nat) : FrOk ⟨16, 16, some ⟨g0, 0, none⟩, 256, List.replicate 256 5⟩ ⟨8, 8, some ⟨g1, 0, none⟩, 64, List.replicate 64 5⟩ ⟨8, 8, some ⟨g2, 0, none⟩, 64, List.replicate 64 5⟩ :=
  ⟨⟨by simp, by simp, by simp⟩, ⟨by simp, by simp, by simp⟩, ⟨by simp, by simp, by simp, by simp, by simp⟩, by simp, by simp, ⟨by simp, by simp, by simp, by simp, by simp⟩, by simp, by simp, ⟨by simp, by simp, by simp, by simp, by simp⟩⟩
/-- a refused block -/
theorem bad_single {t : World} {g0 g1 g2 : Nat} {n X Y w h vx vy k : Int} (hb : bdM n X Y w h vx vy k = true) :
    Calls Tryd.prog 13 #[.agg #[.int .i64 16, .int .i64 16, .slice (some ⟨g0, 0, none⟩) 256 256, .int .i64 8, .int .i64 8, .slice (some ⟨g1, 0, none⟩) 64 64, .int .i64 8, .int .i64 8, .slice (some ⟨g2, 0, none⟩) 64 64], .int .i64 n, .agg #[.int .i64 X, .int .i64 Y, .int .i64 w, .int .i64 h], .agg #[.int .i64 vx, .int .i64 vy], .int .i64 k] t fun e w' => ∃ a, e = .returned (.tuple #[.slice a 0 0, .int .i64 2]) ∧ Below t.heap.size t w' := by
  by_cases hm : MvOk n X Y vx vy
  · have hn : n = 0 ∧ ¬ (((4 ≤ w ∧ w ≤ 64) ∧ (4 ≤ h ∧ h ≤ 64)) ∧ (0 ≤ k ∧ k ≤ 2)) := by
      unfold bdM at hb
      rw [decide_eq_true (show 0 ≤ n ∧ n ≤ 2 from ⟨hm.n0, hm.n1⟩), decide_eq_true hm.x, decide_eq_true hm.y, decide_eq_true hm.vx, decide_eq_true hm.vy] at hb
      simp only [Bool.and_self, Bool.not_true, Bool.false_or, Bool.and_eq_true, decide_eq_true_eq, Bool.not_eq_true', Bool.and_eq_false_iff, decide_eq_false_iff_not] at hb
      refine ⟨hb.1, fun q => ?_⟩
      rcases hb.2 with (k1 | k1) | k1
      · exact k1 q.1.1
      · exact k1 q.1.2
      · exact k1 q.2
    obtain ⟨rfl, hf⟩ := hn
    have := single_0 (u := t) (er := 2) (L := []) (pw := w) (ph := h) (pk := k) (fr16 g0 g1 g2) hm (fun t' _ => (fetch_no (fun q => hf ⟨⟨q.w, q.h⟩, q.k⟩)).mono fun _ _ z => rs_no z)
    simp only [List.length_replicate] at this
    refine this.mono ?_
    rintro e w' ⟨a, rfl, _, hb⟩
    exact ⟨a, rfl, hb⟩
  · have := single_no (u := t) (W0 := 16) (H0 := 16) (W1 := 8) (H1 := 8) (W2 := 8) (H2 := 8) (a0 := some ⟨g0, 0, none⟩) (a1 := some ⟨g1, 0, none⟩) (a2 := some ⟨g2, 0, none⟩) (c0 := 256) (c1 := 64) (c2 := 64) (C0 := List.replicate 256 5) (C1 := List.replicate 64 5) (C2 := List.replicate 64 5) (pw := w) (ph := h) (pk := k) (fun q => hm q.2)
    simp only [List.length_replicate] at this
    refine this.mono ?_
    rintro e w' ⟨rfl, hb⟩
    exact ⟨none, rfl, hb⟩
/-- a block far out -/
theorem far_single {t : World} {g0 g1 g2 : Nat} (hg : Gt t) (hr : Rw t g2 (List.replicate 64 5)) :
    Calls Tryd.prog 13 #[.agg #[.int .i64 16, .int .i64 16, .slice (some ⟨g0, 0, none⟩) 256 256, .int .i64 8, .int .i64 8, .slice (some ⟨g1, 0, none⟩) 64 64, .int .i64 8, .int .i64 8, .slice (some ⟨g2, 0, none⟩) 64 64], .int .i64 2, .agg #[.int .i64 1024, .int .i64 1024, .int .i64 64, .int .i64 64], .agg #[.int .i64 4095, .int .i64 (-4095)], .int .i64 1] t fun e w' => ∃ a, e = .returned (.tuple #[.slice a 4096 4096, .int .i64 0]) ∧ Sl w' .u8 a (List.replicate 4096 5) ∧ Below t.heap.size t w' := by
  have h := single_2 (u := t) (X := 1024) (Y := 1024) (pw := 64) (ph := 64) (vx := 4095) (vy := -4095) (pk := 1) (er := 0) (L := fe (List.replicate 64 5) 8 8 (16 * 1024 + 4095) (16 * 1024 + -4095) 64 64 1) (fr16 g0 g1 g2) ⟨by omega, by omega, by omega, by omega, by omega, by omega⟩
    (fun t' ht' => (fetch_ok (x := 8) (y := 8) (wd := 64) (ht := 64) (k := 1) (hg.to ht') (hr.to ht').sl (rep_byt (by omega)) ⟨⟨by omega, by omega, by omega, by omega, by simp⟩, by omega, by omega, by omega, by omega, by omega⟩).mono fun _ _ k => k.rs)
  rw [fe_far] at h
  simp only [List.length_replicate] at h
  refine h.mono ?_
  rintro e w' ⟨a, rfl, haw, hb⟩
  simp only [List.length_replicate]
  exact ⟨a, rfl, haw.sl, hb⟩
/-- no frame -/
theorem none_single {t : World} {X Y w h vx vy k : Int} :
    Calls Tryd.prog 13 #[.agg #[.int .i64 0, .int .i64 0, .slice none 0 0, .int .i64 0, .int .i64 0, .slice none 0 0, .int .i64 0, .int .i64 0, .slice none 0 0], .int .i64 0, .agg #[.int .i64 X, .int .i64 Y, .int .i64 w, .int .i64 h], .agg #[.int .i64 vx, .int .i64 vy], .int .i64 k] t fun e w' => e = .returned (.tuple #[.slice none 0 0, .int .i64 2]) ∧ Below t.heap.size t w' :=
  single_no (u := t) (C0 := []) (C1 := []) (C2 := []) (fun q => by have := q.1.p0.w0; simp at this)
/-- flat samples, refused -/
theorem ab_no {t : World} {g g' n m v v' : Nat} {w X Y rw rh : Int} (h : Rw t g (List.replicate n v)) (hn : n ≤ 1000) (bX : X ≤ 1024) (bY : Y ≤ 1024) (hb : ¬ ((4 ≤ rh ∧ rh ≤ 32) ∧ BOk (List.replicate n v) w X Y rw rh (List.replicate m v'))) :
    Calls Tryd.prog 7 #[.slice (some ⟨g, 0, none⟩) n n, .int .i64 w, .agg #[.int .i64 X, .int .i64 Y, .int .i64 rw, .int .i64 rh], .slice (some ⟨g', 0, none⟩) m m] t fun e w' => e = .returned (.tuple #[.slice none 0 0, .int .i64 2]) ∧ Below t.heap.size t w' := by
  have := above_no (c := n) (co := m) (ao := some ⟨g', 0, none⟩) h.sl (by simp) (by simp; omega) (by omega) (by omega) hb
  simpa only [List.length_replicate] using this
theorem le_no {t : World} {g : Option Addr} {g' n m v v' : Nat} {w X Y rw rh : Int} (h : Sl t .u8 g (List.replicate n v)) (hn : n ≤ 1000) (bX : X ≤ 1024) (bY : Y ≤ 1024) (hb : ¬ ((4 ≤ rw ∧ rw ≤ 32) ∧ BOk (List.replicate n v) w X Y rw rh (List.replicate m v'))) :
    Calls Tryd.prog 8 #[.slice g n n, .int .i64 w, .agg #[.int .i64 X, .int .i64 Y, .int .i64 rw, .int .i64 rh], .slice (some ⟨g', 0, none⟩) m m] t fun e w' => e = .returned (.tuple #[.slice none 0 0, .int .i64 2]) ∧ Below t.heap.size t w' := by
  have := left_no (c := n) (co := m) (ao := some ⟨g', 0, none⟩) h (by simp) (by simp; omega) (by omega) (by omega) hb
  simpa only [List.length_replicate] using this
theorem bad_rect {X Y w h : Int} {m : Nat} (hb : bdR X Y w h = true) : ¬ ((4 ≤ h ∧ h ≤ 32) ∧ BOk (List.replicate 8 1) 2 X Y w h (List.replicate m 2)) := fun ⟨hh, k⟩ => by
  obtain ⟨w', h', X', Y', rw', rh', e1, e2, e3, e4, e5, k0, k1, k2, k3, k4, k5, k6, k7, k8, k9⟩ := k.nat
  obtain rfl : w' = 2 := by omega
  rw [List.length_replicate] at k4
  unfold bdR at hb
  rw [decide_eq_true hh, decide_eq_true (show 0 ≤ X by omega), decide_eq_true (show 0 ≤ Y by omega), decide_eq_true (show 1 ≤ w by omega), decide_eq_true (show X + w ≤ 2 by omega), decide_eq_true (show Y + h ≤ 4 by omega)] at hb
  simp at hb
theorem rect_in {X Y w h : Int} (hb : bdR X Y w h = true) : X ≤ 1 ∧ Y ≤ 1 ∧ (0 ≤ w ∧ w ≤ 2) ∧ (0 ≤ h ∧ h ≤ 33) := by
  unfold bdR at hb
  simp only [Bool.and_eq_true, decide_eq_true_eq] at hb
  exact ⟨hb.1.1.1.2, hb.1.1.2, hb.1.2, hb.2⟩
theorem kn_a : ¬ ((4 ≤ (3 : Int) ∧ (3 : Int) ≤ 32) ∧ BOk (List.replicate 7 1) 2 0 0 1 3 (List.replicate 3 2)) := fun k => by omega
theorem kn_b : ¬ ((4 ≤ (4 : Int) ∧ (4 : Int) ≤ 32) ∧ BOk (List.replicate 8 1) 0 0 0 1 4 (List.replicate 4 2)) := fun ⟨_, k⟩ => by
  obtain ⟨w', h', X', Y', rw', rh', e1, e2, e3, e4, e5, k0, k1, k2, k3, k4, k5, k6, k7, k8, k9⟩ := k.nat
  omega
theorem kn_c : ¬ ((4 ≤ (4 : Int) ∧ (4 : Int) ≤ 32) ∧ BOk (List.replicate 260 1) 65 0 0 1 4 (List.replicate 4 2)) := fun ⟨_, k⟩ => by
  obtain ⟨w', h', X', Y', rw', rh', e1, e2, e3, e4, e5, k0, k1, k2, k3, k4, k5, k6, k7, k8, k9⟩ := k.nat
  omega
theorem kn_d : ¬ ((4 ≤ (4 : Int) ∧ (4 : Int) ≤ 32) ∧ BOk (List.replicate 260 1) 4 0 0 4 1 (List.replicate 4 2)) := fun ⟨_, k⟩ => by
  obtain ⟨w', h', X', Y', rw', rh', e1, e2, e3, e4, e5, k0, k1, k2, k3, k4, k5, k6, k7, k8, k9⟩ := k.nat
  obtain rfl : w' = 4 := by omega
  rw [List.length_replicate] at k4
  omega
theorem kn_e : ¬ ((4 ≤ (4 : Int) ∧ (4 : Int) ≤ 32) ∧ BOk (List.replicate 8 1) 4 0 0 4 1 (List.replicate 3 2)) := fun ⟨_, k⟩ => by
  obtain ⟨w', h', X', Y', rw', rh', e1, e2, e3, e4, e5, k0, k1, k2, k3, k4, k5, k6, k7, k8, k9⟩ := k.nat
  obtain rfl : rw' = 4 := by omega
  rw [List.length_replicate] at k9
  omega
theorem kn_f : ¬ ((4 ≤ (4 : Int) ∧ (4 : Int) ≤ 32) ∧ BOk (List.replicate 0 1) 4 0 0 4 1 (List.replicate 4 2)) := fun ⟨_, k⟩ => by
  obtain ⟨w', h', X', Y', rw', rh', e1, e2, e3, e4, e5, k0, k1, k2, k3, k4, k5, k6, k7, k8, k9⟩ := k.nat
  obtain rfl : w' = 4 := by omega
  rw [List.length_replicate] at k4
  omega
/-- a frame in a variable -/
structure Kf5 (p g0 g1 g2 : Nat) (t : World) : Prop where
  c0 : t.cell? ⟨p, 0, none⟩ = some (.int .i64 16)
  c1 : t.cell? ⟨p, 1, none⟩ = some (.int .i64 16)
  c2 : t.cell? ⟨p, 2, none⟩ = some (.slice (some ⟨g0, 0, none⟩) 256 256)
  c3 : t.cell? ⟨p, 3, none⟩ = some (.int .i64 8)
  c4 : t.cell? ⟨p, 4, none⟩ = some (.int .i64 8)
  c5 : t.cell? ⟨p, 5, none⟩ = some (.slice (some ⟨g1, 0, none⟩) 64 64)
  c6 : t.cell? ⟨p, 6, none⟩ = some (.int .i64 8)
  c7 : t.cell? ⟨p, 7, none⟩ = some (.int .i64 8)
  c8 : t.cell? ⟨p, 8, none⟩ = some (.slice (some ⟨g2, 0, none⟩) 64 64)
  lt : p < t.heap.size
theorem Kf5.to {p g0 g1 g2 : Nat} {t t' : World} (h : Kf5 p g0 g1 g2 t) (hb : Below t.heap.size t t') : Kf5 p g0 g1 g2 t' := by
  refine ⟨?_, ?_, ?_, ?_, ?_, ?_, ?_, ?_, ?_, Nat.lt_of_lt_of_le h.lt hb.size⟩ <;> rw [newCell hb _ _ h.lt]
  · exact h.c0
  · exact h.c1
  · exact h.c2
  · exact h.c3
  · exact h.c4
  · exact h.c5
  · exact h.c6
  · exact h.c7
  · exact h.c8
theorem Kf5.built (u : World) (g0 g1 g2 : Nat) : Kf5 u.heap.size g0 g1 g2 (u.alloc (.cells #[.int .i64 16, .int .i64 16, .slice (some ⟨g0, 0, none⟩) 256 256, .int .i64 8, .int .i64 8, .slice (some ⟨g1, 0, none⟩) 64 64, .int .i64 8, .int .i64 8, .slice (some ⟨g2, 0, none⟩) 64 64] 42)) := by
  refine ⟨?_, ?_, ?_, ?_, ?_, ?_, ?_, ?_, ?_, by simp⟩ <;> simp [go_sem]
theorem wt4 : wtL 4 = [36, 44, 52, 60] := by decide +kernel

end Go.Proofs.YtpideemiijhkgabDoor
