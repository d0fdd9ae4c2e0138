/- DERIVED. Weights; blends as plain arithmetic; the closures that tell a weight. -/
import Derived.Test.YtpideemiijhkgabDoorRc
namespace Go.Proofs.YtpideemiijhkgabDoor
open Go.RowKit

/-- a weight -/
def wt (n i : Nat) : Nat := 32 + (2 * i + 1) * 32 / (2 * n)
theorem wt_in {n i : Nat} (h : i < n) : 32 ≤ wt n i ∧ wt n i ≤ 63 := by
  unfold wt
  have : (2 * i + 1) * 32 / (2 * n) < 32 := Nat.div_lt_of_lt_mul (by omega)
  generalize (2 * i + 1) * 32 / (2 * n) = q at *
  omega
/-- all of them; k of them there -/
def wtL (n : Nat) : List Int := tbi n fun i => (wt n i : Int)
def wtP (n k : Nat) : List Int := tbi n fun i => if i < k then (wt n i : Int) else 0
theorem wtL_len (n : Nat) : (wtL n).length = n := tbi_len _ _
theorem wtL_get {n i : Nat} (h : i < n) : (wtL n).getD i 0 = (wt n i : Int) := tbi_get _ h
theorem wtP_len (n k : Nat) : (wtP n k).length = n := tbi_len _ _
theorem wtP_zero (n : Nat) : wtP n 0 = List.replicate n 0 := (tbi_zero fun j _ => by rw [if_neg (by omega)]).symm
theorem wtP_all (n : Nat) : wtP n n = wtL n := tbi_eq fun j hj => by rw [if_pos hj]
theorem wtP_set {n k : Nat} (h : k < n) : (wtP n k).set k (wt n k : Int) = wtP n (k + 1) := tbi_set h (by rw [if_pos (by omega)]) fun j _ hne => by
  by_cases e : j < k
  · rw [if_pos e, if_pos (by omega)]
  · rw [if_neg e, if_neg (by omega)]

set_option maxRecDepth 100000 in
set_option maxHeartbeats 1000000 in
theorem weights_no {u : World} {n : Int} (h : ¬ (4 ≤ n ∧ n ≤ 32)) :
    Calls Tryd.prog 6 #[.int .i64 n] u fun e w' => e = .returned (.tuple #[.slice none 0 0, .int .i64 2]) ∧ u = w' := by
  by_cases h0 : n < 4
  · clear h
    go_enter Tryd.func6, Tryd.ntmps6
    go_wp2_with fail
    go_ret2
    exact ⟨rfl, rfl⟩
  · have h1 : 32 < n := by omega
    clear h
    go_enter Tryd.func6, Tryd.ntmps6
    go_wp2_with fail
    go_ret2
    exact ⟨rfl, rfl⟩

set_option maxRecDepth 100000 in
set_option maxHeartbeats 1000000 in
theorem weights_ok {u : World} {n : Nat} (h0 : 4 ≤ n) (h1 : n ≤ 32) :
    Calls Tryd.prog 6 #[.int .i64 (n : Int)] u fun e w' => e = .returned (.tuple #[.slice (some ⟨u.heap.size, 0, none⟩) n n, .int .i64 0]) ∧ Ri 3 w' u.heap.size (wtL n) ∧ Below u.heap.size u w' := by
  have n0 : (4 : Int) ≤ (n : Int) := by omega
  have n1 : (n : Int) ≤ 32 := by omega
  have n2 : 2 * (n : Int) ≠ 0 := by omega
  have mk := fun v => mk_ints (n := n) (by omega) v
  have HR : Hid (Ri 3 (u.alloc (.cells (madeCells #[.int .i64 0] n) 3)) u.heap.size (wtP n 0)) := by show Ri _ _ _ _; rw [wtP_zero]; exact Ri.made 3 u n rfl
  have HB : Hid (Below u.heap.size u (u.alloc (.cells (madeCells #[.int .i64 0] n) 3))) := from_alloc _ _
  go_enter Tryd.func6, Tryd.ntmps6
  go_wp2_with fail
  generalize (u.alloc (.cells (madeCells #[.int .i64 0] n) 3)) = V at *
  clear mk
  go_loopw [16] (fun i wr => ∃ k : Nat, k ≤ n ∧ i = .int .i64 k ∧ Ri 3 wr u.heap.size (wtP n k) ∧ Below u.heap.size u wr) (fun i _ => n - (intOf i).toNat)
  case atStart => exact ⟨0, by omega, rfl, HR.out, HB.out⟩
  case round =>
    clear HR HB
    obtain ⟨k, hk, rfl, hr, hb⟩ := hrel
    by_cases hlt : k < n
    · have c0 := hr.cell k (by rw [wtP_len]; exact hlt)
      have c1 := hr.thaw k
      have HW : Hid (∀ x, x = (wt n k : Int) → Ri 3 (wr.setCell ⟨u.heap.size, k, none⟩ (.int .i64 x)) u.heap.size (wtP n (k + 1))) := by
        rintro x rfl
        rw [← wtP_set hlt]
        exact hr.set _ _
      have HB : Hid _ := hb
      obtain ⟨q, hq⟩ : ∃ q, q = (2 * k + 1) * 32 / (2 * n) := ⟨_, rfl⟩
      have q0 : q < 32 := by rw [hq]; exact Nat.div_lt_of_lt_mul (by omega)
      have HQ : Hid (wt n k = 32 + q) := by show _ = _; rw [hq]; rfl
      have e1 : (2 * (k : Int) + 1) * 32 / (2 * (n : Int)) = (q : Int) := by rw [hq, Int.natCast_ediv]; simp
      have e2 : ((2 * (k : Int) + 1) * 32).tdiv (2 * (n : Int)) = (q : Int) := by rw [Int.tdiv_eq_ediv_of_nonneg (by omega)]; exact e1
      have q1 : (q : Int) < 32 := by omega
      have k0 : (0 : Int) ≤ (k : Int) := by omega
      have k1 : (k : Int) < (n : Int) := by omega
      generalize (wtP n k).getD k 0 = old at *
      clear hr hb hq
      go_wp2_with fail
      go_roundw
      case rel => exact ⟨k + 1, by omega, by go_num, HW.out _ (by rw [HQ.out]; omega), below_set HB.out (by simp) _⟩
      case measure => simp [intOf]; omega
    · obtain rfl : k = n := by omega
      have HR : Hid (Ri 3 wr u.heap.size (wtL k)) := by show Ri _ _ _ _; rw [← wtP_all]; exact hr
      have HB : Hid _ := hb
      clear hr hb
      go_wp2_with fail
      go_ret2
      exact ⟨rfl, HR.out, HB.out⟩

set_option maxRecDepth 100000 in
theorem above_at {w : World} {b g len c y : Nat} {x k : Int} (hb : w.cell? ⟨b, 0, none⟩ = some (.slice (some ⟨g, 0, none⟩) len c)) (hc : w.cell? ⟨g, y, none⟩ = some (.int .i64 k)) (hy : y < len) :
    Calls Tryd.prog 17 #[.int .i64 x, .int .i64 (y : Int), .pointer (some ⟨b, 0, none⟩)] w fun e w' => e = .returned (.int .i64 k) ∧ w = w' := by
  have y0 : (0 : Int) ≤ (y : Int) := by omega
  have y1 : (y : Int) < (len : Int) := by omega
  go_enter Tryd.func17, Tryd.ntmps17
  go_wp2_with fail
  go_ret
  exact ⟨rfl, rfl⟩

set_option maxRecDepth 100000 in
theorem left_at {w : World} {b g len c x : Nat} {y k : Int} (hb : w.cell? ⟨b, 0, none⟩ = some (.slice (some ⟨g, 0, none⟩) len c)) (hc : w.cell? ⟨g, x, none⟩ = some (.int .i64 k)) (hx : x < len) :
    Calls Tryd.prog 18 #[.int .i64 (x : Int), .int .i64 y, .pointer (some ⟨b, 0, none⟩)] w fun e w' => e = .returned (.int .i64 k) ∧ w = w' := by
  have x0 : (0 : Int) ≤ (x : Int) := by omega
  have x1 : (x : Int) < (len : Int) := by omega
  go_enter Tryd.func18, Tryd.ntmps18
  go_wp2_with fail
  go_ret
  exact ⟨rfl, rfl⟩

/-- a sample, blended -/
def bl (k a b : Nat) : Nat := (k * a + (64 - k) * b + 32) / 64
theorem bl_mid {k a b : Nat} (hk : k ≤ 64) : min a b ≤ bl k a b ∧ bl k a b ≤ max a b := by
  unfold bl
  have h1 : k * min a b ≤ k * a := Nat.mul_le_mul_left _ (Nat.min_le_left _ _)
  have h2 : (64 - k) * min a b ≤ (64 - k) * b := Nat.mul_le_mul_left _ (Nat.min_le_right _ _)
  have h3 : k * a ≤ k * max a b := Nat.mul_le_mul_left _ (Nat.le_max_left _ _)
  have h4 : (64 - k) * b ≤ (64 - k) * max a b := Nat.mul_le_mul_left _ (Nat.le_max_right _ _)
  have h5 : k * min a b + (64 - k) * min a b = 64 * min a b := by rw [← Nat.add_mul, show k + (64 - k) = 64 from by omega]
  have h6 : k * max a b + (64 - k) * max a b = 64 * max a b := by rw [← Nat.add_mul, show k + (64 - k) = 64 from by omega]
  generalize k * a = p1 at *
  generalize (64 - k) * b = p2 at *
  generalize k * min a b = p3 at *
  generalize (64 - k) * min a b = p4 at *
  generalize k * max a b = p5 at *
  generalize (64 - k) * max a b = p6 at *
  omega
theorem bl_lt {k a b : Nat} (hk : k ≤ 64) (ha : a < 256) (hb : b < 256) : bl k a b < 256 := by have := (bl_mid (a := a) (b := b) hk).2; omega
theorem bl_same {k a : Nat} (hk : k ≤ 64) : bl k a a = a := by have := bl_mid (a := a) (b := a) hk; omega
/-- what a block becomes; m of its samples are there -/
def blB (w : Nat) (C : List Nat) (X Y rw rh : Nat) (kf : Nat → Nat → Nat) (D : List Nat) : List Nat := tab (rw * rh) fun i => bl (kf (i % rw) (i / rw)) (cutF w C X Y rw i) (D.getD i 0)
def blP (w : Nat) (C : List Nat) (X Y rw rh : Nat) (kf : Nat → Nat → Nat) (D : List Nat) (m : Nat) : List Nat := tab (rw * rh) fun i => if i < m then bl (kf (i % rw) (i / rw)) (cutF w C X Y rw i) (D.getD i 0) else cutF w C X Y rw i
theorem blB_len (w : Nat) (C : List Nat) (X Y rw rh : Nat) (kf : Nat → Nat → Nat) (D : List Nat) : (blB w C X Y rw rh kf D).length = rw * rh := tab_len _ _
theorem blP_len (w : Nat) (C : List Nat) (X Y rw rh : Nat) (kf : Nat → Nat → Nat) (D : List Nat) (m : Nat) : (blP w C X Y rw rh kf D m).length = rw * rh := tab_len _ _
theorem blP_zero (w : Nat) (C : List Nat) (X Y rw rh : Nat) (kf : Nat → Nat → Nat) (D : List Nat) : blP w C X Y rw rh kf D 0 = cutL w C X Y rw rh := tab_eq fun j _ => by rw [if_neg (by omega)]
theorem blP_all (w : Nat) (C : List Nat) (X Y rw rh : Nat) (kf : Nat → Nat → Nat) (D : List Nat) : blP w C X Y rw rh kf D (rw * rh) = blB w C X Y rw rh kf D := tab_eq fun j hj => by rw [if_pos hj]
theorem blP_get {w : Nat} {C : List Nat} {X Y rw rh : Nat} {kf : Nat → Nat → Nat} {D : List Nat} {m : Nat} (h : m < rw * rh) : (blP w C X Y rw rh kf D m).getD m 0 = cutF w C X Y rw m := by unfold blP; rw [tab_get _ h, if_neg (by omega)]
theorem blP_set {w : Nat} {C : List Nat} {X Y rw rh : Nat} {kf : Nat → Nat → Nat} {D : List Nat} {m : Nat} (h : m < rw * rh) : (blP w C X Y rw rh kf D m).set m (bl (kf (m % rw) (m / rw)) (cutF w C X Y rw m) (D.getD m 0)) = blP w C X Y rw rh kf D (m + 1) := tab_set h (by rw [if_pos (by omega)]) fun j _ hne => by
  by_cases e : j < m
  · rw [if_pos e, if_pos (by omega)]
  · rw [if_neg e, if_neg (by omega)]
/-- own samples, blended -/
def mbL (w : Nat) (C : List Nat) (X Y rw rh : Nat) (kf : Nat → Nat → Nat) (D : List Nat) : List Nat := layL w C X Y rw (blB w C X Y rw rh kf D) rh
theorem mbL_len (w : Nat) (C : List Nat) (X Y rw rh : Nat) (kf : Nat → Nat → Nat) (D : List Nat) : (mbL w C X Y rw rh kf D).length = C.length := layL_len _ _ _ _ _ _ _

end Go.Proofs.YtpideemiijhkgabDoor
