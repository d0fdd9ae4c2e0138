/- DERIVED. The closure that sums numbers by taps; what makes it. -/
import Derived.Test.YtpideemiijhkgabDoorCa
namespace Go.Proofs.YtpideemiijhkgabDoor
open Go.RowKit

/-- a closure that sums: where its half, its taps and its bits lie -/
structure Fn (w : World) (hb tb xb : Nat) (T : List Int) (n hlf : Int) : Prop where
  l0 : hb < w.heap.size
  l1 : tb < w.heap.size
  l2 : xb < w.heap.size
  half : w.cell? ⟨hb, 0, none⟩ = some (.int .i64 hlf)
  taps : ∀ j, j < 8 → w.cell? ⟨tb, j, none⟩ = some (.int .i64 (T.getD j 0))
  bits : w.cell? ⟨xb, 0, none⟩ = some (.int .i64 n)
theorem Fn.to {w w' : World} {hb tb xb : Nat} {T : List Int} {n hlf : Int} (h : Fn w hb tb xb T n hlf) (hB : Below w.heap.size w w') : Fn w' hb tb xb T n hlf :=
  ⟨Nat.lt_of_lt_of_le h.l0 hB.size, Nat.lt_of_lt_of_le h.l1 hB.size, Nat.lt_of_lt_of_le h.l2 hB.size, by rw [newCell hB _ _ h.l0]; exact h.half, fun j hj => by rw [newCell hB _ _ h.l1]; exact h.taps j hj, by rw [newCell hB _ _ h.l2]; exact h.bits⟩
theorem Fn.below {B : Nat} {w w' : World} {hb tb xb : Nat} {T : List Int} {n hlf : Int} (h : Fn w hb tb xb T n hlf) (hB : Below B w w') (h0 : hb < B) (h1 : tb < B) (h2 : xb < B) : Fn w' hb tb xb T n hlf :=
  ⟨Nat.lt_of_lt_of_le h.l0 hB.size, Nat.lt_of_lt_of_le h.l1 hB.size, Nat.lt_of_lt_of_le h.l2 hB.size, by rw [newCell hB _ _ h0]; exact h.half, fun j hj => by rw [newCell hB _ _ h1]; exact h.taps j hj, by rw [newCell hB _ _ h2]; exact h.bits⟩
/-- the closure itself -/
def cv (hb tb xb : Nat) : Value := .func (.func 42) #[] #[.pointer (some ⟨hb, 0, none⟩), .pointer (some ⟨tb, 0, none⟩), .pointer (some ⟨xb, 0, none⟩)]

/-- how many bits are dropped, and half of what they can be -/
structure Bt (n hlf D : Int) : Prop where
  out : (n = 3 ∧ hlf = 4 ∧ D = 8) ∨ (n = 11 ∧ hlf = 1024 ∧ D = 2048)

set_option maxRecDepth 100000 in
set_option maxHeartbeats 1000000 in
theorem summer_any {w : World} {T : List Int} {n hlf D : Int} (hT : T.length = 8) (hn : Bt n hlf D) : Calls Tryd.prog 36 #[tv T, .int .i64 n] w fun e w' => e = .returned (cv (w.heap.size + 2) w.heap.size (w.heap.size + 1)) ∧ Fn w' (w.heap.size + 2) w.heap.size (w.heap.size + 1) T n hlf ∧ Below w.heap.size w w' ∧ w'.heap.size = w.heap.size + 3 := by
  obtain ⟨t0, t1, t2, t3, t4, t5, t6, t7, rfl⟩ := eight hT
  rw [tv8]
  rcases hn.out with ⟨rfl, rfl, _⟩ | ⟨rfl, rfl, _⟩
  all_goals
    go_enter Tryd.func36, Tryd.ntmps36
    go_wp2_with fail
    go_ret
    refine ⟨rfl, ⟨by simp, by simp; omega, by simp, by simp [go_sem], fun j hj => ?_, ?_⟩, to_alloc (to_alloc (from_alloc _ _) _) _, by simp⟩
    · rw [newCell (from_alloc _ _) _ _ (by simp; omega), newCell (from_alloc _ _) _ _ (by simp)]
      exact (Ri.built 74 w [t0, t1, t2, t3, t4, t5, t6, t7] rfl).cell j (by simpa using hj)
    · rw [newCell (from_alloc _ _) _ _ (by simp)]
      simp [go_sem]

set_option maxRecDepth 100000 in
set_option maxHeartbeats 1000000 in
theorem sum_any {w : World} {hb tb xb b o len c : Nat} {T : List Int} {n hlf D : Int} {F : Nat → Int} (h : Fn w hb tb xb T n hlf) (hT : Tk T) (hn : Bt n hlf D) (hl : 8 ≤ len) (hc : ∀ j, j < 8 → w.cell? ⟨b, o + j, none⟩ = some (.int .i64 (F j))) (hF : ∀ j, -32640 ≤ F j ∧ F j ≤ 32640) :
    Calls Tryd.prog 42 #[.slice (some ⟨b, o, none⟩) len c, .pointer (some ⟨hb, 0, none⟩), .pointer (some ⟨tb, 0, none⟩), .pointer (some ⟨xb, 0, none⟩)] w fun e w' => e = .returned (.int .i64 ((hlf + dt T F 8) / D)) ∧ Below w.heap.size w w' := by
  have h0 := h.half
  have HX : Hid (∀ m, (w.drewN m).cell? ⟨xb, 0, none⟩ = some (.int .i64 n)) := fun m => h.bits
  have HT : Hid (∀ m j, j < 8 → (w.drewN m).cell? ⟨tb, j, none⟩ = some (.int .i64 (T.getD j 0))) := fun m j hj => h.taps j hj
  have HC : Hid (∀ m j, j < 8 → (w.drewN m).cell? ⟨b, o + j, none⟩ = some (.int .i64 (F j))) := fun m j hj => hc j hj
  have HD : Hid (∀ k : Nat, k ≤ 8 → -40000000 ≤ dt T F k ∧ dt T F k ≤ 40000000) := fun k hk => by
    have := dt_le hT (M := 32640) hF k
    have e : (k : Int) * (128 * 32640) ≤ 8 * (128 * 32640) := Int.mul_le_mul_of_nonneg_right (by omega) (by omega)
    omega
  have HL : Hid (∀ k, -4177920 ≤ T.getD k 0 * F k ∧ T.getD k 0 * F k ≤ 4177920) := fun k => by
    obtain ⟨a, b⟩ := hT.lim k
    obtain ⟨c, d⟩ := hF k
    have := mul_in a b c d
    omega
  have HH : Hid (0 ≤ hlf ∧ hlf ≤ 1024) := by
    show _ ∧ _
    rcases hn.out with ⟨_, rfl, _⟩ | ⟨_, rfl, _⟩ <;> omega
  have l1 : (8 : Int) ≤ (len : Int) := by omega
  clear h hc hF hT hl
  go_enter Tryd.func42, Tryd.ntmps42
  go_wp2_with fail
  go_loopw [9, 6] (fun i s wr => ∃ k m : Nat, k ≤ 8 ∧ i = .int .i64 k ∧ s = .int .i64 (hlf + dt T F k) ∧ wr = w.drewN m) (fun i _ _ => 8 - (intOf i).toNat)
  case atStart => exact ⟨0, 0, by omega, rfl, by simp [dt], rfl⟩
  case round =>
    obtain ⟨k, m, hk, rfl, rfl, rfl⟩ := hrel
    by_cases hlt : k < 8
    · have c0 := HT.out m k hlt
      have c1 := HC.out m k hlt
      have k0 : (0 : Int) ≤ (k : Int) := by omega
      have k1 : (k : Int) < 8 := by omega
      have k2 : (k : Int) < (len : Int) := by omega
      obtain ⟨s0, s1⟩ := HD.out k hk
      obtain ⟨p0, p1⟩ := HL.out k
      obtain ⟨q0, q1⟩ := HH.out
      have HS : Hid (dt T F (k + 1) = dt T F k + T.getD k 0 * F k) := dt_succ T F k
      generalize dt T F k = S at *
      generalize T.getD k 0 = x at *
      generalize F k = y at *
      generalize hW : w.drewN m = v at *
      have HW : Hid (w.drewN m = v) := hW
      clear hW
      have p2 : -4177920 ≤ x * y := p0
      go_wp2_with fail
      go_quiet (fail)
      go_wp2_with fail
      go_roundw
      case rel => exact ⟨k + 1, m + nq, by omega, by go_num, by rw [HS.out, Int.add_assoc], by rw [← HW.out]; exact drewN_drewN _ _ _⟩
      case measure => simp [intOf]; omega
    · obtain rfl : k = 8 := by omega
      have c0 := HX.out m
      obtain ⟨s0, s1⟩ := HD.out 8 (by omega)
      obtain ⟨q0, q1⟩ := HH.out
      have HB : Hid (Below w.heap.size w (w.drewN m)) := below_drewN (Below.refl _ _) m
      generalize hS : dt T F 8 = S at *
      have HS : Hid (dt T F 8 = S) := hS
      clear hS
      generalize w.drewN m = v at *
      clear HT HC HD HL HX
      rcases hn.out with ⟨rfl, rfl, rfl⟩ | ⟨rfl, rfl, rfl⟩
      all_goals
        go_wp2_with fail
        go_ret
        exact ⟨ret_int (by rw [HS.out]), HB.out⟩

end Go.Proofs.YtpideemiijhkgabDoor
