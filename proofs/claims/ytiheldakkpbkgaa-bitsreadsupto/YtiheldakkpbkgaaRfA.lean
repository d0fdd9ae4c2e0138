/- DERIVED. The document's own reader (zoetroperef01.Reader) in memory, and the walks of its number, Left, Fixed and Signed. -/
import Derived.Test.YtiheldakkpbkgaaRwD
namespace Go.Proofs.Ytiheldakkpbkgaa
open Go.RowKit

/-- the document's reader in block x, its bits in block g -/
structure Rf (w : World) (x g c : Nat) (zs : List Nat) (p : Nat) : Prop where
  data : w.cell? ⟨x, 0, none⟩ = some (.slice (some ⟨g, 0, none⟩) (8 * zs.length) c)
  cells : ∀ i, i < 8 * zs.length → w.cell? ⟨g, i, none⟩ = some (.int .i64 (bitAt zs i : Nat))
  cap : 8 * zs.length ≤ c
  place : w.cell? ⟨x, 1, none⟩ = some (.int .i64 p)
  thaw : w.frozen? ⟨x, 1, none⟩ = false
  low : x < w.heap.size
  glow : g < w.heap.size
  apart : g ≠ x
  byt : ∀ i, zs.getD i 0 < 256
  len : zs.length ≤ 1048576
  bnd : p ≤ 8 * zs.length

theorem Rf.carry {w w' : World} {x g c : Nat} {zs : List Nat} {p : Nat} (h : Rf w x g c zs p) (hx : w'.heap[x]? = w.heap[x]?) (hg : w'.heap[g]? = w.heap[g]?) (hs : w.heap.size ≤ w'.heap.size) : Rf w' x g c zs p := by
  have ec : ∀ o, w'.cell? ⟨x, o, none⟩ = w.cell? ⟨x, o, none⟩ := fun o => World.cell?_of_block (w := w) hx
  have eg : ∀ o, w'.cell? ⟨g, o, none⟩ = w.cell? ⟨g, o, none⟩ := fun o => World.cell?_of_block (w := w) hg
  exact ⟨by rw [ec]; exact h.data, fun i hi => by rw [eg]; exact h.cells i hi, h.cap, by rw [ec]; exact h.place, by rw [World.frozen?_of_block (w := w) (a := ⟨x, 1, none⟩) hx]; exact h.thaw, Nat.lt_of_lt_of_le h.low hs, Nat.lt_of_lt_of_le h.glow hs, h.apart, h.byt, h.len, h.bnd⟩
theorem Rf.same {w w' : World} {x g c : Nat} {zs : List Nat} {p : Nat} (h : Rf w x g c zs p) (e : w'.heap = w.heap) : Rf w' x g c zs p := h.carry (by rw [e]) (by rw [e]) (by rw [e]; exact Nat.le_refl _)
theorem Rf.below {w w' : World} {x g c : Nat} {zs : List Nat} {p : Nat} (h : Rf w x g c zs p) (hb : Below w.heap.size w w') : Rf w' x g c zs p :=
  h.carry (hb.block x h.low) (hb.block g h.glow) hb.size
theorem Rf.put {w : World} {x g c : Nat} {zs : List Nat} {p : Nat} (h : Rf w x g c zs p) {q : Nat} {y : Int} (hy : y = (q : Int)) (hq : q ≤ 8 * zs.length) : Rf (w.setCell ⟨x, 1, none⟩ (.int .i64 y)) x g c zs q := by
  subst hy
  have hf : ∀ a, (w.setCell ⟨x, 1, none⟩ (.int .i64 q)).frozen? a = w.frozen? a := fun a => by simp
  have ha := h.apart
  refine ⟨?_, ?_, h.cap, ?_, by rw [hf]; exact h.thaw, by have := h.low; simp [World.setCell]; exact this, by have := h.glow; simp [World.setCell]; exact this, ha, h.byt, h.len, hq⟩
  · rw [World.cell?_setCell_other _ _ _ _ (by simp)]; exact h.data
  · intro i hi
    rw [World.cell?_setCell_other _ _ _ _ (by simp)]; exact h.cells i hi
  · exact World.cell?_setCell_same _ _ _ h.place

set_option maxHeartbeats 1000000 in
theorem number_rf {w : World} {x g c : Nat} {zs : List Nat} {p : Nat} (h : Rf w x g c zs p) (q n : Nat) (hn : n ≤ 32) (hb : q + n ≤ 8 * zs.length) :
    Calls Try.prog 60 #[.pointer (some ⟨x, 0, none⟩), .int .i64 q, .int .i64 n] w fun e w' => e = .returned (.int .u64 (num zs q n : Nat)) ∧ w' = w := by
  have hd := h.data
  have hcap := h.cap
  have hlen := h.len
  have HC : Hid (∀ i, i < 8 * zs.length → w.cell? ⟨g, i, none⟩ = some (.int .i64 (bitAt zs i : Nat))) := h.cells
  clear h
  go_enter Try.func60, Try.ntmps60
  go_wp2_with fail
  go_loop [7, 8] (fun v i => ∃ k : Nat, k ≤ n ∧ i = .int .i64 k ∧ v = .int .u64 (num zs q k : Nat)) (fun _ i => n - (intOf i).toNat)
  case atStart => exact ⟨0, Nat.zero_le _, rfl, rfl⟩
  case round =>
    obtain ⟨k, hk, rfl, rfl⟩ := hrel
    by_cases hlt : k < n
    · have hc1 := HC.out (q + k) (by omega)
      have hb1 := bitAt_lt zs (q + k)
      have hn1 : num zs q k < 4294967296 := Nat.lt_of_lt_of_le (num_lt _ _ _) (show 2 ^ k ≤ 2 ^ 32 from Nat.pow_le_pow_right (by omega) (by omega))
      have hs : num zs q (k + 1) = 2 * num zs q k + bitAt zs (q + k) := rfl
      have HS : Hid _ := hs
      clear hs
      generalize bitAt zs (q + k) = bt at *
      go_wp2_with fail
      go_round
      case rel => exact ⟨k + 1, by omega, by go_num, int_eq (by rw [HS.out]; omega)⟩
      case measure => simp [intOf]; omega
    · obtain rfl : k = n := by omega
      go_wp2_with fail
      go_ret
      exact ⟨rfl, rfl⟩

set_option maxHeartbeats 400000 in
theorem left_rfq {w : World} {x g c : Nat} {zs : List Nat} {p : Nat} (h : Rf w x g c zs p) :
    Calls Try.prog 15 #[.pointer (some ⟨x, 0, none⟩)] w fun e w' => e = .returned (.int .i64 (8 * zs.length - p : Nat)) ∧ ∃ k, w' = w.drewN k := by
  have hd := h.data
  have hp := h.place
  have hlen := h.len
  have hbnd := h.bnd
  go_enter Try.func15, Try.ntmps15
  go_wp2_with fail
  go_quiet (fail)
  go_wp2
  go_ret
  exact ⟨ret_int (by omega), ⟨_, rfl⟩⟩

theorem left_rf {w : World} {x g c : Nat} {zs : List Nat} {p : Nat} (h : Rf w x g c zs p) :
    Calls Try.prog 15 #[.pointer (some ⟨x, 0, none⟩)] w fun e w' => e = .returned (.int .i64 (8 * zs.length - p : Nat)) ∧ Rf w' x g c zs p ∧ Kp x w w' := by
  refine (left_rfq h).mono ?_
  rintro e w' ⟨rfl, k, rfl⟩
  exact ⟨rfl, h.same rfl, Kp.drewN _ _ _⟩

set_option maxHeartbeats 400000 in
theorem fixed_rf {w : World} {x g c : Nat} {zs : List Nat} {p : Nat} (h : Rf w x g c zs p) (n : Int) :
    Calls Try.prog 44 #[.pointer (some ⟨x, 0, none⟩), .int .i64 n] w fun e w' => e = .returned (.tuple #[.int .u32 (rFixed zs p n).1, .int .i64 (rFixed zs p n).2.1]) ∧ Rf w' x g c zs (rFixed zs p n).2.2 ∧ Kp x w w' := by
  by_cases h1 : n < 0 ∨ 32 < n
  · rw [show rFixed zs p n = (0, 2, p) from if_pos h1]
    by_cases h2 : n < 0
    all_goals
      go_enter Try.func44, Try.ntmps44
      go_wp2_with fail
      go_ret2
      exact ⟨rfl, h, Kp.refl _ _⟩
  · have h3 : 0 ≤ n := by omega
    have h4 : n ≤ 32 := by omega
    obtain ⟨m, rfl⟩ := Int.eq_ofNat_of_zero_le h3
    have hlen := h.len
    have hbnd := h.bnd
    by_cases h5 : 8 * zs.length - p < m
    · rw [show rFixed zs p m = (0, 3, p) from by rw [rFixed, if_neg h1, if_pos (by simpa using h5)]]
      go_enter Try.func44, Try.ntmps44
      go_wp2_with fail
      refine (left_rf h).mono ?_; rintro e w1 ⟨rfl, hr1, hk1⟩
      go_wp2_with fail
      go_ret2
      exact ⟨rfl, hr1, hk1⟩
    · rw [show rFixed zs p m = (num zs p m, 0, p + m) from by rw [rFixed, if_neg h1, if_neg (by simpa using h5)]; rfl]
      have hnl : num zs p m < 4294967296 := Nat.lt_of_lt_of_le (num_lt _ _ _) (show 2 ^ m ≤ 2 ^ 32 from Nat.pow_le_pow_right (by omega) (by omega))
      go_enter Try.func44, Try.ntmps44
      go_wp2_with fail
      refine (left_rf h).mono ?_; rintro e w1 ⟨rfl, hr1, hk1⟩; have hp1 := hr1.place; have ht1 := hr1.thaw
      go_wp2_with fail
      refine (number_rf hr1 p m (by omega) (by omega)).mono ?_; rintro e w' ⟨rfl, rfl⟩
      go_wp2_with fail
      go_ret2
      exact ⟨ret_two (by omega) rfl, hr1.put (by omega) (by omega), hk1.trans (Kp.set _ _ _ _)⟩

set_option maxHeartbeats 400000 in
theorem signed_rf {w : World} {x g c : Nat} {zs : List Nat} {p : Nat} (h : Rf w x g c zs p) (n : Int) :
    Calls Try.prog 45 #[.pointer (some ⟨x, 0, none⟩), .int .i64 n] w fun e w' => e = .returned (.tuple #[.int .i32 (rSigned zs p n).1, .int .i64 (rSigned zs p n).2.1]) ∧ Rf w' x g c zs (rSigned zs p n).2.2 ∧ Kp x w w' := by
  by_cases h1 : n < 1 ∨ 31 < n
  · rw [show rSigned zs p n = (0, 2, p) from if_pos h1]
    by_cases h2 : n < 1
    all_goals
      go_enter Try.func45, Try.ntmps45
      go_wp2_with fail
      go_ret2
      exact ⟨rfl, h, Kp.refl _ _⟩
  · have h3 : 0 ≤ n := by omega
    have h4 : n ≤ 31 := by omega
    have h41 : 1 ≤ n := by omega
    obtain ⟨m, rfl⟩ := Int.eq_ofNat_of_zero_le h3
    have hlen := h.len
    have hbnd := h.bnd
    by_cases h5 : 8 * zs.length - p < m + 1
    · rw [show rSigned zs p m = (0, 3, p) from by rw [rSigned, if_neg h1, if_pos (by simpa using h5)]]
      go_enter Try.func45, Try.ntmps45
      go_wp2_with fail
      refine (left_rf h).mono ?_; rintro e w1 ⟨rfl, hr1, hk1⟩
      go_wp2_with fail
      go_ret2
      exact ⟨rfl, hr1, hk1⟩
    · have hlt : num zs (p + 1) m < 2147483648 := Nat.lt_of_lt_of_le (num_lt _ _ _) (show 2 ^ m ≤ 2 ^ 31 from Nat.pow_le_pow_right (by omega) (by omega))
      have e0 : rSigned zs p m = if bitAt zs p = 1 then (if num zs (p + 1) m = 0 then (0, 4, p) else (-(num zs (p + 1) m : Int), 0, p + m + 1)) else ((num zs (p + 1) m : Int), 0, p + m + 1) := by
        rw [rSigned, if_neg h1, if_neg (by simpa using h5), num_one]; rfl
      rw [e0]
      clear e0
      have hbl := bitAt_lt zs p
      have hcp : p ≤ c := by have := h.cap; omega
      by_cases hs : bitAt zs p = 1
      · rw [if_pos hs]
        by_cases hzz : num zs (p + 1) m = 0
        · rw [if_pos hzz]
          go_enter Try.func45, Try.ntmps45
          go_wp2_with fail
          refine (left_rf h).mono ?_; rintro e w1 ⟨rfl, hr1, hk1⟩; have hp1 := hr1.place; have ht1 := hr1.thaw; have hd1 := hr1.data; have hc1 := hr1.cells p (by omega)
          rw [hs] at hc1
          go_wp2_with fail
          refine (number_rf hr1 (p + 1) m (by omega) (by omega)).mono ?_; rintro e w' ⟨rfl, rfl⟩
          go_wp2_with fail
          go_quiet (fail)
          go_wp2_with fail
          go_ret2
          exact ⟨ret_two rfl rfl, hr1.same rfl, hk1.trans (Kp.drewN _ _ _)⟩
        · rw [if_neg hzz]
          go_enter Try.func45, Try.ntmps45
          go_wp2_with fail
          refine (left_rf h).mono ?_; rintro e w1 ⟨rfl, hr1, hk1⟩; have hp1 := hr1.place; have ht1 := hr1.thaw; have hd1 := hr1.data; have hc1 := hr1.cells p (by omega)
          rw [hs] at hc1
          go_wp2_with fail
          refine (number_rf hr1 (p + 1) m (by omega) (by omega)).mono ?_; rintro e w' ⟨rfl, rfl⟩
          go_wp2_with fail
          go_quiet (fail)
          go_wp2_with fail
          go_ret2
          exact ⟨ret_two (by omega) rfl, (hr1.same (w' := World.drewN _ nq) rfl).put (by omega) (by omega), (hk1.trans (Kp.drewN _ _ _)).trans (Kp.set _ _ _ _)⟩
      · rw [if_neg hs]
        have hs0 : bitAt zs p = 0 := by omega
        go_enter Try.func45, Try.ntmps45
        go_wp2_with fail
        refine (left_rf h).mono ?_; rintro e w1 ⟨rfl, hr1, hk1⟩; have hp1 := hr1.place; have ht1 := hr1.thaw; have hd1 := hr1.data; have hc1 := hr1.cells p (by omega)
        rw [hs0] at hc1
        go_wp2_with fail
        refine (number_rf hr1 (p + 1) m (by omega) (by omega)).mono ?_; rintro e w' ⟨rfl, rfl⟩
        go_wp2_with fail
        go_quiet (fail)
        go_wp2_with fail
        go_ret2
        exact ⟨ret_two (by omega) rfl, (hr1.same (w' := World.drewN _ nq) rfl).put (by omega) (by omega), (hk1.trans (Kp.drewN _ _ _)).trans (Kp.set _ _ _ _)⟩

end Go.Proofs.Ytiheldakkpbkgaa
