/- DERIVED. The walks of sideOf, Side and both Classes. -/
import Derived.Test.YtoddkhaaacpelaaDoorGc
import Derived.Test.YtoddkhaaacpelaaDoorBa
namespace Go.Proofs.YtoddkhaaacpelaaDoor
open Go.RowKit

/-- a size and its side -/
def Sz (s : Int) (n : Nat) : Prop := (s = 4 ∧ n = 4) ∨ (s = 8 ∧ n = 8) ∨ (s = 16 ∧ n = 16) ∨ (s = 32 ∧ n = 32) ∨ (s = 64 ∧ n = 32)
/-- no size -/
structure Nz (s : Int) : Prop where
  a : (s == 4) = false
  b : (s == 8) = false
  c : (s == 16) = false
  d : (s == 32) = false
  e : (s == 64) = false
theorem Sz.sd {s : Int} {n : Nat} (h : Sz s n) : Sd n := by rcases h with ⟨_, rfl⟩ | ⟨_, rfl⟩ | ⟨_, rfl⟩ | ⟨_, rfl⟩ | ⟨_, rfl⟩ <;> simp [Sd]
theorem size_any (s : Int) : (∃ n, Sz s n) ∨ Nz s := by
  by_cases h4 : s = 4
  · exact Or.inl ⟨4, Or.inl ⟨h4, rfl⟩⟩
  by_cases h8 : s = 8
  · exact Or.inl ⟨8, Or.inr (Or.inl ⟨h8, rfl⟩)⟩
  by_cases h16 : s = 16
  · exact Or.inl ⟨16, Or.inr (Or.inr (Or.inl ⟨h16, rfl⟩))⟩
  by_cases h32 : s = 32
  · exact Or.inl ⟨32, Or.inr (Or.inr (Or.inr (Or.inl ⟨h32, rfl⟩)))⟩
  by_cases h64 : s = 64
  · exact Or.inl ⟨32, Or.inr (Or.inr (Or.inr (Or.inr ⟨h64, rfl⟩)))⟩
  exact Or.inr ⟨by simp [h4], by simp [h8], by simp [h16], by simp [h32], by simp [h64]⟩

theorem sideOf_yes {w : World} {s : Int} {n : Nat} (h : Sz s n) : Calls Tryd.prog 23 #[.int .i64 s] w fun e w' => e = .returned (.tuple #[.int .i64 (n : Int), .int .i64 0]) ∧ w = w' := by
  rcases h with ⟨rfl, rfl⟩ | ⟨rfl, rfl⟩ | ⟨rfl, rfl⟩ | ⟨rfl, rfl⟩ | ⟨rfl, rfl⟩
  all_goals
    go_enter Tryd.func23, Tryd.ntmps23
    go_wp2
    go_returns
    exact ⟨rfl, rfl⟩
theorem sideOf_no {w : World} {s : Int} (h : Nz s) : Calls Tryd.prog 23 #[.int .i64 s] w fun e w' => e = .returned (.tuple #[.int .i64 0, .int .i64 2]) ∧ w = w' := by
  obtain ⟨h1, h2, h3, h4, h5⟩ := h
  go_enter Tryd.func23, Tryd.ntmps23
  go_wp2
  go_returns
  exact ⟨rfl, rfl⟩
theorem side_yes {w : World} {s : Int} {n : Nat} (h : Sz s n) : Calls Tryd.prog 17 #[.int .i64 s] w fun e w' => e = .returned (.int .i64 (n : Int)) ∧ w = w' := by
  rcases h with ⟨rfl, rfl⟩ | ⟨rfl, rfl⟩ | ⟨rfl, rfl⟩ | ⟨rfl, rfl⟩ | ⟨rfl, rfl⟩
  all_goals
    go_enter Tryd.func17, Tryd.ntmps17
    go_wp2
    go_ret
    exact ⟨rfl, rfl⟩
theorem side_no {w : World} {s : Int} (h : Nz s) : Calls Tryd.prog 17 #[.int .i64 s] w fun e w' => e = .returned (.int .i64 0) ∧ w = w' := by
  obtain ⟨h1, h2, h3, h4, h5⟩ := h
  go_enter Tryd.func17, Tryd.ntmps17
  go_wp2
  go_ret
  exact ⟨rfl, rfl⟩

/-- the end z has the class c -/
structure Cl (z : Int) (c : Nat) : Prop where
  le : c ≤ 10
  hi : z ≤ 2 ^ c
  lo : ∀ k, k < c → (2 : Int) ^ k < z
theorem pow_le {k c : Nat} (h : k ≤ c) : (2 : Int) ^ k ≤ 2 ^ c := by
  have := Nat.pow_le_pow_right (n := 2) (by omega) h
  have e : ∀ m : Nat, (2 : Int) ^ m = ((2 ^ m : Nat) : Int) := fun m => by simp
  rw [e, e]; omega
theorem cl_any {z : Int} (h1 : z ≤ 1024) : ∃ c, Cl z c := by
  have : ∀ m : Nat, m ≤ 10 → z ≤ 2 ^ m → ∃ c, Cl z c := by
    intro m
    induction m with
    | zero => exact fun _ h => ⟨0, by omega, h, fun k hk => by omega⟩
    | succ m ih =>
      intro hm h
      by_cases e : z ≤ 2 ^ m
      · exact ih (by omega) e
      · exact ⟨m + 1, hm, h, fun k hk => by have := pow_le (k := k) (c := m) (by omega); omega⟩
  exact this 10 (by omega) (by simpa using h1)
theorem Cl.uniq {z : Int} {c d : Nat} (h : Cl z c) (k : Cl z d) : c = d := by
  rcases Nat.lt_trichotomy c d with e | e | e
  · have := k.lo c e; have := h.hi; omega
  · exact e
  · have := h.lo d e; have := k.hi; omega
/-- what Class answers: class, bits, number -/
def clE (z : Int) (c : Nat) : Int := if c = 0 then 0 else z - (2 ^ (c - 1) + 1)
def clB (c : Nat) : Int := if c = 0 then 0 else (c : Int) - 1

theorem pow_at {k : Nat} (h : k ≤ 10) : (1 : Int) ≤ 2 ^ k ∧ (2 : Int) ^ k ≤ 1024 := ⟨pow_le (k := 0) (by omega), pow_le (c := 10) h⟩

set_option maxRecDepth 100000 in
set_option maxHeartbeats 1000000 in
theorem class_yes {w : World} {z : Int} {c : Nat} (h0 : 1 ≤ z) (h1 : z ≤ 1024) (h : Cl z c) : Calls Tryd.prog 20 #[.int .i64 z] w fun e w' => e = .returned (.tuple #[.int .i64 (c : Int), .int .i64 (clB c), .int .i64 (clE z c), .int .i64 0]) ∧ Below w.heap.size w w' := by
  have H : Hid (Cl z c) := h
  have hc := h.le
  clear h
  go_enter Tryd.func20, Tryd.ntmps20
  go_wp2
  go_loop [2] (fun i => ∃ k : Nat, k ≤ c ∧ i = .int .i64 k) (fun i => c - (intOf i).toNat)
  case atStart => exact ⟨0, by omega, rfl⟩
  case round =>
    obtain ⟨k, hk, rfl⟩ := hrel
    obtain ⟨p0, p1⟩ := pow_at (k := k) (by omega)
    have k0 : 0 ≤ (k : Int) := by omega
    have k1 : (k : Int) < 64 := by omega
    by_cases hlt : k < c
    · have hz := H.out.lo k hlt
      go_wp2
      go_round
      case rel => exact ⟨k + 1, by omega, by go_num⟩
      case measure => simp [intOf]; omega
    · obtain rfl : k = c := by omega
      have hz : ¬ (2 : Int) ^ k < z := by have := H.out.hi; omega
      by_cases hz0 : k = 0
      · subst hz0
        go_wp2
        go_returns
        exact ⟨rfl, Below.refl _ _⟩
      · have z0 : ((k : Int) == 0) = false := by rw [beq_eq_false_iff_ne]; omega
        have HE : Hid (clE z k = z - (2 ^ (k - 1) + 1)) := by show _ = _; rw [clE, if_neg hz0]
        have HB : Hid (clB k = (k : Int) - 1) := by show _ = _; rw [clB, if_neg hz0]
        obtain ⟨q0, q1⟩ := pow_at (k := k - 1) (by omega)
        have e1 : (k : Int) - 1 = ((k - 1 : Nat) : Int) := by omega
        have k2 : 0 ≤ ((k - 1 : Nat) : Int) := by omega
        have k3 : ((k - 1 : Nat) : Int) < 64 := by omega
        go_wp2
        go_quiet (fail)
        go_wp2
        go_returns
        exact ⟨by rw [HE.out, HB.out, e1], below_drewN (Below.refl _ _) _⟩

theorem class_no {w : World} {z : Int} (h : z < 1 ∨ 1024 < z) : Calls Tryd.prog 20 #[.int .i64 z] w fun e w' => e = .returned (.tuple #[.int .i64 0, .int .i64 0, .int .i64 0, .int .i64 2]) ∧ Below w.heap.size w w' := by
  by_cases h1 : z < 1
  · clear h
    go_enter Tryd.func20, Tryd.ntmps20
    go_wp2
    go_returns
    exact ⟨rfl, Below.refl _ _⟩
  · have h2 : 1024 < z := by omega
    clear h
    go_enter Tryd.func20, Tryd.ntmps20
    go_wp2
    go_returns
    exact ⟨rfl, Below.refl _ _⟩

theorem pow_next (k : Nat) (h : k ≠ 0) : (2 : Int) * 2 ^ (k - 1) = 2 ^ k := by
  obtain ⟨m, rfl⟩ : ∃ m, k = m + 1 := ⟨k - 1, by omega⟩
  rw [Nat.add_sub_cancel, Int.pow_succ, Int.mul_comm]

set_option maxRecDepth 100000 in
set_option maxHeartbeats 1000000 in
theorem rclass_yes {w : World} {z : Int} {c : Nat} (h0 : 1 ≤ z) (h1 : z ≤ 1024) (h : Cl z c) : Calls Tryd.prog 22 #[.int .i64 z] w fun e w' => e = .returned (.tuple #[.int .i64 (c : Int), .int .i64 (clB c), .int .i64 (clE z c), .int .i64 0]) ∧ Below w.heap.size w w' := by
  have H : Hid (Cl z c) := h
  have hc := h.le
  clear h
  by_cases hz1 : z = 1
  · have hc0 : c = 0 := by
      by_cases e : c = 0
      · exact e
      · have := H.out.lo 0 (by omega); simp at this; omega
    subst hz1 hc0
    go_enter Tryd.func22, Tryd.ntmps22
    go_wp2
    go_returns
    exact ⟨rfl, Below.refl _ _⟩
  · have hc0 : c ≠ 0 := by
      intro e
      have := H.out.hi
      rw [e] at this
      simp at this
      omega
    have z1 : (z == 1) = false := by rw [beq_eq_false_iff_ne]; exact hz1
    clear hz1
    go_enter Tryd.func22, Tryd.ntmps22
    go_wp2
    go_loop [6, 7] (fun i f => ∃ k : Nat, k ≤ c ∧ k ≠ 0 ∧ i = .int .i64 k ∧ f = .int .i64 (2 ^ (k - 1) + 1)) (fun i _ => c - (intOf i).toNat)
    case atStart => exact ⟨1, by omega, by omega, rfl, rfl⟩
    case round =>
      obtain ⟨k, hk, hk0, rfl, rfl⟩ := hrel
      obtain ⟨q0, q1⟩ := pow_at (k := k - 1) (by omega)
      have hn := pow_next k hk0
      have k0 : 0 ≤ (k : Int) := by omega
      have k1 : (k : Int) < 64 := by omega
      by_cases hlt : k < c
      · have hz := H.out.lo k hlt
        have HR : Hid (2 * 2 ^ (k - 1) + 1 = (2 : Int) ^ (k + 1 - 1) + 1) := by show _ = _; rw [hn]; rfl
        rw [← hn] at hz
        clear hn
        generalize (2 : Int) ^ (k - 1) = q at *
        go_wp2
        go_round
        case rel => exact ⟨k + 1, by omega, by omega, by go_num, by rw [← HR.out]⟩
        case measure => simp [intOf]; omega
      · obtain rfl : k = c := by omega
        have hz : ¬ (2 : Int) ^ k < z := by have := H.out.hi; omega
        have HE : Hid (clE z k = z - (2 ^ (k - 1) + 1)) := by show _ = _; rw [clE, if_neg hk0]
        have HB : Hid (clB k = (k : Int) - 1) := by show _ = _; rw [clB, if_neg hk0]
        rw [← hn] at hz
        clear hn
        generalize (2 : Int) ^ (k - 1) = q at *
        go_wp2
        go_returns
        exact ⟨by rw [HE.out, HB.out], Below.refl _ _⟩

theorem rclass_no {w : World} {z : Int} (h : z < 1 ∨ 1024 < z) : Calls Tryd.prog 22 #[.int .i64 z] w fun e w' => e = .returned (.tuple #[.int .i64 0, .int .i64 0, .int .i64 0, .int .i64 2]) ∧ Below w.heap.size w w' := by
  by_cases h1 : z < 1
  · clear h
    go_enter Tryd.func22, Tryd.ntmps22
    go_wp2
    go_returns
    exact ⟨rfl, Below.refl _ _⟩
  · have h2 : 1024 < z := by omega
    clear h
    go_enter Tryd.func22, Tryd.ntmps22
    go_wp2
    go_returns
    exact ⟨rfl, Below.refl _ _⟩
/-- one answer of both -/
theorem class_both (z : Int) : ∃ c b x e : Int, (∀ w : World, Calls Tryd.prog 20 #[.int .i64 z] w fun en w' => en = .returned (.tuple #[.int .i64 c, .int .i64 b, .int .i64 x, .int .i64 e]) ∧ Below w.heap.size w w') ∧
    (∀ w : World, Calls Tryd.prog 22 #[.int .i64 z] w fun en w' => en = .returned (.tuple #[.int .i64 c, .int .i64 b, .int .i64 x, .int .i64 e]) ∧ Below w.heap.size w w') := by
  by_cases h : 1 ≤ z ∧ z ≤ 1024
  · obtain ⟨c, hc⟩ := cl_any h.2
    exact ⟨_, _, _, _, fun w => class_yes h.1 h.2 hc, fun w => rclass_yes h.1 h.2 hc⟩
  · exact ⟨_, _, _, _, fun w => class_no (by omega), fun w => rclass_no (by omega)⟩

end Go.Proofs.YtoddkhaaacpelaaDoor
