/- DERIVED. The walks of Apart, New. -/
import Derived.Test.YtlgfkkegehpllabPi
namespace Go.Proofs.Ytlgfkkegehpllab
open Go.RowKit

/-- a difference's square -/
def sqd (a b : Nat) : Nat := ((a : Int) - (b : Int)).natAbs * ((a : Int) - (b : Int)).natAbs
theorem sqd_int (a b : Nat) : ((a : Int) - (b : Int)) * ((a : Int) - (b : Int)) = (sqd a b : Nat) := by unfold sqd; rw [Int.natCast_mul]; exact (Int.natAbs_mul_self' _).symm
theorem sqd_le {a b : Nat} (ha : a < 256) (hb : b < 256) : sqd a b ≤ 65025 := by unfold sqd; exact Nat.mul_le_mul (show _ ≤ 255 by omega) (show _ ≤ 255 by omega)
theorem sqd_self (a : Nat) : sqd a a = 0 := by simp [sqd]
theorem sqd_comm (a b : Nat) : sqd a b = sqd b a := by unfold sqd; rw [show ((a : Int) - (b : Int)).natAbs = ((b : Int) - (a : Int)).natAbs from by omega]
theorem sqd_zero {a b : Nat} (h : sqd a b = 0) : a = b := by
  unfold sqd at h
  rcases Nat.mul_eq_zero.1 h with h | h <;> omega
/-- how far the first k samples are apart -/
def apS (C D : List Nat) : Nat → Nat
  | 0 => 0
  | k + 1 => apS C D k + sqd (C.getD k 0) (D.getD k 0)
theorem apS_le {C D : List Nat} (hC : Byt C) (hD : Byt D) : ∀ k, apS C D k ≤ k * 65025
  | 0 => by simp [apS]
  | k + 1 => by have := apS_le hC hD k; have := sqd_le (hC k) (hD k); simp only [apS]; omega
theorem apS_comm (C D : List Nat) : ∀ k, apS C D k = apS D C k
  | 0 => rfl
  | k + 1 => by simp only [apS]; rw [apS_comm C D k, sqd_comm]
theorem apS_self (C : List Nat) : ∀ k, apS C C k = 0
  | 0 => rfl
  | k + 1 => by simp only [apS]; rw [apS_self C k, sqd_self]

set_option maxRecDepth 100000 in
set_option maxHeartbeats 2000000 in
theorem apart_ok {u : World} {a b : Option Addr} {c d : Nat} {C D : List Nat} {W H : Int} (hs : Sl u .u8 a C) (hs2 : Sl u .u8 b D) (hp : POk W H C) (hp2 : POk W H D) (hC : Byt C) (hD : Byt D) :
    Calls Try.prog 8 #[.agg #[.int .i64 W, .int .i64 H, .slice a C.length c], .agg #[.int .i64 W, .int .i64 H, .slice b D.length d]] u fun e w' => e = .returned (.tuple #[.int .u64 (apS C D C.length : Nat), .int .i64 0]) ∧ Below u.heap.size u w' := by
  obtain ⟨x, y, rfl, rfl, hx0, hx1, hy0, hy1, hl⟩ := hp.nat
  have hcd : C.length = D.length := by have h1 := hp.len; have h2 := hp2.len; omega
  have hck : ck (x : Int) (y : Int) C = 0 := ck_ok hp
  have hck2 : ck (x : Int) (y : Int) D = 0 := ck_ok hp2
  have hpr := prod_le hx1 hy1
  have h0 : 0 < C.length := by rw [hl]; exact Nat.mul_pos hx0 hy0
  have hn : (C.length : Int) ≤ 262144 := by omega
  obtain ⟨b1, o1, rfl, hbl, hc1⟩ := hs.form h0
  obtain ⟨b2, o2, rfl, hbl2, hc2⟩ := hs2.form (by omega)
  have Q1 : Hid (∀ j, j < C.length → u.cell? ⟨b1, o1 + j, none⟩ = some (.int .u8 (C.getD j 0 : Nat))) := hc1
  have Q2 : Hid (∀ j, j < C.length → u.cell? ⟨b2, o2 + j, none⟩ = some (.int .u8 (D.getD j 0 : Nat))) := fun j hj => hc2 j (by omega)
  have HC : Hid (Byt C) := hC
  have HD : Hid (Byt D) := hD
  have HN : Hid (C.length = D.length) := hcd
  have n1 : ((x : Int) != (x : Int)) = false := by simp
  have n2 : ((y : Int) != (y : Int)) = false := by simp
  clear hs hs2 hp hp2 hl hcd hpr h0 hc1 hc2 hC hD
  go_enter Try.func8, Try.ntmps8
  go_wp2_with fail
  refine check_any.mono ?_
  rintro e w1 ⟨rfl, hb⟩
  rw [hck]
  have d0 : w1.cell? ⟨u.heap.size, 0, none⟩ = some (.int .i64 (x : Int)) := by rw [newCell hb _ _ (by simp; omega)]; simp
  have d1 : w1.cell? ⟨u.heap.size, 1, none⟩ = some (.int .i64 (y : Int)) := by rw [newCell hb _ _ (by simp; omega)]; simp
  have d2 : w1.cell? ⟨u.heap.size, 2, none⟩ = some (.slice (some ⟨b1, o1, none⟩) C.length c) := by rw [newCell hb _ _ (by simp; omega)]; simp
  have d3 : w1.cell? ⟨u.heap.size + 1, 0, none⟩ = some (.int .i64 (x : Int)) := by rw [newCell hb _ _ (by simp)]; simp
  have d4 : w1.cell? ⟨u.heap.size + 1, 1, none⟩ = some (.int .i64 (y : Int)) := by rw [newCell hb _ _ (by simp)]; simp
  have d5 : w1.cell? ⟨u.heap.size + 1, 2, none⟩ = some (.slice (some ⟨b2, o2, none⟩) D.length d) := by rw [newCell hb _ _ (by simp)]; simp
  have hz1 : u.heap.size + 2 ≤ w1.heap.size := by have := hb.size; simp at this; omega
  have HB : Hid (Below u.heap.size u w1) := below_to (to_alloc (from_alloc u _) _) hb
  clear hb hck
  go_wp2_with fail
  refine check_any.mono ?_
  rintro e w2 ⟨rfl, hb⟩
  rw [hck2]
  have c0 : w2.cell? ⟨u.heap.size, 0, none⟩ = some (.int .i64 (x : Int)) := by rw [newCell hb _ _ (by omega)]; exact d0
  have c1 : w2.cell? ⟨u.heap.size, 1, none⟩ = some (.int .i64 (y : Int)) := by rw [newCell hb _ _ (by omega)]; exact d1
  have c2 : w2.cell? ⟨u.heap.size, 2, none⟩ = some (.slice (some ⟨b1, o1, none⟩) C.length c) := by rw [newCell hb _ _ (by omega)]; exact d2
  have c3 : w2.cell? ⟨u.heap.size + 1, 0, none⟩ = some (.int .i64 (x : Int)) := by rw [newCell hb _ _ (by omega)]; exact d3
  have c4 : w2.cell? ⟨u.heap.size + 1, 1, none⟩ = some (.int .i64 (y : Int)) := by rw [newCell hb _ _ (by omega)]; exact d4
  have c5 : w2.cell? ⟨u.heap.size + 1, 2, none⟩ = some (.slice (some ⟨b2, o2, none⟩) D.length d) := by rw [newCell hb _ _ (by omega)]; exact d5
  have HB2 : Hid (Below u.heap.size u w2) := below_to HB.out hb
  have R1 : Hid (∀ j, j < C.length → w2.cell? ⟨b1, o1 + j, none⟩ = some (.int .u8 (C.getD j 0 : Nat))) := fun j hj => by rw [newCell HB2.out _ _ hbl]; exact Q1.out j hj
  have R2 : Hid (∀ j, j < C.length → w2.cell? ⟨b2, o2 + j, none⟩ = some (.int .u8 (D.getD j 0 : Nat))) := fun j hj => by rw [newCell HB2.out _ _ hbl2]; exact Q2.out j hj
  clear hb d0 d1 d2 d3 d4 d5 HB hck2 hz1 Q1 Q2
  go_wp2_with fail
  go_loop [6, 35] (fun s i => ∃ k : Nat, k ≤ C.length ∧ i = .int .i64 k ∧ s = .int .u64 (apS C D k : Nat)) (fun _ i => C.length - (intOf i).toNat)
  case atStart => exact ⟨0, Nat.zero_le _, rfl, rfl⟩
  case round =>
    obtain ⟨k, hk, rfl, rfl⟩ := hrel
    by_cases hlt : k < C.length
    · have r1 := R1.out k hlt
      have r2 := R2.out k hlt
      have b0 : 0 ≤ (k : Int) := by omega
      have b3 : (k : Int) < (C.length : Int) := by omega
      have b4 : (k : Int) < (D.length : Int) := by have := HN.out; omega
      have l1 := HC.out k
      have l2 := HD.out k
      have hle := apS_le HC.out HD.out k
      have HS : Hid (apS C D (k + 1) = apS C D k + sqd (C.getD k 0) (D.getD k 0)) := rfl
      generalize C.getD k 0 = p1 at *
      generalize D.getD k 0 = p2 at *
      have hq := sqd_le l1 l2
      have e1 := sqd_int p1 p2
      generalize sqd p1 p2 = q at *
      generalize apS C D k = s at *
      have p3 : (p1 : Int) ≤ 255 := by omega
      have p4 : (p2 : Int) ≤ 255 := by omega
      have p5 : (q : Int) ≤ 65025 := by omega
      have p6 : (s : Int) ≤ 17046053600 := by omega
      clear hle l1 l2 hq
      go_wp2
      go_round
      case rel => exact ⟨k + 1, by omega, by go_num, by rw [HS.out]; go_num⟩
      case measure => simp [intOf]; omega
    · have hk' : k = C.length := by omega
      subst hk'
      go_wp2
      go_ret2
      exact ⟨rfl, HB2.out⟩

end Go.Proofs.Ytlgfkkegehpllab
