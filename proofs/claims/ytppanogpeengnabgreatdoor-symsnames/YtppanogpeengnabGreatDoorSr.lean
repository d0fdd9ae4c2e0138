/- DERIVED. The walk of may. -/
import Derived.Test.YtppanogpeengnabGreatDoorSq
namespace Go.Proofs.YtppanogpeengnabGreatDoor
open Go.RowKit L3

theorem and_mask (a : Int) (m M : Nat) (hm : m ≤ 62) (hM : M = 2 ^ m) : bits .and .i64 a ((M : Int) - 1) = ((a % (M : Int)).toNat : Int) := by
  have h1 : 2 ^ m ≤ 2 ^ 62 := Nat.pow_le_pow_right (by omega) hm
  have h0 : 0 < 2 ^ m := Nat.pos_of_ne_zero (by simp)
  have hd : (2 : Nat) ^ m ∣ 2 ^ 64 := Nat.pow_dvd_pow 2 (by omega)
  have e : ((BitVec.ofInt 64 a &&& BitVec.ofInt 64 ((M : Int) - 1)).toNat : Int) = ((a % (M : Int)).toNat : Int) := by
    rw [BitVec.toNat_and, BitVec.toNat_ofInt, BitVec.toNat_ofInt]
    rw [show (((M : Int) - 1) % (2 ^ 64 : Nat)).toNat = 2 ^ m - 1 from by rw [Int.emod_eq_of_lt (by omega) (by omega)]; omega, Nat.and_two_pow_sub_one_eq_mod, ← hM]
    have e1 : ((a % ((2 ^ 64 : Nat) : Int)).toNat : Int) = a % ((2 ^ 64 : Nat) : Int) := Int.toNat_of_nonneg (Int.emod_nonneg _ (by omega))
    rw [Int.natCast_emod, e1, Int.emod_emod_of_dvd _ (by rw [hM]; exact Int.natCast_dvd_natCast.2 hd), Int.toNat_of_nonneg (Int.emod_nonneg _ (by omega))]
  show IntKind.i64.wrap ((BitVec.ofInt 64 a &&& BitVec.ofInt 64 ((M : Int) - 1)).toNat : Int) = _
  rw [e, IntKind.wrap_i64]
  have : (a % (M : Int)).toNat < M := by
    have := Int.emod_lt_of_pos a (b := (M : Int)) (by omega)
    omega
  omega

/-- what may makes of numbers -/
def mN (n : Int) : Nat := (n % 16).toNat
def mV (n v : Int) : Nat := (v % ((2 ^ mN n : Nat) : Int)).toNat
def mK (k : Int) : Nat := (k % 32).toNat
def mC (k c : Int) : Nat := (c % 65536).toNat % sC (mK k)
def mW (k v : Int) : Nat := (v % 65536).toNat % sV (mK k)
theorem mN_lt (n : Int) : mN n < 16 := by unfold mN; omega
theorem mK_lt (k : Int) : mK k < 32 := by unfold mK; omega
theorem mV_lt (n v : Int) : mV n v < 2 ^ mN n := by
  unfold mV
  have h0 : 0 < 2 ^ mN n := Nat.pos_of_ne_zero (by simp)
  have := Int.emod_lt_of_pos v (b := ((2 ^ mN n : Nat) : Int)) (by omega)
  have := Int.emod_nonneg v (b := ((2 ^ mN n : Nat) : Int)) (by omega)
  omega
theorem mC_lt (k c : Int) : mC k c < sC (mK k) := Nat.mod_lt _ (sC_le _ (mK_lt k)).1
theorem mW_lt (k v : Int) : mW k v < sV (mK k) := Nat.mod_lt _ (by have := (sV_le _ (mK_lt k)).1; omega)
/-- something to code, as it lies in a value -/
def dov (b : Bool) (n k c v : Int) : Value := .agg #[.bool b, .int .i64 n, .int .i64 k, .int .i64 c, .int .i64 v]

set_option maxRecDepth 100000 in
set_option maxHeartbeats 2000000 in
set_option maxHeartbeats 1000000 in
theorem shape_dr {w : World} {k : Nat} (h : Sh w) (hk : k < 32) :
    Calls Tryz.prog 10 #[.int .i64 k] w fun e w' => e = .returned (.tuple #[.int .i64 (sC k : Nat), .int .i64 (sV k : Nat), .int .i64 0]) ∧ ∃ m, w' = w.drewN m := by
  have c0 := h.c k hk
  have c1 := h.v k hk
  have b0 : 0 ≤ (k : Int) := by omega
  have b1 : (k : Int) < 32 := by omega
  generalize sC k = C at *
  generalize sV k = V at *
  clear h
  go_enter Tryz.func10, Tryz.ntmps10
  go_wp2_with fail
  go_quiet (fail)
  go_wp2_with fail
  exact bodyPost_ret (v := .tuple #[.int .i64 (C : Nat), .int .i64 (V : Nat), .int .i64 0]) (by simp [results, Tryz.results10, go_sem]) rfl ⟨rfl, _, rfl⟩


end Go.Proofs.YtppanogpeengnabGreatDoor
