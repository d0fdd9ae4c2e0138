/- DERIVED. The walk of may. -/
import Derived.Test.YtppanogpeengnaaDoorSq
namespace Go.Proofs.YtppanogpeengnaaDoor
open Go.RowKit L3

theorem and_mask (a : Int) (m M : Nat) (hm : m ≤ 62) (hM : M = 2 ^ m) : bits .and .i64 a ((M : Int) - 1) = ((a % (M : Int)).toNat : Int) := by
  have h1 : 2 ^ m ≤ 2 ^ 62 := Nat.pow_le_pow_right (by omega) hm
  have h0 : 0 < 2 ^ m := Nat.pos_of_ne_zero (by simp)
  have hd : (2 : Nat) ^ m ∣ 2 ^ 64 := Nat.pow_dvd_pow 2 (by omega)
  have e : ((BitVec.ofInt 64 a &&& BitVec.ofInt 64 ((M : Int) - 1)).toNat : Int) = ((a % (M : Int)).toNat : Int) := by
    rw [BitVec.toNat_and, BitVec.toNat_ofInt, BitVec.toNat_ofInt]
    rw [show (((M : Int) - 1) % (2 ^ 64 : Nat)).toNat = 2 ^ m - 1 from by rw [Int.emod_eq_of_lt (by omega) (by omega)]; omega, Nat.and_two_pow_sub_one_eq_mod, ← hM]
    have e1 : ((a % ((2 ^ 64 : Nat) : Int)).toNat : Int) = a % ((2 ^ 64 : Nat) : Int) := Int.toNat_of_nonneg (Int.emod_nonneg _ (by omega))
    rw [Int.natCast_emod, e1, Int.emod_emod_of_dvd _ (by rw [hM]; exact Int.natCast_dvd_natCast.2 hd), Int.toNat_of_nonneg (Int.emod_nonneg _ (by omega))]
  show IntKind.i64.wrap ((BitVec.ofInt 64 a &&& BitVec.ofInt 64 ((M : Int) - 1)).toNat : Int) = _
  rw [e, IntKind.wrap_i64]
  have : (a % (M : Int)).toNat < M := by
    have := Int.emod_lt_of_pos a (b := (M : Int)) (by omega)
    omega
  omega

/-- what may makes of numbers -/
def mN (n : Int) : Nat := (n % 16).toNat
def mV (n v : Int) : Nat := (v % ((2 ^ mN n : Nat) : Int)).toNat
def mK (k : Int) : Nat := (k % 32).toNat
def mC (k c : Int) : Nat := (c % 65536).toNat % sC (mK k)
def mW (k v : Int) : Nat := (v % 65536).toNat % sV (mK k)
theorem mN_lt (n : Int) : mN n < 16 := by unfold mN; omega
theorem mK_lt (k : Int) : mK k < 32 := by unfold mK; omega
theorem mV_lt (n v : Int) : mV n v < 2 ^ mN n := by
  unfold mV
  have h0 : 0 < 2 ^ mN n := Nat.pos_of_ne_zero (by simp)
  have := Int.emod_lt_of_pos v (b := ((2 ^ mN n : Nat) : Int)) (by omega)
  have := Int.emod_nonneg v (b := ((2 ^ mN n : Nat) : Int)) (by omega)
  omega
theorem mC_lt (k c : Int) : mC k c < sC (mK k) := Nat.mod_lt _ (sC_le _ (mK_lt k)).1
theorem mW_lt (k v : Int) : mW k v < sV (mK k) := Nat.mod_lt _ (by have := (sV_le _ (mK_lt k)).1; omega)
/-- something to code, as it lies in a value -/
def dov (b : Bool) (n k c v : Int) : Value := .agg #[.bool b, .int .i64 n, .int .i64 k, .int .i64 c, .int .i64 v]

set_option maxRecDepth 100000 in
set_option maxHeartbeats 2000000 in
theorem may_b {w : World} {n k c v : Int} : Calls Tryd.prog 33 #[dov true n k c v] w fun e w' => e = .returned (dov true (mN n) k c (mV n v)) ∧ Below w.heap.size w w' := by
  have a0 : bits .and .i64 n 15 = ((mN n : Nat) : Int) := and_mask n 4 16 (by omega) rfl
  have a1 : bits .and .i64 v (((2 ^ mN n : Nat) : Int) - 1) = ((mV n v : Nat) : Int) := and_mask v (mN n) _ (by have := mN_lt n; omega) rfl
  have a2 := mN_lt n
  have a3 : (1 : Int) * 2 ^ mN n = ((2 ^ mN n : Nat) : Int) := by simp
  have a4 : 2 ^ mN n ≤ 2 ^ 15 := Nat.pow_le_pow_right (by omega) (by omega)
  have a5 : (0 : Int) ≤ (mN n : Nat) := by omega
  have a6 : ((mN n : Nat) : Int) < 64 := by omega
  have a7 : ((2 ^ mN n : Nat) : Int) ≤ 32768 := by omega
  have a8 : (0 : Int) ≤ ((2 ^ mN n : Nat) : Int) := Int.natCast_nonneg _
  generalize mV n v = V at *
  generalize mN n = N at *
  generalize 2 ^ N = P at *
  clear a4
  unfold dov
  go_enter Tryd.func33, Tryd.ntmps33
  go_wp2_with fail
  go_region
  go_wp2_with fail
  exact bodyPost_ret (v := .agg #[.bool true, .int .i64 N, .int .i64 k, .int .i64 c, .int .i64 V]) (by simp [results, Tryd.results33, go_sem]) rfl ⟨rfl, below_drew (to_alloc (from_alloc _ _) _)⟩

set_option maxHeartbeats 1000000 in
theorem shape_dr {w : World} {k : Nat} (h : Sh w) (hk : k < 32) :
    Calls Tryd.prog 38 #[.int .i64 k] w fun e w' => e = .returned (.tuple #[.int .i64 (sC k : Nat), .int .i64 (sV k : Nat), .int .i64 0]) ∧ ∃ m, w' = w.drewN m := by
  have c0 := h.c k hk
  have c1 := h.v k hk
  have b0 : 0 ≤ (k : Int) := by omega
  have b1 : (k : Int) < 32 := by omega
  generalize sC k = C at *
  generalize sV k = V at *
  clear h
  go_enter Tryd.func38, Tryd.ntmps38
  go_wp2_with fail
  go_quiet (fail)
  go_wp2_with fail
  exact bodyPost_ret (v := .tuple #[.int .i64 (C : Nat), .int .i64 (V : Nat), .int .i64 0]) (by simp [results, Tryd.results38, go_sem]) rfl ⟨rfl, _, rfl⟩

set_option maxRecDepth 100000 in
set_option maxHeartbeats 2000000 in
theorem may_s {w : World} {n k c v : Int} (hsh : Sh w) : Calls Tryd.prog 33 #[dov false n k c v] w fun e w' => e = .returned (dov false n (mK k) (mC k c) (mW k v)) ∧ Below w.heap.size w w' := by
  have a0 : bits .and .i64 k 31 = ((mK k : Nat) : Int) := and_mask k 5 32 (by omega) rfl
  have a1 : bits .and .i64 c 65535 = (((c % 65536).toNat : Nat) : Int) := and_mask c 16 65536 (by omega) rfl
  have a2 : bits .and .i64 v 65535 = (((v % 65536).toNat : Nat) : Int) := and_mask v 16 65536 (by omega) rfl
  obtain ⟨s1, s2⟩ := sC_le _ (mK_lt k)
  obtain ⟨s3, s4⟩ := sV_le _ (mK_lt k)
  have m1 : (((c % 65536).toNat : Nat) : Int).tmod ((sC (mK k) : Nat) : Int) = ((mC k c : Nat) : Int) := rfl
  have m2 : (((v % 65536).toNat : Nat) : Int).tmod ((sV (mK k) : Nat) : Int) = ((mW k v : Nat) : Int) := rfl
  have l1 := mC_lt k c
  have l2 := mW_lt k v
  have HSP : Hid (∀ u, Below w.heap.size w u → Calls Tryd.prog 38 #[.int .i64 (mK k : Nat)] u fun e w' => e = .returned (.tuple #[.int .i64 (sC (mK k) : Nat), .int .i64 (sV (mK k) : Nat), .int .i64 0]) ∧ ∃ m, w' = u.drewN m) := fun u hu => shape_dr (hsh.to hu) (mK_lt k)
  have h1 : (c % 65536).toNat < 65536 := by omega
  have h2 : (v % 65536).toNat < 65536 := by omega
  generalize (c % 65536).toNat = c1 at *
  generalize (v % 65536).toNat = v1 at *
  generalize mC k c = c2 at *
  generalize mW k v = v2 at *
  generalize sC (mK k) = SC at *
  generalize sV (mK k) = SV at *
  generalize mK k = kk at *
  have p1 : ¬ (SC : Int) < 1 := by omega
  have p2 : ¬ (SV : Int) < 1 := by omega
  have p3 : ¬ (SC : Int) = 0 := by omega
  have p4 : ¬ (SV : Int) = 0 := by omega
  unfold dov
  go_enter Tryd.func33, Tryd.ntmps33
  go_wp2_with fail
  refine (HSP.out _ (to_alloc (from_alloc _ _) _)).mono ?_
  rintro e w1 ⟨rfl, m, rfl⟩
  go_wp2_with fail
  refine bodyPost_ret (v := .agg #[.bool false, .int .i64 n, .int .i64 kk, .int .i64 c2, .int .i64 v2]) (by simp [results, Tryd.results33, go_sem]) rfl ⟨rfl, ?_⟩
  refine below_set (below_set (below_set (below_set (below_set (below_set (below_set (below_drewN (to_alloc (from_alloc _ _) _) m) ?_ _) ?_ _) ?_ _) ?_ _) ?_ _) ?_ _) ?_ _ <;> first | exact Nat.le_refl _ | exact Nat.le_succ _
end Go.Proofs.YtppanogpeengnaaDoor
