/- DERIVED. A coder that writes: Bits. -/
import Derived.Test.YtppanogpeengnabGreatDoorSj
namespace Go.Proofs.YtppanogpeengnabGreatDoor
open Go.RowKit L3
variable {Z : Nat → Option Obj}

theorem and_one (a : Nat) (_h : a < 4294967296) : bits .and .i64 (a : Int) 1 = ((a % 2 : Nat) : Int) := by
  unfold bits
  simp only []
  have e : ((BitVec.ofInt 64 (a : Int) &&& BitVec.ofInt 64 1).toNat : Int) = ((a % 2 : Nat) : Int) := by
    rw [BitVec.toNat_and, BitVec.toNat_ofInt, BitVec.toNat_ofInt]
    rw [show ((1 : Int) % (2 ^ 64 : Nat)).toNat = 2 ^ 1 - 1 from by decide, Nat.and_two_pow_sub_one_eq_mod]
    omega
  show IntKind.i64.wrap ((BitVec.ofInt 64 (a : Int) &&& BitVec.ofInt 64 1).toNat : Int) = _
  rw [e, IntKind.wrap_i64]; omega
theorem or_bit (a b : Nat) (h : a < 4294967296) (hb : b < 2) : bits .or .i64 ((2 * a : Nat) : Int) (b : Int) = ((2 * a + b : Nat) : Int) := by
  unfold bits
  simp only []
  have e : ((BitVec.ofInt 64 ((2 * a : Nat) : Int) ||| BitVec.ofInt 64 (b : Int)).toNat : Int) = ((2 * a + b : Nat) : Int) := by
    rw [BitVec.toNat_or, BitVec.toNat_ofInt, BitVec.toNat_ofInt]
    rw [show (((2 * a : Nat) : Int) % (2 ^ 64 : Nat)).toNat = 2 ^ 1 * a from by omega, show (((b : Nat) : Int) % (2 ^ 64 : Nat)).toNat = b from by omega]
    rw [← Nat.two_pow_add_eq_or_of_lt (by omega)]
  show IntKind.i64.wrap ((BitVec.ofInt 64 ((2 * a : Nat) : Int) ||| BitVec.ofInt 64 (b : Int)).toNat : Int) = _
  rw [e, IntKind.wrap_i64]; omega

/-- the bit that comes at place i of n -/
def bitA (v n i : Nat) : Nat := v / 2 ^ (n - 1 - i) % 2
theorem bitA_lt (v n i : Nat) : bitA v n i < 2 := Nat.mod_lt _ (by omega)
/-- the state behind i bits -/
def eBs (T g k v n : Nat) : Nat → Nat × Nat × Nat
  | 0 => (T, g, k)
  | i + 1 => L2.ePut (eBs T g k v n i).1 (eBs T g k v n i).2.1 (eBs T g k v n i).2.2 (16384 * bitA v n i) (16384 * bitA v n i + 16384)
theorem eBs_succ (T g k v n i pa pe : Nat) (ha : pa = 16384 * bitA v n i) (he : pe = pa + 16384) : eBs T g k v n (i + 1) = L2.ePut (eBs T g k v n i).1 (eBs T g k v n i).2.1 (eBs T g k v n i).2.2 pa pe := by rw [he, ha, eBs]
theorem eBs_zero (T g k v n : Nat) : eBs T g k v n 0 = (T, g, k) := by rw [eBs]
theorem eBs_ok {T g k : Nat} (h : L2.Ev T g k) (v n : Nat) (i : Nat) : L2.Ev (eBs T g k v n i).1 (eBs T g k v n i).2.1 (eBs T g k v n i).2.2 ∧ (eBs T g k v n i).2.2 ≤ k + 2 * i := by
  induction i with
  | zero => rw [eBs_zero]; exact ⟨h, by simp⟩
  | succ i ih =>
    obtain ⟨h1, h2⟩ := ih
    have hb := bitA_lt v n i
    obtain ⟨pa, ha⟩ : ∃ pa, pa = 16384 * bitA v n i := ⟨_, rfl⟩
    obtain ⟨pe, he⟩ : ∃ pe, pe = pa + 16384 := ⟨_, rfl⟩
    rw [eBs_succ T g k v n i pa pe ha he]
    obtain ⟨h3, _, h5⟩ := L2.ePut_ok h1 (lo := pa) (hi := pe) (by omega) (by omega)
    exact ⟨h3, by omega⟩
theorem half_step (v n i : Nat) (h : i < n) : v / 2 ^ (n - (i + 1)) = 2 * (v / 2 ^ (n - i)) + bitA v n i := by
  unfold bitA
  rw [show n - 1 - i = n - (i + 1) from by omega, show n - i = (n - (i + 1)) + 1 from by omega, Nat.pow_succ, ← Nat.div_div_eq_div_mul]
  omega

structure BtI (Z : Nat → Option Obj) (w : World) (lo x bt : Nat) (K : List (Nat × List Tb)) (ad : Bool) (cn : Int) (xe : Nat) (T g k v n : Nat) (s i : Value) (wr : World) : Prop where
  ex : ∃ (j : Nat) (d' : Value), j ≤ n ∧ i = .int .i64 j ∧ s = .int .i64 ((v / 2 ^ (n - j) : Nat) : Int) ∧ CW Z wr lo x bt K ad cn xe d' (eBs T g k v n j).1 (eBs T g k v n j).2.1 (eBs T g k v n j).2.2 ∧ Below lo w wr
def BitW (Z : Nat → Option Obj) (w w' : World) (lo x bt : Nat) (K : List (Nat × List Tb)) (ad : Bool) (cn : Int) (xe : Nat) (T g k v n : Nat) : Prop :=
  ∃ d', CW Z w' lo x bt K ad (cn + n) xe d' (eBs T g k v n n).1 (eBs T g k v n n).2.1 (eBs T g k v n n).2.2 ∧ Below lo w w'

set_option maxRecDepth 100000 in
set_option maxHeartbeats 2000000 in
theorem bits_w {w : World} {lo x bt : Nat} {K : List (Nat × List Tb)} {ad : Bool} {cn : Int} {xe : Nat} {d : Value} {T g k : Nat} (h : CW Z w lo x bt K ad cn xe d T g k) (hkb : k ≤ 1099511625000) (hn0 : 0 ≤ cn) (hn1 : cn ≤ 1152921504606846976) {v n P : Nat} (hn : n ≤ 30) (hP : P = 2 ^ n) (hv : v < P) :
    Calls Tryz.prog 5 #[.pointer (some ⟨x, 0, none⟩), .int .i64 n, .int .i64 v] w fun e w' => e = .returned (.tuple #[.int .i64 v, .int .i64 0]) ∧ BitW Z w w' lo x bt K ad cn xe T g k v n := by
  have HCW : Hid (CW Z w lo x bt K ad cn xe d T g k) := h
  have q0 := h.co.o
  have HEv : Hid (L2.Ev T g k) := h.ev
  have hp30 : P ≤ 2 ^ 30 := by rw [hP]; exact Nat.pow_le_pow_right (by omega) hn
  have hP1 : (1 : Int) * 2 ^ n = (P : Int) := by rw [hP]; simp
  have HP : Hid (P = 2 ^ n) := hP
  have b0 : ¬ (n : Int) < 0 := by omega
  have b1 : ¬ (30 : Int) < (n : Int) := by omega
  have b2 : ¬ (v : Int) < 0 := by omega
  have b3 : ¬ (P : Int) ≤ (v : Int) := by omega
  have b4 : (n : Int) ≤ 30 := by omega
  have b7 : ¬ P ≤ v := by omega
  have b5 : (P : Int) ≤ 1073741824 := by omega
  have b6 : (0 : Int) ≤ (P : Int) := by omega
  have HV : Hid (v < 1073741824) := by show _ < _; omega
  have HVn : Hid (v < 2 ^ n) := by show _ < _; rw [← hP]; exact hv
  have HN : Hid (n ≤ 30) := hn
  clear h hp30 hP hv hn
  go_enter Tryz.func5, Tryz.ntmps5
  go_wp2_with fail
  refine (none_w q0).mono ?_
  rintro e w1 ⟨rfl, rfl⟩
  go_wp2_with fail
  refine (writes_w q0).mono ?_
  rintro e w2 ⟨rfl, rfl⟩
  go_wp2_with fail
  go_loopw [8, 33] (fun s i wr => BtI Z w2 lo x bt K ad cn xe T g k v n s i wr) (fun _ i _ => n - (intOf i).toNat)
  case atStart =>
    refine ⟨⟨0, d, by omega, rfl, ?_, by rw [eBs_zero]; exact HCW.out, Below.refl _ _⟩⟩
    rw [Nat.sub_zero, Nat.div_eq_of_lt HVn.out]; rfl
  case round =>
    obtain ⟨j, d', hj, rfl, rfl, hc, hb⟩ := hrel
    have j0 : (0 : Int) ≤ (j : Int) := by omega
    by_cases hlt : j < n
    · have j1 : (j : Int) < (n : Int) := by omega
      have HC : Hid (CW Z wr lo x bt K ad cn xe d' (eBs T g k v n j).1 (eBs T g k v n j).2.1 (eBs T g k v n j).2.2) := hc
      have HB : Hid (Below lo w2 wr) := hb
      have HJ : Hid (j < n) := hlt
      obtain ⟨m, hm⟩ : ∃ m, m = n - 1 - j := ⟨_, rfl⟩
      have e1 : (n : Int) - 1 - (j : Int) = (m : Int) := by omega
      have m0 : (0 : Int) ≤ (m : Int) := by omega
      have m1 : (m : Int) < 64 := by omega
      have e2 : (v : Int) / 2 ^ m = ((v / 2 ^ m : Nat) : Int) := by simp
      have hvm : v / 2 ^ m ≤ v := Nat.div_le_self _ _
      have e3 := and_one (v / 2 ^ m) (by have := HV.out; omega)
      have hbit : v / 2 ^ m % 2 = bitA v n j := by rw [hm]; rfl
      rw [hbit] at e3
      have hhalf := half_step v n j hlt
      have hnm : v / 2 ^ (n - j) ≤ v := Nat.div_le_self _ _
      have e4 := or_bit (v / 2 ^ (n - j)) (bitA v n j) (by have := HV.out; omega) (bitA_lt v n j)
      rw [← hhalf] at e4
      have e5 : ((v / 2 ^ (n - j) : Nat) : Int) * 2 = ((2 * (v / 2 ^ (n - j)) : Nat) : Int) := by omega
      have n0 : (0 : Int) ≤ ((v / 2 ^ (n - j) : Nat) : Int) := by omega
      have n1 : ((v / 2 ^ (n - j) : Nat) : Int) ≤ 1073741824 := by have := HV.out; omega
      have n2 : ((2 * (v / 2 ^ (n - j)) : Nat) : Int) ≤ 2147483648 := by have := HV.out; omega
      have n3 : (0 : Int) ≤ ((2 * (v / 2 ^ (n - j)) : Nat) : Int) := by omega
      obtain ⟨pa, ha⟩ : ∃ pa, pa = 16384 * bitA v n j := ⟨_, rfl⟩
      obtain ⟨pe, he⟩ : ∃ pe, pe = pa + 16384 := ⟨_, rfl⟩
      have HSt : Hid (eBs T g k v n (j + 1) = L2.ePut (eBs T g k v n j).1 (eBs T g k v n j).2.1 (eBs T g k v n j).2.2 pa pe) := eBs_succ T g k v n j pa pe ha he
      have HCall : Hid (Calls Tryz.prog 21 #[.pointer (some ⟨x, 0, none⟩), .int .i64 (bitA v n j : Nat)] wr fun e w' => e = .returned (.int .i64 (bitA v n j : Nat)) ∧ NarW Z wr w' lo x bt K ad cn xe (eBs T g k v n j).1 (eBs T g k v n j).2.1 (eBs T g k v n j).2.2 pa pe) := bit_w hc (by have := (eBs_ok HEv.out v n j).2; have := HN.out; omega) (bitA_lt v n j) ha he
      generalize bitA v n j = bb at *
      generalize hq2 : 2 * (v / 2 ^ (n - j)) = q2 at *
      generalize hq1 : v / 2 ^ (n - j) = q1 at *
      generalize hq3 : v / 2 ^ (n - (j + 1)) = q3 at *
      have HQ3 : Hid (v / 2 ^ (n - (j + 1)) = q3) := hq3
      generalize v / 2 ^ m = vm at *
      clear hc hb hlt hj hm hbit hhalf hnm hvm ha he hq1 hq2 hq3
      go_wp2_with fail
      refine HCall.out.mono ?_
      rintro e w3 ⟨rfl, d3, hc3, hb3⟩
      have HC3 : Hid (CW Z w3 lo x bt K ad cn xe d3 (eBs T g k v n (j + 1)).1 (eBs T g k v n (j + 1)).2.1 (eBs T g k v n (j + 1)).2.2) := by show CW Z _ _ _ _ _ _ _ _ _ _ _ _; rw [HSt.out]; exact hc3
      have HB3 : Hid (Below lo w2 w3) := HB.out.trans hb3
      clear hc3 hb3
      go_wp2_with fail
      have hlt := HJ.out
      go_roundw
      case rel => exact ⟨⟨j + 1, d3, by omega, by go_num, by rw [HQ3.out], HC3.out, HB3.out⟩⟩
      case measure => simp [intOf]; omega
    · obtain rfl : j = n := by omega
      have HC : Hid (CW Z wr lo x bt K ad cn xe d' (eBs T g k v j j).1 (eBs T g k v j j).2.1 (eBs T g k v j j).2.2) := hc
      have HF : Hid (BitW Z w2 (wr.setCell ⟨x, 4, none⟩ (.int .i64 (cn + (j : Int)))) lo x bt K ad cn xe T g k v j) := ⟨d', hc.count, below_set hb hc.co.xlo _⟩
      have q4 := hc.co.c
      have q5 := hc.co.th
      have e0 : v / 2 ^ (j - j) = v := by rw [Nat.sub_self, Nat.pow_zero, Nat.div_one]
      rw [e0]
      clear hc hb e0
      go_wp2_with fail
      refine bodyPost_ret (v := .tuple #[.int .i64 v, .int .i64 0]) (by simp [results, Tryz.results5, go_sem]) rfl ⟨rfl, ?_⟩
      exact HF.out

end Go.Proofs.YtppanogpeengnabGreatDoor
