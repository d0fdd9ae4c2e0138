/- DERIVED. The walks of the document's own writer: Write, Fixed, Signed, Uvlc, Leb, Align. -/
import Derived.Test.YtiheldakkpbkgaaRwA
namespace Go.Proofs.Ytiheldakkpbkgaa
open Go.RowKit

set_option maxHeartbeats 400000 in
theorem write_wf (w : World) :
    Calls Try.prog 21 #[] w fun e w' => e = .returned (.pointer (some ⟨w.heap.size, 0, none⟩)) ∧ Wf w' w.heap.size w.heap.size (.slice none 0 0) [] 0 0 ∧ Below w.heap.size w w' := by
  go_enter Try.func21, Try.ntmps21
  go_wp2
  go_ret
  exact ⟨rfl, ⟨by simp, World.ownsRow_nil _ _ _ _, by simp [Value.ownBlock], by simp, by simp, ⟨rfl, by simp, rfl⟩⟩, (Below.refl _ _).alloc (Nat.le_refl _) _⟩

theorem two_pow_wrap (m : Nat) (hm : m ≤ 62) : IntKind.u64.wrap (2 ^ m) = ((2 ^ m : Nat) : Int) := by
  have h : (2 : Nat) ^ m ≤ 2 ^ 62 := Nat.pow_le_pow_right (by omega) hm
  rw [IntKind.wrap_u64]
  have e : (2 : Int) ^ m = ((2 ^ m : Nat) : Int) := by simp
  rw [e]
  have h0 := Nat.two_pow_pos m
  generalize (2 : Nat) ^ m = y at *
  omega
theorem div_pow_zero (v m : Nat) : v / 2 ^ m = 0 ↔ v < 2 ^ m := by
  constructor
  · intro h; rcases Nat.div_eq_zero_iff.1 h with e | e
    · have := Nat.two_pow_pos m; omega
    · exact e
  · exact Nat.div_eq_of_lt

set_option maxHeartbeats 1000000 in
theorem fixed_wf {w : World} {B x : Nat} {d : Value} {l : List Nat} {t V : Nat} (h : Wf w B x d l t V) (ht : t ≤ 1099511627776) (v : Nat) (n : Int) (hv : v < 4294967296) :
    Calls Try.prog 24 #[.pointer (some ⟨x, 0, none⟩), .int .u32 v, .int .i64 n] w fun e w' => e = .returned (.int .i64 (wFixed t V v n).1) ∧ WfK w w' B x d (wFixed t V v n).2.1 (wFixed t V v n).2.2 := by
  by_cases h1 : n < 0 ∨ 32 < n
  · rw [show wFixed t V v n = (2, t, V) from if_pos (by omega)]
    by_cases h2 : n < 0
    all_goals
      go_enter Try.func24, Try.ntmps24
      go_wp2_with fail
      go_ret
      exact ⟨rfl, d, l, h, Kw.refl _ _ _⟩
  · have h3 : 0 ≤ n := by omega
    have h4 : n ≤ 32 := by omega
    obtain ⟨m, rfl⟩ := Int.eq_ofNat_of_zero_le h3
    have ew := two_pow_wrap m (by omega)
    by_cases h5 : v / 2 ^ m = 0
    · rw [show wFixed t V v m = (0, t + m, V * 2 ^ m + v) from if_neg (fun hh => by rcases hh with hh | hh | hh; omega; omega; exact hh h5)]
      have hlt : v < 2 ^ m := (div_pow_zero v m).1 h5
      have hb : (v : Int) < IntKind.u64.wrap (2 ^ m) := by rw [ew]; omega
      clear ew h5
      go_enter Try.func24, Try.ntmps24
      go_wp2_with fail
      refine (put_wf B x d l t V v m _ h (by omega) hlt (by omega) ht).mono ?_; rintro e w2 ⟨rfl, hk2⟩
      go_wp2_with fail
      go_ret
      exact ⟨rfl, hk2⟩
    · rw [show wFixed t V v m = (2, t, V) from if_pos (Or.inr (Or.inr h5))]
      have hb : IntKind.u64.wrap (2 ^ m) ≤ (v : Int) := by rw [ew]; have := mt (div_pow_zero v m).2 h5; omega
      clear ew h5
      go_enter Try.func24, Try.ntmps24
      go_wp2_with fail
      go_ret
      exact ⟨rfl, d, l, h, Kw.refl _ _ _⟩

theorem pow_wrap64 (m : Nat) (hm : m ≤ 62) : wrap64 (2 ^ m) = ((2 ^ m : Nat) : Int) := by
  have h : (2 : Nat) ^ m ≤ 2 ^ 62 := Nat.pow_le_pow_right (by omega) hm
  have e : (2 : Int) ^ m = ((2 ^ m : Nat) : Int) := by simp
  rw [e]
  have h0 := Nat.two_pow_pos m
  generalize (2 : Nat) ^ m = y at *
  unfold wrap64
  omega
theorem pow_test (m u : Nat) (hm : m ≤ 62) (h : u < 2 ^ m) : decide (wrap64 (2 ^ m) ≤ (u : Int)) = false := by
  rw [pow_wrap64 m hm]; simp; exact_mod_cast h
theorem pow_testT (m u : Nat) (hm : m ≤ 62) (h : 2 ^ m ≤ u) : decide (wrap64 (2 ^ m) ≤ (u : Int)) = true := by
  rw [pow_wrap64 m hm]; simp; exact_mod_cast h

set_option maxHeartbeats 1000000 in
theorem signed_wf {w : World} {B x : Nat} {d : Value} {l : List Nat} {t V : Nat} (h : Wf w B x d l t V) (ht : t ≤ 1099511627775) (v : Int) (n : Int) (hv1 : -2147483648 ≤ v) (hv2 : v ≤ 2147483647) :
    Calls Try.prog 25 #[.pointer (some ⟨x, 0, none⟩), .int .i32 v, .int .i64 n] w fun e w' => e = .returned (.int .i64 (wSigned t V v n).1) ∧ WfK w w' B x d (wSigned t V v n).2.1 (wSigned t V v n).2.2 := by
  by_cases h1 : n < 1 ∨ 31 < n
  · rw [show wSigned t V v n = (2, t, V) from if_pos (by omega)]
    by_cases hneg : v < 0
    all_goals
      by_cases h2 : n < 1
      all_goals
        go_enter Try.func25, Try.ntmps25
        go_wp2_with fail
        go_ret
        exact ⟨rfl, d, l, h, Kw.refl _ _ _⟩
  · have h3 : 0 ≤ n := by omega
    have h4 : n ≤ 31 := by omega
    have h41 : 1 ≤ n := by omega
    obtain ⟨m, rfl⟩ := Int.eq_ofNat_of_zero_le h3
    by_cases h5 : v.natAbs / 2 ^ m = 0
    · have hlt : v.natAbs < 2 ^ m := (div_pow_zero _ m).1 h5
      rw [show wSigned t V v m = (0, t + 1 + m, (V * 2 ^ 1 + if v < 0 then 1 else 0) * 2 ^ m + v.natAbs) from if_neg (fun hh => by rcases hh with hh | hh | hh; omega; omega; exact hh h5)]
      by_cases hneg : v < 0
      · rw [if_pos hneg]
        obtain ⟨u, hu⟩ : ∃ u : Nat, v = -(u : Int) := ⟨v.natAbs, by omega⟩
        subst hu
        rw [show (-(u : Int)).natAbs = u from by omega] at *
        have hb : decide (wrap64 (2 ^ m) ≤ (u : Int)) = false := pow_test m u (by omega) hlt
        clear h5
        go_enter Try.func25, Try.ntmps25
        go_wp2_with fail
        refine (put_wf B x d l t V 1 1 _ h (by omega) (by omega) (by omega) (by omega)).mono ?_; rintro e w2 ⟨rfl, d2, l2, hw2, hk2⟩
        go_wp2_with fail
        refine (put_wf B x d2 l2 (t + 1) _ u m _ hw2 (by omega) hlt (by omega) (by omega)).mono ?_; rintro e w3 ⟨rfl, d3, l3, hw3, hk3⟩
        go_wp2_with fail
        go_ret
        exact ⟨rfl, d3, l3, hw3, hk2.trans hk3⟩
      · rw [if_neg hneg]
        obtain ⟨u, hu⟩ : ∃ u : Nat, v = (u : Int) := ⟨v.natAbs, by omega⟩
        subst hu
        rw [show ((u : Int)).natAbs = u from by omega] at *
        have hb : decide (wrap64 (2 ^ m) ≤ (u : Int)) = false := pow_test m u (by omega) hlt
        clear h5
        go_enter Try.func25, Try.ntmps25
        go_wp2_with fail
        refine (put_wf B x d l t V 0 1 _ h (by omega) (by omega) (by omega) (by omega)).mono ?_; rintro e w2 ⟨rfl, d2, l2, hw2, hk2⟩
        go_wp2_with fail
        refine (put_wf B x d2 l2 (t + 1) _ u m _ hw2 (by omega) hlt (by omega) (by omega)).mono ?_; rintro e w3 ⟨rfl, d3, l3, hw3, hk3⟩
        go_wp2_with fail
        go_ret
        exact ⟨rfl, d3, l3, hw3, hk2.trans hk3⟩
    · rw [show wSigned t V v m = (2, t, V) from if_pos (Or.inr (Or.inr h5))]
      by_cases hneg : v < 0
      · obtain ⟨u, hu⟩ : ∃ u : Nat, v = -(u : Int) := ⟨v.natAbs, by omega⟩
        subst hu
        rw [show (-(u : Int)).natAbs = u from by omega] at *
        have hb : decide (wrap64 (2 ^ m) ≤ (u : Int)) = true := pow_testT m u (by omega) (Nat.not_lt.1 (mt (div_pow_zero u m).2 h5))
        clear h5
        go_enter Try.func25, Try.ntmps25
        go_wp2_with fail
        go_ret
        exact ⟨rfl, d, l, h, Kw.refl _ _ _⟩
      · obtain ⟨u, hu⟩ : ∃ u : Nat, v = (u : Int) := ⟨v.natAbs, by omega⟩
        subst hu
        rw [show ((u : Int)).natAbs = u from by omega] at *
        have hb : decide (wrap64 (2 ^ m) ≤ (u : Int)) = true := pow_testT m u (by omega) (Nat.not_lt.1 (mt (div_pow_zero u m).2 h5))
        clear h5
        go_enter Try.func25, Try.ntmps25
        go_wp2_with fail
        go_ret
        exact ⟨rfl, d, l, h, Kw.refl _ _ _⟩

end Go.Proofs.Ytiheldakkpbkgaa
