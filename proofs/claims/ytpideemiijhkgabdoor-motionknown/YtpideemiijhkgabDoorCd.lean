/- DERIVED. The walk of the program's Fetch. -/
import Derived.Test.YtpideemiijhkgabDoorCc
namespace Go.Proofs.YtpideemiijhkgabDoor
open Go.RowKit

theorem and15 (j : Int) : bits .and .i64 j 15 = j % 16 := by
  unfold bits
  simp only []
  have e : ((BitVec.ofInt 64 j &&& BitVec.ofInt 64 15).toNat : Int) = j % 16 := by
    rw [BitVec.toNat_and, BitVec.toNat_ofInt, BitVec.toNat_ofInt]
    rw [show ((15 : Int) % (2 ^ 64 : Nat)).toNat = 2 ^ 4 - 1 from by decide, Nat.and_two_pow_sub_one_eq_mod]
    omega
  show IntKind.i64.wrap ((BitVec.ofInt 64 j &&& BitVec.ofInt 64 15).toNat : Int) = _
  rw [e]
  rw [IntKind.wrap_i64]; omega

set_option maxRecDepth 100000 in
set_option maxHeartbeats 1000000 in
theorem isPlace_any {w : World} {z : Int} : Calls Tryd.prog 33 #[.int .i64 z] w fun e w' => e = .returned (.bool (decide (-1048576 ≤ z ∧ z ≤ 1048576))) ∧ w = w' := by
  by_cases h0 : -1048576 ≤ z
  · by_cases h1 : z ≤ 1048576
    · rw [decide_eq_true (show -1048576 ≤ z ∧ z ≤ 1048576 from ⟨h0, h1⟩)]
      go_enter Tryd.func33, Tryd.ntmps33
      go_wp2
      go_ret
      exact ⟨rfl, rfl⟩
    · rw [decide_eq_false (show ¬ (-1048576 ≤ z ∧ z ≤ 1048576) from fun k => h1 k.2)]
      go_enter Tryd.func33, Tryd.ntmps33
      go_wp2
      go_ret
      exact ⟨rfl, rfl⟩
  · rw [decide_eq_false (show ¬ (-1048576 ≤ z ∧ z ≤ 1048576) from fun k => h0 k.1)]
    go_enter Tryd.func33, Tryd.ntmps33
    go_wp2
    go_ret
    exact ⟨rfl, rfl⟩

set_option maxRecDepth 100000 in
set_option maxHeartbeats 1000000 in
theorem isSide_any {w : World} {z : Int} : Calls Tryd.prog 34 #[.int .i64 z] w fun e w' => e = .returned (.bool (decide (4 ≤ z ∧ z ≤ 64))) ∧ w = w' := by
  by_cases h0 : 4 ≤ z
  · by_cases h1 : z ≤ 64
    · rw [decide_eq_true (show 4 ≤ z ∧ z ≤ 64 from ⟨h0, h1⟩)]
      go_enter Tryd.func34, Tryd.ntmps34
      go_wp2
      go_ret
      exact ⟨rfl, rfl⟩
    · rw [decide_eq_false (show ¬ (4 ≤ z ∧ z ≤ 64) from fun k => h1 k.2)]
      go_enter Tryd.func34, Tryd.ntmps34
      go_wp2
      go_ret
      exact ⟨rfl, rfl⟩
  · rw [decide_eq_false (show ¬ (4 ≤ z ∧ z ≤ 64) from fun k => h0 k.1)]
    go_enter Tryd.func34, Tryd.ntmps34
    go_wp2
    go_ret
    exact ⟨rfl, rfl⟩

set_option maxRecDepth 100000 in
set_option maxHeartbeats 1000000 in
theorem clipped_any {w : World} {z : Int} : Calls Tryd.prog 39 #[.int .i64 z] w fun e w' => e = .returned (.int .u8 (clp z : Nat)) ∧ w = w' := by
  go_enter Tryd.func39, Tryd.ntmps39
  go_wp2
  all_goals (go_ret; refine ⟨ret_int ?_, rfl⟩; unfold clp; first | omega | (repeat' split) <;> omega)

/-- what Fetch takes -/
structure FOk (W H : Int) (C : List Nat) (px py pw ph pk : Int) : Prop where
  pl : POk W H C
  x : -1048576 ≤ px ∧ px ≤ 1048576
  y : -1048576 ≤ py ∧ py ≤ 1048576
  w : 4 ≤ pw ∧ pw ≤ 64
  h : 4 ≤ ph ∧ ph ≤ 64
  k : 0 ≤ pk ∧ pk ≤ 2

set_option maxRecDepth 100000 in
set_option maxHeartbeats 2000000 in
theorem fetch_no {u : World} {a : Option Addr} {c : Nat} {C : List Nat} {W H px py pw ph pk : Int} (hn : ¬ FOk W H C px py pw ph pk) :
    Calls Tryd.prog 26 #[.agg #[.int .i64 W, .int .i64 H, .slice a C.length c], .int .i64 px, .int .i64 py, .int .i64 pw, .int .i64 ph, .int .i64 pk] u fun e w' => e = .returned (.tuple #[.slice none 0 0, .int .i64 2]) ∧ Below u.heap.size u w' := by
  by_cases hp : POk W H C
  · by_cases hpx : -1048576 ≤ px ∧ px ≤ 1048576
    · by_cases hpy : -1048576 ≤ py ∧ py ≤ 1048576
      · by_cases hpw : 4 ≤ pw ∧ pw ≤ 64
        · by_cases hph : 4 ≤ ph ∧ ph ≤ 64
          · by_cases hpk : 0 ≤ pk ∧ pk ≤ 2
            · exact absurd ⟨hp, hpx, hpy, hpw, hph, hpk⟩ hn
            · have hck : ck W H C = 0 := ck_ok hp
              have H0 : Hid (∀ t : World, Calls Tryd.prog 33 #[.int .i64 px] t fun e w' => e = .returned (.bool true) ∧ t = w') := fun t => by
                have := isPlace_any (w := t) (z := px)
                rwa [decide_eq_true hpx] at this
              have H1 : Hid (∀ t : World, Calls Tryd.prog 33 #[.int .i64 py] t fun e w' => e = .returned (.bool true) ∧ t = w') := fun t => by
                have := isPlace_any (w := t) (z := py)
                rwa [decide_eq_true hpy] at this
              have H2 : Hid (∀ t : World, Calls Tryd.prog 34 #[.int .i64 pw] t fun e w' => e = .returned (.bool true) ∧ t = w') := fun t => by
                have := isSide_any (w := t) (z := pw)
                rwa [decide_eq_true hpw] at this
              have H3 : Hid (∀ t : World, Calls Tryd.prog 34 #[.int .i64 ph] t fun e w' => e = .returned (.bool true) ∧ t = w') := fun t => by
                have := isSide_any (w := t) (z := ph)
                rwa [decide_eq_true hph] at this
              have H4 : Hid (∀ t : World, Calls Tryd.prog 35 #[.int .i64 pk] t fun e w' => e = .returned (.bool false) ∧ t = w') := fun t => by
                have := isKind_any (w := t) (z := pk)
                rwa [decide_eq_false hpk] at this
              clear hn
              go_enter Tryd.func26, Tryd.ntmps26
              go_wp2_with fail
              refine check_any.mono ?_
              rintro e w1 ⟨rfl, hb⟩
              rw [hck]
              have HB : Hid _ := below_to (from_alloc u _) hb
              clear hb hck
              go_wp2_with (first | (go_at_call 33; with_reducible refine (H0.out _).mono ?_; rintro e w' ⟨rfl, rfl⟩) | (go_at_call 33; with_reducible refine (H1.out _).mono ?_; rintro e w' ⟨rfl, rfl⟩) | (go_at_call 34; with_reducible refine (H2.out _).mono ?_; rintro e w' ⟨rfl, rfl⟩) | (go_at_call 34; with_reducible refine (H3.out _).mono ?_; rintro e w' ⟨rfl, rfl⟩) | (go_at_call 35; with_reducible refine (H4.out _).mono ?_; rintro e w' ⟨rfl, rfl⟩) | fail)
              exact bodyPost_ret (v := .tuple #[.slice none 0 0, .int .i64 2]) (by simp [results, Tryd.results26, go_sem]) rfl ⟨rfl, HB.out⟩
          · have hck : ck W H C = 0 := ck_ok hp
            have H0 : Hid (∀ t : World, Calls Tryd.prog 33 #[.int .i64 px] t fun e w' => e = .returned (.bool true) ∧ t = w') := fun t => by
              have := isPlace_any (w := t) (z := px)
              rwa [decide_eq_true hpx] at this
            have H1 : Hid (∀ t : World, Calls Tryd.prog 33 #[.int .i64 py] t fun e w' => e = .returned (.bool true) ∧ t = w') := fun t => by
              have := isPlace_any (w := t) (z := py)
              rwa [decide_eq_true hpy] at this
            have H2 : Hid (∀ t : World, Calls Tryd.prog 34 #[.int .i64 pw] t fun e w' => e = .returned (.bool true) ∧ t = w') := fun t => by
              have := isSide_any (w := t) (z := pw)
              rwa [decide_eq_true hpw] at this
            have H3 : Hid (∀ t : World, Calls Tryd.prog 34 #[.int .i64 ph] t fun e w' => e = .returned (.bool false) ∧ t = w') := fun t => by
              have := isSide_any (w := t) (z := ph)
              rwa [decide_eq_false hph] at this
            clear hn
            go_enter Tryd.func26, Tryd.ntmps26
            go_wp2_with fail
            refine check_any.mono ?_
            rintro e w1 ⟨rfl, hb⟩
            rw [hck]
            have HB : Hid _ := below_to (from_alloc u _) hb
            clear hb hck
            go_wp2_with (first | (go_at_call 33; with_reducible refine (H0.out _).mono ?_; rintro e w' ⟨rfl, rfl⟩) | (go_at_call 33; with_reducible refine (H1.out _).mono ?_; rintro e w' ⟨rfl, rfl⟩) | (go_at_call 34; with_reducible refine (H2.out _).mono ?_; rintro e w' ⟨rfl, rfl⟩) | (go_at_call 34; with_reducible refine (H3.out _).mono ?_; rintro e w' ⟨rfl, rfl⟩) | fail)
            exact bodyPost_ret (v := .tuple #[.slice none 0 0, .int .i64 2]) (by simp [results, Tryd.results26, go_sem]) rfl ⟨rfl, HB.out⟩
        · have hck : ck W H C = 0 := ck_ok hp
          have H0 : Hid (∀ t : World, Calls Tryd.prog 33 #[.int .i64 px] t fun e w' => e = .returned (.bool true) ∧ t = w') := fun t => by
            have := isPlace_any (w := t) (z := px)
            rwa [decide_eq_true hpx] at this
          have H1 : Hid (∀ t : World, Calls Tryd.prog 33 #[.int .i64 py] t fun e w' => e = .returned (.bool true) ∧ t = w') := fun t => by
            have := isPlace_any (w := t) (z := py)
            rwa [decide_eq_true hpy] at this
          have H2 : Hid (∀ t : World, Calls Tryd.prog 34 #[.int .i64 pw] t fun e w' => e = .returned (.bool false) ∧ t = w') := fun t => by
            have := isSide_any (w := t) (z := pw)
            rwa [decide_eq_false hpw] at this
          clear hn
          go_enter Tryd.func26, Tryd.ntmps26
          go_wp2_with fail
          refine check_any.mono ?_
          rintro e w1 ⟨rfl, hb⟩
          rw [hck]
          have HB : Hid _ := below_to (from_alloc u _) hb
          clear hb hck
          go_wp2_with (first | (go_at_call 33; with_reducible refine (H0.out _).mono ?_; rintro e w' ⟨rfl, rfl⟩) | (go_at_call 33; with_reducible refine (H1.out _).mono ?_; rintro e w' ⟨rfl, rfl⟩) | (go_at_call 34; with_reducible refine (H2.out _).mono ?_; rintro e w' ⟨rfl, rfl⟩) | fail)
          exact bodyPost_ret (v := .tuple #[.slice none 0 0, .int .i64 2]) (by simp [results, Tryd.results26, go_sem]) rfl ⟨rfl, HB.out⟩
      · have hck : ck W H C = 0 := ck_ok hp
        have H0 : Hid (∀ t : World, Calls Tryd.prog 33 #[.int .i64 px] t fun e w' => e = .returned (.bool true) ∧ t = w') := fun t => by
          have := isPlace_any (w := t) (z := px)
          rwa [decide_eq_true hpx] at this
        have H1 : Hid (∀ t : World, Calls Tryd.prog 33 #[.int .i64 py] t fun e w' => e = .returned (.bool false) ∧ t = w') := fun t => by
          have := isPlace_any (w := t) (z := py)
          rwa [decide_eq_false hpy] at this
        clear hn
        go_enter Tryd.func26, Tryd.ntmps26
        go_wp2_with fail
        refine check_any.mono ?_
        rintro e w1 ⟨rfl, hb⟩
        rw [hck]
        have HB : Hid _ := below_to (from_alloc u _) hb
        clear hb hck
        go_wp2_with (first | (go_at_call 33; with_reducible refine (H0.out _).mono ?_; rintro e w' ⟨rfl, rfl⟩) | (go_at_call 33; with_reducible refine (H1.out _).mono ?_; rintro e w' ⟨rfl, rfl⟩) | fail)
        exact bodyPost_ret (v := .tuple #[.slice none 0 0, .int .i64 2]) (by simp [results, Tryd.results26, go_sem]) rfl ⟨rfl, HB.out⟩
    · have hck : ck W H C = 0 := ck_ok hp
      have H0 : Hid (∀ t : World, Calls Tryd.prog 33 #[.int .i64 px] t fun e w' => e = .returned (.bool false) ∧ t = w') := fun t => by
        have := isPlace_any (w := t) (z := px)
        rwa [decide_eq_false hpx] at this
      clear hn
      go_enter Tryd.func26, Tryd.ntmps26
      go_wp2_with fail
      refine check_any.mono ?_
      rintro e w1 ⟨rfl, hb⟩
      rw [hck]
      have HB : Hid _ := below_to (from_alloc u _) hb
      clear hb hck
      go_wp2_with (first | (go_at_call 33; with_reducible refine (H0.out _).mono ?_; rintro e w' ⟨rfl, rfl⟩) | fail)
      exact bodyPost_ret (v := .tuple #[.slice none 0 0, .int .i64 2]) (by simp [results, Tryd.results26, go_sem]) rfl ⟨rfl, HB.out⟩
  · have hck : ck W H C = 2 := ck_no hp
    clear hn
    go_enter Tryd.func26, Tryd.ntmps26
    go_wp2_with fail
    refine check_any.mono ?_
    rintro e w1 ⟨rfl, hb⟩
    rw [hck]
    have HB : Hid _ := below_to (from_alloc u _) hb
    clear hb hck
    go_wp2_with fail
    exact bodyPost_ret (v := .tuple #[.slice none 0 0, .int .i64 2]) (by simp [results, Tryd.results26, go_sem]) rfl ⟨rfl, HB.out⟩

end Go.Proofs.YtpideemiijhkgabDoor
