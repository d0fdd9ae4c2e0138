/- DERIVED. The walks of upTo, Types, Side, slices.Index, slices.Contains, wrong. -/
import Derived.Test.YtddnnlofdicgkabDoorHi
namespace Go.Proofs.YtddnnlofdicgkabDoor
open Go.RowKit

/-- from 0 to m - 1 -/
def upL (m : Nat) : List Int := (List.range m).map fun i : Nat => (i : Int)
theorem upL_len (m : Nat) : (upL m).length = m := by simp [upL]
theorem upL_step (m : Nat) : upL m ++ [(m : Int)] = upL (m + 1) := by simp [upL, List.range_succ]
/-- the kinds of a size -/
def tys (n : Int) : List Int := if n = 4 then upL 10 else if n = 8 ∨ n = 16 then upL 9 else if n = 32 then [0, 8] else if n = 64 then [0] else []
/-- a row that is answered, one's own -/
def Ow (w w' : World) (e : Ending) (C : List Int) : Prop := ∃ a c, e = .returned (.slice a C.length c) ∧ Oi w' w.heap.size a C.length c C ∧ Below w.heap.size w w'

structure UpI (w : World) (m : Nat) (s i : Value) (wr : World) : Prop where
  ex : ∃ (k c : Nat) (a : Option Addr), k ≤ m ∧ i = .int .i64 k ∧ s = .slice a k c ∧ Oi wr w.heap.size a k c (upL k) ∧ Below w.heap.size w wr

set_option maxRecDepth 100000 in
set_option maxHeartbeats 400000 in
theorem upTo_any {w : World} {m : Nat} (hm : m ≤ 64) : Calls Tryd.prog 15 #[.int .i64 (m : Int)] w fun e w' => Ow w w' e (upL (m + 1)) := by
  have m1 : (m : Int) ≤ 64 := by omega
  have m0 : (0 : Int) ≤ (m : Int) := by omega
  go_enter Tryd.func15, Tryd.ntmps15
  go_wp2_with fail
  go_loopw [3, 7] (fun s i wr => UpI w (m + 1) s i wr) (fun _ i _ => m + 1 - (intOf i).toNat)
  case atStart => exact ⟨⟨0, 0, none, by omega, rfl, rfl, Oi.nil _ _, Below.refl _ _⟩⟩
  case round =>
    obtain ⟨k, c', a', hk, rfl, rfl, ho, hb⟩ := hrel
    have k0 : 0 ≤ (k : Int) := by omega
    by_cases hlt : k < m + 1
    · have k1 : (k : Int) < (m : Int) + 1 := by omega
      have HS : Hid (w.heap.size ≤ wr.heap.size) := hb.size
      have HO : Hid _ := ho
      have HB : Hid (Below w.heap.size w wr) := hb
      have HK : Hid (k < m + 1) := hlt
      clear hb ho hlt hk
      go_wp2_with (at_builtin; refine wpList_append_int _ (by rfl) _ _ (by rfl) w.heap.size k c' (upL k) a' _ HO.out HS.out (by omega) (by rfl) (by rfl) ?_; intro g cap w5 how hb5 _)
      have hlt := HK.out
      go_roundw
      case rel => exact ⟨⟨k + 1, cap, _, by omega, by go_num, rfl, by rw [← upL_step]; exact how, HB.out.trans hb5⟩⟩
      case measure => simp [intOf]; omega
    · have HO : Hid _ := ho
      have HB : Hid _ := hb
      obtain rfl : k = m + 1 := by omega
      clear ho hb
      have l1 : ¬ (((m + 1 : Nat) : Int) < (m : Int) + 1) := by omega
      go_wp2_with fail
      go_ret
      exact ⟨a', c', by rw [upL_len]; rfl, by rw [upL_len]; exact HO.out, HB.out⟩

theorem oi_built (w : World) (C : List Int) (hl : C.length ≤ 1048576) : Oi (w.alloc (.cells (is C).toArray 3)) w.heap.size (some ⟨w.heap.size, 0, none⟩) C.length C.length C :=
  ⟨by
    have h1 := World.ownsRow_lit (base := w.heap.size) (e := 3) (size := 1) w (is C).toArray C.length (Nat.le_refl _) (by unfold maxLen; omega) (by simp [is_length])
    simpa using h1⟩

set_option maxRecDepth 100000 in
set_option maxHeartbeats 400000 in
theorem types_any {w : World} {n : Int} : Calls Tryd.prog 8 #[.int .i64 n] w fun e w' => Ow w w' e (tys n) := by
  by_cases h4 : n = 4
  · subst h4
    have HE : Hid (tys 4 = upL (9 + 1)) := rfl
    go_enter Tryd.func8, Tryd.ntmps8
    go_wp2_with (go_at_call 15; refine (upTo_any (m := 9) (by omega)).mono ?_; rintro e w1 ⟨a, c, rfl, ho, hb⟩)
    go_ret
    rw [HE.out]
    exact ⟨a, c, rfl, ho, hb⟩
  have z4 : (n == 4) = false := by rw [beq_eq_false_iff_ne]; exact h4
  by_cases h8 : n = 8
  · subst h8
    have HE : Hid (tys 8 = upL (8 + 1)) := rfl
    go_enter Tryd.func8, Tryd.ntmps8
    go_wp2_with (go_at_call 15; refine (upTo_any (m := 8) (by omega)).mono ?_; rintro e w1 ⟨a, c, rfl, ho, hb⟩)
    go_ret
    rw [HE.out]
    exact ⟨a, c, rfl, ho, hb⟩
  have z8 : (n == 8) = false := by rw [beq_eq_false_iff_ne]; exact h8
  by_cases h16 : n = 16
  · subst h16
    have HE : Hid (tys 16 = upL (8 + 1)) := rfl
    go_enter Tryd.func8, Tryd.ntmps8
    go_wp2_with (go_at_call 15; refine (upTo_any (m := 8) (by omega)).mono ?_; rintro e w1 ⟨a, c, rfl, ho, hb⟩)
    go_ret
    rw [HE.out]
    exact ⟨a, c, rfl, ho, hb⟩
  have z16 : (n == 16) = false := by rw [beq_eq_false_iff_ne]; exact h16
  by_cases h32 : n = 32
  · subst h32
    have HE : Hid (tys 32 = [0, 8]) := rfl
    go_enter Tryd.func8, Tryd.ntmps8
    go_wp2_with fail
    go_ret
    rw [HE.out]
    exact ⟨_, _, rfl, oi_built w [0, 8] (by simp), from_alloc _ _⟩
  have z32 : (n == 32) = false := by rw [beq_eq_false_iff_ne]; exact h32
  by_cases h64 : n = 64
  · subst h64
    have HE : Hid (tys 64 = [0]) := rfl
    go_enter Tryd.func8, Tryd.ntmps8
    go_wp2_with fail
    go_ret
    rw [HE.out]
    exact ⟨_, _, rfl, oi_built w [0] (by simp), from_alloc _ _⟩
  have z64 : (n == 64) = false := by rw [beq_eq_false_iff_ne]; exact h64
  have HE : Hid (tys n = []) := by show _ = _; unfold tys; rw [if_neg h4, if_neg (by omega), if_neg h32, if_neg h64]
  clear h4 h8 h16 h32 h64
  go_enter Tryd.func8, Tryd.ntmps8
  go_wp2_with fail
  go_ret
  rw [HE.out]
  exact ⟨none, 0, rfl, Oi.nil _ _, Below.refl _ _⟩

theorem tys_size {n : Int} (h : tys n ≠ []) : n = 4 ∨ n = 8 ∨ n = 16 ∨ n = 32 ∨ n = 64 := by
  unfold tys at h
  split at h
  · exact Or.inl (by assumption)
  · split at h
    · omega
    · split at h
      · omega
      · split at h
        · omega
        · exact absurd rfl h
/-- a side, and whether it is one -/
def sdN (n : Int) : Int := if tys n = [] then 0 else min n 32
def sdE (n : Int) : Int := if tys n = [] then 2 else 0

set_option maxRecDepth 100000 in
theorem side_any {w : World} {n : Int} : Calls Tryd.prog 7 #[.int .i64 n] w fun e w' => e = .returned (.tuple #[.int .i64 (sdN n), .int .i64 (sdE n)]) ∧ Below w.heap.size w w' := by
  by_cases h : tys n = []
  · have H1 : Hid (sdN n = 0) := by show _ = _; unfold sdN; rw [if_pos h]
    have H2 : Hid (sdE n = 2) := by show _ = _; unfold sdE; rw [if_pos h]
    have HT : Hid (Calls Tryd.prog 8 #[.int .i64 n] w fun e w' => ∃ a c, e = .returned (.slice a 0 c) ∧ Below w.heap.size w w') := types_any.mono (by
      rintro e w' ⟨a, c, rfl, ho, hb⟩
      exact ⟨a, c, by rw [h]; rfl, hb⟩)
    clear h
    go_enter Tryd.func7, Tryd.ntmps7
    go_wp2_with (go_at_call 8; refine HT.out.mono ?_; rintro e w1 ⟨a, c, rfl, hb⟩)
    go_ret2
    exact ⟨ret_two H1.out.symm H2.out.symm, hb⟩
  · have H1 : Hid (sdN n = min n 32) := by show _ = _; unfold sdN; rw [if_neg h]
    have H2 : Hid (sdE n = 0) := by show _ = _; unfold sdE; rw [if_neg h]
    have l0 : ((((tys n).length : Nat) : Int) == 0) = false := by
      rw [beq_eq_false_iff_ne]
      have := List.length_pos_iff.2 h
      omega
    clear h
    have HT : Hid (Calls Tryd.prog 8 #[.int .i64 n] w fun e w' => Ow w w' e (tys n)) := types_any
    go_enter Tryd.func7, Tryd.ntmps7
    go_wp2_with (go_at_call 8; refine HT.out.mono ?_; rintro e w1 ⟨a, c, rfl, ho, hb⟩)
    all_goals
      go_ret2
      exact ⟨ret_two (by rw [H1.out]; omega) H2.out.symm, hb⟩

set_option maxRecDepth 100000 in
set_option maxHeartbeats 400000 in
theorem index_any {w : World} {a : Option Addr} {c : Nat} {v : Int} {C : List Int} (hs : Si w a C) (hl : C.length ≤ 1048576) :
    Calls Tryd.prog 34 #[.slice a C.length c, .int .i64 v] w fun e w' => ∃ j : Int, e = .returned (.int .i64 j) ∧ decide (0 ≤ j) = decide (v ∈ C) ∧ w' = w := by
  have l1 : (C.length : Int) ≤ 1048576 := by omega
  have HS : Hid (Si w a C) := hs
  clear hs
  go_enter Tryd.func34, Tryd.ntmps34
  go_wp2_with fail
  go_loopw [8] (fun i wr => ∃ k : Nat, k ≤ C.length ∧ i = .int .i64 k ∧ wr = w ∧ Hid (∀ j, j < k → v ≠ C.getD j 0)) (fun i _ => C.length - (intOf i).toNat)
  case atStart => exact ⟨0, by omega, rfl, rfl, fun j hj => by omega⟩
  case round =>
    obtain ⟨k, hk, rfl, rfl, HN⟩ := hrel
    have k0 : (0 : Int) ≤ (k : Int) := by omega
    by_cases hlt : k < C.length
    · have k1 : (k : Int) < (C.length : Int) := by omega
      obtain ⟨b, o, rfl, hbl, hc⟩ := HS.out.form (by omega)
      have c0 := hc k hlt
      have HK : Hid (k < C.length) := hlt
      by_cases hv : v = C.getD k 0
      · have HM : Hid (v ∈ C) := by
          show _ ∈ _
          rw [hv, List.getD_eq_getElem?_getD, List.getElem?_eq_getElem hlt]
          exact List.getElem_mem hlt
        have e0 : (v == C.getD k 0) = true := by rw [beq_iff_eq]; exact hv
        clear hv hc hlt hk
        generalize C.getD k 0 = x at *
        go_wp2_with fail
        go_ret
        exact ⟨k, rfl, by simp [HM.out], rfl⟩
      · have e0 : (v == C.getD k 0) = false := by rw [beq_eq_false_iff_ne]; exact hv
        have HN2 : Hid (∀ j, j < k + 1 → v ≠ C.getD j 0) := fun j hj => by
          by_cases e : j = k
          · rw [e]; exact hv
          · exact HN.out j (by omega)
        clear hv hc hlt hk
        generalize C.getD k 0 = x at *
        go_wp2_with fail
        have hlt := HK.out
        go_roundw
        case rel => exact ⟨k + 1, by omega, by go_num, by first | rfl | trivial, HN2.out⟩
        case measure => simp [intOf]; omega
    · obtain rfl : k = C.length := by omega
      go_wp2_with fail
      go_ret
      refine ⟨-1, rfl, ?_, rfl⟩
      have : ¬ v ∈ C := fun hm => by
        obtain ⟨j, hj, e⟩ := List.getElem_of_mem hm
        refine HN.out j hj ?_
        rw [List.getD_eq_getElem?_getD, List.getElem?_eq_getElem hj, ← e]; rfl
      simp [this]

theorem contains_any {w : World} {a : Option Addr} {c : Nat} {v : Int} {C : List Int} (hs : Si w a C) (hl : C.length ≤ 1048576) :
    Calls Tryd.prog 22 #[.slice a C.length c, .int .i64 v] w fun e w' => e = .returned (.bool (decide (v ∈ C))) ∧ w' = w := by
  have HI : Hid (Calls Tryd.prog 34 #[.slice a C.length c, .int .i64 v] w fun e w' => ∃ j : Int, e = .returned (.int .i64 j) ∧ decide (0 ≤ j) = decide (v ∈ C) ∧ w' = w) := index_any hs hl
  clear hs hl
  go_enter Tryd.func22, Tryd.ntmps22
  go_wp2_with (go_at_call 34; refine HI.out.mono ?_; rintro e w1 ⟨j, rfl, hj, rfl⟩)
  go_ret
  refine ⟨?_, rfl⟩
  rw [← hj]
  simp

end Go.Proofs.YtddnnlofdicgkabDoor
