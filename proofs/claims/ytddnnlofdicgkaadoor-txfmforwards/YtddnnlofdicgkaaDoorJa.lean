/- DERIVED. The document's small functions of layer 8: Types, Side, asked, Clip, clipped, round, kinds, column, scaled. -/
import Derived.Test.YtddnnlofdicgkaaDoorHk
import Derived.Test.YtddnnlofdicgkaaDoorFf
namespace Go.Proofs.YtddnnlofdicgkaaDoor
open Go.RowKit

set_option maxRecDepth 100000 in
set_option maxHeartbeats 400000 in
theorem rtypes_any {w : World} {n : Int} : Calls Tryd.prog 13 #[.int .i64 n] w fun e w' => Ow w w' e (tys n) := by
  by_cases h4 : n = 4
  · subst h4
    have HE : Hid (tys 4 = [0, 1, 2, 3, 4, 5, 6, 7, 8, 9]) := rfl
    go_enter Tryd.func13, Tryd.ntmps13
    go_wp2_with fail
    go_ret
    rw [HE.out]
    exact ⟨_, _, rfl, oi_built w [0, 1, 2, 3, 4, 5, 6, 7, 8, 9] (by simp), from_alloc _ _⟩
  have z4 : (n == 4) = false := by rw [beq_eq_false_iff_ne]; exact h4
  by_cases h8 : n = 8
  · subst h8
    have HE : Hid (tys 8 = [0, 1, 2, 3, 4, 5, 6, 7, 8]) := rfl
    go_enter Tryd.func13, Tryd.ntmps13
    go_wp2_with fail
    go_ret
    rw [HE.out]
    exact ⟨_, _, rfl, oi_built w [0, 1, 2, 3, 4, 5, 6, 7, 8] (by simp), from_alloc _ _⟩
  have z8 : (n == 8) = false := by rw [beq_eq_false_iff_ne]; exact h8
  by_cases h16 : n = 16
  · subst h16
    have HE : Hid (tys 16 = [0, 1, 2, 3, 4, 5, 6, 7, 8]) := rfl
    go_enter Tryd.func13, Tryd.ntmps13
    go_wp2_with fail
    go_ret
    rw [HE.out]
    exact ⟨_, _, rfl, oi_built w [0, 1, 2, 3, 4, 5, 6, 7, 8] (by simp), from_alloc _ _⟩
  have z16 : (n == 16) = false := by rw [beq_eq_false_iff_ne]; exact h16
  by_cases h32 : n = 32
  · subst h32
    have HE : Hid (tys 32 = [0, 8]) := rfl
    go_enter Tryd.func13, Tryd.ntmps13
    go_wp2_with fail
    go_ret
    rw [HE.out]
    exact ⟨_, _, rfl, oi_built w [0, 8] (by simp), from_alloc _ _⟩
  have z32 : (n == 32) = false := by rw [beq_eq_false_iff_ne]; exact h32
  by_cases h64 : n = 64
  · subst h64
    have HE : Hid (tys 64 = [0]) := rfl
    go_enter Tryd.func13, Tryd.ntmps13
    go_wp2_with fail
    go_ret
    rw [HE.out]
    exact ⟨_, _, rfl, oi_built w [0] (by simp), from_alloc _ _⟩
  have z64 : (n == 64) = false := by rw [beq_eq_false_iff_ne]; exact h64
  have HE : Hid (tys n = []) := by show _ = _; unfold tys; rw [if_neg h4, if_neg (by omega), if_neg h32, if_neg h64]
  clear h4 h8 h16 h32 h64
  go_enter Tryd.func13, Tryd.ntmps13
  go_wp2_with fail
  go_ret
  rw [HE.out]
  exact ⟨none, 0, rfl, Oi.nil _ _, Below.refl _ _⟩

set_option maxRecDepth 100000 in
theorem rside_any {w : World} {n : Int} : Calls Tryd.prog 11 #[.int .i64 n] w fun e w' => e = .returned (.tuple #[.int .i64 (sdN n), .int .i64 (sdE n)]) ∧ Below w.heap.size w w' := by
  by_cases h : tys n = []
  · have H1 : Hid (sdN n = 0) := by show _ = _; unfold sdN; rw [if_pos h]
    have H2 : Hid (sdE n = 2) := by show _ = _; unfold sdE; rw [if_pos h]
    have HT : Hid (Calls Tryd.prog 13 #[.int .i64 n] w fun e w' => ∃ a c, e = .returned (.slice a 0 c) ∧ Below w.heap.size w w') := rtypes_any.mono (by
      rintro e w' ⟨a, c, rfl, ho, hb⟩
      exact ⟨a, c, by rw [h]; rfl, hb⟩)
    clear h
    go_enter Tryd.func11, Tryd.ntmps11
    go_wp2_with (go_at_call 13; refine HT.out.mono ?_; rintro e w1 ⟨a, c, rfl, hb⟩)
    go_ret2
    exact ⟨ret_two H1.out.symm H2.out.symm, hb⟩
  · have H1 : Hid (sdN n = min n 32) := by show _ = _; unfold sdN; rw [if_neg h]
    have H2 : Hid (sdE n = 0) := by show _ = _; unfold sdE; rw [if_neg h]
    have l0 : ((((tys n).length : Nat) : Int) == 0) = false := by
      rw [beq_eq_false_iff_ne]
      have := List.length_pos_iff.2 h
      omega
    clear h
    have HT : Hid (Calls Tryd.prog 13 #[.int .i64 n] w fun e w' => Ow w w' e (tys n)) := rtypes_any
    go_enter Tryd.func11, Tryd.ntmps11
    go_wp2_with (go_at_call 13; refine HT.out.mono ?_; rintro e w1 ⟨a, c, rfl, ho, hb⟩)
    all_goals
      go_ret2
      exact ⟨ret_two (by rw [H1.out]; omega) H2.out.symm, hb⟩

theorem clip_any {w : World} {v a b : Int} (hab : a ≤ b) : Calls Tryd.prog 52 #[.int .i64 v, .int .i64 a, .int .i64 b] w fun e w' => e = .returned (.int .i64 (min (max v a) b)) ∧ w' = w := by
  by_cases h1 : v < a
  · have HE : Hid (min (max v a) b = a) := by show _ = _; omega
    go_enter Tryd.func52, Tryd.ntmps52
    go_wp2
    go_ret
    exact ⟨by rw [HE.out]; rfl, rfl⟩
  · by_cases h2 : b < v
    · have HE : Hid (min (max v a) b = b) := by show _ = _; omega
      go_enter Tryd.func52, Tryd.ntmps52
      go_wp2
      go_ret
      exact ⟨by rw [HE.out]; rfl, rfl⟩
    · have HE : Hid (min (max v a) b = v) := by show _ = _; omega
      go_enter Tryd.func52, Tryd.ntmps52
      go_wp2
      go_ret
      exact ⟨by rw [HE.out]; rfl, rfl⟩
theorem rclipped_any {w : World} {v : Int} : Calls Tryd.prog 33 #[.int .i64 v] w fun e w' => e = .returned (.int .i64 (clp v)) ∧ w' = w := by
  have HE : Hid (clp v = min (max v (-32768)) 32767) := rfl
  go_enter Tryd.func33, Tryd.ntmps33
  go_wp2_with (go_at_call 52; refine (clip_any (by omega)).mono ?_; rintro e w' ⟨rfl, rfl⟩)
  go_ret
  exact ⟨by rw [HE.out]; rfl, rfl⟩
/-- a number rounded by some bits -/
def rdv (v : Int) (b : Nat) : Int := if b = 0 then v else if b = 1 then (v + 1) / 2 else if b = 2 then (v + 2) / 4 else (v + 8) / 16
theorem rround_any {w : World} {v : Int} {b : Nat} (h : Lo v) (hb : b = 0 ∨ b = 1 ∨ b = 2 ∨ b = 4) : Calls Tryd.prog 35 #[.int .i64 v, .int .i64 (b : Int)] w fun e w' => e = .returned (.int .i64 (rdv v b)) ∧ w' = w := by
  obtain ⟨h0, h1⟩ := h
  rcases hb with rfl | rfl | rfl | rfl
  all_goals
    go_enter Tryd.func35, Tryd.ntmps35
    go_wp2
    go_ret
    exact ⟨rfl, rfl⟩
set_option maxRecDepth 100000 in
theorem rkinds_any {w : World} {k : Nat} (hk : k < 10) : Calls Tryd.prog 31 #[.int .i64 (k : Int)] w fun e w' => e = .returned (.tuple #[.int .i64 (kR k : Nat), .int .i64 (kC k : Nat)]) ∧ w' = w := by
  by_cases h : k = 9
  · subst h
    go_enter Tryd.func31, Tryd.ntmps31
    go_wp2
    go_ret2
    exact ⟨rfl, rfl⟩
  · have z : ((k : Int) == 9) = false := by rw [beq_eq_false_iff_ne]; omega
    have HR : Hid (((kR k : Nat) : Int) = (k : Int) % 3) := by show _ = _; unfold kR; rw [if_neg h]; rfl
    have HC : Hid (((kC k : Nat) : Int) = (k : Int) / 3) := by show _ = _; unfold kC; rw [if_neg h]; rfl
    have k0 : (0 : Int) ≤ (k : Int) := by omega
    have k1 : (k : Int) < 10 := by omega
    clear h hk
    go_enter Tryd.func31, Tryd.ntmps31
    go_wp2
    go_ret2
    exact ⟨ret_two HR.out.symm HC.out.symm, rfl⟩

structure ClI (w : World) (n x : Nat) (f : Nat → Nat → Int) (s i : Value) (wr : World) : Prop where
  ex : ∃ (k c : Nat) (a : Option Addr) (D : List Int), k ≤ n ∧ i = .int .i64 k ∧ s = .slice a k c ∧ Oi wr w.heap.size a k c D ∧ (∀ j, j < k → D.getD j 0 = f j x) ∧ Below w.heap.size w wr
theorem getD_snoc (D : List Int) (v : Int) (j : Nat) : (D ++ [v]).getD j 0 = if j < D.length then D.getD j 0 else if j = D.length then v else 0 := by
  by_cases h : j < D.length
  · rw [if_pos h, List.getD_eq_getElem?_getD, List.getElem?_append_left h, ← List.getD_eq_getElem?_getD]
  · rw [if_neg h, List.getD_eq_getElem?_getD, List.getElem?_append_right (by omega)]
    by_cases e : j = D.length
    · rw [if_pos e, e]; simp
    · rw [if_neg e, List.getElem?_eq_none (by simp; omega)]; rfl

set_option maxRecDepth 100000 in
set_option maxHeartbeats 400000 in
theorem column_any {w : World} {b o c n L x : Nat} {f : Nat → Nat → Int} (hs : Si w (some ⟨b, o, none⟩) (tab n f)) (hL : L = n * n) (hn : n ≤ 64) (hx : x < n) :
    Calls Tryd.prog 36 #[.slice (some ⟨b, o, none⟩) L c, .int .i64 (n : Int), .int .i64 (x : Int)] w fun e w' => ∃ a c', e = .returned (.slice a n c') ∧ Oi w' w.heap.size a n c' (colL n f x) ∧ Below w.heap.size w w' := by
  obtain ⟨b', o', he, hbl, hc⟩ := hs.form (by rw [tab_len]; exact Nat.mul_pos (by omega) (by omega))
  simp only [Option.some.injEq, Addr.mk.injEq, and_true] at he
  obtain ⟨rfl, rfl⟩ := he
  have HC : Hid (∀ y, y < n → ∀ v : World, Below w.heap.size w v → v.cell? ⟨b, o + (y * n + x), none⟩ = some (.int .i64 (f y x))) := fun y hy v hv => by
    rw [newCell hv _ _ hbl, hc _ (by rw [tab_len]; exact ix_lt hy hx), tab_at n f hy hx]
  have HI : Hid (∀ y, y < n → y * n + x < L) := fun y hy => by rw [hL]; exact ix_lt hy hx
  have h2 : n * n ≤ 64 * 64 := Nat.mul_le_mul hn hn
  rw [← hL] at h2
  have L1 : (L : Int) ≤ 4096 := by omega
  have HL4 : Hid (L ≤ 4096) := h2
  have n1 : (n : Int) ≤ 64 := by omega
  have x0 : (0 : Int) ≤ (x : Int) := by omega
  clear hs hc hbl hL hn h2 hx
  go_enter Tryd.func36, Tryd.ntmps36
  go_wp2_with fail
  go_loopw [7, 8] (fun s i wr => ClI w n x f s i wr) (fun _ i _ => n - (intOf i).toNat)
  case atStart => exact ⟨⟨0, 0, none, [], by omega, rfl, rfl, Oi.nil _ _, fun j hj => by omega, Below.refl _ _⟩⟩
  case round =>
    obtain ⟨k, c', a', D, hk, rfl, rfl, ho, hd, hb⟩ := hrel
    have k0 : 0 ≤ (k : Int) := by omega
    by_cases hlt : k < n
    · have k1 : (k : Int) < (n : Int) := by omega
      have HS : Hid (w.heap.size ≤ wr.heap.size) := hb.size
      have HO : Hid _ := ho
      have HB : Hid (Below w.heap.size w wr) := hb
      have HK : Hid (k < n) := hlt
      have HD : Hid (∀ j, j < k + 1 → (D ++ [f k x]).getD j 0 = f j x) := fun j hj => by
        have hl := ho.len
        rw [getD_snoc]
        by_cases e : j < D.length
        · rw [if_pos e]; exact hd j (by omega)
        · rw [if_neg e, if_pos (by omega), show j = k from by omega]
      have c0 := HC.out k hlt wr hb
      have hz := HI.out k hlt
      have e1 : (k : Int) * (n : Int) = ((k * n : Nat) : Int) := by rw [Int.natCast_mul]
      have e2 : ((k * n : Nat) : Int) + (x : Int) = ((k * n + x : Nat) : Int) := rfl
      have q0 : (0 : Int) ≤ ((k * n + x : Nat) : Int) := by omega
      have q1 : ((k * n + x : Nat) : Int) < (L : Int) := by omega
      have q2 : ((k * n : Nat) : Int) ≤ 4096 := by have := HL4.out; omega
      have q3 : (0 : Int) ≤ ((k * n : Nat) : Int) := by omega
      generalize f k x = fv at *
      generalize k * n + x = z at *
      generalize k * n = p at *
      clear hb ho hlt hk hd hz
      go_wp2_with (at_builtin; refine wpList_append_int _ (by rfl) _ _ (by rfl) w.heap.size k c' D a' _ HO.out HS.out (by have := HK.out; omega) (by rfl) (by rfl) ?_; intro g cap w5 how hb5 _)
      have hlt := HK.out
      go_roundw
      case rel => exact ⟨⟨k + 1, cap, _, _, by omega, by go_num, rfl, how, HD.out, HB.out.trans hb5⟩⟩
      case measure => simp [intOf]; omega
    · have HB : Hid _ := hb
      obtain rfl : k = n := by omega
      have HO : Hid (Oi wr w.heap.size a' k c' (colL k f x)) := by
        have hl := ho.len
        rw [← col_of hl hd]
        exact ho
      clear ho hb hd
      go_wp2_with fail
      go_ret
      exact ⟨a', c', rfl, HO.out, HB.out⟩

set_option maxRecDepth 100000 in
theorem rscaled_any {w : World} {v : Int} {n : Nat} (h : Lo v) (hn : n = 4 ∨ n = 8 ∨ n = 16 ∨ n = 32 ∨ n = 64) : Calls Tryd.prog 40 #[.int .i64 v, .int .i64 (n : Int)] w fun e w' => e = .returned (.int .i64 (sca n v)) ∧ w' = w := by
  have l0 := h.1
  have l1 := h.2
  have HH : Hid (Lo v) := h
  clear h
  rcases hn with rfl | rfl | rfl | rfl | rfl
  · have HE : Hid (sca 4 v = clp (4 * v)) := rfl
    go_enter Tryd.func40, Tryd.ntmps40
    go_wp2_with (first | (go_at_call 33; refine rclipped_any.mono ?_; rintro e w' ⟨rfl, rfl⟩))
    go_ret
    exact ⟨by rw [HE.out]; rfl, rfl⟩
  · have HE : Hid (sca 8 v = clp (2 * v)) := rfl
    go_enter Tryd.func40, Tryd.ntmps40
    go_wp2_with (first | (go_at_call 33; refine rclipped_any.mono ?_; rintro e w' ⟨rfl, rfl⟩))
    go_ret
    exact ⟨by rw [HE.out]; rfl, rfl⟩
  · have HE : Hid (sca 16 v = clp v) := rfl
    go_enter Tryd.func40, Tryd.ntmps40
    go_wp2_with (first | (go_at_call 33; refine rclipped_any.mono ?_; rintro e w' ⟨rfl, rfl⟩))
    go_ret
    exact ⟨by rw [HE.out]; rfl, rfl⟩
  · have HE : Hid (sca 32 v = clp (rdv v 2)) := rfl
    go_enter Tryd.func40, Tryd.ntmps40
    go_wp2_with (first | (go_at_call 35; refine (rround_any (b := 2) HH.out (by omega)).mono ?_; rintro e w' ⟨rfl, rfl⟩) | (go_at_call 33; refine rclipped_any.mono ?_; rintro e w' ⟨rfl, rfl⟩))
    go_ret
    exact ⟨by rw [HE.out]; rfl, rfl⟩
  · have HE : Hid (sca 64 v = clp (rdv v 4)) := rfl
    go_enter Tryd.func40, Tryd.ntmps40
    go_wp2_with (first | (go_at_call 35; refine (rround_any (b := 4) HH.out (by omega)).mono ?_; rintro e w' ⟨rfl, rfl⟩) | (go_at_call 33; refine rclipped_any.mono ?_; rintro e w' ⟨rfl, rfl⟩))
    go_ret
    exact ⟨by rw [HE.out]; rfl, rfl⟩

end Go.Proofs.YtddnnlofdicgkaaDoor
