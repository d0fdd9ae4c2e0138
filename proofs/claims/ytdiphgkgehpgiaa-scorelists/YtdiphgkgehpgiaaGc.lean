/- DERIVED. The walk of ScoreLists. -/
import Derived.Test.YtdiphgkgehpgiaaFk
namespace Go.Proofs.Ytdiphgkgehpgiaa
open Go.RowKit Ieee

theorem Try.info27 : (Try.prog.info? 27).map (fun i => (i.zero, i.size, i.bytes)) = some (some (.float .f64 0), 1, 8) := by kernel_rfl
/-- floats, as cells -/
def fs (C : List Nat) : List Value := C.map fun z => .float .f64 z
theorem fs_length (C : List Nat) : (fs C).length = C.length := by simp [fs]
theorem fs_get (C : List Nat) (j : Nat) (h : j < C.length) : (fs C)[j]? = some (.float .f64 (C.getD j 0)) := by simp [fs, List.getElem?_eq_getElem h]
theorem fs_one (C : List Nat) : ∀ u ∈ fs C, u.oneCell' = true := by
  intro u hu
  obtain ⟨z, _, rfl⟩ := List.mem_map.1 hu
  rfl
theorem Fl.drewN {w : World} {a : Option Addr} {C : List Nat} (h : Fl w a C) (n : Nat) : Fl (w.drewN n) a C := h.to (below_drewN (Below.refl _ _) n)
theorem Fl.ofOwn {w : World} {B e n c : Nat} {a : Option Addr} {C : List Nat} (h : w.ownsRow B e 1 (.slice a n c) C.length (fs C)) : Fl w a C := by
  by_cases h0 : C.length = 0
  · exact Or.inl (List.eq_nil_of_length_eq_zero h0)
  · obtain ⟨b, cap, hv, _, hlt⟩ := h.form (by omega)
    simp only [Value.slice.injEq] at hv
    obtain ⟨rfl, rfl, rfl⟩ := hv
    exact Or.inr ⟨b, 0, rfl, hlt, fun j hj => by rw [Nat.zero_add, h.cellAt j (by omega)]; exact fs_get C j hj⟩
theorem best_nil {w : World} {a : Option Addr} {c : Nat} : Calls Try.prog 17 #[.slice a 0 c] w fun e w' => e = .returned (.tuple #[.int .i64 0, .int .i64 2]) ∧ w' = w := best_any (C := []) (Or.inl rfl) (by simp)
theorem rbest_nil {w : World} {a : Option Addr} {c : Nat} : Calls Try.prog 18 #[.slice a 0 c] w fun e w' => e = .returned (.tuple #[.int .i64 0, .int .i64 2]) ∧ ∃ n : Nat, w' = w.drewN n := rbest_any (C := []) (Or.inl rfl) (by simp)
theorem mean_z {w : World} {a : Option Addr} {c : Nat} : Calls Try.prog 19 #[.slice a 0 c] w fun e w' => Ans w none e w' := mean_any (C := []) (Or.inl rfl) (by simp) (by simp)
theorem rmean_z {w : World} {a : Option Addr} {c : Nat} : Calls Try.prog 20 #[.slice a 0 c] w fun e w' => Ans w none e w' := rmean_any (C := []) (Or.inl rfl) (by simp)

set_option maxRecDepth 100000 in
set_option maxHeartbeats 4000000 in
theorem lists_nil {u : World} {a : Option Addr} {c : Nat} : Calls Try.prog 5 #[.slice a 0 c] u fun e w' => e = .returned (.bool true) ∧ Below u.heap.size u w' := by
  cases a
  all_goals
    go_enter Try.func5, Try.ntmps5
    go_wp2_with (first
      | (go_at_call 17; refine best_nil.mono ?_; rintro e w' ⟨rfl, rfl⟩)
      | (go_at_call 18; refine rbest_nil.mono ?_; rintro e w' ⟨rfl, n1, rfl⟩)
      | (go_at_call 19; refine mean_z.mono ?_; rintro e w' ⟨r1, n2, rfl, rfl, hr1⟩)
      | (go_at_call 20; refine rmean_z.mono ?_; rintro e w' ⟨r2, n3, rfl, rfl, hr2⟩)
      | (go_at_call 10; refine (same_is hr1 hr2 _).mono ?_; rintro e w' ⟨rfl, rfl⟩))
    go_loop [8] (fun i => i = .int .i64 0) (fun _ => 0)
    case atStart => rfl
    case round =>
      subst hrel
      go_wp2_with (go_at_call 14; refine (works_true _).mono ?_; rintro e w' ⟨rfl, hb⟩)
      go_ret
      refine ⟨rfl, below_to ?_ hb⟩
      exact below_drewN (Below.refl _ _) _

set_option maxRecDepth 100000 in
set_option maxHeartbeats 4000000 in
theorem lists_walk {u : World} {a : Option Addr} {c : Nat} {C : List Nat} (hs : Fl u a C) (hC : ∀ j, C.getD j 0 < 18446744073709551616) (hc : C.length ≤ c) (hl : 8 * C.length ≤ 140737488351232) : Calls Try.prog 5 #[.slice a C.length c] u fun e w' => e = .returned (.bool true) ∧ Below u.heap.size u w' := by
  by_cases h0 : C.length = 0
  · obtain rfl : C = [] := List.eq_nil_of_length_eq_zero h0
    exact lists_nil
  obtain ⟨b, o, rfl, hbl, hcell⟩ := hs.form (by omega)
  have HS : Hid (Fl u (some ⟨b, o, none⟩) C) := hs
  have HL : Hid (8 * C.length ≤ 140737488351232) := hl
  have HCt : Hid (C.length ≤ c) := hc
  have HC : Hid (∀ j, C.getD j 0 < 18446744073709551616) := hC
  obtain ⟨i, hi, hz0, hz1, hz2⟩ := info_parts Try.info27
  have hown : u.ownsRow u.heap.size 27 1 (.slice none 0 0) 0 [] := World.ownsRow_nil _ _ _ _
  have hnews : ∀ j v, (fs C)[j]? = some v → u.cell? ((⟨b, o, none⟩ : Addr).add j) = some v := by
    intro j v hv
    have hj : j < C.length := by have := List.getElem?_eq_some_iff.1 hv; obtain ⟨h1, _⟩ := this; rw [fs_length] at h1; exact h1
    rw [fs_get C j hj] at hv
    rw [← hv, addr_add]
    exact hcell j hj
  clear hcell hs hC hc
  go_enter Try.func5, Try.ntmps5
  go_wp2_with (at_builtin; refine wpList_append_lies _ (by rfl) _ _ _ (by rfl) u.heap.size 27 i (.float .f64 0) 1 8 Try.underlying34 hi hz0 hz1 hz2 rfl (by omega) _ 0 [] (by rfl) hown ⟨b, o, none⟩ C.length c (fs C) (by rfl) (by rw [fs_length, Nat.mul_one]) hnews (fs_one C) (by omega) (by unfold maxLen; omega) (by omega) (by simp) u.heap.size (by simp) ?_; intro g cap w1 hown1 hgrow hat hlt)
  rw [List.nil_append, Nat.zero_add] at hown1
  have HF1 : Hid (Fl w1 (some ⟨g, 0, none⟩) C) := Fl.ofOwn hown1
  have HCap : Hid (C.length ≤ cap) := own_cap hown1
  have HB1 : Hid (Below u.heap.size u w1) := (Below.refl _ _).grown hgrow (by simp) (fun k hk => by simp [Value.ownBlock] at hk)
  have HF2 : Hid (Fl w1 (some ⟨b, o, none⟩) C) := HS.out.to HB1.out
  clear hown1 hgrow hat hlt hnews hown hi hz0 hz1 hz2 hl
  have hl : C.length ≤ 140737488355328 := by have := HL.out; omega
  refine (best_any HF1.out hl).mono ?_
  rintro e w2 ⟨rfl, rfl⟩
  go_wp2_with fail
  refine (rbest_any HF2.out hl).mono ?_
  rintro e w3 ⟨rfl, n1, rfl⟩
  generalize bi (bst C C.length) = p at *
  generalize be (bst C C.length) = q at *
  have f1 : (p != p) = false := by simp
  have f2 : (q != q) = false := by simp
  go_wp2_with fail
  refine (mean_any (HF1.out.drewN _) HCap.out hl).mono ?_
  rintro e w4 ⟨r1, n2, rfl, rfl, hr1⟩
  go_wp2_with fail
  refine (rmean_any (HF2.out.drewN _) hl).mono ?_
  rintro e w5 ⟨r2, n3, rfl, rfl, hr2⟩
  go_wp2_with fail
  refine (same_is hr1 hr2 _).mono ?_
  rintro e w6 ⟨rfl, rfl⟩
  have HF3 : Hid (∀ m j, j < C.length → (w2.drewN m).cell? ⟨g, j, none⟩ = some (.float .f64 (C.getD j 0))) := fun m j hj => by
    obtain ⟨b', o', e, _, h⟩ := HF1.out.form (by omega)
    simp only [Option.some.injEq, Addr.mk.injEq] at e
    obtain ⟨rfl, rfl, _⟩ := e
    have := h j hj
    rw [Nat.zero_add] at this
    exact this
  have HF4 : Hid (∀ m j, j < C.length → (w2.drewN m).cell? ⟨b, o + j, none⟩ = some (.float .f64 (C.getD j 0))) := fun m j hj => by
    obtain ⟨b', o', e, _, h⟩ := HF2.out.form (by omega)
    simp only [Option.some.injEq, Addr.mk.injEq] at e
    obtain ⟨rfl, rfl, _⟩ := e
    exact h j hj
  clear hr1 hr2 HF1 HF2
  have hn : (C.length : Int) ≤ 140737488355328 := by omega
  go_wp2_with fail
  go_loopw [8] (fun i wr => ∃ k m : Nat, k ≤ C.length ∧ i = .int .i64 k ∧ wr = w2.drewN m) (fun i _ => C.length - (intOf i).toNat)
  case atStart => exact ⟨0, _, by omega, rfl, by first | rfl | simp only [drewN_drewN]⟩
  case round =>
    obtain ⟨k, m, hk, rfl, rfl⟩ := hrel
    by_cases hlt : k < C.length
    · have r1 := HF3.out m k hlt
      have r2 := HF4.out m k hlt
      have hx := HC.out k
      have b0 : 0 ≤ (k : Int) := by omega
      have b1 : (k : Int) < (C.length : Int) := by omega
      generalize C.getD k 0 = x at *
      have K1 : Hid (∀ v, Calls Try.prog 21 #[.float .f64 x] v fun e w' => e = .returned (.string (cls x)) ∧ w' = v) := fun v => class_any hx v
      have K2 : Hid (∀ v, Calls Try.prog 22 #[.float .f64 x] v fun e w' => e = .returned (.string (cls x)) ∧ ∃ n : Nat, w' = v.drewN n) := fun v => rclass_any x v
      have K3 : Hid (∀ v, Calls Try.prog 10 #[.float .f64 x, .float .f64 x] v fun e w' => e = .returned (.bool true) ∧ w' = v) := fun v => same_refl x v
      generalize cls x = sx at *
      clear hx
      generalize hW : w2.drewN m = v at *
      have HW : Hid (w2.drewN m = v) := hW
      clear hW
      go_wp2_with fail
      go_quiet ((first | (go_at_call 21; exact Calls.quiet_of_same (K1.out _)) | (go_at_call 22; exact Calls.quiet_of (K2.out _)) | (go_at_call 10; exact Calls.quiet_of_same (K3.out _))))
      go_wp2_with fail
      go_roundw
      case rel => exact ⟨k + 1, m + nq, by omega, by go_num, by rw [← HW.out]; exact drewN_drewN _ _ _⟩
      case measure => simp [intOf]; omega
    · go_wp2_with (go_at_call 14; refine (works_true _).mono ?_; rintro e w' ⟨rfl, hb⟩)
      go_ret
      exact ⟨rfl, below_to (below_drewN HB1.out _) hb⟩

end Go.Proofs.Ytdiphgkgehpgiaa
