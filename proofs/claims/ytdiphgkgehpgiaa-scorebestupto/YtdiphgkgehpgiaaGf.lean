/- DERIVED. The walk of ScoreBest. -/
import Derived.Test.YtdiphgkgehpgiaaGc
import Derived.Test.YtdiphgkgehpgiaaFn
namespace Go.Proofs.Ytdiphgkgehpgiaa
open Go.RowKit Ieee

theorem quotients_any (w : World) : Calls Try.prog 26 #[] w fun e w' => ∃ x n : Nat, e = .returned (.tuple #[.float .f64 9218868437227405312, .float .f64 18442240474082181120, .float .f64 x, .float .f64 9223372036854775808]) ∧ w' = w.drewN n ∧ Nan x := by
  have h1 : ∀ t w, (binOp .quo t (.float .f64 4607182418800017408) (.float .f64 0)).run Try.prog w = .ok (.float .f64 9218868437227405312) w := fun t w => run_float_arith w .quo t .f64 _ _ _ (by decide +kernel)
  have h2 : ∀ t w, (binOp .quo t (.float .f64 13830554455654793216) (.float .f64 0)).run Try.prog w = .ok (.float .f64 18442240474082181120) w := fun t w => run_float_arith w .quo t .f64 _ _ _ (by decide +kernel)
  have h3 := f_quo Try.prog 0 0
  have h4 : ∀ t w, (binOp .quo t (.float .f64 13830554455654793216) (.float .f64 9218868437227405312)).run Try.prog w = .ok (.float .f64 9223372036854775808) w := fun t w => run_float_arith w .quo t .f64 _ _ _ (by decide +kernel)
  go_enter Try.func26, Try.ntmps26
  go_wp2
  go_returns
  exact ⟨_, _, rfl, rfl, zero_nan _⟩

theorem made1 (w : World) (x : Nat) : (w.alloc (.cells #[.float .f64 x] 27)).cell? ⟨w.heap.size, 0, none⟩ = some (.float .f64 x) := by simp
theorem news_one {w : World} {g x : Nat} (h : w.cell? ⟨g, 0, none⟩ = some (.float .f64 x)) : ∀ j v, (fs [x])[j]? = some v → w.cell? ((⟨g, 0, none⟩ : Addr).add j) = some v := by
  intro j v hv
  rcases j with _ | j
  · simp [fs] at hv
    rw [← hv, addr_add]; exact h
  · simp [fs] at hv
theorem news_all {w : World} {b o : Nat} {C : List Nat} (hcell : ∀ j, j < C.length → w.cell? ⟨b, o + j, none⟩ = some (.float .f64 (C.getD j 0))) : ∀ j v, (fs C)[j]? = some v → w.cell? ((⟨b, o, none⟩ : Addr).add j) = some v := by
  intro j v hv
  have hj : j < C.length := by have := List.getElem?_eq_some_iff.1 hv; obtain ⟨h1, _⟩ := this; rw [fs_length] at h1; exact h1
  rw [fs_get C j hj] at hv
  rw [← hv, addr_add]
  exact hcell j hj
theorem Fl.cells {w : World} {b o : Nat} {C : List Nat} (h : Fl w (some ⟨b, o, none⟩) C) : ∀ j, j < C.length → w.cell? ⟨b, o + j, none⟩ = some (.float .f64 (C.getD j 0)) := fun j hj => by
  obtain ⟨b', o', e, _, h⟩ := h.form (by omega)
  simp only [Option.some.injEq, Addr.mk.injEq] at e
  obtain ⟨rfl, rfl, _⟩ := e
  exact h j hj
theorem fs_append (C D : List Nat) : fs (C ++ D) = fs C ++ fs D := by simp [fs]
theorem best_of {C : List Nat} {o : Option Nat} (ho : bst C C.length = o) {w : World} {a : Option Addr} {c n : Nat} (hn : n = C.length) (hs : Fl w a C) (hl : C.length ≤ 140737488355328) :
    Calls Try.prog 17 #[.slice a n c] w fun e w' => e = .returned (.tuple #[.int .i64 (bi o), .int .i64 (be o)]) ∧ w' = w := by subst ho hn; exact best_any hs hl

set_option maxRecDepth 100000 in
set_option maxHeartbeats 4000000 in
theorem bestlaw_nil {u : World} {a : Option Addr} {c : Nat} : Calls Try.prog 8 #[.slice a 0 c] u fun e w' => e = .returned (.bool true) ∧ Below u.heap.size u w' := by
  obtain ⟨i, hi, hz0, hz1, hz2⟩ := info_parts Try.info27
  cases a
  all_goals
    go_enter Try.func8, Try.ntmps8
    go_wp2_with fail
    refine (works_true _).mono ?_
    rintro e v0 ⟨rfl, hb⟩
    have HB : Hid (Below u.heap.size u v0) := hb
    clear hb
    go_wp2_with fail
    refine best_nil.mono ?_
    rintro e w' ⟨rfl, rfl⟩
    go_wp2_with fail
    refine (quotients_any _).mono ?_
    rintro e w'' ⟨x, n, rfl, rfl, hx⟩
    have HB2 : Hid (Below u.heap.size u (w'.drewN n)) := below_drewN HB.out _
    have HX : Hid (Nan x) := hx
    clear hx
    generalize w'.drewN n = v2 at *
    have hown : (v2.alloc (.cells #[.float .f64 x] 27)).ownsRow (v2.alloc (.cells #[.float .f64 x] 27)).heap.size 27 1 (.slice none 0 0) 0 [] := World.ownsRow_nil _ _ _ _
    have hnews := news_one (w := v2.alloc (.cells #[.float .f64 x] 27)) (g := v2.heap.size) (x := x) (by simp)
    go_wp2_with (at_builtin; refine wpList_append_lies _ (by rfl) _ _ _ (by rfl) (v2.alloc (.cells #[.float .f64 x] 27)).heap.size 27 i (.float .f64 0) 1 8 Try.underlying34 hi hz0 hz1 hz2 rfl (by omega) _ 0 [] (by rfl) hown ⟨v2.heap.size, 0, none⟩ 1 1 (fs [x]) (by rfl) (by simp [fs]) hnews (fs_one [x]) (by omega) (by unfold maxLen; omega) (by omega) (Nat.le_refl _) _ rfl ?_; intro g cap w3 hown3 hgrow hat hlt)
    rw [List.nil_append] at hown3
    have HB3 : Hid (Below u.heap.size u w3) := below_to (to_alloc HB2.out _) ((Below.refl _ _).grown hgrow (Nat.le_refl _) (fun k hk => by simp [Value.ownBlock] at hk))
    have HF : Hid (Fl w3 (some ⟨g, 0, none⟩) [x]) := Fl.ofOwn (C := [x]) hown3
    have HO : Hid (bst [x] [x].length = none) := if_pos HX.out
    clear hown3 hgrow hat hlt hown hnews
    refine (best_of HO.out rfl HF.out (by simp)).mono ?_
    rintro e w4 ⟨rfl, rfl⟩
    simp only [bi, be]
    go_wp2_with fail
    go_loop [12] (fun i => i = .int .i64 0) (fun _ => 0)
    case atStart => rfl
    case round =>
      subst hrel
      go_wp2_with fail
      go_ret
      exact ⟨rfl, HB3.out⟩

set_option maxRecDepth 100000 in
set_option maxHeartbeats 4000000 in
theorem bestlaw_walk {u : World} {a : Option Addr} {c : Nat} {C : List Nat} (hs : Fl u a C) (hl : C.length ≤ 1048576) : Calls Try.prog 8 #[.slice a C.length c] u fun e w' => e = .returned (.bool true) ∧ Below u.heap.size u w' := by
  by_cases h0 : C.length = 0
  · obtain rfl : C = [] := List.eq_nil_of_length_eq_zero h0
    exact bestlaw_nil
  obtain ⟨b, o, rfl, hbl, hcell⟩ := hs.form (by omega)
  have HS : Hid (Fl u (some ⟨b, o, none⟩) C) := hs
  have HL : Hid (C.length ≤ 1048576) := hl
  have hbig : C.length ≤ 140737488355328 := by omega
  have hn : (C.length : Int) ≤ 1048576 := by omega
  obtain ⟨i, hi, hz0, hz1, hz2⟩ := info_parts Try.info27
  clear hcell hs
  go_enter Try.func8, Try.ntmps8
  go_wp2_with fail
  refine (works_true _).mono ?_
  rintro e v0 ⟨rfl, hb⟩
  have HB : Hid (Below u.heap.size u v0) := hb
  clear hb
  go_wp2_with fail
  refine (best_any (HS.out.to HB.out) hbig).mono ?_
  rintro e v1 ⟨rfl, rfl⟩
  have hown : v1.ownsRow v1.heap.size 27 1 (.slice none 0 0) 0 [] := World.ownsRow_nil _ _ _ _
  have hnews := news_all (HS.out.to HB.out).cells
  go_wp2_with (first
    | (at_builtin; refine wpList_append_lies _ (by rfl) _ _ _ (by rfl) v1.heap.size 27 i (.float .f64 0) 1 8 Try.underlying34 hi hz0 hz1 hz2 rfl (by omega) _ 0 [] (by rfl) hown ⟨b, o, none⟩ C.length c (fs C) (by rfl) (by rw [fs_length, Nat.mul_one]) hnews (fs_one C) (by omega) (by unfold maxLen; omega) (by omega) (Nat.le_refl _) _ rfl ?_; intro g cap w1 hown1 hgrow hat hlt; rw [List.nil_append, Nat.zero_add] at hown1; have hb1 : Below v1.heap.size v1 w1 := (Below.refl _ _).grown hgrow (Nat.le_refl _) (fun k hk => by simp [Value.ownBlock] at hk); have hnews2 := news_all ((HS.out.to HB.out).to hb1).cells; have hz1b : v1.heap.size ≤ w1.heap.size := hb1.size)
    | (at_builtin; refine wpList_append_lies _ (by rfl) _ _ _ (by rfl) v1.heap.size 27 i (.float .f64 0) 1 8 Try.underlying34 hi hz0 hz1 hz2 rfl (by omega) _ C.length (fs C) (by rfl) hown1 ⟨b, o, none⟩ C.length c (fs C) (by rfl) (by rw [fs_length, Nat.mul_one]) hnews2 (fs_one C) (by omega) (by unfold maxLen; omega) (by omega) hz1b _ rfl ?_; intro g2 cap2 w2 hown2 hgrow2 hat2 hlt2; rw [← fs_append] at hown2))
  have HB2 : Hid (Below u.heap.size u w2) := below_to HB.out (hb1.grown hgrow2 hz1b (fun k hk => (hown1.lt k hk).1))
  have HO2 : Hid (w2.ownsRow v1.heap.size 27 1 (.slice (some ⟨g2, 0, none⟩) (C.length + C.length) cap2) (C.length + C.length) (fs (C ++ C))) := hown2
  have hvz : v1.heap.size ≤ w2.heap.size := by have := hgrow2.size; omega
  clear hown hnews hown1 hgrow hat hlt hb1 hnews2 hz1b hown2 hgrow2 hat2 hlt2
  refine (quotients_any _).mono ?_
  rintro e w'' ⟨x, n, rfl, rfl, hx⟩
  have HX : Hid (Nan x) := hx
  have hown3 : ((w2.drewN n).alloc (.cells #[.float .f64 x] 27)).ownsRow v1.heap.size 27 1 (.slice (some ⟨g2, 0, none⟩) (C.length + C.length) cap2) (C.length + C.length) (fs (C ++ C)) := own_below HO2.out (to_alloc (below_drewN (Below.refl _ _) n) _)
  have hnews3 : ∀ j v, (fs [x])[j]? = some v → ((w2.drewN n).alloc (.cells #[.float .f64 x] 27)).cell? ((⟨w2.heap.size, 0, none⟩ : Addr).add j) = some v := news_one (made1 (w2.drewN n) x)
  have HB3 : Hid (Below u.heap.size u ((w2.drewN n).alloc (.cells #[.float .f64 x] 27))) := to_alloc (below_drewN HB2.out n) _
  have hz3 : v1.heap.size ≤ ((w2.drewN n).alloc (.cells #[.float .f64 x] 27)).heap.size := by simp; omega
  clear hx
  go_wp2_with (at_builtin; refine wpList_append_lies _ (by rfl) _ _ _ (by rfl) v1.heap.size 27 i (.float .f64 0) 1 8 Try.underlying34 hi hz0 hz1 hz2 rfl (by omega) _ (C.length + C.length) (fs (C ++ C)) (by rfl) hown3 ⟨w2.heap.size, 0, none⟩ 1 1 (fs [x]) (by rfl) (by simp [fs]) hnews3 (fs_one [x]) (by omega) (by unfold maxLen; omega) (by omega) hz3 _ rfl ?_; intro g3 cap3 w3 hown4 hgrow3 hat3 hlt3)
  rw [← fs_append] at hown4
  have hlenD : C.length + C.length + 1 = (C ++ C ++ [x]).length := by simp <;> omega
  have HF : Hid (Fl w3 (some ⟨g3, 0, none⟩) (C ++ C ++ [x])) := Fl.ofOwn (C := C ++ C ++ [x]) (by rw [hlenD] at hown4; exact hown4)
  have HB4 : Hid (Below u.heap.size u w3) := by
    have hzu : u.heap.size ≤ v1.heap.size := HB.out.size
    exact HB3.out.grown hgrow3 HB3.out.size (fun k hk => Nat.le_trans hzu (hown3.lt k hk).1)
  have HLD : Hid (C.length + C.length + 1 = (C ++ C ++ [x]).length) := hlenD
  have HSC : Hid (∀ m j, j < C.length → (w3.drewN m).cell? ⟨b, o + j, none⟩ = some (.float .f64 (C.getD j 0))) := fun m => (HS.out.to HB4.out).cells
  clear hown3 hown4 hnews3 hgrow3 hat3 hlt3 hz3 hvz hlenD
  have HT := bst_twice (C := C) HX.out
  cases ho : bst C C.length with
  | none =>
    rw [ho] at HT
    have HO : Hid _ := HT
    have HN : Hid (∀ j, j < C.length → Nan (C.getD j 0)) := bst_none ho
    clear ho HT
    refine (best_of HO.out HLD.out HF.out (by rw [← HLD.out]; omega)).mono ?_
    rintro e w4 ⟨rfl, rfl⟩
    simp only [bi, be]
    go_wp2_with fail
    go_loopw [12] (fun i wr => ∃ k m : Nat, k ≤ C.length ∧ i = .int .i64 k ∧ wr = w4.drewN m) (fun i _ => C.length - (intOf i).toNat)
    case atStart => exact ⟨0, 0, by omega, rfl, rfl⟩
    case round =>
      obtain ⟨k, m, hk, rfl, rfl⟩ := hrel
      by_cases hlt : k < C.length
      · have r1 := HSC.out m k hlt
        have b0 : 0 ≤ (k : Int) := by omega
        have b1 : (k : Int) < (C.length : Int) := by omega
        have f1 : (FloatKind.f64.format.order (C.getD k 0) (C.getD k 0) == some .eq) = false := by rw [ord_fmt, ord_eq]; exact feq_nan _ (HN.out k hlt)
        generalize C.getD k 0 = y at *
        generalize hW : w4.drewN m = v at *
        have HW : Hid (w4.drewN m = v) := hW
        clear hW
        go_wp2_with fail
        go_quiet (fail)
        go_wp2_with fail
        go_roundw
        case rel => exact ⟨k + 1, m + nq, by omega, by go_num, by rw [← HW.out]; exact drewN_drewN _ _ _⟩
        case measure => simp [intOf]; omega
      · go_wp2_with fail
        go_ret
        exact ⟨rfl, below_drewN HB4.out _⟩
  | some t =>
    rw [ho] at HT
    have HO : Hid _ := HT
    have ht := bst_lt ho
    obtain ⟨hT1, hT2⟩ := bst_some ho
    have HT1 : Hid (¬ Nan (C.getD t 0)) := hT1
    have HT2 : Hid (∀ j, j < C.length → flt (C.getD j 0) (C.getD t 0) = false ∧ (j < t → feq (C.getD j 0) (C.getD t 0) = false)) := fun j hj => by
      rcases hT2 j hj with h | ⟨h1, h2⟩
      · exact ⟨flt_nan _ h, fun _ => feq_nan _ h⟩
      · exact ⟨decide_eq_false (fun k => by have := k.2.2; omega), fun h => decide_eq_false (fun k => by have := k.2.2; have := h2 h; omega)⟩
    clear ho HT hT1 hT2
    refine (best_of HO.out HLD.out HF.out (by rw [← HLD.out]; omega)).mono ?_
    rintro e w4 ⟨rfl, rfl⟩
    simp only [bi, be]
    have t0 : 0 ≤ (t : Int) := by omega
    have t1 : (t : Int) < (C.length : Int) := by omega
    have t2 : ((t : Int) != (t : Int)) = false := by simp
    have t3 : ((t : Int) == (C.length : Int)) = false := by rw [beq_eq_false_iff_ne]; omega
    have r2 : w4.cell? ⟨b, o + t, none⟩ = some (.float .f64 (C.getD t 0)) := HSC.out 0 t ht
    have f0 : (FloatKind.f64.format.order (C.getD t 0) (C.getD t 0) != some .eq) = false := by rw [nan_ne]; exact decide_eq_false HT1.out
    obtain ⟨z0, hz0⟩ : ∃ z, z = C.getD t 0 := ⟨_, rfl⟩
    rw [← hz0] at r2 f0
    clear hz0
    go_wp2_with fail
    go_quiet (fail)
    go_wp2_with fail
    go_loopw [13] (fun i wr => ∃ k m : Nat, k ≤ C.length ∧ i = .int .i64 k ∧ wr = w4.drewN m) (fun i _ => C.length - (intOf i).toNat)
    case atStart => exact ⟨0, _, by omega, rfl, rfl⟩
    case round =>
      obtain ⟨k, m, hk, rfl, rfl⟩ := hrel
      clear r2 f0
      by_cases hlt : k < C.length
      · have r1 := HSC.out m k hlt
        have r2 := HSC.out m t ht
        have b0 : 0 ≤ (k : Int) := by omega
        have b1 : (k : Int) < (C.length : Int) := by omega
        obtain ⟨g1, g2⟩ := HT2.out k hlt
        have f1 : (FloatKind.f64.format.order (C.getD k 0) (C.getD t 0) == some .lt) = false := by rw [ord_fmt, ord_lt, g1]
        by_cases hkt : k < t
        · have f2 : (FloatKind.f64.format.order (C.getD k 0) (C.getD t 0) == some .eq) = false := by rw [ord_fmt, ord_eq, g2 hkt]
          have b2 : (k : Int) < (t : Int) := by omega
          clear g1 g2
          generalize C.getD k 0 = y at *
          generalize C.getD t 0 = z at *
          generalize hW : w4.drewN m = v at *
          have HW : Hid (w4.drewN m = v) := hW
          clear hW
          go_wp2_with fail
          go_quiet (fail)
          go_wp2_with fail
          go_roundw
          case rel => exact ⟨k + 1, m + nq, by omega, by go_num, by rw [← HW.out]; exact drewN_drewN _ _ _⟩
          case measure => simp [intOf]; omega
        · have b2 : decide ((k : Int) < (t : Int)) = false := decide_eq_false (by omega)
          clear g1 g2
          generalize C.getD k 0 = y at *
          generalize C.getD t 0 = z at *
          generalize hW : w4.drewN m = v at *
          have HW : Hid (w4.drewN m = v) := hW
          clear hW
          go_wp2_with fail
          go_quiet (fail)
          go_wp2_with fail
          go_roundw
          case rel => exact ⟨k + 1, m + nq, by omega, by go_num, by rw [← HW.out]; exact drewN_drewN _ _ _⟩
          case measure => simp [intOf]; omega
      · go_wp2_with fail
        go_ret
        exact ⟨rfl, below_drewN HB4.out _⟩

end Go.Proofs.Ytdiphgkgehpgiaa
