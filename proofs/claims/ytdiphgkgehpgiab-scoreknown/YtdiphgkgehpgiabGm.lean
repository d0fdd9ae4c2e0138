/- DERIVED. The walk of ScoreMiddle. -/
import Derived.Test.YtdiphgkgehpgiabGf
import Derived.Test.YtdiphgkgehpgiabFq
namespace Go.Proofs.Ytdiphgkgehpgiab
open Go.RowKit Ieee

/-- what Bring answers -/
def br (i n : Int) : Int := if n ≤ 0 then 0 else i % n
theorem br_in {i n : Int} (h : 0 < n) : 0 ≤ br i n ∧ br i n < n := by unfold br; rw [if_neg (by omega)]; exact ⟨Int.emod_nonneg _ (by omega), Int.emod_lt_of_pos _ h⟩

set_option maxHeartbeats 1000000 in
theorem bring_any {u : World} {i n : Int} (hn : n ≤ 140737488355328) : Calls Try.prog 6 #[.int .i64 i, .int .i64 n] u fun e w' => e = .returned (.int .i64 (br i n)) ∧ w' = u := by
  by_cases h0 : n ≤ 0
  · rw [show br i n = 0 from by unfold br; rw [if_pos h0]]
    go_enter Try.func6, Try.ntmps6
    go_wp2
    go_ret
    exact ⟨rfl, rfl⟩
  · have h1 : 0 < n := by omega
    have h2 : ¬ n = 0 := by omega
    have t0 := Int.tmod_lt_of_pos i h1
    have t1 := Int.lt_tmod_of_pos i h1
    have e1 : br i n = if i.tmod n < 0 then i.tmod n + n else i.tmod n := by
      unfold br; rw [if_neg h0]
      by_cases hi : 0 ≤ i
      · have := Int.tmod_nonneg n hi
        rw [if_neg (by omega), Int.tmod_eq_emod_of_nonneg hi]
      · have h5 := Int.emod_nonneg i (show n ≠ 0 by omega)
        have h6 := Int.emod_lt_of_pos i h1
        rw [Int.tmod_eq_emod]
        split <;> split <;> simp_all <;> omega
    generalize hq : i.tmod n = q at *
    by_cases h3 : q < 0
    · rw [e1, if_pos h3]
      go_enter Try.func6, Try.ntmps6
      go_wp2
      go_ret
      exact ⟨rfl, rfl⟩
    · rw [e1, if_neg h3]
      go_enter Try.func6, Try.ntmps6
      go_wp2
      go_ret
      exact ⟨rfl, rfl⟩

/-- a slice of ints in memory -/
def Il (w : World) (a : Option Addr) (L : List Int) : Prop :=
  L = [] ∨ ∃ b o, a = some ⟨b, o, none⟩ ∧ b < w.heap.size ∧ ∀ j, j < L.length → w.cell? ⟨b, o + j, none⟩ = some (.int .i64 (L.getD j 0))
theorem getD_app {C D : List Nat} (j : Nat) : (C ++ D).getD j 0 = if j < C.length then C.getD j 0 else D.getD (j - C.length) 0 := by
  rw [List.getD_eq_getElem?_getD, List.getD_eq_getElem?_getD, List.getD_eq_getElem?_getD, List.getElem?_append]
  split <;> rfl
theorem nan_fi (v : Int) : ¬ Nan (fi v) := by rw [fi_int]; exact nan_word _ (rnd_le _ _)
theorem sumO_app {X : List Nat} {y : Nat} : ∀ {j : Nat}, j < X.length → sumO (X ++ [y]) j = sumO X j
  | 0, h => by simp only [sumO]; rw [getD_app, if_pos h]
  | j + 1, h => by simp only [sumO]; rw [sumO_app (by omega), getD_app, if_pos h]
/-- numbers that came so far: their floats, their sum, a bound below and one above -/
structure Mid (B : Nat) (w : World) (x : Value) (X : List Nat) (S ls mo : Int) (k : Nat) : Prop where
  own : w.ownsRow B 26 1 x k (fs X)
  len : X.length = k
  sum : 0 < k → sumO X (k - 1) = some (fi S)
  s0 : k = 0 → S = 0
  lo : ls * (k : Int) ≤ S
  hi : S ≤ mo * (k : Int)
  sb : S.natAbs ≤ k * 1099511627776
  x0 : 0 < k → ∃ v0 : Int, X.getD 0 0 = fi v0 ∧ v0.natAbs ≤ 1099511627776
theorem Mid.step {B : Nat} {w w' : World} {x x' : Value} {X : List Nat} {S ls mo v ls' mo' : Int} {k : Nat} (h : Mid B w x X S ls mo k) (hv : v.natAbs ≤ 1099511627776) (hk : k < 1000) (h1 : ls' ≤ ls) (h2 : ls' ≤ v) (h3 : mo ≤ mo') (h4 : v ≤ mo') (ho : w'.ownsRow B 26 1 x' (k + 1) (fs X ++ fs [fi v])) : Mid B w' x' (X ++ [fi v]) (S + v) ls' mo' (k + 1) := by
  have hsb := h.sb
  have hkk : k * 1099511627776 ≤ 1000 * 1099511627776 := Nat.mul_le_mul_right _ (by omega)
  refine ⟨by rw [fs_append]; exact ho, by rw [List.length_append, h.len]; rfl, fun _ => ?_, fun e => by omega, ?_, ?_, ?_, fun _ => ?_⟩
  · rw [Nat.add_sub_cancel]
    rcases Nat.eq_zero_or_pos k with h0 | h0
    · subst h0
      have hX : X = [] := List.eq_nil_of_length_eq_zero h.len
      rw [h.s0 rfl, hX, Int.zero_add]
      show nz (fi v) = _
      unfold nz
      rw [if_neg (nan_fi v)]
    · obtain ⟨j, rfl⟩ : ∃ j, k = j + 1 := ⟨k - 1, by omega⟩
      simp only [sumO]
      have hs := h.sum h0
      rw [Nat.add_sub_cancel] at hs
      have hl := h.len
      rw [sumO_app (by omega), hs, Option.bind_some, getD_app, if_neg (by omega), show j + 1 - X.length = 0 from by omega]
      exact add_int (by omega) (by omega)
  · have a1 : ls' * (k : Int) ≤ ls * (k : Int) := Int.mul_le_mul_of_nonneg_right h1 (by omega)
    have a2 : ls' * ((k + 1 : Nat) : Int) = ls' * (k : Int) + ls' := by rw [Int.natCast_add, Int.mul_add]; simp
    have := h.lo
    omega
  · have a1 : mo * (k : Int) ≤ mo' * (k : Int) := Int.mul_le_mul_of_nonneg_right h3 (by omega)
    have a2 : mo' * ((k + 1 : Nat) : Int) = mo' * (k : Int) + mo' := by rw [Int.natCast_add, Int.mul_add]; simp
    have := h.hi
    omega
  · omega
  · rcases Nat.eq_zero_or_pos k with h0 | h0
    · subst h0
      have hX : X = [] := List.eq_nil_of_length_eq_zero h.len
      exact ⟨v, by rw [hX]; rfl, hv⟩
    · obtain ⟨v0, e1, e2⟩ := h.x0 h0
      exact ⟨v0, by rw [getD_app, if_pos (by rw [h.len]; exact h0)]; exact e1, e2⟩
theorem own_fl {w : World} {B k : Nat} {x : Value} {X : List Nat} (h : w.ownsRow B 26 1 x k (fs X)) (hl : X.length = k) : ∃ a c, x = .slice a X.length c ∧ X.length ≤ c ∧ Fl w a X := by
  subst hl
  obtain ⟨a, c, rfl⟩ := own_slice h
  refine ⟨a, c, rfl, ?_, Fl.ofOwn h⟩
  rcases h.2 with ⟨h1, _⟩ | ⟨g', cap, cur, h1, _, h3, h4, _⟩
  · simp only [Value.slice.injEq] at h1; omega
  · simp only [Value.slice.injEq] at h1; omega
/-- the first loop's -/
def MidInv (u v0 : World) (n : Nat) (x lv mv iv : Value) (wr : World) : Prop := ∃ (k : Nat) (X : List Nat) (S ls mo : Int), k ≤ n ∧ k ≤ 1000 ∧ iv = .int .i64 k ∧ lv = .int .i64 ls ∧ mv = .int .i64 mo ∧ Mid v0.heap.size wr x X S ls mo k ∧ Below u.heap.size u wr ∧ v0.heap.size ≤ wr.heap.size ∧ Bx (-1099511627776 ≤ ls ∧ ls ≤ 1099511627776 ∧ -1099511627776 ≤ mo ∧ mo ≤ 1099511627776)
/-- the second loop's -/
def SamInv (V : World) (N : Nat) (v : Int) (y iv : Value) (wr : World) : Prop := ∃ (j : Nat) (Y : List Nat) (S : Int), j ≤ N ∧ iv = .int .i64 j ∧ Mid V.heap.size wr y Y S v v j ∧ Below V.heap.size V wr
/-- what the mean of such numbers is -/
theorem Mid.mean {B : Nat} {w : World} {x : Value} {X : List Nat} {S ls mo : Int} {k : Nat} (h : Mid B w x X S ls mo k) (h0 : 0 < k) (hk : k ≤ 1000) : ∃ M, meanO X = some M ∧ ¬ Nan M ∧ key (fi ls) ≤ key M ∧ key M ≤ key (fi mo) := by
  have hsb := h.sb
  have hkk : k * 1099511627776 ≤ 1000 * 1099511627776 := Nat.mul_le_mul_right _ hk
  obtain ⟨q1, q2⟩ := quo_int (S := S) (m := k) (by omega) (by omega) (by omega)
  refine ⟨double.word (decide (S < 0)) (rz S.natAbs k), ?_, nan_word _ q2, mean_lo (by omega) (by omega) (by omega) h.lo, mean_hi (by omega) (by omega) (by omega) h.hi⟩
  unfold meanO
  rw [h.len, if_neg (by omega), h.sum h0]
  exact q1

set_option maxRecDepth 100000 in
set_option maxHeartbeats 4000000 in
theorem middle_walk {u : World} {a : Option Addr} {c : Nat} {L : List Int} {n : Int} (hs : Il u a L) (hl : L.length ≤ 140737488355328) : Calls Try.prog 3 #[.slice a L.length c, .int .i64 n] u fun e w' => e = .returned (.bool true) ∧ Below u.heap.size u w' := by
  have HS : Hid (Il u a L) := hs
  obtain ⟨i, hi, hz0, hz1, hz2⟩ := info_parts Try.info26
  have hln : (L.length : Int) ≤ 140737488355328 := by omega
  clear hs
  go_enter Try.func3, Try.ntmps3
  go_wp2_with fail
  refine (works_true _).mono ?_
  rintro e v0 ⟨rfl, hb⟩
  have HB : Hid (Below u.heap.size u v0) := hb
  clear hb
  go_wp2_with fail
  go_loopw [5, 6, 7, 8] (fun x lv mv iv wr => MidInv u v0 L.length x lv mv iv wr) (fun _ _ _ iv _ => 1000 - (intOf iv).toNat)
  case atStart => exact ⟨0, [], 0, 1099511627776, -1099511627776, by omega, by omega, rfl, rfl, rfl, ⟨World.ownsRow_nil _ _ _ _, rfl, fun h => by omega, fun _ => rfl, by simp, by simp, by simp, fun h => by omega⟩, HB.out, Nat.le_refl _, ⟨by omega⟩⟩
  case round =>
    obtain ⟨k, X, S, ls, mo, hk1, hk2, rfl, rfl, rfl, hM, hbw, hzw, hbx⟩ := hrel
    have HMd : Hid (Mid v0.heap.size wr u5 X S ls mo k) := hM
    have HBW : Hid (Below u.heap.size u wr) := hbw
    by_cases hlt : k < L.length ∧ k < 1000
    · obtain ⟨hlt1, hlt2⟩ := hlt
      rcases HS.out with h | ⟨b, o, rfl, hbl, hcell⟩
      · rw [h] at hlt1; simp at hlt1
      have r1 : wr.cell? ⟨b, o + k, none⟩ = some (.int .i64 (L.getD k 0)) := by rw [newCell hbw _ _ hbl]; exact hcell k hlt1
      have b0 : 0 ≤ (k : Int) := by omega
      have b1 : (k : Int) < (L.length : Int) := by omega
      have b2 : (k : Int) < 1000 := by omega
      have hq := br_in (i := L.getD k 0) (n := 2199023255553) (by omega)
      have KBr : Hid (∀ w, Calls Try.prog 6 #[.int .i64 (L.getD k 0), .int .i64 2199023255553] w fun e w' => e = .returned (.int .i64 (br (L.getD k 0) 2199023255553)) ∧ w' = w) := fun w => bring_any (by omega)
      generalize br (L.getD k 0) 2199023255553 = q at *
      generalize L.getD k 0 = lk at *
      obtain ⟨v, hv⟩ : ∃ v : Int, v = q - 1099511627776 := ⟨_, rfl⟩
      have hw : wrap64 (q - 1099511627776) = v := by unfold wrap64; omega
      have HV : Bx (v.natAbs ≤ 1099511627776) := ⟨by omega⟩
      have hown' : (wr.alloc (.cells #[.float .f64 (floatOfInt .f64 v)] 26)).ownsRow v0.heap.size 26 1 u5 k (fs X) := own_below hM.own (from_alloc _ _)
      have hnews := news_one (made1 wr (floatOfInt .f64 v))
      have hBz : v0.heap.size ≤ (wr.alloc (.cells #[.float .f64 (floatOfInt .f64 v)] 26)).heap.size := by simp; omega
      clear hq hv hM hcell hbw
      go_wp2_with (first
        | (go_at_call 6; refine (KBr.out _).mono ?_; rintro e w' ⟨rfl, rfl⟩)
        | (at_builtin; refine wpList_append_lies _ (by rfl) _ _ _ (by rfl) v0.heap.size 26 i (.float .f64 0) 1 8 Try.underlying24 hi hz0 hz1 hz2 rfl (by omega) _ k (fs X) (by rfl) hown' _ 1 1 (fs [floatOfInt .f64 v]) (by rfl) (by simp [fs]) hnews (fs_one _) (by omega) (by unfold maxLen; omega) (by omega) hBz _ rfl ?_; intro g cap w3 hown3 hgrow hat hlt))
      have hzu : u.heap.size ≤ v0.heap.size := HB.out.size
      have hbx' := hbx.out
      have hvx := HV.out
      refine ⟨⟨k + 1, X ++ [fi v], S + v, _, _, by omega, by omega, by go_num, rfl, rfl, HMd.out.step HV.out hlt2 (by split <;> omega) (by split <;> omega) (by split <;> omega) (by split <;> omega) hown3, (to_alloc HBW.out _).grown hgrow (to_alloc HBW.out _).size (fun t ht => Nat.le_trans hzu (hown'.lt t ht).1), by have := hgrow.size; omega, ⟨by refine ⟨?_, ?_, ?_, ?_⟩ <;> split <;> omega⟩⟩, by simp [intOf]; omega⟩
    · obtain ⟨xa, xc, hxe, hcap, hfl⟩ := own_fl hM.own hM.len
      have hXl := hM.len
      subst hxe
      have HF : Hid (Fl wr xa X) := hfl
      have HCp : Hid (X.length ≤ xc) := hcap
      have HXL : Hid (X.length = k) := hXl
      have hxl : (X.length : Int) ≤ 1000 := by omega
      by_cases k0 : k = 0
      · have KM : Hid (∀ w, Fl w xa X → Calls Try.prog 7 #[.slice xa X.length xc] w fun e w' => Ans w none e w') := fun w h => by
          have := mean_any h HCp.out (by omega)
          rwa [show meanO X = none from by unfold meanO; rw [if_pos (by omega)]] at this
        have e0 : ((X.length : Int) == 0) = true := by rw [hXl, k0]; rfl
        have c1 : decide ((k : Int) < (L.length : Int)) = false := decide_eq_false (by omega)
        have c2 : ¬ (k : Int) < (L.length : Int) := by omega
        have kz : (k : Int) = 0 := by omega
        clear hM hcap hfl hXl hbw
        go_wp2_with fail
        refine (KM.out _ HF.out).mono ?_
        rintro e w5 ⟨r, nn, rfl, rfl, hr⟩
        have hne : (FloatKind.f64.format.order r r != some .eq) = true := by rw [nan_ne]; exact decide_eq_true hr
        go_wp2_with fail
        go_ret
        exact ⟨rfl, below_drewN HBW.out _⟩
      · obtain ⟨M, hm1, hm2, hm3, hm4⟩ := hM.mean (by omega) hk2
        obtain ⟨v00, hx0, hv00⟩ := hM.x0 (by omega)
        have KM : Hid (∀ w, Fl w xa X → Calls Try.prog 7 #[.slice xa X.length xc] w fun e w' => Ans w (some M) e w') := fun w h => by
          have := mean_any h HCp.out (by omega)
          rwa [hm1] at this
        have e0 : ((X.length : Int) == 0) = false := by rw [beq_eq_false_iff_ne]; omega
        have o1 : (FloatKind.f64.format.order M (floatOfInt .f64 ls) == some .gt || FloatKind.f64.format.order M (floatOfInt .f64 ls) == some .eq) = true := by rw [ord_fmt, ord_ge]; exact decide_eq_true ⟨nan_fi ls, hm2, hm3⟩
        have o2 : (FloatKind.f64.format.order M (floatOfInt .f64 mo) == some .lt || FloatKind.f64.format.order M (floatOfInt .f64 mo) == some .eq) = true := by rw [ord_fmt, ord_le]; exact decide_eq_true ⟨hm2, nan_fi mo, hm4⟩
        have HX0 : Hid (X.getD 0 0 = fi v00) := hx0
        have HV0 : Bx (v00.natAbs ≤ 1099511627776) := ⟨hv00⟩
        have hxp : (0 : Int) < (X.length : Int) := by omega
        have KB2 : Hid (∀ w, Calls Try.prog 6 #[.int .i64 n, .int .i64 1000] w fun e w' => e = .returned (.int .i64 (br n 1000)) ∧ w' = w) := fun w => bring_any (by omega)
        have hN := br_in (i := n) (n := 1000) (by omega)
        obtain ⟨N, hNe⟩ : ∃ N : Nat, (N : Int) = br n 1000 := ⟨(br n 1000).toNat, by omega⟩
        rw [← hNe] at KB2 hN
        have hN1 : N < 1000 := by omega
        have hN2 : (N : Int) < 1000 := by omega
        have HCond : (k < L.length ∧ ¬ k < 1000) ∨ ¬ k < L.length := by omega
        clear hM hcap hfl hXl hbw hm1 hm2 hm3 hm4 hx0 hv00 hN hNe
        rcases HCond with ⟨g1, g2⟩ | g1
        all_goals
          first
            | (have c1 : (k : Int) < (L.length : Int) := (by omega); have c2 : ¬ (k : Int) < 1000 := (by omega); have c3 : decide ((k : Int) < 1000) = false := decide_eq_false c2)
            | (have c1 : ¬ (k : Int) < (L.length : Int) := (by omega); have c2 : decide ((k : Int) < (L.length : Int)) = false := decide_eq_false c1)
          go_wp2_with fail
          refine (KM.out _ HF.out).mono ?_
          rintro e w5 ⟨r, nn, rfl, rfl, hr⟩
          obtain rfl : r = M := hr
          have HF5 : Hid (Fl (wr.drewN nn) xa X) := HF.out.drewN nn
          have HB5 : Hid (Below u.heap.size u (wr.drewN nn)) := below_drewN HBW.out nn
          generalize wr.drewN nn = w5 at *
          go_wp2_with fail
          go_loopw [11, 12] (fun y iv wr => SamInv w5 (1 + N) v00 y iv wr) (fun _ iv _ => 1 + N - (intOf iv).toNat)
          case atStart => exact ⟨0, [], 0, by omega, rfl, ⟨World.ownsRow_nil _ _ _ _, rfl, fun h => by omega, fun _ => rfl, by simp, by simp, by simp, fun h => by omega⟩, Below.refl _ _⟩
          case round =>
            obtain ⟨j, Y, S2, hj, rfl, hY, hb2⟩ := hrel
            have HY : Hid (Mid w5.heap.size wr u11 Y S2 v00 v00 j) := hY
            have HBQ : Hid (Below w5.heap.size w5 wr) := hb2
            obtain ⟨xb, xo, rfl, hxl2, hxc⟩ := (HF5.out.to hb2).form (by omega)
            have r0 : wr.cell? ⟨xb, xo, none⟩ = some (.float .f64 (fi v00)) := by have := hxc 0 (by omega); rw [HX0.out] at this; exact this
            by_cases hlt : j < 1 + N
            · have d0 : (j : Int) < 1 + (N : Int) := by omega
              have hown' : (wr.alloc (.cells #[.float .f64 (fi v00)] 26)).ownsRow w5.heap.size 26 1 u11 j (fs Y) := own_below hY.own (from_alloc _ _)
              have hnews := news_one (made1 wr (fi v00))
              have hBz : w5.heap.size ≤ (wr.alloc (.cells #[.float .f64 (fi v00)] 26)).heap.size := by have := hb2.size; simp; omega
              have hj1 : j < 1000 := by omega
              clear hY hb2 hxc
              go_wp2_with (first
                | (go_at_call 6; refine (KB2.out _).mono ?_; rintro e w' ⟨rfl, rfl⟩)
                | (at_builtin; refine wpList_append_lies _ (by rfl) _ _ _ (by rfl) w5.heap.size 26 i (.float .f64 0) 1 8 Try.underlying24 hi hz0 hz1 hz2 rfl (by omega) _ j (fs Y) (by rfl) hown' _ 1 1 (fs [fi v00]) (by rfl) (by simp [fs]) hnews (fs_one _) (by omega) (by unfold maxLen; omega) (by omega) hBz _ rfl ?_; intro g cap w3 hown3 hgrow hat hlt))
              exact ⟨⟨j + 1, Y ++ [fi v00], S2 + v00, by omega, by go_num, HY.out.step HV0.out hj1 (Int.le_refl _) (Int.le_refl _) (Int.le_refl _) (Int.le_refl _) hown3, (to_alloc HBQ.out _).grown hgrow (to_alloc HBQ.out _).size (fun t ht => (hown'.lt t ht).1)⟩, by simp [intOf]; omega⟩
            · obtain ⟨M2, m1, m2, m3, m4⟩ := hY.mean (by omega) (by omega)
              obtain ⟨ya, yc, hye, hcap2, hfl2⟩ := own_fl hY.own hY.len
              have hYl := hY.len
              subst hye
              have o3 : (FloatKind.f64.format.order M2 (fi v00) == some .eq) = true := by rw [ord_fmt, ord_eq]; exact decide_eq_true ⟨m2, nan_fi _, by omega⟩
              have KM2 : Hid (∀ m, Calls Try.prog 7 #[.slice ya Y.length yc] (wr.drewN m) fun e w' => e = .returned (.float .f64 M2) ∧ ∃ q, w' = (wr.drewN m).drewN q) := fun m => by
                have := mean_any (hfl2.drewN m) hcap2 (by omega)
                rw [m1] at this
                exact this.mono (by
                  rintro e w' ⟨r3, q, rfl, rfl, h3⟩
                  obtain rfl : r3 = M2 := h3
                  exact ⟨rfl, q, rfl⟩)
              have d0 : ¬ (j : Int) < 1 + (N : Int) := by omega
              have HBE : Hid (Below u.heap.size u wr) := below_to HB5.out hb2
              generalize fi v00 = y0 at *
              clear hY hb2 hxc hcap2 hfl2 hYl m1 m2 m3 m4
              go_wp2_with (go_at_call 6; refine (KB2.out _).mono ?_; rintro e w' ⟨rfl, rfl⟩)
              go_quiet ((go_at_call 7; exact Calls.quiet_of (KM2.out _)))
              go_wp2_with fail
              go_ret
              exact ⟨rfl, below_drewN HBE.out _⟩

end Go.Proofs.Ytdiphgkgehpgiab
