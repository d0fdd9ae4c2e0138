/- DERIVED. The walks of isSide, side, Abs, Clip, the closure of predictor, meanOf, within. -/
import Derived.Test.YtlcegnnhlfafgaaBa
namespace Go.Proofs.Ytlcegnnhlfafgaa
open Go.RowKit

/-- a side that a block may have -/
structure Sd (n : Nat) : Prop where
  lo : 4 ≤ n
  hi : n ≤ 32
  four : n % 4 = 0
/-- is it one? -/
def sdB (z : Int) : Bool := decide (4 ≤ z ∧ z ≤ 32 ∧ z % 4 = 0)
theorem sdB_yes {n : Nat} (h : Sd n) : sdB (n : Int) = true := by
  have h0 := h.lo
  have h1 := h.hi
  have h2 := h.four
  exact decide_eq_true ⟨by omega, by omega, by omega⟩
theorem sdB_true {z : Int} (h : sdB z = true) : ∃ n : Nat, z = (n : Int) ∧ Sd n := by
  obtain ⟨h0, h1, h2⟩ := of_decide_eq_true h
  exact ⟨z.toNat, by omega, by omega, by omega, by omega⟩
theorem four_mod (z : Int) : (z.tmod 4 == 0) = (z % 4 == 0) := by
  by_cases h : z % 4 = 0
  · rw [Int.tmod_eq_zero_of_dvd (Int.dvd_of_emod_eq_zero h), h]
  · have : z.tmod 4 ≠ 0 := fun e => h (Int.emod_eq_zero_of_dvd (Int.dvd_of_tmod_eq_zero e))
    rw [beq_eq_false_iff_ne.2 this, beq_eq_false_iff_ne.2 h]

set_option maxHeartbeats 400000 in
theorem isSide_any {w : World} {z : Int} : Calls Try.prog 22 #[.int .i64 z] w fun e w' => e = .returned (.bool (sdB z)) ∧ w = w' := by
  by_cases h0 : 4 ≤ z
  · by_cases h1 : z ≤ 32
    · have HA : Hid (sdB z = (z % 4 == 0)) := by
        by_cases h2 : z % 4 = 0
        · show _ = _; rw [h2]; exact decide_eq_true ⟨h0, h1, h2⟩
        · show _ = _; rw [beq_eq_false_iff_ne.2 h2]; exact decide_eq_false fun k => h2 k.2.2
      go_enter Try.func22, Try.ntmps22
      go_wp2_with fail
      go_ret
      exact ⟨by rw [HA.out]; rfl, rfl⟩
    · have HA : Hid (sdB z = false) := decide_eq_false fun k => h1 k.2.1
      go_enter Try.func22, Try.ntmps22
      go_wp2_with fail
      go_ret
      exact ⟨by rw [HA.out]; rfl, rfl⟩
  · have HA : Hid (sdB z = false) := decide_eq_false fun k => h0 k.1
    go_enter Try.func22, Try.ntmps22
    go_wp2_with fail
    go_ret
    exact ⟨by rw [HA.out]; rfl, rfl⟩

set_option maxHeartbeats 400000 in
theorem side_any {w : World} {z : Int} : Calls Try.prog 25 #[.int .i64 z] w fun e w' => e = .returned (.bool (sdB z)) ∧ w = w' := by
  have e1 := four_mod z
  by_cases h2 : z % 4 = 0
  · have e2 : (z % 4 == 0) = true := by simp [h2]
    rw [e2] at e1
    by_cases h0 : 4 ≤ z
    · by_cases h1 : z ≤ 32
      · have HA : Hid (sdB z = true) := decide_eq_true ⟨h0, h1, h2⟩
        clear h2
        go_enter Try.func25, Try.ntmps25
        go_wp2_with fail
        go_ret
        exact ⟨by rw [HA.out]; rfl, rfl⟩
      · have HA : Hid (sdB z = false) := decide_eq_false fun k => h1 k.2.1
        clear h2
        go_enter Try.func25, Try.ntmps25
        go_wp2_with fail
        go_ret
        exact ⟨by rw [HA.out]; rfl, rfl⟩
    · have HA : Hid (sdB z = false) := decide_eq_false fun k => h0 k.1
      clear h2
      go_enter Try.func25, Try.ntmps25
      go_wp2_with fail
      go_ret
      exact ⟨by rw [HA.out]; rfl, rfl⟩
  · have e2 : (z % 4 == 0) = false := by simp [h2]
    rw [e2] at e1
    have HA : Hid (sdB z = false) := decide_eq_false fun k => h2 k.2.2
    clear h2
    go_enter Try.func25, Try.ntmps25
    go_wp2_with fail
    go_ret
    exact ⟨by rw [HA.out]; rfl, rfl⟩

/-- without its sign -/
def ab (v : Int) : Int := if v < 0 then -v else v
theorem ab_le {v M : Int} (h : -M ≤ v ∧ v ≤ M) : ab v ≤ M := by unfold ab; split <;> omega
theorem ab_pos (v : Int) : 0 ≤ ab v := by unfold ab; split <;> omega
theorem mv_ab (p : Int) : mv p = if p < 0 then -((ab p + 32) / 64) else (ab p + 32) / 64 := by
  unfold mv ab
  by_cases h : p < 0
  · simp only [if_pos h]
  · simp only [if_neg h]
set_option maxHeartbeats 400000 in
theorem abs_any {w : World} {v : Int} (h : -4611686018427387904 ≤ v ∧ v ≤ 4611686018427387904) : Calls Try.prog 19 #[.int .i64 v] w fun e w' => e = .returned (.int .i64 (ab v)) ∧ w = w' := by
  obtain ⟨h0, h1⟩ := h
  by_cases hz : v < 0
  · have HA : Hid (ab v = -v) := by show _ = _; unfold ab; rw [if_pos hz]
    go_enter Try.func19, Try.ntmps19
    go_wp2_with fail
    go_ret
    exact ⟨by rw [HA.out]; rfl, rfl⟩
  · have HA : Hid (ab v = v) := by show _ = _; unfold ab; rw [if_neg hz]
    go_enter Try.func19, Try.ntmps19
    go_wp2_with fail
    go_ret
    exact ⟨by rw [HA.out]; rfl, rfl⟩

/-- brought between 0 and 255 -/
def cl (v : Int) : Int := if v < 0 then 0 else if 255 < v then 255 else v
theorem pd_cl (b : Nat) (p : Int) : ((pd b p : Nat) : Int) = cl ((b : Int) + mv p) := by
  unfold pd cl
  split
  · rfl
  · split
    · rfl
    · omega
theorem cl_in (v : Int) : 0 ≤ cl v ∧ cl v ≤ 255 := by unfold cl; split; omega; split <;> omega
set_option maxHeartbeats 400000 in
theorem clip_any {w : World} {v : Int} : Calls Try.prog 28 #[.int .i64 v, .int .i64 0, .int .i64 255] w fun e w' => e = .returned (.int .i64 (cl v)) ∧ w = w' := by
  by_cases h0 : v < 0
  · have HA : Hid (cl v = 0) := by show _ = _; unfold cl; rw [if_pos h0]
    go_enter Try.func28, Try.ntmps28
    go_wp2_with fail
    go_ret
    exact ⟨by rw [HA.out]; rfl, rfl⟩
  · by_cases h1 : 255 < v
    · have HA : Hid (cl v = 255) := by show _ = _; unfold cl; rw [if_neg h0, if_pos h1]
      go_enter Try.func28, Try.ntmps28
      go_wp2_with fail
      go_ret
      exact ⟨by rw [HA.out]; rfl, rfl⟩
    · have HA : Hid (cl v = v) := by show _ = _; unfold cl; rw [if_neg h0, if_neg h1]
      go_enter Try.func28, Try.ntmps28
      go_wp2_with fail
      go_ret
      exact ⟨by rw [HA.out]; rfl, rfl⟩

set_option maxRecDepth 100000 in
set_option maxHeartbeats 1000000 in
theorem meanOf_any {w : World} {a : Option Addr} {c n : Nat} {f : Nat → Nat} (h : Si w a (nm f n)) (h0 : 0 < n) (h1 : n ≤ 1024) (hf : ∀ i, i < n → f i ≤ 2040) :
    Calls Try.prog 24 #[.slice a n c] w fun e w' => e = .returned (.int .i64 (mn f n : Nat)) ∧ w = w' := by
  obtain ⟨b, o, rfl, hbl, hc⟩ := h.form (by rw [nm_len]; exact h0)
  have HC : Hid (∀ j, j < n → w.cell? ⟨b, o + j, none⟩ = some (.int .i64 (f j : Nat))) := fun j hj => by rw [hc j (by rw [nm_len]; exact hj), nm_get _ _ _ hj]
  have HS : Hid (∀ k, k ≤ n → sm f k ≤ 2088960) := fun k hk => by
    have h2 := sm_le (f := f) (n := k) (M := 2040) (fun i hi => hf i (by omega))
    have h3 : k * 2040 ≤ 1024 * 2040 := Nat.mul_le_mul_right _ (by omega)
    show _ ≤ _
    omega
  have n0 : (0 : Int) < (n : Int) := by omega
  have n1 : (n : Int) ≤ 1024 := by omega
  have nz : (n : Int) ≠ 0 := by omega
  clear h hc hbl
  go_enter Try.func24, Try.ntmps24
  go_wp2_with fail
  go_loopw [3, 11] (fun s i wr => ∃ k : Nat, k ≤ n ∧ i = .int .i64 k ∧ s = .int .i64 (sm f k : Nat) ∧ w = wr) (fun _ i _ => n - (intOf i).toNat)
  case atStart => exact ⟨0, by omega, rfl, rfl, rfl⟩
  case round =>
    obtain ⟨k, hk, rfl, rfl, rfl⟩ := hrel
    have hs := HS.out k hk
    have k0 : (0 : Int) ≤ (k : Int) := by omega
    have s0 : (0 : Int) ≤ ((sm f k : Nat) : Int) := by omega
    have s1 : ((sm f k : Nat) : Int) ≤ 2088960 := by omega
    by_cases hlt : k < n
    · have l1 : (k : Int) < (n : Int) := by omega
      have hc := HC.out k hlt
      have hs2 := HS.out (k + 1) hlt
      rw [sm] at hs2
      have HE : Hid (((sm f k : Nat) : Int) + ((f k : Nat) : Int) = ((sm f (k + 1) : Nat) : Int)) := by show _ = _; rw [sm]; omega
      generalize sm f k = s at *
      generalize f k = v at *
      have v1 : ((v : Nat) : Int) ≤ 2088960 := by omega
      go_wp2_with fail
      go_roundw
      case rel => exact ⟨k + 1, by omega, by go_num, by rw [← HE.out], by first | trivial | rfl⟩
      case measure => simp [intOf]; omega
    · obtain rfl : k = n := by omega
      have HE : Hid ((((sm f k : Nat) : Int) + (k : Int) / 2) / (k : Int) = ((mn f k : Nat) : Int)) := by show _ = _; unfold mn; rw [Int.natCast_ediv, Int.natCast_add, Int.natCast_ediv]; rfl
      generalize sm f k = s at *
      go_wp2_with fail
      go_ret
      refine ⟨ret_int ?_, rfl⟩
      rw [← HE.out]

/-- are all numbers within? -/
def wiB (M : Int) (A : List Int) : Bool := A.all fun x => decide (-M ≤ x) && decide (x ≤ M)
theorem wiB_at {M : Int} {A : List Int} (h : wiB M A = true) (j : Nat) (hj : j < A.length) : -M ≤ A.getD j 0 ∧ A.getD j 0 ≤ M := by
  have := List.all_eq_true.1 h (A[j]) (List.getElem_mem hj)
  simp only [Bool.and_eq_true, decide_eq_true_eq] at this
  rw [List.getD_eq_getElem?_getD, List.getElem?_eq_getElem hj]
  exact this
theorem wiB_yes {M : Int} {A : List Int} (h : ∀ j, j < A.length → -M ≤ A.getD j 0 ∧ A.getD j 0 ≤ M) : wiB M A = true := by
  refine List.all_eq_true.2 fun x hx => ?_
  obtain ⟨j, hj, rfl⟩ := List.mem_iff_getElem.1 hx
  have := h j hj
  rw [List.getD_eq_getElem?_getD, List.getElem?_eq_getElem hj] at this
  simp only [Bool.and_eq_true, decide_eq_true_eq]
  exact this
theorem wiB_no {M : Int} {A : List Int} (j : Nat) (hj : j < A.length) (h : ¬ (-M ≤ A.getD j 0 ∧ A.getD j 0 ≤ M)) : wiB M A = false := by
  cases e : wiB M A with
  | false => rfl
  | true => exact absurd (wiB_at e j hj) h

set_option maxRecDepth 100000 in
set_option maxHeartbeats 1000000 in
theorem within_any {w : World} {a : Option Addr} {c n : Nat} {A : List Int} {M : Int} (h : Si w a A) (hn : A.length = n) (h1 : n ≤ 140737488355328) (m0 : 0 ≤ M) (m1 : M ≤ 2048) :
    Calls Try.prog 26 #[.int .i64 M, .slice a n c] w fun e w' => e = .returned (.bool (wiB M A)) ∧ w = w' := by
  by_cases h0 : n = 0
  · subst h0
    obtain rfl : A = [] := List.eq_nil_of_length_eq_zero hn
    go_enter Try.func26, Try.ntmps26
    go_wp2_with fail
    go_loop [9] (fun i => i = .int .i64 0) (fun _ => 0)
    case atStart => rfl
    case round =>
      subst hrel
      go_wp2_with fail
      go_ret
      exact ⟨rfl, rfl⟩
  · obtain ⟨b, o, rfl, hbl, hc⟩ := h.form (by omega)
    have HC : Hid (∀ j, j < n → w.cell? ⟨b, o + j, none⟩ = some (.int .i64 (A.getD j 0))) := fun j hj => hc j (by omega)
    have HN : Hid (A.length = n) := hn
    clear h hc hbl hn
    go_enter Try.func26, Try.ntmps26
    go_wp2_with fail
    go_loopw [9] (fun i wr => ∃ k : Nat, k ≤ n ∧ i = .int .i64 k ∧ w = wr ∧ Hid (∀ j, j < k → -M ≤ A.getD j 0 ∧ A.getD j 0 ≤ M)) (fun i _ => n - (intOf i).toNat)
    case atStart => exact ⟨0, by omega, rfl, rfl, fun j hj => by omega⟩
    case round =>
      obtain ⟨k, hk, rfl, rfl, HK⟩ := hrel
      have k0 : (0 : Int) ≤ (k : Int) := by omega
      by_cases hlt : k < n
      · have l1 : (k : Int) < (n : Int) := by omega
        have hc := HC.out k hlt
        have HX : Hid (∀ P : Prop, (-M ≤ A.getD k 0 ∧ A.getD k 0 ≤ M → P) → (wiB M A = false → P) → P) := fun P p1 p2 => by
          by_cases q : -M ≤ A.getD k 0 ∧ A.getD k 0 ≤ M
          · exact p1 q
          · exact p2 (wiB_no k (by rw [HN.out]; exact hlt) q)
        have HY : Hid (¬ (-M ≤ A.getD k 0 ∧ A.getD k 0 ≤ M) → wiB M A = false) := fun q => wiB_no k (by rw [HN.out]; exact hlt) q
        clear HX
        generalize hx : A.getD k 0 = x at *
        have HE : Hid (A.getD k 0 = x) := hx
        clear hx
        by_cases x0 : x < -M
        · have HF : Hid (wiB M A = false) := HY.out (by omega)
          go_wp2_with fail
          go_ret
          exact ⟨by rw [HF.out]; rfl, rfl⟩
        · by_cases x1 : M < x
          · have HF : Hid (wiB M A = false) := HY.out (by omega)
            go_wp2_with fail
            go_ret
            exact ⟨by rw [HF.out]; rfl, rfl⟩
          · have HF : Hid (∀ j, j < k + 1 → -M ≤ A.getD j 0 ∧ A.getD j 0 ≤ M) := fun j hj => by
              by_cases e : j = k
              · subst e; rw [HE.out]; omega
              · exact HK.out j (by omega)
            go_wp2_with fail
            go_roundw
            case rel => exact ⟨k + 1, by omega, by go_num, by first | trivial | rfl, HF⟩
            case measure => simp [intOf]; omega
      · obtain rfl : k = n := by omega
        have HF : Hid (wiB M A = true) := wiB_yes fun j hj => HK.out j (by rw [HN.out] at hj; exact hj)
        go_wp2_with fail
        go_ret
        exact ⟨by rw [HF.out]; rfl, rfl⟩

theorem mul_lim {al x : Int} (a0 : -16 ≤ al) (a1 : al ≤ 16) (x0 : -2048 ≤ x) (x1 : x ≤ 2048) : -32768 ≤ al * x ∧ al * x ≤ 32768 := by
  rcases Int.le_total 0 al with p | p <;> rcases Int.le_total 0 x with q | q
  · have h1 := Int.mul_nonneg p q
    have h2 := Int.mul_le_mul a1 x1 q (by omega : (0 : Int) ≤ 16)
    omega
  · have h1 := Int.mul_nonneg p (by omega : (0 : Int) ≤ -x)
    have h2 := Int.mul_le_mul a1 (by omega : -x ≤ 2048) (by omega) (by omega : (0 : Int) ≤ 16)
    rw [Int.mul_neg] at h1 h2
    omega
  · have h1 := Int.mul_nonneg (by omega : (0 : Int) ≤ -al) q
    have h2 := Int.mul_le_mul (by omega : -al ≤ 16) x1 q (by omega : (0 : Int) ≤ 16)
    rw [Int.neg_mul] at h1 h2
    omega
  · have h1 := Int.mul_nonneg (by omega : (0 : Int) ≤ -al) (by omega : (0 : Int) ≤ -x)
    have h2 := Int.mul_le_mul (by omega : -al ≤ 16) (by omega : -x ≤ 2048) (by omega) (by omega : (0 : Int) ≤ 16)
    rw [Int.neg_mul_neg] at h1 h2
    omega

set_option maxRecDepth 100000 in
set_option maxHeartbeats 1000000 in
/-- the closure over alpha -/
theorem moved_any {w : World} {x b : Nat} {al y : Int} (hc : w.cell? ⟨x, 0, none⟩ = some (.int .i64 al)) (a0 : -16 ≤ al) (a1 : al ≤ 16) (y0 : -2048 ≤ y) (y1 : y ≤ 2048) (b1 : b < 256) :
    Calls Try.prog 29 #[.int .u8 (b : Int), .int .i64 y, .pointer (some ⟨x, 0, none⟩)] w fun e w' => e = .returned (.int .u8 (pd b (al * y) : Nat)) ∧ w = w' := by
  obtain ⟨p0, p1⟩ := mul_lim a0 a1 y0 y1
  have HP := pd_cl b (al * y)
  have HM := mv_ab (al * y)
  generalize hp : al * y = p at *
  have b2 : (b : Int) < 256 := by omega
  by_cases hz : p < 0
  · rw [if_pos hz] at HM
    have HA : ab p = -p := by unfold ab; rw [if_pos hz]
    rw [HA] at HM
    rw [HM] at HP
    have HP' : Hid _ := HP
    clear HP HM HA
    go_enter Try.func29, Try.ntmps29
    go_wp2_with fail
    all_goals (go_ret; refine ⟨ret_int ?_, rfl⟩; rw [HP'.out]; unfold cl; first | omega | (repeat' split at *) <;> omega)
  · rw [if_neg hz] at HM
    have HA : ab p = p := by unfold ab; rw [if_neg hz]
    rw [HA] at HM
    rw [HM] at HP
    have HP' : Hid _ := HP
    clear HP HM HA
    go_enter Try.func29, Try.ntmps29
    go_wp2_with fail
    all_goals (go_ret; refine ⟨ret_int ?_, rfl⟩; rw [HP'.out]; unfold cl; first | omega | (repeat' split at *) <;> omega)

end Go.Proofs.Ytlcegnnhlfafgaa
