/- DERIVED. The walks of sum and of both Means. -/
import Derived.Test.YtdiphgkgehpgiabFh
namespace Go.Proofs.Ytdiphgkgehpgiab
open Go.RowKit Ieee

/-- a number, if it is one -/
def nz (x : Nat) : Option Nat := if Nan x then none else some x
theorem nz_is (x : Nat) : Is (nz x) x := by
  unfold nz
  split
  · assumption
  · exact rfl
/-- the sum of the numbers up to place k -/
def sumO (C : List Nat) : Nat → Option Nat
  | 0 => nz (C.getD 0 0)
  | k + 1 => (sumO C k).bind fun s => floatBits .add .f64 s (C.getD (k + 1) 0)
theorem sum_step {C : List Nat} {k s : Nat} {u : World} (h : Is (sumO C k) s) : Is (sumO C (k + 1)) (fo .add s (C.getD (k + 1) 0) u) := by
  have h2 := fo_is .add s (C.getD (k + 1) 0) u
  simp only [sumO]
  cases e : sumO C k with
  | none => rw [e] at h; rw [add_nan _ h] at h2; exact h2
  | some p => rw [e] at h; obtain rfl : s = p := h; exact h2
theorem quo_nan {x : Nat} (y : Nat) (h : Nan x) : floatBits .quo .f64 x y = none := by
  show ((Ieee.double.read x).quotient _ (Ieee.double.read y)).map _ = none
  rw [read_nan h]; rfl
/-- what Mean answers -/
def meanO (C : List Nat) : Option Nat := if C.length = 0 then none else (sumO C (C.length - 1)).bind fun s => floatBits .quo .f64 s (fi (C.length : Nat))
theorem mean_step {C : List Nat} {s : Nat} {u : World} (h0 : ¬ C.length = 0) (h : Is (sumO C (C.length - 1)) s) : Is (meanO C) (fo .quo s (fi (C.length : Nat)) u) := by
  have h2 := fo_is .quo s (fi (C.length : Nat)) u
  unfold meanO
  rw [if_neg h0]
  cases e : sumO C (C.length - 1) with
  | none => rw [e] at h; rw [quo_nan _ h] at h2; exact h2
  | some p => rw [e] at h; obtain rfl : s = p := h; exact h2
theorem mean_nil {C : List Nat} {s : Nat} (h0 : C.length = 0) (h : Nan s) : Is (meanO C) s := by unfold meanO; rw [if_pos h0]; exact h
theorem zero_quo : floatBits .quo .f64 0 0 = none := by decide +kernel
theorem zero_nan (u : World) : Nan (fo .quo 0 0 u) := by have := fo_is .quo 0 0 u; rw [zero_quo] at this; exact this

theorem pnone_any (w : World) : Calls Try.prog 16 #[] w fun e w' => Ans w none e w' := by
  have h := f_quo Try.prog 0 0
  go_enter Try.func16, Try.ntmps16
  go_wp2
  go_ret
  exact ⟨_, _, rfl, rfl, zero_nan _⟩
set_option maxRecDepth 100000 in
set_option maxHeartbeats 2000000 in
theorem sum_any {w : World} {a : Option Addr} {c : Nat} {C : List Nat} (hs : Fl w a C) (h0 : ¬ C.length = 0) (hc : C.length ≤ c) (hl : C.length ≤ 140737488355328) :
    Calls Try.prog 14 #[.slice a C.length c] w fun e w' => Ans w (sumO C (C.length - 1)) e w' := by
  obtain ⟨b, o, rfl, hbl, hcell⟩ := hs.form (by omega)
  have HC : Hid (∀ m j, j < C.length → (w.drewN m).cell? ⟨b, o + j, none⟩ = some (.float .f64 (C.getD j 0))) := fun m => hcell
  have r0 : w.cell? ⟨b, o, none⟩ = some (.float .f64 (C.getD 0 0)) := hcell 0 (by omega)
  have e0 : ((C.length : Int) == 0) = false := by rw [beq_eq_false_iff_ne]; omega
  have e1 : (0 : Int) < (C.length : Int) := by omega
  have e2 : (1 : Int) ≤ (C.length : Int) := by omega
  have e3 : (C.length : Int) ≤ (c : Int) := by omega
  clear hcell hs
  have S0 : Hid (Is (sumO C 0) (C.getD 0 0)) := nz_is _
  generalize C.getD 0 0 = x0 at *
  by_cases h1 : C.length = 1
  · have H1 : Hid (C.length = 1) := h1
    have e4 : ((C.length - 1 : Nat) : Int) = 0 := by omega
    clear h1
    go_enter Try.func14, Try.ntmps14
    go_wp2
    all_goals
      go_loop [3, 15] (fun s i => s = .float .f64 x0 ∧ i = .int .i64 0) (fun _ _ => 0)
      case atStart => exact ⟨rfl, rfl⟩
      case round =>
        obtain ⟨rfl, rfl⟩ := hrel
        go_wp2
        go_ret
        exact ⟨x0, 0, rfl, rfl, by rw [H1.out]; exact S0.out⟩
  · have h2 : 2 ≤ C.length := by omega
    have L : Hid (C.length - 1 + 1 = C.length) := by unfold Hid; omega
    clear h1 h0
    go_enter Try.func14, Try.ntmps14
    go_wp2
    all_goals first | (exfalso; omega) | skip
    have n1 : ((C.length - 1 : Nat) : Int) ≤ 140737488355328 := by omega
    go_loopw [3, 15] (fun s i wr => ∃ k p m : Nat, k ≤ C.length - 1 ∧ i = .int .i64 k ∧ s = .float .f64 p ∧ wr = w.drewN m ∧ Hid (Is (sumO C k) p)) (fun _ i _ => C.length - 1 - (intOf i).toNat)
    case atStart => exact ⟨0, x0, 0, by omega, rfl, rfl, rfl, S0⟩
    case round =>
      obtain ⟨k, p, m, hk, rfl, rfl, rfl, IH⟩ := hrel
      by_cases hlt : k < C.length - 1
      · have r1 : (w.drewN m).cell? ⟨b, o + 1 + k, none⟩ = some (.float .f64 (C.getD (k + 1) 0)) := by have := HC.out m (k + 1) (by omega); rwa [show o + (k + 1) = o + 1 + k from by omega] at this
        have b0 : 0 ≤ (k : Int) := by omega
        have b1 : (k : Int) < ((C.length - 1 : Nat) : Int) := by omega
        have IH2 : Hid (∀ u, Is (sumO C (k + 1)) (fo .add p (C.getD (k + 1) 0) u)) := fun u => sum_step IH.out
        have ha := f_add Try.prog p (C.getD (k + 1) 0)
        generalize C.getD (k + 1) 0 = y at *
        generalize hW : w.drewN m = v at *
        have HW : Hid (w.drewN m = v) := hW
        clear hW
        go_wp2
        go_roundw
        case rel => exact ⟨k + 1, _, _, by omega, by go_num, rfl, by rw [← HW.out]; exact drewN_drewN _ _ _, IH2.out _⟩
        case measure => simp [intOf]; omega
      · obtain rfl : k = C.length - 1 := by omega
        go_wp2
        go_ret
        exact ⟨_, _, rfl, rfl, IH.out⟩

set_option maxRecDepth 100000 in
set_option maxHeartbeats 2000000 in
theorem mean_any {w : World} {a : Option Addr} {c : Nat} {C : List Nat} (hs : Fl w a C) (hc : C.length ≤ c) (hl : C.length ≤ 140737488355328) :
    Calls Try.prog 7 #[.slice a C.length c] w fun e w' => Ans w (meanO C) e w' := by
  by_cases h0 : C.length = 0
  · have HS : Hid (∀ s, Nan s → Is (meanO C) s) := fun s => mean_nil h0
    have hq := f_quo Try.prog 0 (floatOfInt .f64 0)
    have HZ : Hid (∀ u, Nan (fo .quo 0 (floatOfInt .f64 0) u)) := fun u => zero_nan u
    obtain rfl : C = [] := List.eq_nil_of_length_eq_zero h0
    simp only [List.length_nil]
    go_enter Try.func7, Try.ntmps7
    go_wp2
    go_ret
    exact ⟨_, _, rfl, rfl, HS.out _ (HZ.out _)⟩
  · have hq := fun s => f_quo Try.prog s (floatOfInt .f64 (C.length : Nat))
    have HS : Hid (∀ s u, Is (sumO C (C.length - 1)) s → Is (meanO C) (fo .quo s (floatOfInt .f64 (C.length : Nat)) u)) := fun s u h => mean_step h0 h
    go_enter Try.func7, Try.ntmps7
    go_wp2_with (go_at_call 14; refine (sum_any hs h0 hc hl).mono ?_; rintro e w' ⟨s, n, rfl, rfl, HI⟩)
    go_ret
    exact ⟨_, _, rfl, by first | rfl | exact drewN_drewN _ _ _, HS.out _ _ HI⟩

end Go.Proofs.Ytdiphgkgehpgiab
