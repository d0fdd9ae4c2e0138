/- DERIVED. What CflKnown calls, at its own numbers. -/
import Derived.Test.YtlcegnnhlfafgaaFa
namespace Go.Proofs.Ytlcegnnhlfafgaa
open Go.RowKit

theorem ac_bad {w : World} {a : Option Addr} {c m : Nat} {z1 z2 : Int} (h : ∀ L : List Nat, L.length = m → ¬ AOk L z1 z2) :
    Calls Try.prog 9 #[.slice a m c, .int .i64 z1, .int .i64 z2] w fun e w' => e = .returned (.tuple #[.slice none 0 0, .int .i64 2]) ∧ w = w' := by
  have := ac_no (w := w) (a := a) (c := c) (L := List.replicate m 0) (z1 := z1) (z2 := z2) (h _ (by simp))
  rw [List.length_replicate] at this
  exact this
theorem aok_side {L : List Nat} {z1 z2 : Int} (h : sdB z1 = false ∨ sdB z2 = false) : ¬ AOk L z1 z2 := by
  rintro ⟨x, y, rfl, rfl, hx, hy, _⟩
  rcases h with h | h
  · rw [sdB_yes hx] at h; cases h
  · rw [sdB_yes hy] at h; cases h
theorem aok_len {L : List Nat} {m : Nat} (hl : L.length = m) {x y : Nat} (h : m ≠ 4 * x * y) : ¬ AOk L (x : Int) (y : Int) := by
  rintro ⟨x', y', hx, hy, _, _, h2⟩
  have e1 : x = x' := by omega
  have e2 : y = y' := by omega
  subst e1 e2
  omega
set_option maxHeartbeats 400000 in
theorem predict_long {w : World} {a a2 : Option Addr} {c c2 : Nat} {al : Int} :
    Calls Try.prog 15 #[.slice a 1025 c, .slice a2 1025 c2, .int .i64 al] w fun e w' => e = .returned (.tuple #[.slice none 0 0, .int .i64 2]) ∧ w = w' := by
  go_enter Try.func15, Try.ntmps15
  go_wp2_with fail
  go_returns
  exact ⟨rfl, rfl⟩
theorem byt1 {v : Nat} (h : v < 256) : Byt [v] := fun j => by
  match j with
  | 0 => exact h
  | j + 1 => simp
theorem flat9 : acF (lv (hvL 9 9 64) 4) 16 = List.replicate 16 0 := by decide +kernel
theorem sd32 : Sd 32 := ⟨by omega, by omega, rfl⟩
theorem sd8 : Sd 8 := ⟨by omega, by omega, rfl⟩
theorem most255 : acF (lv (luL [255] 4096 4096) 32) 1024 = List.replicate 1024 0 := by
  refine acF_flat (c := 2040) (by omega) fun i hi => ?_
  have h := pl_lt (w := 32) (h := 32) (i := i) (by omega)
  have g : ∀ j, j < 4096 → (luL [255] 4096 4096).getD j 0 = 255 := fun j hj => by
    rw [luL_get _ _ _ _ hj, if_pos hj]
    unfold luF
    rw [if_pos (by decide), show j % [255].length = 0 from Nat.mod_one j]
    rfl
  unfold lv
  rw [g _ (by omega), g _ (by omega), g _ (by omega), g _ (by omega)]
/-- samples of 1 to 16 -/
def s16 : List Nat := [1, 2, 3, 4, 5, 6, 7, 8, 9, 10, 11, 12, 13, 14, 15, 16]
theorem s16_byt : Byt s16 := fun j => by
  by_cases h : j < 16
  · have : ∀ j, j < 16 → s16.getD j 0 < 256 := by decide
    exact this j h
  · rw [List.getD_eq_getElem?_getD, List.getElem?_eq_none (by show 16 ≤ j; omega)]; exact Nat.zero_lt_succ _
theorem obl0 : (acF (lv (luL s16 128 128) 8) 32).getD 0 0 = -56 := by decide +kernel
theorem obl7 : (acF (lv (luL s16 128 128) 8) 32).getD 7 0 = 56 := by decide +kernel
theorem obl31 : (acF (lv (luL s16 128 128) 8) 32).getD 31 0 = 56 := by decide +kernel
/-- the table of predictions -/
def tbl : List Int := [100, 40, -16, 250, 2048, 16, 5, -2048, 16, 100, 16, 2, 100, 15, 2, 100, -16, 2, 100, -15, 2, 0, -1, 16, 255, 2, 16, 100, 2, 16]
def tb (k : Nat) : Nat := [100, 250, 5, 100, 100, 100, 100, 0, 255, 100].getD k 0
def ty (k : Nat) : Int := [40, 2048, -2048, 16, 15, -16, -15, -1, 2, 2].getD k 0
def ta (k : Nat) : Int := [-16, 16, 16, 2, 2, 2, 2, 16, 16, 16].getD k 0
/-- what comes of it -/
def rs : List Nat := [90, 255, 0, 101, 100, 99, 100, 0, 255, 101]
theorem tbl_at : ∀ k, k < 10 → tbl.getD (k * 3) 0 = (tb k : Int) ∧ tbl.getD (k * 3 + 1) 0 = ty k ∧ tbl.getD (k * 3 + 2) 0 = ta k ∧ tb k < 256 ∧ -2048 ≤ ty k ∧ ty k ≤ 2048 ∧ -16 ≤ ta k ∧ ta k ≤ 16 ∧ pdL [tb k] [ty k] (ta k) = [rs.getD k 0] := by decide +kernel

end Go.Proofs.Ytlcegnnhlfafgaa
