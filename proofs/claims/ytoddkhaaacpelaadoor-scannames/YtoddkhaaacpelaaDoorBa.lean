/- DERIVED. The order of a block's places, and classes of ends, as plain arithmetic. -/
import Derived.WalkKit
namespace Go.Proofs.YtoddkhaaacpelaaDoor

/-- the places of diagonal s in the rows ahead of r -/
def dg (n s : Nat) : Nat → List Int
  | 0 => []
  | r + 1 => dg n s r ++ (if r ≤ s ∧ s < n + r then [((r * n + (s - r) : Nat) : Int)] else [])
/-- the places of the diagonals ahead of s -/
def ods (n : Nat) : Nat → List Int
  | 0 => []
  | s + 1 => ods n s ++ dg n s n
/-- the order -/
def ord (n : Nat) : List Int := ods n (2 * n - 1)
/-- how many places the diagonals ahead of s have -/
def lnS (n : Nat) : Nat → Nat
  | 0 => 0
  | s + 1 => lnS n s + (min n (s + 1) - (s + 1 - n))

theorem dg_len (n s : Nat) : ∀ r, r ≤ n → (dg n s r).length = min r (s + 1) - (s + 1 - n)
  | 0, _ => by simp [dg]
  | r + 1, h => by
    rw [dg, List.length_append, dg_len n s r (by omega)]
    split <;> simp <;> omega
theorem ods_len (n : Nat) : ∀ s, (ods n s).length = lnS n s
  | 0 => rfl
  | s + 1 => by rw [ods, List.length_append, ods_len n s, dg_len n s n (Nat.le_refl _), lnS]
theorem lnS_mono (n : Nat) {s t : Nat} (h : s ≤ t) : lnS n s ≤ lnS n t := by
  induction t with
  | zero => simp_all
  | succ t ih =>
    by_cases e : s = t + 1
    · rw [e]; exact Nat.le_refl _
    · exact Nat.le_trans (ih (by omega)) (by rw [lnS]; omega)
theorem dg_nil (n s : Nat) : ∀ r, r ≤ s + 1 - n → dg n s r = []
  | 0, _ => rfl
  | r + 1, h => by rw [dg, dg_nil n s r (by omega), if_neg (by omega)]; rfl
theorem dg_far (n s : Nat) : ∀ r k, s < r → dg n s (r + k) = dg n s r
  | _, 0, _ => rfl
  | r, k + 1, h => by rw [← Nat.add_assoc, dg, dg_far n s r k h, if_neg (by omega), List.append_nil]
theorem dg_end (n s r : Nat) (h : s < r) (hr : r ≤ n) : dg n s n = dg n s r := by
  have := dg_far n s r (n - r) h
  rw [show r + (n - r) = n by omega] at this
  exact this
theorem dg_step (n s r : Nat) (h : r ≤ s) (h' : s < n + r) : dg n s (r + 1) = dg n s r ++ [((r * n + (s - r) : Nat) : Int)] := by rw [dg, if_pos ⟨h, h'⟩]
theorem dg_skip (n s r : Nat) (h : ¬ (r ≤ s ∧ s < n + r)) : dg n s (r + 1) = dg n s r := by rw [dg, if_neg h, List.append_nil]
theorem ods_step (n s : Nat) : ods n s ++ dg n s n = ods n (s + 1) := rfl
theorem getD_app_left (C D : List Int) (j : Nat) (h : j < C.length) : (C ++ D).getD j 0 = C.getD j 0 := by rw [List.getD_eq_getElem?_getD, List.getElem?_append_left h, ← List.getD_eq_getElem?_getD]
theorem getD_app_right (C D : List Int) (j : Nat) (h : C.length ≤ j) : (C ++ D).getD j 0 = D.getD (j - C.length) 0 := by rw [List.getD_eq_getElem?_getD, List.getElem?_append_right h, ← List.getD_eq_getElem?_getD]
theorem dg_get (n s k : Nat) (hk : k ≤ s) (hk2 : s < n + k) : ∀ r, k < r → r ≤ n → (dg n s r).getD (k - (s + 1 - n)) 0 = ((k * n + (s - k) : Nat) : Int)
  | 0, h, _ => by omega
  | r + 1, h, hr => by
    by_cases e : k = r
    · subst e
      have hl := dg_len n s k (by omega)
      rw [dg_step n s k hk hk2, getD_app_right _ _ _ (by omega), hl]
      rw [show k - (s + 1 - n) - (min k (s + 1) - (s + 1 - n)) = 0 by omega]
      rfl
    · have hl := dg_len n s r (by omega)
      rw [dg, getD_app_left _ _ _ (by omega)]
      exact dg_get n s k hk hk2 r (by omega) (by omega)
theorem ods_get (n s k : Nat) (hk : k ≤ s) (hk2 : s < n + k) (hn : k < n) : ∀ t, s < t → (ods n t).getD (lnS n s + (k - (s + 1 - n))) 0 = ((k * n + (s - k) : Nat) : Int)
  | 0, h => by omega
  | t + 1, h => by
    have hl := ods_len n t
    by_cases e : s = t
    · subst e
      rw [ods, getD_app_right _ _ _ (by omega), hl, show lnS n s + (k - (s + 1 - n)) - lnS n s = k - (s + 1 - n) by omega]
      exact dg_get n s k hk hk2 n hn (Nat.le_refl _)
    · have hm := lnS_mono n (s := s + 1) (t := t) (by omega)
      rw [lnS] at hm
      rw [ods, getD_app_left _ _ _ (by omega)]
      exact ods_get n s k hk hk2 hn t (by omega)
/-- which diagonal an index is of -/
theorem lnS_find (n i : Nat) : ∀ t, i < lnS n t → ∃ s, s < t ∧ lnS n s ≤ i ∧ i < lnS n (s + 1)
  | 0, h => by simp [lnS] at h
  | t + 1, h => by
    by_cases e : i < lnS n t
    · obtain ⟨s, h1, h2, h3⟩ := lnS_find n i t e
      exact ⟨s, by omega, h2, h3⟩
    · exact ⟨t, by omega, by omega, h⟩
/-- a side -/
def Sd (n : Nat) : Prop := n = 4 ∨ n = 8 ∨ n = 16 ∨ n = 32
theorem Sd.lo {n : Nat} (h : Sd n) : 4 ≤ n := by rcases h with rfl | rfl | rfl | rfl <;> omega
theorem Sd.hi {n : Nat} (h : Sd n) : n ≤ 32 := by rcases h with rfl | rfl | rfl | rfl <;> omega
theorem Sd.sq {n : Nat} (h : Sd n) : n * n ≤ 1024 := by rcases h with rfl | rfl | rfl | rfl <;> omega
theorem Sd.all {n : Nat} (h : Sd n) : lnS n (2 * n - 1) = n * n := by rcases h with rfl | rfl | rfl | rfl <;> decide +kernel
theorem Sd.but {n : Nat} (h : Sd n) : lnS n (2 * n - 2) = n * n - 1 := by rcases h with rfl | rfl | rfl | rfl <;> decide +kernel
theorem ord_len {n : Nat} (h : Sd n) : (ord n).length = n * n := by rw [ord, ods_len, h.all]
/-- where a place stands in the order -/
def pos (n at' : Nat) : Nat := lnS n (at' / n + at' % n) + (at' / n - (at' / n + at' % n + 1 - n))
theorem pos_rc {n r c : Nat} (hc : c < n) : pos n (r * n + c) = lnS n (r + c) + (r - (r + c + 1 - n)) := by
  have h1 : (r * n + c) / n = r := by rw [Nat.mul_comm, Nat.mul_add_div (by omega), Nat.div_eq_of_lt hc, Nat.add_zero]
  have h2 : (r * n + c) % n = c := by rw [Nat.mul_comm, Nat.mul_add_mod, Nat.mod_eq_of_lt hc]
  rw [pos, h1, h2]
theorem rc_lt {n r c : Nat} (hr : r < n) (hc : c < n) : r * n + c < n * n := by
  have : (r + 1) * n ≤ n * n := Nat.mul_le_mul_right _ hr
  rw [Nat.add_mul] at this
  omega
theorem pos_lt {n r c : Nat} (h : Sd n) (hr : r < n) (hc : c < n) : lnS n (r + c) + (r - (r + c + 1 - n)) < n * n := by
  have h1 := lnS_mono n (s := r + c + 1) (t := 2 * n - 1) (by omega)
  rw [h.all, lnS] at h1
  omega
/-- the order at an index -/
theorem ord_at {n i : Nat} (h : Sd n) (hi : i < n * n) : ∃ r c, r < n ∧ c < n ∧ (ord n).getD i 0 = ((r * n + c : Nat) : Int) ∧ pos n (r * n + c) = i := by
  obtain ⟨s, hs, h1, h2⟩ := lnS_find n i (2 * n - 1) (by rw [h.all]; exact hi)
  rw [lnS] at h2
  have hr : (i - lnS n s) + (s + 1 - n) ≤ s := by omega
  have hc : s - ((i - lnS n s) + (s + 1 - n)) < n := by omega
  have hrn : (i - lnS n s) + (s + 1 - n) < n := by omega
  refine ⟨(i - lnS n s) + (s + 1 - n), s - ((i - lnS n s) + (s + 1 - n)), hrn, hc, ?_, ?_⟩
  · have := ods_get n s ((i - lnS n s) + (s + 1 - n)) hr (by omega) hrn (2 * n - 1) hs
    rw [show lnS n s + (i - lnS n s + (s + 1 - n) - (s + 1 - n)) = i by omega] at this
    exact this
  · rw [pos_rc hc, show i - lnS n s + (s + 1 - n) + (s - (i - lnS n s + (s + 1 - n))) = s by omega]
    omega
theorem pos_inj {n r c r' c' : Nat} (hr : r < n) (hc : c < n) (hr' : r' < n) (hc' : c' < n) (e : pos n (r * n + c) = pos n (r' * n + c')) : r * n + c = r' * n + c' := by
  have h1 := ods_get n (r + c) r (by omega) (by omega) hr (2 * n - 1) (by omega)
  have h2 := ods_get n (r' + c') r' (by omega) (by omega) hr' (2 * n - 1) (by omega)
  rw [pos_rc hc, pos_rc hc'] at e
  rw [e, h2, show r + c - r = c by omega, show r' + c' - r' = c' by omega] at h1
  exact (Int.ofNat_inj.1 h1).symm
/-- what lies on a later diagonal stands behind -/
theorem pos_rise {n r c r' c' : Nat} (hr : r < n) (hc : c < n) (hc' : c' < n) (e : r + c < r' + c') : pos n (r * n + c) < pos n (r' * n + c') := by
  have h1 := lnS_mono n (s := r + c + 1) (t := r' + c') e
  rw [lnS] at h1
  rw [pos_rc hc, pos_rc hc']
  omega
/-- within the diagonals the list is not whole yet -/
theorem part_lt {n s r : Nat} (h : Sd n) (hs : s < 2 * n - 2) (hr : r ≤ n) : (ods n s ++ dg n s r).length < n * n := by
  have h1 := lnS_mono n (s := s + 1) (t := 2 * n - 2) (by omega)
  rw [h.but, lnS] at h1
  have := h.lo
  have h3 : 4 * 4 ≤ n * n := Nat.mul_le_mul this this
  rw [List.length_append, ods_len, dg_len n s r hr]
  omega
theorem part_end {n : Nat} (h : Sd n) : ods n (2 * n - 2) ++ dg n (2 * n - 2) n = ord n := by
  have := h.lo
  rw [ods_step, ord, show 2 * n - 2 + 1 = 2 * n - 1 by omega]

end Go.Proofs.YtoddkhaaacpelaaDoor
