/- DERIVED. The contexts of a place, as plain arithmetic. -/
import Derived.WalkKit
namespace Go.Proofs.YtoddkhaaacpelaaDoor

/-- a level without its sign, at most m -/
def amt (v m : Int) : Int := if v < -m ∨ m < v then m else if v < 0 then -v else v
theorem amt_lo {v m : Int} (h : 0 ≤ m) : 0 ≤ amt v m := by unfold amt; split <;> (try split) <;> omega
theorem amt_hi {v m : Int} : amt v m ≤ m := by unfold amt; split <;> (try split) <;> omega
theorem amt_neg (v m : Int) : amt (-v) m = amt v m := by
  unfold amt
  by_cases h : v < -m ∨ m < v
  · rw [if_pos h, if_pos (by omega)]
  · rw [if_neg h, if_neg (by omega)]
    by_cases h2 : v < 0
    · rw [if_pos h2, if_neg (by omega)]
    · rw [if_neg h2]
      by_cases h3 : v = 0
      · subst h3; rfl
      · rw [if_pos (by omega)]; omega
/-- how far down and how far right the k-th neighbour is -/
def dn : Nat → Nat
  | 1 => 1
  | 2 => 1
  | 4 => 2
  | _ => 0
def rt : Nat → Nat
  | 0 => 1
  | 2 => 1
  | 3 => 2
  | _ => 0
/-- what the place (r, c) counts -/
def som (L : List Int) (n r c : Nat) (m : Int) : Int := if r < n ∧ c < n then amt (L.getD (r * n + c) 0) m else 0
theorem som_lo {L : List Int} {n r c : Nat} {m : Int} (h : 0 ≤ m) : 0 ≤ som L n r c m := by unfold som; split; exact amt_lo h; omega
theorem som_hi {L : List Int} {n r c : Nat} {m : Int} (h : 0 ≤ m) : som L n r c m ≤ m := by unfold som; split; exact amt_hi; omega
theorem som_in {L : List Int} {n r c : Nat} {m : Int} (h : r < n) (h' : c < n) : som L n r c m = amt (L.getD (r * n + c) 0) m := by unfold som; rw [if_pos ⟨h, h'⟩]
theorem som_out {L : List Int} {n r c : Nat} {m : Int} (h : ¬ (r < n ∧ c < n)) : som L n r c m = 0 := by unfold som; rw [if_neg h]
/-- the sum over the first k neighbours -/
def sml (L : List Int) (n a : Nat) (m : Int) : Nat → Int
  | 0 => 0
  | k + 1 => sml L n a m k + som L n (a / n + dn k) (a % n + rt k) m
theorem sml_lo {L : List Int} {n a : Nat} {m : Int} (h : 0 ≤ m) : ∀ k, 0 ≤ sml L n a m k
  | 0 => Int.le_refl _
  | k + 1 => by have := sml_lo (L := L) (n := n) (a := a) h k; have := som_lo (L := L) (n := n) (r := a / n + dn k) (c := a % n + rt k) h; rw [sml]; omega
theorem sml_hi {L : List Int} {n a : Nat} {m : Int} (h : 0 ≤ m) (h' : m ≤ 15) : ∀ k : Nat, sml L n a m k ≤ 15 * (k : Int)
  | 0 => by simp [sml]
  | k + 1 => by have := sml_hi (L := L) (n := n) (a := a) h h' k; have := som_hi (L := L) (n := n) (r := a / n + dn k) (c := a % n + rt k) h; rw [sml]; omega
theorem sml_five (L : List Int) (n a : Nat) (m : Int) : sml L n a m 5 = som L n (a / n) (a % n + 1) m + som L n (a / n + 1) (a % n) m + som L n (a / n + 1) (a % n + 1) m + som L n (a / n) (a % n + 2) m + som L n (a / n + 2) (a % n) m := by simp [sml, dn, rt]
theorem sml_three (L : List Int) (n a : Nat) (m : Int) : sml L n a m 3 = som L n (a / n) (a % n + 1) m + som L n (a / n + 1) (a % n) m + som L n (a / n + 1) (a % n + 1) m := by simp [sml, dn, rt]
/-- the context of a sum -/
def ctx (M s : Int) : Int := if (s + 1) / 2 < M then (s + 1) / 2 else M
theorem ctx_lo {M s : Int} (h : 0 ≤ M) (hs : 0 ≤ s) : 0 ≤ ctx M s := by unfold ctx; split <;> omega
theorem ctx_hi {M s : Int} : ctx M s ≤ M := by unfold ctx; split <;> omega
def bas (L : List Int) (n a : Nat) : Int := ctx 4 (sml L n a 3 5)
def mor (L : List Int) (n a : Nat) : Int := ctx 6 (sml L n a 15 3)
/-- sums do not hang on signs, nor on what stands ahead -/
theorem sml_signs {L D : List Int} {n a : Nat} (h0 : 0 < n) (hl : ∀ r c, r < n → c < n → a / n + a % n < r + c → D.getD (r * n + c) 0 = -(L.getD (r * n + c) 0)) (m : Int) : ∀ k, k ≤ 5 → sml D n a m k = sml L n a m k
  | 0, _ => rfl
  | k + 1, hk => by
    rw [sml, sml, sml_signs h0 hl m k (by omega)]
    congr 1
    by_cases h : a / n + dn k < n ∧ a % n + rt k < n
    · have hs : 0 < dn k + rt k := by
        have : k = 0 ∨ k = 1 ∨ k = 2 ∨ k = 3 ∨ k = 4 := by omega
        rcases this with rfl | rfl | rfl | rfl | rfl <;> decide
      rw [som_in h.1 h.2, som_in h.1 h.2, hl _ _ h.1 h.2 (by omega), amt_neg]
    · rw [som_out h, som_out h]

end Go.Proofs.YtoddkhaaacpelaaDoor
