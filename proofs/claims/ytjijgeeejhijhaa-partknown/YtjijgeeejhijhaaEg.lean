/- DERIVED. What Blocks answers; areas and squares. -/
import Derived.Test.YtjijgeeejhijhaaEb
namespace Go.Proofs.Ytjijgeeejhijhaa
open Go.RowKit

theorem Or4.rebase {w : World} {B B' : Nat} {v : Value} {C : List Rc} (h : Or4 w B v C) (hb : ∀ g, v.ownBlock = some g → B' ≤ g) : Or4 w B' v C := by
  refine ⟨h.own.1, ?_⟩
  rcases h.own.2 with h1 | ⟨g, cap, cur, rfl, h2, h3⟩
  · exact Or.inl h1
  · exact Or.inr ⟨g, cap, cur, rfl, hb g rfl, h3⟩
/-- leaves are answered, and how many choices were used -/
def Bq (w w' : World) (e : Ending) (p : List Rc × Nat) : Prop := ∃ v, e = .returned (.tuple #[v, .int .i64 (p.2 : Int), .int .i64 0]) ∧ Or4 w' w.heap.size v p.1 ∧ Below w.heap.size w w'
theorem are_in {x y a b : Int} (h : are x y a b = true) : (0 ≤ x ∧ x ≤ 1024 ∧ x % 8 = 0) ∧ (0 ≤ y ∧ y ≤ 1024 ∧ y % 8 = 0) ∧ (8 ≤ a ∧ a ≤ 1024 ∧ a % 8 = 0) ∧ (8 ≤ b ∧ b ≤ 1024 ∧ b % 8 = 0) := by
  unfold are un at h
  simp only [Bool.and_eq_true, decide_eq_true_eq] at h
  exact ⟨h.1, h.2.1, h.2.2.1, h.2.2.2⟩
theorem sqr_in {x y a b : Int} (h : sqr x y a b = true) : rgn x y a b = true ∧ a = 64 ∧ x ≤ 1024 ∧ y ≤ 1024 := by
  unfold sqr at h
  simp only [Bool.and_eq_true, decide_eq_true_eq] at h
  exact h

end Go.Proofs.Ytjijgeeejhijhaa
