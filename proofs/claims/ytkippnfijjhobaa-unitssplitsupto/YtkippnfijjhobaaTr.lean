/- DERIVED. What the document's read answers. -/
import Derived.Test.YtkippnfijjhobaaTe
namespace Go.Proofs.Ytkippnfijjhobaa
open Go.RowKit

/-- what the document's read answers -/
def RdQ (w : World) (b : List Nat) (q : Nat) (e : Ending) (w' : World) : Prop :=
  Below w.heap.size w w' ∧ ((∃ er : Nat, (pick (b.drop q)).1 = er ∧ er ≠ 0 ∧ e = .returned (.tuple #[.agg #[.int .i64 0, .slice none 0 0], .int .i64 0, .int .i64 (er : Int)])) ∨
    ∃ m s a c, pick (b.drop q) = (0, m, s) ∧ w'.ownsRow w.heap.size 5 1 (.slice a s c) s (bs (((b.drop q).drop m).take s)) ∧ e = .returned (.tuple #[.agg #[.int .i64 ((b.getD q 0 / 16 : Nat) : Int), .slice a s c], .int .i64 ((q + m + s : Nat) : Int), .int .i64 0]))
theorem rdq_no {w w' : World} {b : List Nat} {q er : Nat} {E : Int} (hE : E = (er : Int)) (h : (pick (b.drop q)).1 = er) (h0 : er ≠ 0) (hb : Below w.heap.size w w') : RdQ w b q (.returned (.tuple #[.agg #[.int .i64 0, .slice none 0 0], .int .i64 0, .int .i64 E])) w' := by
  subst hE
  exact ⟨hb, Or.inl ⟨er, h, h0, rfl⟩⟩
theorem rdq_yes {w w' : World} {b : List Nat} {q m s n c : Nat} {a : Option Addr} {T Q : Int} (h : pick (b.drop q) = (0, m, s)) (hT : T = ((b.getD q 0 / 16 : Nat) : Int)) (hQ : Q = ((q + m + s : Nat) : Int)) (hn : n = s) (ho : w'.ownsRow w.heap.size 5 1 (.slice a n c) n (bs (((b.drop q).drop m).take s))) (hb : Below w.heap.size w w') :
    RdQ w b q (.returned (.tuple #[.agg #[.int .i64 T, .slice a n c], .int .i64 Q, .int .i64 0])) w' := by
  subst hT hQ hn
  exact ⟨hb, Or.inr ⟨_, _, _, _, h, ho, rfl⟩⟩

end Go.Proofs.Ytkippnfijjhobaa
