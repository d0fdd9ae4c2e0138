/- DERIVED. The walks of (*bits.Reader) Left, Fixed, Signed and Align over a reader in memory. -/
import Derived.Test.YtkippnfijjhobabRdC
namespace Go.Proofs.Ytkippnfijjhobab
open Go.RowKit

theorem left_rd {r : Nat} {v : Value} {zs : List Nat} {p : Nat} {w : World} (h : Rd w r v zs p) :
    Calls Try.prog 23 #[.pointer (some ⟨r, 0, none⟩)] w fun e w' => e = .returned (.int .i64 (8 * zs.length - p : Nat)) ∧ Rd w' r v zs p ∧ Kp r w w' := by
  obtain ⟨a, c, rfl⟩ := h.sl
  refine (rleft_any r a zs.length c p w h.made h.data h.place h.len h.bnd).mono ?_
  rintro e w' ⟨rfl, k, rfl⟩
  exact ⟨rfl, h.same rfl, Kp.drewN _ _ _⟩

def rFixed (zs : List Nat) (p : Nat) (n : Int) : Nat × Nat × Nat :=
  if n < 0 ∨ 32 < n then (0, 2, p) else if 8 * zs.length - p < n.toNat then (0, 3, p) else (num zs p n.toNat, 0, p + n.toNat)

end Go.Proofs.Ytkippnfijjhobab
