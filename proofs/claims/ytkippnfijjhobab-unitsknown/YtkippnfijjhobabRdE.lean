/- DERIVED. The walks of (*bits.Reader) Signed and Align over a reader in memory. -/
import Derived.Test.YtkippnfijjhobabRdD
namespace Go.Proofs.Ytkippnfijjhobab
open Go.RowKit

theorem Rd.put {w : World} {r : Nat} {v : Value} {zs : List Nat} {p : Nat} (h : Rd w r v zs p) {q : Nat} {x : Int} (hx : x = (q : Int)) (hq : q ≤ 8 * zs.length) : Rd (w.setCell ⟨r, 2, none⟩ (.int .i64 x)) r v zs q := by
  subst hx; exact h.set hq
theorem ret_two {k l : IntKind} {a b c d : Int} (h : a = b) (h' : c = d) : Ending.returned (.tuple #[.int k a, .int l c]) = .returned (.tuple #[.int k b, .int l d]) := by rw [h, h']

def rSigned (zs : List Nat) (p : Nat) (n : Int) : Int × Nat × Nat :=
  if n < 1 ∨ 31 < n then (0, 2, p) else if 8 * zs.length - p < n.toNat + 1 then (0, 3, p)
  else if num zs p 1 = 1 then (if num zs (p + 1) n.toNat = 0 then (0, 4, p) else (-(num zs (p + 1) n.toNat : Int), 0, p + n.toNat + 1))
  else ((num zs (p + 1) n.toNat : Int), 0, p + n.toNat + 1)

def rAlign (zs : List Nat) (p : Nat) : Nat × Nat :=
  if num zs p ((p + 7) / 8 * 8 - p) = 0 then (0, (p + 7) / 8 * 8) else (4, p)

end Go.Proofs.Ytkippnfijjhobab
