/- DERIVED. The walk of (*bits.Reader).Uvlc over a reader in memory. -/
import Derived.Test.YtkippnfijjhobabRdE
namespace Go.Proofs.Ytkippnfijjhobab
open Go.RowKit

def uvK (zs : List Nat) (p : Nat) : Nat := zrs zs p (8 * zs.length - p) 32 0
def rUvlc (zs : List Nat) (p : Nat) : Nat × Nat × Nat :=
  if uvK zs p = 32 then (0, 4, p) else if uvK zs p = 8 * zs.length - p then (0, 3, p) else if 8 * zs.length - p < 2 * uvK zs p + 1 then (0, 3, p)
  else (num zs (p + uvK zs p) (uvK zs p + 1) - 1, 0, p + 2 * uvK zs p + 1)

end Go.Proofs.Ytkippnfijjhobab
