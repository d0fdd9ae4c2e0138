/- DERIVED. The walk of the document's Best. -/
import Derived.Test.YtdiphgkgehpgiabFg
namespace Go.Proofs.Ytdiphgkgehpgiab
open Go.RowKit Ieee

def rb (o : Option Nat) : Int := match o with | some i => (i : Int) | none => -1

end Go.Proofs.Ytdiphgkgehpgiab
