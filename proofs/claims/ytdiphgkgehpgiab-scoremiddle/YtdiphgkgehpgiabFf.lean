/- DERIVED. The walk of the document's Class. -/
import Derived.Test.YtdiphgkgehpgiabFe
namespace Go.Proofs.Ytdiphgkgehpgiab
open Go.RowKit Ieee

end Go.Proofs.Ytdiphgkgehpgiab
