/- DERIVED. PartParts' walk, closed. -/
import Derived.Test.YtjijgeeejhijhaaFf
import Derived.Test.YtjijgeeejhijhaaFz
namespace Go.Proofs.Ytjijgeeejhijhaa
open Go.RowKit
theorem parts_walk {W : World} {x y a b sz : Int} : Calls Try.prog 6 #[.agg #[.int .i64 x, .int .i64 y, .int .i64 a, .int .i64 b], .int .i64 sz] W fun e w' => e = .returned (.bool true) ∧ Below W.heap.size W w' := parts_core cov_ok
end Go.Proofs.Ytjijgeeejhijhaa
