/- DERIVED. PartTiles' walk, closed. -/
import Derived.Test.YtjijgeeejhijhaaFb
import Derived.Test.YtjijgeeejhijhaaFd
namespace Go.Proofs.Ytjijgeeejhijhaa
open Go.RowKit
theorem cov_ok : Cov := fun hs hl hX hY hS hg => cover_ok hs hl hX hY hS hg
theorem tiles_walk {W : World} {x y s s' ax ay aw ah : Int} {a : Option Addr} {c : Nat} {C : List Int} (hs : Si W a C) (hl : C.length ≤ 17592186043904) : Calls Try.prog 5 #[.agg #[.int .i64 x, .int .i64 y, .int .i64 s, .int .i64 s'], .agg #[.int .i64 ax, .int .i64 ay, .int .i64 aw, .int .i64 ah], .slice a C.length c] W fun e w' => e = .returned (.bool true) ∧ Below W.heap.size W w' := tiles_core cov_ok hs hl
end Go.Proofs.Ytjijgeeejhijhaa
