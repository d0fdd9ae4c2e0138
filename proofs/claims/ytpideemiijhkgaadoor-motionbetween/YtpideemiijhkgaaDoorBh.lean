/- DERIVED. The walk of MotionBetween: both sides. -/
import Derived.Test.YtpideemiijhkgaaDoorBf
import Derived.Test.YtpideemiijhkgaaDoorBg
namespace Go.Proofs.YtpideemiijhkgaaDoor
open Go.RowKit

theorem between_walk {u : World} {a b : Option Addr} {c d : Nat} {C D : List Nat} {bw X Y w ht : Int} {left : Bool} (hg : Gt u) (hi : ByIn u a c C) (hj : ByIn u b d D) (hxy : X ≤ 9223372036854775807 ∧ Y ≤ 9223372036854775807) (hl : C.length ≤ 140737488355328 ∧ D.length ≤ 140737488355328) :
    Calls Tryd.prog 8 #[.agg #[.slice a C.length c, .int .i64 bw, .int .i64 X, .int .i64 Y, .int .i64 w, .int .i64 ht, .slice b D.length d], .bool left] u fun e w' => e = .returned (.bool true) ∧ Below u.heap.size u w' := by
  cases left
  · exact between_above hg hi hj hxy hl
  · exact between_left hg hi hj hxy hl

end Go.Proofs.YtpideemiijhkgaaDoor
