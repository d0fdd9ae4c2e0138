/- DERIVED. What the frame of a closed row wants. -/
import Derived.Test.YtkippnfijjhobabRows
import Derived.Test.YtkippnfijjhobabKp
import Derived.ProofKit
import Derived.OpenShut
import Derived.ShutString
import Derived.ChangeOld
import Derived.SizedLaws
import Derived.Deep.Slices
import Derived.Deep.Strs
namespace Go.Proofs.Ytkippnfijjhobab
open Go.ChangeShapes Go.WideShapes Go.ChangeAt Go.RowKit

theorem Try.own : ownKnob Try.prog.godebug = none := by kernel_rfl
end Go.Proofs.Ytkippnfijjhobab
