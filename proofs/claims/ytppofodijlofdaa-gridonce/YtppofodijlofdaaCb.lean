/- DERIVED. Whether a grid is one. -/
import Derived.Test.YtppofodijlofdaaCa
namespace Go.Proofs.Ytppofodijlofdaa
open Go.RowKit

set_option maxRecDepth 100000 in
theorem isNone_nil {w : World} : Calls Try.prog 24 #[.pointer none] w fun e w' => e = .returned (.bool true) ∧ w = w' := by
  go_enter Try.func24, Try.ntmps24
  go_wp2_with fail
  go_ret
  exact ⟨rfl, rfl⟩
set_option maxRecDepth 100000 in
theorem isNone_map {w : World} {p : Nat} {m : Option Nat} (hc : w.cell? ⟨p, 5, none⟩ = some (.map m)) : Calls Try.prog 24 #[.pointer (some ⟨p, 0, none⟩)] w fun e w' => e = .returned (.bool m.isNone) ∧ w = w' := by
  have he : ∀ (u : World) (r : Option Nat), (binOp .eql 61 (.map r) (.map none)).run Try.prog u = .ok (.bool r.isNone) u := fun u r => run_eql_map_nil u 61 74 3 r Try.underlying61
  cases m
  · go_enter Try.func24, Try.ntmps24
    go_wp2_with fail
    go_ret
    exact ⟨rfl, rfl⟩
  · go_enter Try.func24, Try.ntmps24
    go_wp2_with fail
    go_ret
    exact ⟨rfl, rfl⟩
end Go.Proofs.Ytppofodijlofdaa
