/- DERIVED. The walks of the small methods of bits.Reader: none, next, Left. -/
import Derived.Test.YtkippnfijjhobabRows
import Derived.WalkKit
import Derived.WalkSpells
import Derived.WalkLawsBesides
import Derived.Deep.QuietTactic
import Derived.BigQuiet
namespace Go.Proofs.Ytkippnfijjhobab
open Go.RowKit

theorem ret_int {k : IntKind} {a b : Int} (h : a = b) : Ending.returned (.int k a) = .returned (.int k b) := by rw [h]

set_option maxHeartbeats 400000 in
theorem rnone_made (r : Nat) (w : World) (hm : w.cell? ⟨r, 0, none⟩ = some (.bool true)) :
    Calls Try.prog 27 #[.pointer (some ⟨r, 0, none⟩)] w fun e w' => e = .returned (.bool false) ∧ w' = w := by
  go_enter Try.func27, Try.ntmps27
  go_wp2
  go_ret
  exact ⟨rfl, rfl⟩

set_option maxHeartbeats 400000 in
theorem rleft_any (r : Nat) (a : Option Addr) (n c p : Nat) (w : World) (hm : w.cell? ⟨r, 0, none⟩ = some (.bool true)) (hd : w.cell? ⟨r, 1, none⟩ = some (.slice a n c))
    (hp : w.cell? ⟨r, 2, none⟩ = some (.int .i64 p)) (hn : n ≤ 140737488355328) (hb : p ≤ 8 * n) :
    Calls Try.prog 23 #[.pointer (some ⟨r, 0, none⟩)] w fun e w' => e = .returned (.int .i64 (8 * n - p : Nat)) ∧ ∃ k, w' = w.drewN k := by
  go_enter Try.func23, Try.ntmps23
  go_wp2_with (first | (go_at_call 27; refine (rnone_made _ _ hm).mono ?_; rintro e w' ⟨rfl, rfl⟩))
  go_quiet (fail)
  go_wp2
  go_ret
  exact ⟨ret_int (by omega), ⟨_, rfl⟩⟩

end Go.Proofs.Ytkippnfijjhobab
