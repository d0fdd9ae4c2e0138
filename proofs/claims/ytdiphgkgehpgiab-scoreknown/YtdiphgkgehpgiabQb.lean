/- DERIVED. The document's Check, Same, Clip, At, Apart. -/
import Derived.Test.YtdiphgkgehpgiabQa
namespace Go.Proofs.Ytdiphgkgehpgiab
open Go.RowKit

/-- nothing but the count of draws has turned -/
def Dn (v w : World) : Prop := ∃ m, w = v.drewN m
theorem Dn.refl (v : World) : Dn v v := ⟨0, rfl⟩
theorem Dn.drewN {v w : World} (h : Dn v w) (n : Nat) : Dn v (w.drewN n) := by obtain ⟨m, rfl⟩ := h; exact ⟨m + n, drewN_drewN _ _ _⟩
theorem Dn.cell {v w : World} (h : Dn v w) (a : Addr) : w.cell? a = v.cell? a := by obtain ⟨m, rfl⟩ := h; rfl
theorem Dn.below {v w : World} (h : Dn v w) : Below v.heap.size v w := by obtain ⟨m, rfl⟩ := h; exact below_drewN (Below.refl _ _) m

end Go.Proofs.Ytdiphgkgehpgiab
