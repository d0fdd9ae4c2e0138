/- DERIVED. The lowest bits. -/
import Derived.Test.YtddnnlofdicgkabDoorGb
namespace Go.Proofs.YtddnnlofdicgkabDoor
open Go.RowKit
theorem and255 (j : Int) : bits .and .i64 j 255 = j % 256 := by
  unfold bits
  simp only []
  have e : ((BitVec.ofInt 64 j &&& BitVec.ofInt 64 255).toNat : Int) = j % 256 := by
    rw [BitVec.toNat_and, BitVec.toNat_ofInt, BitVec.toNat_ofInt]
    rw [show ((255 : Int) % (2 ^ 64 : Nat)).toNat = 2 ^ 8 - 1 from by decide, Nat.and_two_pow_sub_one_eq_mod]
    omega
  show IntKind.i64.wrap ((BitVec.ofInt 64 j &&& BitVec.ofInt 64 255).toNat : Int) = _
  rw [e]
  rw [IntKind.wrap_i64]; omega

end Go.Proofs.YtddnnlofdicgkabDoor
