/- DERIVED. The walks of the document's own writer: Write, Fixed, Signed, Uvlc, Leb, Align. -/
import Derived.Test.YtkippnfijjhobaaRwA
namespace Go.Proofs.Ytkippnfijjhobaa
open Go.RowKit

set_option maxHeartbeats 400000 in
theorem write_wf (w : World) :
    Calls Try.prog 29 #[] w fun e w' => e = .returned (.pointer (some ⟨w.heap.size, 0, none⟩)) ∧ Wf w' w.heap.size w.heap.size (.slice none 0 0) [] 0 0 ∧ Below w.heap.size w w' := by
  go_enter Try.func29, Try.ntmps29
  go_wp2
  go_ret
  exact ⟨rfl, ⟨by simp, World.ownsRow_nil _ _ _ _, by simp [Value.ownBlock], by simp, by simp, ⟨rfl, by simp, rfl⟩⟩, (Below.refl _ _).alloc (Nat.le_refl _) _⟩

theorem two_pow_wrap (m : Nat) (hm : m ≤ 62) : IntKind.u64.wrap (2 ^ m) = ((2 ^ m : Nat) : Int) := by
  have h : (2 : Nat) ^ m ≤ 2 ^ 62 := Nat.pow_le_pow_right (by omega) hm
  rw [IntKind.wrap_u64]
  have e : (2 : Int) ^ m = ((2 ^ m : Nat) : Int) := by simp
  rw [e]
  have h0 := Nat.two_pow_pos m
  generalize (2 : Nat) ^ m = y at *
  omega
theorem div_pow_zero (v m : Nat) : v / 2 ^ m = 0 ↔ v < 2 ^ m := by
  constructor
  · intro h; rcases Nat.div_eq_zero_iff.1 h with e | e
    · have := Nat.two_pow_pos m; omega
    · exact e
  · exact Nat.div_eq_of_lt

theorem pow_wrap64 (m : Nat) (hm : m ≤ 62) : wrap64 (2 ^ m) = ((2 ^ m : Nat) : Int) := by
  have h : (2 : Nat) ^ m ≤ 2 ^ 62 := Nat.pow_le_pow_right (by omega) hm
  have e : (2 : Int) ^ m = ((2 ^ m : Nat) : Int) := by simp
  rw [e]
  have h0 := Nat.two_pow_pos m
  generalize (2 : Nat) ^ m = y at *
  unfold wrap64
  omega
theorem pow_test (m u : Nat) (hm : m ≤ 62) (h : u < 2 ^ m) : decide (wrap64 (2 ^ m) ≤ (u : Int)) = false := by
  rw [pow_wrap64 m hm]; simp; exact_mod_cast h
theorem pow_testT (m u : Nat) (hm : m ≤ 62) (h : 2 ^ m ≤ u) : decide (wrap64 (2 ^ m) ≤ (u : Int)) = true := by
  rw [pow_wrap64 m hm]; simp; exact_mod_cast h

end Go.Proofs.Ytkippnfijjhobaa
