/- DERIVED. The document's reader: what a call of the statements' tells. -/
import Derived.Test.YtiheldakkpbkgaaRfB
import Derived.Test.YtiheldakkpbkgaaRfC
import Derived.Test.YtiheldakkpbkgaaRfD
namespace Go.Proofs.Ytiheldakkpbkgaa
open Go.RowKit

set_option maxHeartbeats 1000000 in
theorem want_rf {x g c : Nat} {zs : List Nat} {p : Nat} {w : World} (h : Rf w x g c zs p) (kind n V : Int) :
    Calls Try.prog 13 #[.pointer (some ⟨x, 0, none⟩), .agg #[.int .i64 kind, .int .i64 n, .int .u32 V]] w fun e w' => e = .returned (.tuple #[.int .u32 (rdOne zs p kind n).1, .int .i64 (rdOne zs p kind n).2.1]) ∧ Rf w' x g c zs (rdOne zs p kind n).2.2 ∧ Kq x w w' := by
  have hb : Below w.heap.size w (w.alloc (.cells #[.int .i64 kind, .int .i64 n, .int .u32 V] 34)) := (Below.refl _ _).alloc (Nat.le_refl _) _
  have h1 := h.below hb
  have hq : Kq x w (w.alloc (.cells #[.int .i64 kind, .int .i64 n, .int .u32 V] 34)) := Kq.below hb
  clear hb
  unfold rdOne
  have hlt := bring5_lt kind
  obtain hc | hc | hc | hc | hc : bring5 kind = 0 ∨ bring5 kind = 1 ∨ bring5 kind = 2 ∨ bring5 kind = 3 ∨ bring5 kind = 4 := by omega
  · rw [hc]
    go_enter Try.func13, Try.ntmps13
    go_wp2_with fail
    refine (bring_five kind _).mono ?_; rintro e w1 ⟨rfl, rfl⟩
    rw [hc]
    go_wp2_with fail
    refine (fixed_rf h1 n).mono ?_; rintro e w2 ⟨rfl, hr2, hk2⟩
    go_wp2_with fail
    go_ret2
    exact ⟨rfl, hr2, hq.trans hk2.kq⟩
  · rw [hc]
    go_enter Try.func13, Try.ntmps13
    go_wp2_with fail
    refine (bring_five kind _).mono ?_; rintro e w1 ⟨rfl, rfl⟩
    rw [hc]
    go_wp2_with fail
    refine (signed_rf h1 n).mono ?_; rintro e w2 ⟨rfl, hr2, hk2⟩
    go_wp2_with fail
    go_ret2
    exact ⟨ret_two (by omega) rfl, hr2, hq.trans hk2.kq⟩
  · rw [hc]
    go_enter Try.func13, Try.ntmps13
    go_wp2_with fail
    refine (bring_five kind _).mono ?_; rintro e w1 ⟨rfl, rfl⟩
    rw [hc]
    go_wp2_with fail
    refine (uvlc_rf h1).mono ?_; rintro e w2 ⟨rfl, hr2, hk2⟩
    go_wp2_with fail
    go_ret2
    exact ⟨rfl, hr2, hq.trans hk2.kq⟩
  · rw [hc]
    go_enter Try.func13, Try.ntmps13
    go_wp2_with fail
    refine (bring_five kind _).mono ?_; rintro e w1 ⟨rfl, rfl⟩
    rw [hc]
    go_wp2_with fail
    refine (leb_rf h1).mono ?_; rintro e w2 ⟨rfl, hr2, hk2⟩
    go_wp2_with fail
    go_ret2
    exact ⟨rfl, hr2, hq.trans hk2.kq⟩
  · rw [hc]
    go_enter Try.func13, Try.ntmps13
    go_wp2_with fail
    refine (bring_five kind _).mono ?_; rintro e w1 ⟨rfl, rfl⟩
    rw [hc]
    go_wp2_with fail
    refine (align_rf h1).mono ?_; rintro e w2 ⟨rfl, hr2, hk2⟩
    go_wp2_with fail
    go_ret2
    exact ⟨rfl, hr2, hq.trans hk2.kq⟩


end Go.Proofs.Ytiheldakkpbkgaa
