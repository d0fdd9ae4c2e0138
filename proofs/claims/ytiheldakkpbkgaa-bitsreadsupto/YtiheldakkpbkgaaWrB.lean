/- DERIVED. The walk of math/bits.Len32. -/
import Derived.Test.YtiheldakkpbkgaaWrA
import Derived.Lib.Strings
import Derived.Lib.Slices
import Derived.Lib.Small
import Derived.Lib.Walk
import Derived.Lib.BitFns
namespace Go.Proofs.Ytiheldakkpbkgaa
open Go.RowKit

theorem tab_get (n : Nat) (h : n < Lib.len8tab.size) : (Lib.len8tab[n]'h).toNat = Lib.bitLen n := by
  have h2 : n < 256 := by rw [Lib.len8tab_size] at h; exact h
  have e := Lib.len8_of (n : Int) (by omega) (by omega)
  unfold Lib.len8 at e
  rw [Int.toNat_natCast, getElem?_pos Lib.len8tab n h] at e
  exact Int.ofNat.inj (by simpa using e)

theorem wrap64_small (n : Int) (h0 : 0 ≤ n) (h1 : n < 9223372036854775808) : wrap64 n = n := by unfold wrap64; omega
theorem len_close (k b r : Nat) (hk : k ≤ 24) (hb : b ≤ 8) (h : r = k + b) : wrap64 ((k : Int) + wrap64 (b : Int)) = (r : Int) := by
  rw [wrap64_small (b : Int) (by omega) (by omega), wrap64_small _ (by omega) (by omega), h]
  omega

set_option maxHeartbeats 4000000 in
set_option maxRecDepth 100000 in
theorem len32_any (x : Int) (w : World) (h0 : 0 ≤ x) (h1 : x ≤ 4294967295) :
    Calls Try.prog 56 #[.int .u32 x] w fun e w' => e = .returned (.int .i64 (Lib.bitLen x.toNat)) ∧ w' = w := by
  have hs := Lib.len8tab_size
  go_enter Try.func56, Try.ntmps56
  go_wp2
  all_goals (go_ret; refine ⟨congrArg Ending.returned (congrArg (Value.int IntKind.i64) ?_), rfl⟩)
  · rw [tab_get, show (x / 65536 / 256).toNat = x.toNat / 16777216 from by omega]
    exact len_close 24 _ _ (by omega) (Lib.bitLen_le _ 8 (by omega) (by omega)) (Lib.bitLen_shift24 x.toNat (by omega) (by omega))
  · rw [tab_get, show (x / 65536).toNat = x.toNat / 65536 from by omega]
    exact len_close 16 _ _ (by omega) (Lib.bitLen_le _ 8 (by omega) (by omega)) (Lib.bitLen_shift16 x.toNat (by omega) (by omega))
  · rw [tab_get, show (x / 256).toNat = x.toNat / 256 from by omega]
    exact len_close 8 _ _ (by omega) (Lib.bitLen_le _ 8 (by omega) (by omega)) (Lib.bitLen_shift8 x.toNat (by omega) (by omega))
  · rw [tab_get]
    have h8 := Lib.bitLen_le x.toNat 8 (by omega) (by omega)
    rw [wrap64_small (Lib.bitLen x.toNat : Int) (by omega) (by omega), wrap64_small (Lib.bitLen x.toNat : Int) (by omega) (by omega)]

end Go.Proofs.Ytiheldakkpbkgaa
