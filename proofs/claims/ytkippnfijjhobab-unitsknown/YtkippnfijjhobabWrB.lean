/- DERIVED. The walk of math/bits.Len32. -/
import Derived.Test.YtkippnfijjhobabWrA
import Derived.Lib.Strings
import Derived.Lib.Slices
import Derived.Lib.Small
import Derived.Lib.Walk
import Derived.Lib.BitFns
namespace Go.Proofs.Ytkippnfijjhobab
open Go.RowKit

theorem tab_get (n : Nat) (h : n < Lib.len8tab.size) : (Lib.len8tab[n]'h).toNat = Lib.bitLen n := by
  have h2 : n < 256 := by rw [Lib.len8tab_size] at h; exact h
  have e := Lib.len8_of (n : Int) (by omega) (by omega)
  unfold Lib.len8 at e
  rw [Int.toNat_natCast, getElem?_pos Lib.len8tab n h] at e
  exact Int.ofNat.inj (by simpa using e)

theorem wrap64_small (n : Int) (h0 : 0 ≤ n) (h1 : n < 9223372036854775808) : wrap64 n = n := by unfold wrap64; omega
theorem len_close (k b r : Nat) (hk : k ≤ 24) (hb : b ≤ 8) (h : r = k + b) : wrap64 ((k : Int) + wrap64 (b : Int)) = (r : Int) := by
  rw [wrap64_small (b : Int) (by omega) (by omega), wrap64_small _ (by omega) (by omega), h]
  omega

end Go.Proofs.Ytkippnfijjhobab
