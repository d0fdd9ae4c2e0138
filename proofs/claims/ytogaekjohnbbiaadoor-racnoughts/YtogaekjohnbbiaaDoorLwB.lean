/- DERIVED. The walks of 'may' and of 'about'. -/
import Derived.Test.YtogaekjohnbbiaaDoorLwA
import Derived.Handy
namespace Go.Proofs.YtogaekjohnbbiaaDoor
open Go.RowKit

/-- a part that may be -/
def mLo (lo : Nat) : Nat := lo % 32768
def mHi (lo hi : Nat) : Nat := lo % 32768 + 1 + hi % (32768 - lo % 32768)
theorem may_ok (lo hi : Nat) : mLo lo < mHi lo hi ∧ mHi lo hi ≤ 32768 := by
  unfold mLo mHi
  have := Nat.mod_lt hi (show 32768 - lo % 32768 > 0 by omega)
  omega
theorem ret_part {a b c d : Int} (h : a = c) (h' : b = d) : Ending.returned (.agg #[.int .u32 a, .int .u32 b]) = .returned (.agg #[.int .u32 c, .int .u32 d]) := by rw [h, h']

set_option maxRecDepth 100000 in
set_option maxHeartbeats 400000 in
theorem may_any (lo hi : Nat) (w : World) (hl : lo < 4294967296) (hh : hi < 4294967296) :
    Calls Tryd.prog 25 #[.agg #[.int .u32 lo, .int .u32 hi]] w fun e w' => e = .returned (.agg #[.int .u32 (mLo lo : Nat), .int .u32 (mHi lo hi : Nat)]) ∧ Below w.heap.size w w' := by
  unfold mLo mHi
  have hm : lo % 32768 < 32768 := Nat.mod_lt _ (by omega)
  have hcast : ((lo : Int) % 32768 + 1 + hi % (32768 - (lo : Int) % 32768)) % 4294967296 = ((lo % 32768 + 1 + hi % (32768 - lo % 32768) : Nat) : Int) := by
    have h1 := Nat.mod_lt hi (show 32768 - lo % 32768 > 0 by omega)
    rw [show (32768 - (lo : Int) % 32768) = ((32768 - lo % 32768 : Nat) : Int) from by omega, show ((hi : Int) % ((32768 - lo % 32768 : Nat) : Int)) = ((hi % (32768 - lo % 32768) : Nat) : Int) from (Int.natCast_emod _ _).symm]
    generalize hi % (32768 - lo % 32768) = r at *
    omega
  have HC : Hid _ := hcast
  clear hcast
  go_enter Tryd.func25, Tryd.ntmps25
  go_wp2_with fail
  go_returns
  exact ⟨ret_part (by omega) HC.out, ((Below.refl _ _).alloc (Nat.le_refl _) _).alloc (by simp) _⟩

/-- a part that has the place v -/
def aLo (v lo : Nat) : Nat := lo % (v + 1)
def aHi (v hi : Nat) : Nat := v + 1 + hi % (32768 - v)
theorem about_ok {v : Nat} (hv : v < 32768) (lo hi : Nat) : aLo v lo ≤ v ∧ v < aHi v hi ∧ aHi v hi ≤ 32768 := by
  unfold aLo aHi
  have h1 := Nat.mod_lt lo (show v + 1 > 0 by omega)
  have h2 := Nat.mod_lt hi (show 32768 - v > 0 by omega)
  omega
theorem about_may {c g : Nat} (lo hi : Nat) : dMay c g (aLo (dVal c g) lo) (aHi (dVal c g) hi) := about_ok (dVal_lt c g) lo hi

set_option maxRecDepth 100000 in
set_option maxHeartbeats 400000 in
theorem about_any (v lo hi : Nat) (w : World) (hv : v < 32768) (hl : lo < 4294967296) (hh : hi < 4294967296) :
    Calls Tryd.prog 22 #[.int .u32 v, .agg #[.int .u32 lo, .int .u32 hi]] w fun e w' => e = .returned (.agg #[.int .u32 (aLo v lo : Nat), .int .u32 (aHi v hi : Nat)]) ∧ Below w.heap.size w w' := by
  unfold aLo aHi
  have hv' : (v : Int) ≤ 32767 := by omega
  have hc1 : (lo : Int) % ((v : Int) + 1) = ((lo % (v + 1) : Nat) : Int) := (Int.natCast_emod _ _).symm
  have hcast : ((v : Int) + 1 + hi % (32768 - (v : Int))) % 4294967296 = ((v + 1 + hi % (32768 - v) : Nat) : Int) := by
    have h1 := Nat.mod_lt hi (show 32768 - v > 0 by omega)
    rw [show (32768 - (v : Int)) = ((32768 - v : Nat) : Int) from by omega, show ((hi : Int) % ((32768 - v : Nat) : Int)) = ((hi % (32768 - v) : Nat) : Int) from (Int.natCast_emod _ _).symm]
    generalize hi % (32768 - v) = r at *
    omega
  have HC : Hid _ := hcast
  have HC1 : Hid _ := hc1
  clear hcast hc1
  go_enter Tryd.func22, Tryd.ntmps22
  go_wp2_with fail
  go_returns
  exact ⟨ret_part HC1.out HC.out, ((Below.refl _ _).alloc (Nat.le_refl _) _).alloc (by simp) _⟩

end Go.Proofs.YtogaekjohnbbiaaDoor
