/- DERIVED. The walk of the statement PlaneApart. -/
import Derived.Test.YtdiphgkgehpgiaaPj
namespace Go.Proofs.Ytdiphgkgehpgiaa
open Go.RowKit

theorem apart_bad {u : World} {a b : Option Addr} {c d : Nat} {C D : List Nat} {W H W' H' : Int} (hn : ¬ POk W H C) :
    Calls Try.prog 23 #[.agg #[.int .i64 W, .int .i64 H, .slice a C.length c], .agg #[.int .i64 W', .int .i64 H', .slice b D.length d]] u fun e w' => e = .returned (.tuple #[.int .u64 0, .int .i64 2]) ∧ Below u.heap.size u w' := by
  have hck : ck W H C = 2 := ck_no hn
  clear hn
  go_enter Try.func23, Try.ntmps23
  go_wp2_with fail
  refine check_any.mono ?_
  rintro e w1 ⟨rfl, hb⟩
  rw [hck]
  have HB : Hid (Below u.heap.size u w1) := below_to (to_alloc (from_alloc u _) _) hb
  clear hb hck
  go_wp2_with fail
  go_ret2
  exact ⟨rfl, HB.out⟩

end Go.Proofs.Ytdiphgkgehpgiaa
