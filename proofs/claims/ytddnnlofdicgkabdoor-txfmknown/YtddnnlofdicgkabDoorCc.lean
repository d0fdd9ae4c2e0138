/- DERIVED. The walks of transform, takes, inverseWht, forwardWht. -/
import Derived.Test.YtddnnlofdicgkabDoorCb
namespace Go.Proofs.YtddnnlofdicgkabDoor
open Go.RowKit

set_option maxRecDepth 100000 in
set_option maxHeartbeats 1000000 in
theorem iwht_any {w : World} {a : Option Addr} {c : Nat} {C : List Int} (hs : Si w a C) (hn : C.length = 4) (hC : Mst C 1048576) :
    Calls Tryd.prog 45 #[.slice a C.length c] w fun e w' => N1 w w' e (whtI (C.getD 0 0) (C.getD 1 0) (C.getD 2 0) (C.getD 3 0)) := by
  obtain ⟨b, o, rfl, hbl, hc⟩ := hs.form (by omega)
  have c0 := hc 0 (by omega)
  have c1 := hc 1 (by omega)
  have c2 := hc 2 (by omega)
  have c3 := hc 3 (by omega)
  rw [Nat.add_zero] at c0
  obtain ⟨b0, b1⟩ := hC 0 (by omega)
  obtain ⟨b2, b3⟩ := hC 1 (by omega)
  obtain ⟨b4, b5⟩ := hC 2 (by omega)
  obtain ⟨b6, b7⟩ := hC 3 (by omega)
  have HB : Hid (∀ nq : Nat, Below w.heap.size w (w.drewN nq)) := fun nq => below_drewN (Below.refl _ _) nq
  rw [hn]
  clear hc hs hC
  generalize C.getD 0 0 = x0 at *
  generalize C.getD 1 0 = x1 at *
  generalize C.getD 2 0 = x2 at *
  generalize C.getD 3 0 = x3 at *
  clear hn C
  go_enter Tryd.func45, Tryd.ntmps45
  go_wp2_with fail
  go_quiet (fail)
  have HB1 := HB.out nq
  go_wp2_with fail
  go_ret
  refine ⟨w.heap.size, rfl, Nat.le_refl _, ?_, ?_⟩
  · exact Ri.built 3 (w.drewN nq) (whtI x0 x1 x2 x3) rfl
  · exact to_alloc HB1 _

set_option maxRecDepth 100000 in
set_option maxHeartbeats 1000000 in
theorem fwht_any {w : World} {a : Option Addr} {c : Nat} {C : List Int} (hs : Si w a C) (hn : C.length = 4) (hC : Mst C 1048576) :
    Calls Tryd.prog 47 #[.slice a C.length c] w fun e w' => N1 w w' e (whtF (C.getD 0 0) (C.getD 1 0) (C.getD 2 0) (C.getD 3 0)) := by
  obtain ⟨b, o, rfl, hbl, hc⟩ := hs.form (by omega)
  have c0 := hc 0 (by omega)
  have c1 := hc 1 (by omega)
  have c2 := hc 2 (by omega)
  have c3 := hc 3 (by omega)
  rw [Nat.add_zero] at c0
  obtain ⟨b0, b1⟩ := hC 0 (by omega)
  obtain ⟨b2, b3⟩ := hC 1 (by omega)
  obtain ⟨b4, b5⟩ := hC 2 (by omega)
  obtain ⟨b6, b7⟩ := hC 3 (by omega)
  have HB : Hid (∀ nq : Nat, Below w.heap.size w (w.drewN nq)) := fun nq => below_drewN (Below.refl _ _) nq
  rw [hn]
  clear hc hs hC
  generalize C.getD 0 0 = x0 at *
  generalize C.getD 1 0 = x1 at *
  generalize C.getD 2 0 = x2 at *
  generalize C.getD 3 0 = x3 at *
  clear hn C
  go_enter Tryd.func47, Tryd.ntmps47
  go_wp2_with fail
  go_quiet (fail)
  have HB1 := HB.out nq
  go_wp2_with fail
  go_ret
  refine ⟨w.heap.size, rfl, Nat.le_refl _, ?_, ?_⟩
  · exact Ri.built 3 (w.drewN nq) (whtF x0 x1 x2 x3) rfl
  · exact to_alloc HB1 _

end Go.Proofs.YtddnnlofdicgkabDoor
