/- DERIVED. The walk of awake. -/
import Derived.Test.YtoddkhaaacpelaaDoorCc
namespace Go.Proofs.YtoddkhaaacpelaaDoor
open Go.RowKit

theorem ord_four : ord 4 = [0, 1, 4, 2, 5, 8, 3, 6, 9, 12, 7, 10, 13, 11, 14, 15] := by decide +kernel
theorem order_four {w : World} : Calls Tryd.prog 19 #[.int .i64 4] w fun e w' => ∃ g c, e = .returned (.tuple #[.slice (some ⟨g, 0, none⟩) 16 c, .int .i64 0]) ∧ Hid (Si w' (some ⟨g, 0, none⟩) (ord 4) ∧ Below w.heap.size w w') := by
  refine (order_yes (z := 4) (n := 4) (Or.inl ⟨rfl, rfl⟩)).mono ?_
  rintro e w' ⟨g, c, rfl, ho, hb⟩
  exact ⟨g, c, rfl, ho.si, hb⟩
theorem class_top {w : World} : Calls Tryd.prog 20 #[.int .i64 1024] w fun e w' => e = .returned (.tuple #[.int .i64 10, .int .i64 9, .int .i64 511, .int .i64 0]) ∧ Hid (Below w.heap.size w w') := by
  refine (class_yes (z := 1024) (c := 10) (by omega) (by omega) ⟨by omega, by decide, fun k hk => by
    have : (2 : Int) ^ k ≤ 2 ^ 9 := pow_le (by omega)
    have : (2 : Int) ^ 9 = 512 := by decide
    omega⟩).mono ?_
  rintro e w' ⟨rfl, hb⟩
  exact ⟨by congr 1, hb⟩
theorem four_built (w : World) : Si (w.alloc (.cells #[.int .i64 0, .int .i64 1, .int .i64 4, .int .i64 2, .int .i64 5, .int .i64 8, .int .i64 3, .int .i64 6, .int .i64 9, .int .i64 12, .int .i64 7, .int .i64 10, .int .i64 13, .int .i64 11, .int .i64 14, .int .i64 15] 3)) (some ⟨w.heap.size, 0, none⟩) (ord 4) := by
  rw [ord_four]
  exact (Ri.built 3 w [0, 1, 4, 2, 5, 8, 3, 6, 9, 12, 7, 10, 13, 11, 14, 15] rfl).si

set_option maxRecDepth 100000 in
set_option maxHeartbeats 1000000 in
theorem awake_any {w : World} : Calls Tryd.prog 12 #[] w fun e w' => e = .returned (.bool true) ∧ Hid (Below w.heap.size w w') := by
  have e4 : Hid ((ord 4).length = 16) := by show _ = _; rw [ord_four]; rfl
  have ee : eqI (ord 4) (ord 4) = true := eqI_self _
  go_enter Tryd.func12, Tryd.ntmps12
  go_wp2_with fail
  refine order_four.mono ?_
  rintro e w1 ⟨g, c, rfl, HA⟩
  go_wp2_with fail
  refine class_top.mono ?_
  rintro e w2 ⟨rfl, HB⟩
  have H2 : Hid (Below w.heap.size w w2) := below_to HA.out.2 HB.out
  have HS : Hid (Si w2 (some ⟨g, 0, none⟩) (ord 4)) := HA.out.1.to HB.out
  clear HA HB
  have HL : Hid (∀ o, Si (w2.alloc o) (some ⟨g, 0, none⟩) (ord 4)) := fun o => HS.out.to (from_alloc _ _)
  have HF : Hid _ := four_built w2
  go_wp2_with (go_at_call 11; refine (eqInts_at (HL.out _) HF.out e4.out e4.out (by omega) (by omega)).mono ?_; rintro e w3 ⟨rfl, hb3⟩; have H3 : Hid (Below w.heap.size w w3) := below_to (to_alloc H2.out _) hb3; clear hb3)
  go_ret
  exact ⟨rfl, H3⟩

end Go.Proofs.YtoddkhaaacpelaaDoor
