/- DERIVED. UnitsKnown. -/
import Derived.Test.YtkippnfijjhobabKs
namespace Go.Proofs.Ytkippnfijjhobab
open Go.RowKit

set_option maxRecDepth 100000 in
set_option maxHeartbeats 16000000 in
theorem known_walk {w : World} : Calls Try.prog 3 #[] w fun e w' => e = .returned (.bool true) ∧ Below w.heap.size w w' := by
  obtain ⟨O2, Z2, _, _, hz2, hm2, hy2⟩ := made_u8 200 (by omega)
  obtain ⟨OZ, Z, hzl, _, _, hmZ, hyZ⟩ := made_u8 16777217 (by omega)
  obtain ⟨A9, k9, hA9⟩ := cut_big
  have HY2 : Hid (∀ u : World, By (u.alloc O2) (u.heap.size + 1) (.slice (some ⟨u.heap.size, 0, none⟩) 200 200) Z2) := hy2
  have HYZ : Hid (∀ u : World, By (u.alloc OZ) (u.heap.size + 1) (.slice (some ⟨u.heap.size, 0, none⟩) 16777217 16777217) Z) := hyZ
  have HZ2 : Hid (Z2 = List.replicate 200 0) := hz2
  have HZL : Hid (Z.length = 16777217) := hzl
  have HTL : Hid ((Z.take 16777216).length = 16777216) := by show _ = _; rw [List.length_take, hzl]; omega
  have HA9 : Hid (∀ (g N : Nat) (t : World), By t N (.slice (some ⟨g, 0, none⟩) 16777217 16777217) Z → By t N (.slice (A9 g) 16777216 16777217) (Z.take 16777216)) := fun g N t h => hA9 g N t Z hzl h
  have k2 : ∀ u : World, (Instr.makeSlice 24 (.int .i64 200) (.int .i64 200)).run Try.prog u = .ok (.slice (some ⟨u.heap.size, 0, none⟩) 200 200) (u.alloc O2) := hm2
  have kZ : ∀ u : World, (Instr.makeSlice 24 (.int .i64 16777217) (.int .i64 16777217)).run Try.prog u = .ok (.slice (some ⟨u.heap.size, 0, none⟩) 16777217 16777217) (u.alloc OZ) := hmZ
  clear hm2 hmZ hy2 hyZ hz2 hzl hA9
  have e1 := Try.eq000
  have e2 := Try.eq123
  have e3 := Try.eq124
  have e4 := Try.eq003
  have e5 := Try.eq004
  have e6 := Try.eq005
  have e7 := Try.eq370
  have hb0 : Below w.heap.size w w := Below.refl _ _
  go_enter Try.func3, Try.ntmps3
  go_wp2_with (first
    | (go_at_call 4; (first | (with_reducible refine (td1 (by assumption)).mono ?_) | (with_reducible refine (td2 (by assumption)).mono ?_) | (with_reducible refine (td3 (by assumption)).mono ?_) | (with_reducible refine (td4 (by assumption)).mono ?_) | (with_reducible refine (td5 (by assumption)).mono ?_) | (with_reducible refine (td6 (by assumption)).mono ?_) | (with_reducible refine (td7 (by assumption)).mono ?_) | (with_reducible refine (td8 (by assumption)).mono ?_) | (with_reducible refine (td9 (by assumption)).mono ?_) | (with_reducible refine (td10 (by assumption)).mono ?_) | (with_reducible refine (td11 (by assumption)).mono ?_) | (with_reducible refine (told_nil (by assumption)).mono ?_)); rintro e wn ⟨rfl, hbn⟩)
    | (go_at_call 5; (first
      | ((with_reducible refine (jn2' hbn HZ2.out (HY2.out _)).mono ?_); rintro e w2 ⟨a2, c2, A5, rfl, k5, hby2, hb2⟩; clear hbn; have HB2 : Hid (Below w.heap.size w w2) := hb2; have HY5 : Hid (By w2 w2.heap.size (.slice A5 5 c2) [32, 0, 16, 200, 1]) := hby2; clear hb2 hby2)
      | ((with_reducible refine (jn3 (Below.refl _ w2)).mono ?_); rintro e w3 ⟨a3, c3, rfl, hb3⟩)
      | ((with_reducible refine (jn4 hb3).mono ?_); rintro e w4 ⟨a4, c4, rfl, hb4⟩)
      | ((with_reducible refine (jn5 hb4).mono ?_); rintro e w5 ⟨a5, c5, rfl, hb5⟩)
      | ((with_reducible refine (jn7' HZL.out (HYZ.out w5)).mono ?_); rintro e w7 ⟨a7, c7, rfl, hb7⟩; have HYV : Hid (∀ t, Below (w5.alloc OZ).heap.size (w5.alloc OZ) t → By t t.heap.size (.slice (some ⟨w5.heap.size, 0, none⟩) 16777217 16777217) Z) := fun t ht => ((HYZ.out w5).below ht (by simp)).mono (by have := ht.size; simp at this; omega))
      | ((with_reducible refine (jn8 hb7 HZL.out (HYV.out _ hb7)).mono ?_); rintro e w8 ⟨a8, c8, rfl, hb8⟩)
      | ((with_reducible refine (jn9 hb8 HTL.out (HA9.out _ _ _ (HYV.out _ hb8))).mono ?_); rintro e w9 ⟨a9, c9, rfl, hb9⟩; have hq9 : Below w2.heap.size w2 w9 := below_to (below_to hb5 (from_alloc _ _)) hb9; have hv9 : Below w.heap.size w w9 := below_to HB2.out hq9)))
    | (go_at_call 6; (with_reducible refine (eb5 (HY5.out.below hq9 (Nat.le_refl _)) hq9.size hv9).mono ?_); rintro e wn ⟨rfl, hbn⟩)
    | (go_at_call 7; (first | (with_reducible refine (ei3 hsi hbn).mono ?_) | (with_reducible refine (ei1 hsi hbn).mono ?_)); rintro e wn ⟨rfl, hbn⟩)
    | (go_at_call 8; (first
      | ((with_reducible refine (gp1 (by assumption)).mono ?_); rintro e wn ⟨ag, cg, rfl, hsi, hbn⟩)
      | ((with_reducible refine (gp2 (by assumption)).mono ?_); rintro e wn ⟨ag, cg, rfl, hsi, hbn⟩)
      | ((with_reducible refine (gp3 (by assumption)).mono ?_); rintro e wn ⟨ag, cg, rfl, hsi, hbn⟩)
      | ((with_reducible refine (gp4 (by assumption)).mono ?_); rintro e wn ⟨ag, cg, rfl, hsi, hbn⟩)
      | ((with_reducible refine (gp0 (by assumption)).mono ?_); rintro e wn ⟨ag, cg, rfl, hbn⟩)))
    | (go_at_call 9; (with_reducible refine (un2' (by assumption)).mono ?_); rintro e wn ⟨vn, rfl, hbn⟩)
    | (go_at_call 10; (with_reducible refine (works_lit (by assumption)).mono ?_); rintro e wn ⟨rfl, hbn⟩))
  go_ret
  exact ⟨rfl, hbn⟩
end Go.Proofs.Ytkippnfijjhobab
