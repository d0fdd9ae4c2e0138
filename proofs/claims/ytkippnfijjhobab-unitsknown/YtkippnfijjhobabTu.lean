/- DERIVED. works. -/
import Derived.Test.YtkippnfijjhobabTp
import Derived.Test.YtkippnfijjhobabTe
import Derived.Deep.RegionHeld3
namespace Go.Proofs.Ytkippnfijjhobab
open Go.RowKit

theorem by_cells {V : World} {H : Nat} {C : List Nat} (hb : ∀ i, C.getD i 0 < 256) (hl : C.length ≤ 1000) (hc : ∀ j, j < C.length → V.cell? ⟨H, j, none⟩ = some (.int .u8 (C.getD j 0 : Nat))) : By V (H + 1) (.slice (some ⟨H, 0, none⟩) C.length C.length) C := by
  have hz : (some (⟨H, 0, none⟩ : Addr) = none → C.length = 0) := by intro e; cases e
  exact ⟨⟨_, _, rfl, Nat.le_refl _, hz, Or.inr ⟨H, 0, rfl, by omega, fun j hj => by rw [Nat.zero_add]; exact hc j hj⟩⟩, hb, by omega⟩
def wB : List Nat := [32, 0, 48, 2, 170, 187]
def wP : List Pc := [(2, []), (3, [170, 187])]
theorem wB_split : splitP wB = (wP, 6, 0) := by decide +kernel
theorem wP_join : joinP wP [] = (wB, 0) := by decide +kernel
theorem wP_un : unP wP [] = ([[(3, [170, 187])]], 0) := by decide +kernel
theorem small_byt {C : List Nat} (h : C.all (· < 256) = true) : ∀ i, C.getD i 0 < 256 := by
  intro i
  rcases Nat.lt_or_ge i C.length with hi | hi
  · rw [List.getD_eq_getElem?_getD, List.getElem?_eq_getElem hi]
    have := List.all_eq_true.1 h _ (List.getElem_mem hi)
    simpa using this
  · rw [List.getD_eq_getElem?_getD, List.getElem?_eq_none hi]; simp
theorem wB_by {V : World} {H : Nat} (h0 : V.cell? ⟨H, 0, none⟩ = some (.int .u8 32)) (h1 : V.cell? ⟨H, 1, none⟩ = some (.int .u8 0)) (h2 : V.cell? ⟨H, 2, none⟩ = some (.int .u8 48)) (h3 : V.cell? ⟨H, 3, none⟩ = some (.int .u8 2)) (h4 : V.cell? ⟨H, 4, none⟩ = some (.int .u8 170)) (h5 : V.cell? ⟨H, 5, none⟩ = some (.int .u8 187)) : By V (H + 1) (.slice (some ⟨H, 0, none⟩) 6 6) wB :=
  by_cells (C := wB) (small_byt (by decide)) (by decide) (fun j hj => by
    have hj' : j < 6 := hj
    rcases (by omega : j = 0 ∨ j = 1 ∨ j = 2 ∨ j = 3 ∨ j = 4 ∨ j = 5) with rfl | rfl | rfl | rfl | rfl | rfl
    · exact h0
    · exact h1
    · exact h2
    · exact h3
    · exact h4
    · exact h5)
/-- the two pieces, written out -/
theorem wP_ob {V : World} {H G : Nat} (h0 : V.cell? ⟨H, 0, none⟩ = some (.int .i64 2)) (h1 : V.cell? ⟨H, 1, none⟩ = some (.slice none 0 0)) (h2 : V.cell? ⟨H, 2, none⟩ = some (.int .i64 3)) (h3 : V.cell? ⟨H, 3, none⟩ = some (.slice (some ⟨G, 0, none⟩) 2 2)) (g0 : V.cell? ⟨G, 0, none⟩ = some (.int .u8 170)) (g1 : V.cell? ⟨G, 1, none⟩ = some (.int .u8 187)) : Ob V (H + G + 1) (.slice (some ⟨H, 0, none⟩) 2 2) wP := by
  have hb : By V (H + G + 1) (.slice (some ⟨G, 0, none⟩) 2 2) [170, 187] := (by_cells (C := [170, 187]) (small_byt (by decide)) (by decide) (fun j hj => by
    have hj' : j < 2 := hj
    rcases (by omega : j = 0 ∨ j = 1) with rfl | rfl
    · exact g0
    · exact g1)).mono (by omega)
  have hn : By V (H + G + 1) (.slice none 0 0) [] := ⟨⟨none, 0, rfl, Nat.le_refl _, fun _ => rfl, Or.inl rfl⟩, by simp, by simp⟩
  refine ⟨some ⟨H, 0, none⟩, 2, [(2, none, 0, 0), (3, some ⟨G, 0, none⟩, 2, 2)], rfl, by decide, Or.inr ⟨H, 0, rfl, by omega, fun j hj => ?_⟩, ⟨rfl, fun j hj => ?_⟩⟩
  · have hj' : j < 2 := hj
    rcases (by omega : j = 0 ∨ j = 1) with rfl | rfl
    · exact ⟨h0, h1⟩
    · exact ⟨h2, h3⟩
  · have hj' : j < 2 := hj
    rcases (by omega : j = 0 ∨ j = 1) with rfl | rfl
    · exact ⟨rfl, hn⟩
    · exact ⟨rfl, hb⟩

theorem wB_len : wB.length = 6 := rfl
theorem wP_len : wP.length = 2 := rfl

set_option maxHeartbeats 4000000 in
set_option maxRecDepth 100000 in
theorem works_any (w : World) : Calls Try.prog 10 #[] w fun e w' => e = .returned (.bool true) ∧ Below w.heap.size w w' := by
  go_enter Try.func10, Try.ntmps10
  go_wp2_with fail
  have hV := from_alloc w (.cells #[.int .u8 32, .int .u8 0, .int .u8 48, .int .u8 2, .int .u8 170, .int .u8 187] 5)
  have hby : By (w.alloc (.cells #[.int .u8 32, .int .u8 0, .int .u8 48, .int .u8 2, .int .u8 170, .int .u8 187] 5)) (w.heap.size + 1) (.slice (some ⟨w.heap.size, 0, none⟩) 6 6) wB := wB_by (by simp) (by simp) (by simp) (by simp) (by simp) (by simp)
  have hVs : (w.alloc (.cells #[.int .u8 32, .int .u8 0, .int .u8 48, .int .u8 2, .int .u8 170, .int .u8 187] 5)).heap.size = w.heap.size + 1 := by simp
  generalize (w.alloc (.cells #[.int .u8 32, .int .u8 0, .int .u8 48, .int .u8 2, .int .u8 170, .int .u8 187] 5)) = V at *
  refine (split_any hby (by omega) (by decide)).mono ?_
  rw [wB_split]
  rintro e w1 ⟨v1, rfl, hl1, hb1⟩
  have HL1 : Hid (Ol w1 V.heap.size v1 wP) := hl1
  have HB1 : Hid (Below V.heap.size V w1) := hb1
  clear hl1 hb1 hby
  go_wp2_with fail
  refine (join_any HL1.out.ob (Nat.le_refl _) (by decide) (by decide)).mono ?_
  rw [wP_join]
  rintro e w2 ⟨a2, c2, rfl, ho2, hb2⟩
  have HO2 : Hid (w2.ownsRow w1.heap.size 5 1 (.slice a2 6 c2) 6 (bs wB)) := ho2
  have HB2 : Hid (Below w1.heap.size w1 w2) := hb2
  clear ho2 hb2
  go_wp2_with fail
  refine (units_any (HL1.out.to HB2.out).ob (Nat.le_refl _) (by decide)).mono ?_
  rw [wP_un]
  rintro e w3 ⟨v3, rfl, ⟨K, hog⟩, hb3⟩
  have HB3 : Hid (Below w2.heap.size w2 w3) := hb3
  have hK : K.length = 1 := hog.len
  obtain ⟨g3, c3, rfl, _, hg3, hk3, _⟩ := hog.cell (l := 0) (by omega)
  have hOl3 : Ol w3 w2.heap.size (K.getD 0 nilV) [(3, [170, 187])] := hog.at' 0 (by decide)
  obtain ⟨a4, c4, hk4, _⟩ := hOl3.sl
  rw [hk4] at hk3 hOl3
  rw [hK]
  simp only [wB_len]
  have HL1' : Hid (Ol w3 V.heap.size v1 wP) := (HL1.out.to HB2.out).to HB3.out
  obtain ⟨a1, c1, rfl, hc1⟩ := HL1.out.sl
  have h2 : wP.length = 2 := rfl
  rw [h2] at hc1 ⊢
  have hOw1 : Ob w3 w3.heap.size (.slice a1 2 c1) wP := HL1'.out.ob
  have hcut : ∀ t : World, (Instr.sliceAt 37 (.slice a1 2 c1) (some (.int .i64 1)) none none).run Try.prog t = .ok (.slice (pa a1 c1 1 2) 1 (c1 - 1)) t := fun t => ocut_from (lo := 1) rfl (by omega) t
  have hpt : Ob w3 w3.heap.size (.slice (pa a1 c1 1 2) 1 (c1 - 1)) [(3, [170, 187])] := hOw1.part 1 1 (by decide)
  have hby2 : By w3 w3.heap.size (.slice a2 6 c2) wB := By.ofOwn rfl (own_below HO2.out HB3.out) (small_byt (by decide)) (by decide)
  have hob4 : Ob w3 w3.heap.size (.slice a4 1 c4) [(3, [170, 187])] := hOl3.ob
  have HS1 : Hid (∀ (U : World) (H G : Nat), Below w3.heap.size w3 U → U.cell? ⟨H, 0, none⟩ = some (.int .i64 2) → U.cell? ⟨H, 1, none⟩ = some (.slice none 0 0) → U.cell? ⟨H, 2, none⟩ = some (.int .i64 3) → U.cell? ⟨H, 3, none⟩ = some (.slice (some ⟨G, 0, none⟩) 2 2) → U.cell? ⟨G, 0, none⟩ = some (.int .u8 170) → U.cell? ⟨G, 1, none⟩ = some (.int .u8 187) → Calls Try.prog 15 #[.slice a1 2 c1, .slice (some ⟨H, 0, none⟩) 2 2] U fun e w' => e = .returned (.bool true) ∧ Below w3.heap.size w3 w') := fun U H G hU k0 k1 k2 k3 k4 k5 => by
    refine (same_any (hOw1.below hU (Nat.le_refl _)) (wP_ob k0 k1 k2 k3 k4 k5) (by decide)).mono ?_
    rintro e w' ⟨rfl, k, rfl⟩
    exact ⟨rfl, below_drewN hU k⟩
  have HE : Hid (∀ (U : World) (H : Nat), Below w3.heap.size w3 U → U.cell? ⟨H, 0, none⟩ = some (.int .u8 32) → U.cell? ⟨H, 1, none⟩ = some (.int .u8 0) → U.cell? ⟨H, 2, none⟩ = some (.int .u8 48) → U.cell? ⟨H, 3, none⟩ = some (.int .u8 2) → U.cell? ⟨H, 4, none⟩ = some (.int .u8 170) → U.cell? ⟨H, 5, none⟩ = some (.int .u8 187) → Calls Try.prog 6 #[.slice a2 6 c2, .slice (some ⟨H, 0, none⟩) 6 6] U fun e w' => e = .returned (.bool true) ∧ Below w3.heap.size w3 w') := fun U H hU k0 k1 k2 k3 k4 k5 => by
    refine (eqBytes_by (hby2.below hU (Nat.le_refl _)) (wB_by k0 k1 k2 k3 k4 k5)).mono ?_
    rintro e w' ⟨rfl, k, rfl⟩
    exact ⟨by simp, below_drewN hU k⟩
  have HS2 : Hid (∀ (U : World), Below w3.heap.size w3 U → Calls Try.prog 15 #[.slice a4 1 c4, .slice (pa a1 c1 1 2) 1 (c1 - 1)] U fun e w' => e = .returned (.bool true) ∧ Below w3.heap.size w3 w') := fun U hU => by
    refine (same_any (hob4.below hU (Nat.le_refl _)) (hpt.below hU (Nat.le_refl _)) (by decide)).mono ?_
    rintro e w' ⟨rfl, k, rfl⟩
    exact ⟨by simp [sameP], below_drewN hU k⟩
  have HF : Hid (∀ t : World, Below w3.heap.size w3 t → t.cell? ⟨g3, 0, none⟩ = some (.slice a4 1 c4)) := fun t ht => by rw [newCell ht _ _ hg3]; exact hk3
  have HD : Hid (Below w3.heap.size w3 w3.drew) := below_drew (Below.refl _ _)
  have HBB : Hid (∀ t, Below w3.heap.size w3 t → Below w.heap.size w t) := fun t ht => (hV.trans ((below_to (below_to HB1.out HB2.out) HB3.out).mono (by omega))).trans (ht.mono (by have h1 := HB1.out.size; have h2 := HB2.out.size; have h3 := HB3.out.size; omega))
  have hz3 := HF.out _ HD.out
  generalize pa a1 c1 1 2 = A5 at *
  generalize c1 - 1 = c5 at *
  clear hOw1 hpt hby2 hob4 hOl3 HL1' HL1 HB1 HB2 HB3 HO2 hog hk4 h2 hK hc1 hV hVs
  have hA : Below w3.heap.size w3 (w3.alloc (.cells #[.int .u8 170, .int .u8 187] 5)).drew := below_drew (from_alloc _ _)
  have hAB : Below w3.heap.size w3 ((w3.alloc (.cells #[.int .u8 170, .int .u8 187] 5)).alloc (.cells #[.int .i64 2, .slice none 0 0, .int .i64 3, .slice (some ⟨w3.heap.size, 0, none⟩) 2 2] 29)).drew := below_drew (to_alloc (from_alloc _ _) _)
  have KA1 : Hid ((w3.alloc (.cells #[.int .u8 170, .int .u8 187] 5)).drew.cell? ⟨g3, 0, none⟩ = some (.slice a4 1 c4)) := HF.out _ hA
  have KA2 : Hid (((w3.alloc (.cells #[.int .u8 170, .int .u8 187] 5)).alloc (.cells #[.int .i64 2, .slice none 0 0, .int .i64 3, .slice (some ⟨w3.heap.size, 0, none⟩) 2 2] 29)).drew.cell? ⟨g3, 0, none⟩ = some (.slice a4 1 c4)) := HF.out _ hAB
  have KA3 : Hid (∀ w5, Below w3.heap.size w3 w5 → (w5.alloc (.cells #[.int .u8 32, .int .u8 0, .int .u8 48, .int .u8 2, .int .u8 170, .int .u8 187] 5)).cell? ⟨g3, 0, none⟩ = some (.slice a4 1 c4)) := fun w5 hb5 => HF.out _ (to_alloc hb5 _)
  have KS1 : Hid (Calls Try.prog 15 #[.slice a1 2 c1, .slice (some ⟨w3.heap.size + 1, 0, none⟩) 2 2] ((w3.alloc (.cells #[.int .u8 170, .int .u8 187] 5)).alloc (.cells #[.int .i64 2, .slice none 0 0, .int .i64 3, .slice (some ⟨w3.heap.size, 0, none⟩) 2 2] 29)).drew fun e w' => e = .returned (.bool true) ∧ Below w3.heap.size w3 w') := HS1.out _ (w3.heap.size + 1) w3.heap.size hAB (by simp) (by simp) (by simp) (by simp) (by simp) (by simp)
  have KE : Hid (∀ w5, Below w3.heap.size w3 w5 → Calls Try.prog 6 #[.slice a2 6 c2, .slice (some ⟨w5.heap.size, 0, none⟩) 6 6] (w5.alloc (.cells #[.int .u8 32, .int .u8 0, .int .u8 48, .int .u8 2, .int .u8 170, .int .u8 187] 5)) fun e w' => e = .returned (.bool true) ∧ Below w3.heap.size w3 w') := fun w5 hb5 => HE.out _ w5.heap.size (to_alloc hb5 _) (by simp) (by simp) (by simp) (by simp) (by simp) (by simp)
  clear hA hAB HS1 HE
  go_wp2_with fail
  go_region_held3 (fun t => t.cell? ⟨g3, 0, none⟩ = some (.slice a4 1 c4)) (first | assumption | exact KA1.out | exact KA2.out | exact KA3.out _ hb5 | go_keep) (first
    | (go_at_call 6; (with_reducible refine (KE.out _ hb5).mono ?_); rintro e w6 ⟨rfl, hb6⟩; have hz6 := HF.out _ hb6)
    | (go_at_call 15; with_reducible refine (HS2.out _ hb6).mono ?_; rintro e w7 ⟨rfl, hb7⟩; have hz7 := HF.out _ hb7)
    | (go_at_call 15; with_reducible refine KS1.out.mono ?_; rintro e w5 ⟨rfl, hb5⟩; have hz5 := HF.out _ hb5))
  all_goals
    go_wp2_with fail
    go_ret
    exact ⟨rfl, HBB.out _ hb7⟩
end Go.Proofs.Ytkippnfijjhobab
