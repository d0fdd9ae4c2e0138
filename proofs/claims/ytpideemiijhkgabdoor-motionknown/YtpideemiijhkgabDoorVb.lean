/- DERIVED. Whole. -/
import Derived.Test.YtpideemiijhkgabDoorVa
namespace Go.Proofs.YtpideemiijhkgabDoor
open Go.RowKit


def WhInv (v : World) (D0 D1 D2 : Prop) (iv : Value) (wr : World) : Prop := ∃ k : Nat, k ≤ 3 ∧ iv = .int .i64 k ∧ (1 ≤ k → D0) ∧ (2 ≤ k → D1) ∧ (3 ≤ k → D2) ∧ Below v.heap.size v wr
set_option maxRecDepth 100000 in
set_option maxHeartbeats 4000000 in
theorem whole_any {u : World} {W0 H0 W1 H1 W2 H2 : Int} {a0 a1 a2 : Option Addr} {c0 c1 c2 : Nat} {C0 C1 C2 : List Nat} :
    Calls Tryd.prog 22 #[.agg #[.int .i64 W0, .int .i64 H0, .slice a0 C0.length c0, .int .i64 W1, .int .i64 H1, .slice a1 C1.length c1, .int .i64 W2, .int .i64 H2, .slice a2 C2.length c2]] u fun e w' => e = .returned (.int .i64 (fk ⟨W0, H0, a0, c0, C0⟩ ⟨W1, H1, a1, c1, C1⟩ ⟨W2, H2, a2, c2, C2⟩)) ∧ Below u.heap.size u w' := by
  have HB0 : Hid (Below u.heap.size u (u.alloc (.cells #[.int .i64 W0, .int .i64 H0, .slice a0 C0.length c0, .int .i64 W1, .int .i64 H1, .slice a1 C1.length c1, .int .i64 W2, .int .i64 H2, .slice a2 C2.length c2] 42))) := from_alloc _ _
  by_cases hw : Vs W0
  · by_cases hh : Vs H0
    · have HW : Hid (Vs W0) := hw
      have HH : Hid (Vs H0) := hh
      have i0 : 16 ≤ W0 := hw.lo
      have i1 : W0 ≤ 256 := hw.hi
      have i2 : 16 ≤ H0 := hh.lo
      have i3 : H0 ≤ 256 := hh.hi
      clear hw hh
      go_enter Tryd.func22, Tryd.ntmps22
      go_wp2_with fail
      go_quiet (fail)
      go_wp2_with (first | (go_at_call 19; with_reducible refine (vs_yes HW.out).mono ?_; rintro e w1 ⟨rfl, rfl⟩) | (go_at_call 19; with_reducible refine (vs_yes HH.out).mono ?_; rintro e w2 ⟨rfl, rfl⟩))
      refine (sizes_any (by omega) i1 (by omega) i3).mono ?_
      rintro e v ⟨rfl, hb⟩
      have HF0 : Hid (v.cell? ⟨u.heap.size, 0, none⟩ = some (.int .i64 W0)) := by unfold Hid; rw [newCell hb _ _ (by simp)]; simp [go_sem]
      have HF1 : Hid (v.cell? ⟨u.heap.size, 1, none⟩ = some (.int .i64 H0)) := by unfold Hid; rw [newCell hb _ _ (by simp)]; simp [go_sem]
      have HF2 : Hid (v.cell? ⟨u.heap.size, 2, none⟩ = some (.slice a0 C0.length c0)) := by unfold Hid; rw [newCell hb _ _ (by simp)]; simp [go_sem]
      have HF3 : Hid (v.cell? ⟨u.heap.size, 3, none⟩ = some (.int .i64 W1)) := by unfold Hid; rw [newCell hb _ _ (by simp)]; simp [go_sem]
      have HF4 : Hid (v.cell? ⟨u.heap.size, 4, none⟩ = some (.int .i64 H1)) := by unfold Hid; rw [newCell hb _ _ (by simp)]; simp [go_sem]
      have HF5 : Hid (v.cell? ⟨u.heap.size, 5, none⟩ = some (.slice a1 C1.length c1)) := by unfold Hid; rw [newCell hb _ _ (by simp)]; simp [go_sem]
      have HF6 : Hid (v.cell? ⟨u.heap.size, 6, none⟩ = some (.int .i64 W2)) := by unfold Hid; rw [newCell hb _ _ (by simp)]; simp [go_sem]
      have HF7 : Hid (v.cell? ⟨u.heap.size, 7, none⟩ = some (.int .i64 H2)) := by unfold Hid; rw [newCell hb _ _ (by simp)]; simp [go_sem]
      have HF8 : Hid (v.cell? ⟨u.heap.size, 8, none⟩ = some (.slice a2 C2.length c2)) := by unfold Hid; rw [newCell hb _ _ (by simp)]; simp [go_sem]
      have HBv : Hid (Below u.heap.size u v) := below_to (below_drewN HB0.out nq) hb
      have hz : u.heap.size + 1 ≤ v.heap.size := by have := hb.size; simp at this; omega
      clear hb HB0
      go_wp2_with fail
      go_loopw [26] (fun i wr => WhInv v (POk W0 H0 C0) (W1 = W0 / 2 ∧ H1 = H0 / 2 ∧ POk W1 H1 C1) (W2 = W0 / 2 ∧ H2 = H0 / 2 ∧ POk W2 H2 C2) i wr) (fun i _ => 3 - (intOf i).toNat)
      case atStart => exact ⟨0, by omega, rfl, fun h => by omega, fun h => by omega, fun h => by omega, Below.refl _ _⟩
      case round =>
        obtain ⟨k, hk, rfl, g0, g1, g2, hb⟩ := hrel
        have D0 : Hid _ := g0
        have D1 : Hid _ := g1
        have D2 : Hid _ := g2
        have HBr : Hid (Below v.heap.size v wr) := hb
        clear g0 g1 g2 hb
        rcases (show k = 0 ∨ k = 1 ∨ k = 2 ∨ k = 3 by omega) with rfl | rfl | rfl | rfl
        · skip
          have hix : ∀ x : World, (Instr.index 59 (.agg #[.int .i64 W0, .int .i64 H0, .int .i64 (W0 / 2), .int .i64 (H0 / 2), .int .i64 (W0 / 2), .int .i64 (H0 / 2)]) (.int .i64 0)).run Tryd.prog x = .ok (.agg #[.int .i64 (W0), .int .i64 (H0)]) x := fun x => idx0 _ _ _ _ _ _ x
          have r0 : (wr.alloc (.cells #[.int .i64 (W0), .int .i64 (H0)] 58)).cell? ⟨u.heap.size, 0, none⟩ = some (.int .i64 W0) := by rw [newCell (from_alloc _ _) _ _ (by have := HBr.out.size; omega), newCell HBr.out _ _ (by omega)]; exact HF0.out
          have r1 : (wr.alloc (.cells #[.int .i64 (W0), .int .i64 (H0)] 58)).cell? ⟨u.heap.size, 1, none⟩ = some (.int .i64 H0) := by rw [newCell (from_alloc _ _) _ _ (by have := HBr.out.size; omega), newCell HBr.out _ _ (by omega)]; exact HF1.out
          have r2 : (wr.alloc (.cells #[.int .i64 (W0), .int .i64 (H0)] 58)).cell? ⟨u.heap.size, 2, none⟩ = some (.slice a0 C0.length c0) := by rw [newCell (from_alloc _ _) _ _ (by have := HBr.out.size; omega), newCell HBr.out _ _ (by omega)]; exact HF2.out
          have r3 : (wr.alloc (.cells #[.int .i64 (W0), .int .i64 (H0)] 58)).cell? ⟨wr.heap.size, 0, none⟩ = some (.int .i64 (W0)) := by simp
          have r4 : (wr.alloc (.cells #[.int .i64 (W0), .int .i64 (H0)] 58)).cell? ⟨wr.heap.size, 1, none⟩ = some (.int .i64 (H0)) := by simp
          have HBA : Hid (Below u.heap.size u (wr.alloc (.cells #[.int .i64 (W0), .int .i64 (H0)] 58))) := below_to (HBv.out.trans (HBr.out.mono (by omega))) (from_alloc _ _)
          have HBA2 : Hid (Below v.heap.size v (wr.alloc (.cells #[.int .i64 (W0), .int .i64 (H0)] 58))) := HBr.out.trans ((from_alloc wr _).mono HBr.out.size)
          by_cases m1 : W0 = W0
          · by_cases m2 : H0 = H0
            · have n1 : (W0 != W0) = false := by simp
              have n2 : (H0 != H0) = false := by simp
              have M1 : Hid (W0 = W0) := m1
              have M2 : Hid (H0 = H0) := m2
              clear m1 m2
              have HK : Hid (∀ x : World, Below (wr.alloc (.cells #[.int .i64 (W0), .int .i64 (H0)] 58)).heap.size (wr.alloc (.cells #[.int .i64 (W0), .int .i64 (H0)] 58)) x → (x.cell? ⟨u.heap.size, 0, none⟩ = some (.int .i64 W0) ∧ x.cell? ⟨u.heap.size, 1, none⟩ = some (.int .i64 H0) ∧ x.cell? ⟨u.heap.size, 2, none⟩ = some (.slice a0 C0.length c0) ∧ x.cell? ⟨wr.heap.size, 0, none⟩ = some (.int .i64 (W0)) ∧ x.cell? ⟨wr.heap.size, 1, none⟩ = some (.int .i64 (H0)) ∧ Below (wr.alloc (.cells #[.int .i64 (W0), .int .i64 (H0)] 58)).heap.size (wr.alloc (.cells #[.int .i64 (W0), .int .i64 (H0)] 58)) x)) := fun x hx => ⟨by rw [newCell hx _ _ (by simp; have := HBr.out.size; omega)]; exact r0, by rw [newCell hx _ _ (by simp; have := HBr.out.size; omega)]; exact r1, by rw [newCell hx _ _ (by simp; have := HBr.out.size; omega)]; exact r2, by rw [newCell hx _ _ (by simp)]; exact r3, by rw [newCell hx _ _ (by simp)]; exact r4, hx⟩
              clear r0 r1 r2 r3 r4
              by_cases hp : POk W0 H0 C0
              · have hck : ck W0 H0 C0 = 0 := ck_ok hp
                have HP : Hid _ := hp
                have HKc : Hid (∀ x : World, Calls Tryd.prog 32 #[.agg #[.int .i64 W0, .int .i64 H0, .slice a0 C0.length c0]] x fun e w' => e = .returned (.int .i64 0) ∧ Below x.heap.size x w') := fun x => by have := check_any (w := x) (a := a0) (c := c0) (C := C0) (W := W0) (H := H0); rwa [hck] at this
                clear hp hck
                go_wp2_with fail
                go_region_held3 (fun v => v.cell? ⟨u.heap.size, 0, none⟩ = some (.int .i64 W0) ∧ v.cell? ⟨u.heap.size, 1, none⟩ = some (.int .i64 H0) ∧ v.cell? ⟨u.heap.size, 2, none⟩ = some (.slice a0 C0.length c0) ∧ v.cell? ⟨wr.heap.size, 0, none⟩ = some (.int .i64 (W0)) ∧ v.cell? ⟨wr.heap.size, 1, none⟩ = some (.int .i64 (H0)) ∧ Below (wr.alloc (.cells #[.int .i64 (W0), .int .i64 (H0)] 58)).heap.size (wr.alloc (.cells #[.int .i64 (W0), .int .i64 (H0)] 58)) v)
                  ((exact HK.out _ (by first | exact below_drew (Below.refl _ _) | exact Below.trans (below_drew (Below.refl _ _)) (by assumption))))
                  ((go_at_call 32; refine (HKc.out _).mono ?_; rintro e w5 ⟨rfl, hb5⟩))
                go_wp2_with fail
                go_roundw
                case rel => exact ⟨1, by omega, by go_num, fun _ => HP.out, fun h => by omega, fun h => by omega, HBA2.out.trans (Below.mono (Below.trans (below_drew (Below.refl _ _)) hb5) HBA2.out.size)⟩
                case measure => simp [intOf]
              · have hck : ck W0 H0 C0 = 2 := ck_no hp
                have HF : Hid (fk ⟨W0, H0, a0, c0, C0⟩ ⟨W1, H1, a1, c1, C1⟩ ⟨W2, H2, a2, c2, C2⟩ = 2) := fk_no (fun k => hp k.p0)
                have HKc : Hid (∀ x : World, Calls Tryd.prog 32 #[.agg #[.int .i64 W0, .int .i64 H0, .slice a0 C0.length c0]] x fun e w' => e = .returned (.int .i64 2) ∧ Below x.heap.size x w') := fun x => by have := check_any (w := x) (a := a0) (c := c0) (C := C0) (W := W0) (H := H0); rwa [hck] at this
                clear hp hck
                go_wp2_with fail
                go_region_held3 (fun v => v.cell? ⟨u.heap.size, 0, none⟩ = some (.int .i64 W0) ∧ v.cell? ⟨u.heap.size, 1, none⟩ = some (.int .i64 H0) ∧ v.cell? ⟨u.heap.size, 2, none⟩ = some (.slice a0 C0.length c0) ∧ v.cell? ⟨wr.heap.size, 0, none⟩ = some (.int .i64 (W0)) ∧ v.cell? ⟨wr.heap.size, 1, none⟩ = some (.int .i64 (H0)) ∧ Below (wr.alloc (.cells #[.int .i64 (W0), .int .i64 (H0)] 58)).heap.size (wr.alloc (.cells #[.int .i64 (W0), .int .i64 (H0)] 58)) v)
                  ((exact HK.out _ (by first | exact below_drew (Below.refl _ _) | exact Below.trans (below_drew (Below.refl _ _)) (by assumption))))
                  ((go_at_call 32; refine (HKc.out _).mono ?_; rintro e w5 ⟨rfl, hb5⟩))
                go_wp2_with fail
                go_ret
                exact ⟨by rw [HF.out]; rfl, HBA.out.trans (Below.mono (Below.trans (below_drew (Below.refl _ _)) hb5) HBA.out.size)⟩
            · exact absurd rfl m2
          · exact absurd rfl m1
        · skip
          have hix : ∀ x : World, (Instr.index 59 (.agg #[.int .i64 W0, .int .i64 H0, .int .i64 (W0 / 2), .int .i64 (H0 / 2), .int .i64 (W0 / 2), .int .i64 (H0 / 2)]) (.int .i64 1)).run Tryd.prog x = .ok (.agg #[.int .i64 (W0 / 2), .int .i64 (H0 / 2)]) x := fun x => idx1 _ _ _ _ _ _ x
          have r0 : (wr.alloc (.cells #[.int .i64 (W0 / 2), .int .i64 (H0 / 2)] 58)).cell? ⟨u.heap.size, 3, none⟩ = some (.int .i64 W1) := by rw [newCell (from_alloc _ _) _ _ (by have := HBr.out.size; omega), newCell HBr.out _ _ (by omega)]; exact HF3.out
          have r1 : (wr.alloc (.cells #[.int .i64 (W0 / 2), .int .i64 (H0 / 2)] 58)).cell? ⟨u.heap.size, 4, none⟩ = some (.int .i64 H1) := by rw [newCell (from_alloc _ _) _ _ (by have := HBr.out.size; omega), newCell HBr.out _ _ (by omega)]; exact HF4.out
          have r2 : (wr.alloc (.cells #[.int .i64 (W0 / 2), .int .i64 (H0 / 2)] 58)).cell? ⟨u.heap.size, 5, none⟩ = some (.slice a1 C1.length c1) := by rw [newCell (from_alloc _ _) _ _ (by have := HBr.out.size; omega), newCell HBr.out _ _ (by omega)]; exact HF5.out
          have r3 : (wr.alloc (.cells #[.int .i64 (W0 / 2), .int .i64 (H0 / 2)] 58)).cell? ⟨wr.heap.size, 0, none⟩ = some (.int .i64 (W0 / 2)) := by simp
          have r4 : (wr.alloc (.cells #[.int .i64 (W0 / 2), .int .i64 (H0 / 2)] 58)).cell? ⟨wr.heap.size, 1, none⟩ = some (.int .i64 (H0 / 2)) := by simp
          have HBA : Hid (Below u.heap.size u (wr.alloc (.cells #[.int .i64 (W0 / 2), .int .i64 (H0 / 2)] 58))) := below_to (HBv.out.trans (HBr.out.mono (by omega))) (from_alloc _ _)
          have HBA2 : Hid (Below v.heap.size v (wr.alloc (.cells #[.int .i64 (W0 / 2), .int .i64 (H0 / 2)] 58))) := HBr.out.trans ((from_alloc wr _).mono HBr.out.size)
          by_cases m1 : W1 = W0 / 2
          · by_cases m2 : H1 = H0 / 2
            · have n1 : (W1 != W0 / 2) = false := by simp [m1]
              have n2 : (H1 != H0 / 2) = false := by simp [m2]
              have M1 : Hid (W1 = W0 / 2) := m1
              have M2 : Hid (H1 = H0 / 2) := m2
              clear m1 m2
              have HK : Hid (∀ x : World, Below (wr.alloc (.cells #[.int .i64 (W0 / 2), .int .i64 (H0 / 2)] 58)).heap.size (wr.alloc (.cells #[.int .i64 (W0 / 2), .int .i64 (H0 / 2)] 58)) x → (x.cell? ⟨u.heap.size, 3, none⟩ = some (.int .i64 W1) ∧ x.cell? ⟨u.heap.size, 4, none⟩ = some (.int .i64 H1) ∧ x.cell? ⟨u.heap.size, 5, none⟩ = some (.slice a1 C1.length c1) ∧ x.cell? ⟨wr.heap.size, 0, none⟩ = some (.int .i64 (W0 / 2)) ∧ x.cell? ⟨wr.heap.size, 1, none⟩ = some (.int .i64 (H0 / 2)) ∧ Below (wr.alloc (.cells #[.int .i64 (W0 / 2), .int .i64 (H0 / 2)] 58)).heap.size (wr.alloc (.cells #[.int .i64 (W0 / 2), .int .i64 (H0 / 2)] 58)) x)) := fun x hx => ⟨by rw [newCell hx _ _ (by simp; have := HBr.out.size; omega)]; exact r0, by rw [newCell hx _ _ (by simp; have := HBr.out.size; omega)]; exact r1, by rw [newCell hx _ _ (by simp; have := HBr.out.size; omega)]; exact r2, by rw [newCell hx _ _ (by simp)]; exact r3, by rw [newCell hx _ _ (by simp)]; exact r4, hx⟩
              clear r0 r1 r2 r3 r4
              by_cases hp : POk W1 H1 C1
              · have hck : ck W1 H1 C1 = 0 := ck_ok hp
                have HP : Hid _ := hp
                have HKc : Hid (∀ x : World, Calls Tryd.prog 32 #[.agg #[.int .i64 W1, .int .i64 H1, .slice a1 C1.length c1]] x fun e w' => e = .returned (.int .i64 0) ∧ Below x.heap.size x w') := fun x => by have := check_any (w := x) (a := a1) (c := c1) (C := C1) (W := W1) (H := H1); rwa [hck] at this
                clear hp hck
                go_wp2_with fail
                go_region_held3 (fun v => v.cell? ⟨u.heap.size, 3, none⟩ = some (.int .i64 W1) ∧ v.cell? ⟨u.heap.size, 4, none⟩ = some (.int .i64 H1) ∧ v.cell? ⟨u.heap.size, 5, none⟩ = some (.slice a1 C1.length c1) ∧ v.cell? ⟨wr.heap.size, 0, none⟩ = some (.int .i64 (W0 / 2)) ∧ v.cell? ⟨wr.heap.size, 1, none⟩ = some (.int .i64 (H0 / 2)) ∧ Below (wr.alloc (.cells #[.int .i64 (W0 / 2), .int .i64 (H0 / 2)] 58)).heap.size (wr.alloc (.cells #[.int .i64 (W0 / 2), .int .i64 (H0 / 2)] 58)) v)
                  ((exact HK.out _ (by first | exact below_drew (Below.refl _ _) | exact Below.trans (below_drew (Below.refl _ _)) (by assumption))))
                  ((go_at_call 32; refine (HKc.out _).mono ?_; rintro e w5 ⟨rfl, hb5⟩))
                go_wp2_with fail
                go_roundw
                case rel => exact ⟨2, by omega, by go_num, fun _ => D0.out (by omega), fun _ => ⟨M1.out, M2.out, HP.out⟩, fun h => by omega, HBA2.out.trans (Below.mono (Below.trans (below_drew (Below.refl _ _)) hb5) HBA2.out.size)⟩
                case measure => simp [intOf]
              · have hck : ck W1 H1 C1 = 2 := ck_no hp
                have HF : Hid (fk ⟨W0, H0, a0, c0, C0⟩ ⟨W1, H1, a1, c1, C1⟩ ⟨W2, H2, a2, c2, C2⟩ = 2) := fk_no (fun k => hp k.p1)
                have HKc : Hid (∀ x : World, Calls Tryd.prog 32 #[.agg #[.int .i64 W1, .int .i64 H1, .slice a1 C1.length c1]] x fun e w' => e = .returned (.int .i64 2) ∧ Below x.heap.size x w') := fun x => by have := check_any (w := x) (a := a1) (c := c1) (C := C1) (W := W1) (H := H1); rwa [hck] at this
                clear hp hck
                go_wp2_with fail
                go_region_held3 (fun v => v.cell? ⟨u.heap.size, 3, none⟩ = some (.int .i64 W1) ∧ v.cell? ⟨u.heap.size, 4, none⟩ = some (.int .i64 H1) ∧ v.cell? ⟨u.heap.size, 5, none⟩ = some (.slice a1 C1.length c1) ∧ v.cell? ⟨wr.heap.size, 0, none⟩ = some (.int .i64 (W0 / 2)) ∧ v.cell? ⟨wr.heap.size, 1, none⟩ = some (.int .i64 (H0 / 2)) ∧ Below (wr.alloc (.cells #[.int .i64 (W0 / 2), .int .i64 (H0 / 2)] 58)).heap.size (wr.alloc (.cells #[.int .i64 (W0 / 2), .int .i64 (H0 / 2)] 58)) v)
                  ((exact HK.out _ (by first | exact below_drew (Below.refl _ _) | exact Below.trans (below_drew (Below.refl _ _)) (by assumption))))
                  ((go_at_call 32; refine (HKc.out _).mono ?_; rintro e w5 ⟨rfl, hb5⟩))
                go_wp2_with fail
                go_ret
                exact ⟨by rw [HF.out]; rfl, HBA.out.trans (Below.mono (Below.trans (below_drew (Below.refl _ _)) hb5) HBA.out.size)⟩
            · have n1 : (W1 != W0 / 2) = false := by simp [m1]
              have n2 : (H1 != H0 / 2) = true := by simp [m2]
              have HF : Hid (fk ⟨W0, H0, a0, c0, C0⟩ ⟨W1, H1, a1, c1, C1⟩ ⟨W2, H2, a2, c2, C2⟩ = 2) := fk_no (fun k => m2 k.h1)
              clear m1 m2
              go_wp2_with fail
              go_quiet (fail)
              go_wp2_with fail
              go_ret
              exact ⟨by rw [HF.out]; rfl, below_drewN HBA.out _⟩
          · have n1 : (W1 != W0 / 2) = true := by simp [m1]
            have HF : Hid (fk ⟨W0, H0, a0, c0, C0⟩ ⟨W1, H1, a1, c1, C1⟩ ⟨W2, H2, a2, c2, C2⟩ = 2) := fk_no (fun k => m1 k.w1)
            clear m1
            go_wp2_with fail
            go_quiet (fail)
            go_wp2_with fail
            go_ret
            exact ⟨by rw [HF.out]; rfl, below_drewN HBA.out _⟩
        · skip
          have hix : ∀ x : World, (Instr.index 59 (.agg #[.int .i64 W0, .int .i64 H0, .int .i64 (W0 / 2), .int .i64 (H0 / 2), .int .i64 (W0 / 2), .int .i64 (H0 / 2)]) (.int .i64 2)).run Tryd.prog x = .ok (.agg #[.int .i64 (W0 / 2), .int .i64 (H0 / 2)]) x := fun x => idx2 _ _ _ _ _ _ x
          have r0 : (wr.alloc (.cells #[.int .i64 (W0 / 2), .int .i64 (H0 / 2)] 58)).cell? ⟨u.heap.size, 6, none⟩ = some (.int .i64 W2) := by rw [newCell (from_alloc _ _) _ _ (by have := HBr.out.size; omega), newCell HBr.out _ _ (by omega)]; exact HF6.out
          have r1 : (wr.alloc (.cells #[.int .i64 (W0 / 2), .int .i64 (H0 / 2)] 58)).cell? ⟨u.heap.size, 7, none⟩ = some (.int .i64 H2) := by rw [newCell (from_alloc _ _) _ _ (by have := HBr.out.size; omega), newCell HBr.out _ _ (by omega)]; exact HF7.out
          have r2 : (wr.alloc (.cells #[.int .i64 (W0 / 2), .int .i64 (H0 / 2)] 58)).cell? ⟨u.heap.size, 8, none⟩ = some (.slice a2 C2.length c2) := by rw [newCell (from_alloc _ _) _ _ (by have := HBr.out.size; omega), newCell HBr.out _ _ (by omega)]; exact HF8.out
          have r3 : (wr.alloc (.cells #[.int .i64 (W0 / 2), .int .i64 (H0 / 2)] 58)).cell? ⟨wr.heap.size, 0, none⟩ = some (.int .i64 (W0 / 2)) := by simp
          have r4 : (wr.alloc (.cells #[.int .i64 (W0 / 2), .int .i64 (H0 / 2)] 58)).cell? ⟨wr.heap.size, 1, none⟩ = some (.int .i64 (H0 / 2)) := by simp
          have HBA : Hid (Below u.heap.size u (wr.alloc (.cells #[.int .i64 (W0 / 2), .int .i64 (H0 / 2)] 58))) := below_to (HBv.out.trans (HBr.out.mono (by omega))) (from_alloc _ _)
          have HBA2 : Hid (Below v.heap.size v (wr.alloc (.cells #[.int .i64 (W0 / 2), .int .i64 (H0 / 2)] 58))) := HBr.out.trans ((from_alloc wr _).mono HBr.out.size)
          by_cases m1 : W2 = W0 / 2
          · by_cases m2 : H2 = H0 / 2
            · have n1 : (W2 != W0 / 2) = false := by simp [m1]
              have n2 : (H2 != H0 / 2) = false := by simp [m2]
              have M1 : Hid (W2 = W0 / 2) := m1
              have M2 : Hid (H2 = H0 / 2) := m2
              clear m1 m2
              have HK : Hid (∀ x : World, Below (wr.alloc (.cells #[.int .i64 (W0 / 2), .int .i64 (H0 / 2)] 58)).heap.size (wr.alloc (.cells #[.int .i64 (W0 / 2), .int .i64 (H0 / 2)] 58)) x → (x.cell? ⟨u.heap.size, 6, none⟩ = some (.int .i64 W2) ∧ x.cell? ⟨u.heap.size, 7, none⟩ = some (.int .i64 H2) ∧ x.cell? ⟨u.heap.size, 8, none⟩ = some (.slice a2 C2.length c2) ∧ x.cell? ⟨wr.heap.size, 0, none⟩ = some (.int .i64 (W0 / 2)) ∧ x.cell? ⟨wr.heap.size, 1, none⟩ = some (.int .i64 (H0 / 2)) ∧ Below (wr.alloc (.cells #[.int .i64 (W0 / 2), .int .i64 (H0 / 2)] 58)).heap.size (wr.alloc (.cells #[.int .i64 (W0 / 2), .int .i64 (H0 / 2)] 58)) x)) := fun x hx => ⟨by rw [newCell hx _ _ (by simp; have := HBr.out.size; omega)]; exact r0, by rw [newCell hx _ _ (by simp; have := HBr.out.size; omega)]; exact r1, by rw [newCell hx _ _ (by simp; have := HBr.out.size; omega)]; exact r2, by rw [newCell hx _ _ (by simp)]; exact r3, by rw [newCell hx _ _ (by simp)]; exact r4, hx⟩
              clear r0 r1 r2 r3 r4
              by_cases hp : POk W2 H2 C2
              · have hck : ck W2 H2 C2 = 0 := ck_ok hp
                have HP : Hid _ := hp
                have HKc : Hid (∀ x : World, Calls Tryd.prog 32 #[.agg #[.int .i64 W2, .int .i64 H2, .slice a2 C2.length c2]] x fun e w' => e = .returned (.int .i64 0) ∧ Below x.heap.size x w') := fun x => by have := check_any (w := x) (a := a2) (c := c2) (C := C2) (W := W2) (H := H2); rwa [hck] at this
                clear hp hck
                go_wp2_with fail
                go_region_held3 (fun v => v.cell? ⟨u.heap.size, 6, none⟩ = some (.int .i64 W2) ∧ v.cell? ⟨u.heap.size, 7, none⟩ = some (.int .i64 H2) ∧ v.cell? ⟨u.heap.size, 8, none⟩ = some (.slice a2 C2.length c2) ∧ v.cell? ⟨wr.heap.size, 0, none⟩ = some (.int .i64 (W0 / 2)) ∧ v.cell? ⟨wr.heap.size, 1, none⟩ = some (.int .i64 (H0 / 2)) ∧ Below (wr.alloc (.cells #[.int .i64 (W0 / 2), .int .i64 (H0 / 2)] 58)).heap.size (wr.alloc (.cells #[.int .i64 (W0 / 2), .int .i64 (H0 / 2)] 58)) v)
                  ((exact HK.out _ (by first | exact below_drew (Below.refl _ _) | exact Below.trans (below_drew (Below.refl _ _)) (by assumption))))
                  ((go_at_call 32; refine (HKc.out _).mono ?_; rintro e w5 ⟨rfl, hb5⟩))
                go_wp2_with fail
                go_roundw
                case rel => exact ⟨3, by omega, by go_num, fun _ => D0.out (by omega), fun _ => D1.out (by omega), fun _ => ⟨M1.out, M2.out, HP.out⟩, HBA2.out.trans (Below.mono (Below.trans (below_drew (Below.refl _ _)) hb5) HBA2.out.size)⟩
                case measure => simp [intOf]
              · have hck : ck W2 H2 C2 = 2 := ck_no hp
                have HF : Hid (fk ⟨W0, H0, a0, c0, C0⟩ ⟨W1, H1, a1, c1, C1⟩ ⟨W2, H2, a2, c2, C2⟩ = 2) := fk_no (fun k => hp k.p2)
                have HKc : Hid (∀ x : World, Calls Tryd.prog 32 #[.agg #[.int .i64 W2, .int .i64 H2, .slice a2 C2.length c2]] x fun e w' => e = .returned (.int .i64 2) ∧ Below x.heap.size x w') := fun x => by have := check_any (w := x) (a := a2) (c := c2) (C := C2) (W := W2) (H := H2); rwa [hck] at this
                clear hp hck
                go_wp2_with fail
                go_region_held3 (fun v => v.cell? ⟨u.heap.size, 6, none⟩ = some (.int .i64 W2) ∧ v.cell? ⟨u.heap.size, 7, none⟩ = some (.int .i64 H2) ∧ v.cell? ⟨u.heap.size, 8, none⟩ = some (.slice a2 C2.length c2) ∧ v.cell? ⟨wr.heap.size, 0, none⟩ = some (.int .i64 (W0 / 2)) ∧ v.cell? ⟨wr.heap.size, 1, none⟩ = some (.int .i64 (H0 / 2)) ∧ Below (wr.alloc (.cells #[.int .i64 (W0 / 2), .int .i64 (H0 / 2)] 58)).heap.size (wr.alloc (.cells #[.int .i64 (W0 / 2), .int .i64 (H0 / 2)] 58)) v)
                  ((exact HK.out _ (by first | exact below_drew (Below.refl _ _) | exact Below.trans (below_drew (Below.refl _ _)) (by assumption))))
                  ((go_at_call 32; refine (HKc.out _).mono ?_; rintro e w5 ⟨rfl, hb5⟩))
                go_wp2_with fail
                go_ret
                exact ⟨by rw [HF.out]; rfl, HBA.out.trans (Below.mono (Below.trans (below_drew (Below.refl _ _)) hb5) HBA.out.size)⟩
            · have n1 : (W2 != W0 / 2) = false := by simp [m1]
              have n2 : (H2 != H0 / 2) = true := by simp [m2]
              have HF : Hid (fk ⟨W0, H0, a0, c0, C0⟩ ⟨W1, H1, a1, c1, C1⟩ ⟨W2, H2, a2, c2, C2⟩ = 2) := fk_no (fun k => m2 k.h2)
              clear m1 m2
              go_wp2_with fail
              go_quiet (fail)
              go_wp2_with fail
              go_ret
              exact ⟨by rw [HF.out]; rfl, below_drewN HBA.out _⟩
          · have n1 : (W2 != W0 / 2) = true := by simp [m1]
            have HF : Hid (fk ⟨W0, H0, a0, c0, C0⟩ ⟨W1, H1, a1, c1, C1⟩ ⟨W2, H2, a2, c2, C2⟩ = 2) := fk_no (fun k => m1 k.w2)
            clear m1
            go_wp2_with fail
            go_quiet (fail)
            go_wp2_with fail
            go_ret
            exact ⟨by rw [HF.out]; rfl, below_drewN HBA.out _⟩
        · have hF : fk ⟨W0, H0, a0, c0, C0⟩ ⟨W1, H1, a1, c1, C1⟩ ⟨W2, H2, a2, c2, C2⟩ = 0 := by
            obtain ⟨e1, e2, e3⟩ := D1.out (by omega)
            obtain ⟨e4, e5, e6⟩ := D2.out (by omega)
            exact fk_ok ⟨HW.out, HH.out, D0.out (by omega), e1, e2, e3, e4, e5, e6⟩
          have HF : Hid _ := hF
          clear hF
          go_wp2_with fail
          go_ret
          exact ⟨by rw [HF.out]; rfl, HBv.out.trans (HBr.out.mono (by omega))⟩
    · have HF : Hid (fk ⟨W0, H0, a0, c0, C0⟩ ⟨W1, H1, a1, c1, C1⟩ ⟨W2, H2, a2, c2, C2⟩ = 2) := fk_no (fun k => hh k.h)
      have HW : Hid (Vs W0) := hw
      have HH : Hid (¬ Vs H0) := hh
      clear hw hh
      go_enter Tryd.func22, Tryd.ntmps22
      go_wp2_with fail
      go_quiet (fail)
      go_wp2_with (first | (go_at_call 19; with_reducible refine (vs_yes HW.out).mono ?_; rintro e w1 ⟨rfl, rfl⟩) | (go_at_call 19; with_reducible refine (vs_no HH.out).mono ?_; rintro e w2 ⟨rfl, rfl⟩))
      go_ret
      exact ⟨by rw [HF.out]; rfl, below_drewN HB0.out nq⟩
  · have HF : Hid (fk ⟨W0, H0, a0, c0, C0⟩ ⟨W1, H1, a1, c1, C1⟩ ⟨W2, H2, a2, c2, C2⟩ = 2) := fk_no (fun k => hw k.w)
    have HW : Hid (¬ Vs W0) := hw
    clear hw
    go_enter Tryd.func22, Tryd.ntmps22
    go_wp2_with fail
    go_quiet (fail)
    go_wp2_with (go_at_call 19; refine (vs_no HW.out).mono ?_; rintro e w1 ⟨rfl, rfl⟩)
    go_ret
    exact ⟨by rw [HF.out]; rfl, below_drewN HB0.out nq⟩

end Go.Proofs.YtpideemiijhkgabDoor
