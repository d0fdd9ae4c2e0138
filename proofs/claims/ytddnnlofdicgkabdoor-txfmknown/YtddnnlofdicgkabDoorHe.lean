/- DERIVED. The walk of each, by a function and by a method. -/
import Derived.Test.YtddnnlofdicgkabDoorHd
namespace Go.Proofs.YtddnnlofdicgkabDoor
open Go.RowKit

set_option maxRecDepth 100000 in
set_option maxHeartbeats 1000000 in
theorem each_fn {w : World} {n g L K : Nat} {f : Int → Int} {C : List Int} (hL : C.length = L) (hl : L ≤ 4096) (hr : Ri 3 w g C)
    (hK : ∀ (xs : Array Value) (u : World), (callFunc K xs).run Tryd.prog u = .ok (.enter K xs) u)
    (hf : ∀ i, i < C.length → ∀ u : World, Calls Tryd.prog K #[.int .i64 (C.getD i 0)] u fun e w' => e = .returned (.int .i64 (f (C.getD i 0))) ∧ Below u.heap.size u w') :
    Calls Tryd.prog 25 #[.agg #[.int .i64 (n : Int), .slice (some ⟨g, 0, none⟩) L L], .func (.func K) #[] #[]] w fun e w' => e = .returned (.tuple #[]) ∧ Ri 3 w' g (eachP L f C) ∧ Kf g w w' := by
  have HB : Hid (Below w.heap.size w (w.alloc (.cells #[.int .i64 (n : Int), .slice (some ⟨g, 0, none⟩) L L] 38))) := from_alloc _ _
  have HG : Hid (g < w.heap.size) := hr.lt
  have HR : Hid (Ri 3 (w.alloc (.cells #[.int .i64 (n : Int), .slice (some ⟨g, 0, none⟩) L L] 38)) g (eachP 0 f C)) := by
    show Ri _ _ _ _
    rw [eachP_zero]
    exact hr.to HB.out
  have c1 : (w.alloc (.cells #[.int .i64 (n : Int), .slice (some ⟨g, 0, none⟩) L L] 38)).cell? ⟨w.heap.size, 1, none⟩ = some (.slice (some ⟨g, 0, none⟩) L L) := by simp [go_sem]
  have HZ : Hid (w.heap.size < (w.alloc (.cells #[.int .i64 (n : Int), .slice (some ⟨g, 0, none⟩) L L] 38)).heap.size) := by show _ < _; simp
  have HF : Hid (∀ i, i < C.length → ∀ u : World, Calls Tryd.prog K #[.int .i64 (C.getD i 0)] u fun e w' => e = .returned (.int .i64 (f (C.getD i 0))) ∧ Below u.heap.size u w') := by exact hf
  have HCL : Hid (C.length = L) := hL
  have l1 : (L : Int) ≤ 4096 := by omega
  clear hr hf hL
  go_enter Tryd.func25, Tryd.ntmps25
  go_wp2_with fail
  generalize (w.alloc (.cells #[.int .i64 (n : Int), .slice (some ⟨g, 0, none⟩) L L] 38)) = V at *
  have HK1 : Hid (∀ v : World, Kf g V v → v.cell? ⟨w.heap.size, 1, none⟩ = some (.slice (some ⟨g, 0, none⟩) L L)) := fun v hv => by rw [hv.cell _ _ HZ.out (by have := HG.out; omega)]; exact c1
  clear c1
  go_loopw [8] (fun i wr => ∃ y : Nat, y ≤ L ∧ i = .int .i64 y ∧ Ri 3 wr g (eachP y f C) ∧ Kf g V wr) (fun i _ => L - (intOf i).toNat)
  case atStart => exact ⟨0, by omega, rfl, HR.out, Kf.refl _ _⟩
  case round =>
    obtain ⟨y, hy, rfl, hr, hk⟩ := hrel
    have y0 : (0 : Int) ≤ (y : Int) := by omega
    by_cases hlt : y < L
    · have y1 : (y : Int) < (L : Int) := by omega
      have hyc : y < C.length := by rw [HCL.out]; exact hlt
      have x1 := HK1.out wr hk
      have x2 : wr.cell? ⟨g, y, none⟩ = some (.int .i64 (C.getD y 0)) := by rw [hr.cell y (by rw [eachP_len]; exact hyc), eachP_get _ _ _ _ hyc, if_neg (by omega)]
      have x3 := hr.thaw y
      have HS : Hid (∀ v : World, Below wr.drew.heap.size wr.drew v → v.cell? ⟨w.heap.size, 1, none⟩ = some (.slice (some ⟨g, 0, none⟩) L L) ∧ v.cell? ⟨g, y, none⟩ = some (.int .i64 (C.getD y 0)) ∧ v.frozen? ⟨g, y, none⟩ = false) := fun v hv =>
        ⟨HK1.out v (hk.drew.step hv), by rw [newCell hv _ _ hr.lt]; exact x2, by rw [newFrozen hv _ _ hr.lt]; exact x3⟩
      have HR2 : Hid (∀ v : World, Below wr.drew.heap.size wr.drew v → Ri 3 (v.setCell ⟨g, y, none⟩ (.int .i64 (f (C.getD y 0)))) g (eachP (y + 1) f C)) := fun v hv => by
        rw [← eachP_step y f C hyc]
        exact (hr.drew.to hv).set y _
      have HKr : Hid (∀ v : World, Below wr.drew.heap.size wr.drew v → Kf g V (v.setCell ⟨g, y, none⟩ (.int .i64 (f (C.getD y 0))))) := fun v hv => (hk.drew.step hv).setCell _ _
      have HC := HF.out y hyc
      generalize C.getD y 0 = v0 at *
      generalize f v0 = v1 at *
      have HCC : Hid (∀ u : World, Calls Tryd.prog K #[.int .i64 v0] u fun e w' => e = .returned (.int .i64 v1) ∧ Below u.heap.size u w') := by exact HC
      have HLT : Hid (y < L) := hlt
      clear hr hk HC hlt hy hyc
      go_wp2_with fail
      go_region_with (refine (HCC.out _).mono ?_; rintro e w5 ⟨rfl, hb5⟩; have hq5 := HS.out _ hb5; have hr1 := hq5.1; have hr2 := hq5.2.1; have hr3 := hq5.2.2; clear hq5)
      all_goals
        have hlt := HLT.out
        go_wp2_with fail
        go_roundw
        case rel => exact ⟨y + 1, by omega, by go_num, HR2.out _ hb5, HKr.out _ hb5⟩
        case measure => simp [intOf]; omega
    · obtain rfl : y = L := by omega
      have HR2 : Hid (Ri 3 wr g (eachP y f C)) := hr
      have HK2 : Hid (Kf g w wr) := Kf.old HB.out hk
      clear hr hk
      go_wp2_with fail
      go_end0
      exact ⟨rfl, HR2.out, HK2.out⟩

set_option maxRecDepth 100000 in
set_option maxHeartbeats 1000000 in
theorem each_md {w : World} {n g L K : Nat} {X : Value} {f : Int → Int} {C : List Int} (hL : C.length = L) (hl : L ≤ 4096) (hr : Ri 3 w g C)
    (hK : ∀ (xs : Array Value) (u : World), (callFunc K xs).run Tryd.prog u = .ok (.enter K xs) u)
    (hf : ∀ i, i < C.length → ∀ u : World, Calls Tryd.prog K #[X, .int .i64 (C.getD i 0)] u fun e w' => e = .returned (.int .i64 (f (C.getD i 0))) ∧ Below u.heap.size u w') :
    Calls Tryd.prog 25 #[.agg #[.int .i64 (n : Int), .slice (some ⟨g, 0, none⟩) L L], .func (.func K) #[X] #[]] w fun e w' => e = .returned (.tuple #[]) ∧ Ri 3 w' g (eachP L f C) ∧ Kf g w w' := by
  have HB : Hid (Below w.heap.size w (w.alloc (.cells #[.int .i64 (n : Int), .slice (some ⟨g, 0, none⟩) L L] 38))) := from_alloc _ _
  have HG : Hid (g < w.heap.size) := hr.lt
  have HR : Hid (Ri 3 (w.alloc (.cells #[.int .i64 (n : Int), .slice (some ⟨g, 0, none⟩) L L] 38)) g (eachP 0 f C)) := by
    show Ri _ _ _ _
    rw [eachP_zero]
    exact hr.to HB.out
  have c1 : (w.alloc (.cells #[.int .i64 (n : Int), .slice (some ⟨g, 0, none⟩) L L] 38)).cell? ⟨w.heap.size, 1, none⟩ = some (.slice (some ⟨g, 0, none⟩) L L) := by simp [go_sem]
  have HZ : Hid (w.heap.size < (w.alloc (.cells #[.int .i64 (n : Int), .slice (some ⟨g, 0, none⟩) L L] 38)).heap.size) := by show _ < _; simp
  have HF : Hid (∀ i, i < C.length → ∀ u : World, Calls Tryd.prog K #[X, .int .i64 (C.getD i 0)] u fun e w' => e = .returned (.int .i64 (f (C.getD i 0))) ∧ Below u.heap.size u w') := by exact hf
  have HCL : Hid (C.length = L) := hL
  have l1 : (L : Int) ≤ 4096 := by omega
  clear hr hf hL
  go_enter Tryd.func25, Tryd.ntmps25
  go_wp2_with fail
  generalize (w.alloc (.cells #[.int .i64 (n : Int), .slice (some ⟨g, 0, none⟩) L L] 38)) = V at *
  have HK1 : Hid (∀ v : World, Kf g V v → v.cell? ⟨w.heap.size, 1, none⟩ = some (.slice (some ⟨g, 0, none⟩) L L)) := fun v hv => by rw [hv.cell _ _ HZ.out (by have := HG.out; omega)]; exact c1
  clear c1
  go_loopw [8] (fun i wr => ∃ y : Nat, y ≤ L ∧ i = .int .i64 y ∧ Ri 3 wr g (eachP y f C) ∧ Kf g V wr) (fun i _ => L - (intOf i).toNat)
  case atStart => exact ⟨0, by omega, rfl, HR.out, Kf.refl _ _⟩
  case round =>
    obtain ⟨y, hy, rfl, hr, hk⟩ := hrel
    have y0 : (0 : Int) ≤ (y : Int) := by omega
    by_cases hlt : y < L
    · have y1 : (y : Int) < (L : Int) := by omega
      have hyc : y < C.length := by rw [HCL.out]; exact hlt
      have x1 := HK1.out wr hk
      have x2 : wr.cell? ⟨g, y, none⟩ = some (.int .i64 (C.getD y 0)) := by rw [hr.cell y (by rw [eachP_len]; exact hyc), eachP_get _ _ _ _ hyc, if_neg (by omega)]
      have x3 := hr.thaw y
      have HS : Hid (∀ v : World, Below wr.drew.heap.size wr.drew v → v.cell? ⟨w.heap.size, 1, none⟩ = some (.slice (some ⟨g, 0, none⟩) L L) ∧ v.cell? ⟨g, y, none⟩ = some (.int .i64 (C.getD y 0)) ∧ v.frozen? ⟨g, y, none⟩ = false) := fun v hv =>
        ⟨HK1.out v (hk.drew.step hv), by rw [newCell hv _ _ hr.lt]; exact x2, by rw [newFrozen hv _ _ hr.lt]; exact x3⟩
      have HR2 : Hid (∀ v : World, Below wr.drew.heap.size wr.drew v → Ri 3 (v.setCell ⟨g, y, none⟩ (.int .i64 (f (C.getD y 0)))) g (eachP (y + 1) f C)) := fun v hv => by
        rw [← eachP_step y f C hyc]
        exact (hr.drew.to hv).set y _
      have HKr : Hid (∀ v : World, Below wr.drew.heap.size wr.drew v → Kf g V (v.setCell ⟨g, y, none⟩ (.int .i64 (f (C.getD y 0))))) := fun v hv => (hk.drew.step hv).setCell _ _
      have HC := HF.out y hyc
      generalize C.getD y 0 = v0 at *
      generalize f v0 = v1 at *
      have HCC : Hid (∀ u : World, Calls Tryd.prog K #[X, .int .i64 v0] u fun e w' => e = .returned (.int .i64 v1) ∧ Below u.heap.size u w') := by exact HC
      have HLT : Hid (y < L) := hlt
      clear hr hk HC hlt hy hyc
      go_wp2_with fail
      go_region_with (refine (HCC.out _).mono ?_; rintro e w5 ⟨rfl, hb5⟩; have hq5 := HS.out _ hb5; have hr1 := hq5.1; have hr2 := hq5.2.1; have hr3 := hq5.2.2; clear hq5)
      all_goals
        have hlt := HLT.out
        go_wp2_with fail
        go_roundw
        case rel => exact ⟨y + 1, by omega, by go_num, HR2.out _ hb5, HKr.out _ hb5⟩
        case measure => simp [intOf]; omega
    · obtain rfl : y = L := by omega
      have HR2 : Hid (Ri 3 wr g (eachP y f C)) := hr
      have HK2 : Hid (Kf g w wr) := Kf.old HB.out hk
      clear hr hk
      go_wp2_with fail
      go_end0
      exact ⟨rfl, HR2.out, HK2.out⟩

end Go.Proofs.YtddnnlofdicgkabDoor
