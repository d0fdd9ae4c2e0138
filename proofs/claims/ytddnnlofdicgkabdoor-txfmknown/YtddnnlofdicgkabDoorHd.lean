/- DERIVED. The walks of empty, lay, each. -/
import Derived.Test.YtddnnlofdicgkabDoorHc
namespace Go.Proofs.YtddnnlofdicgkabDoor
open Go.RowKit

set_option maxRecDepth 100000 in
theorem empty_any {w : World} {n L : Nat} (hL : L = n * n) (hn : n ≤ 64) :
    Calls Tryd.prog 17 #[.int .i64 (n : Int)] w fun e w' => e = .returned (.agg #[.int .i64 (n : Int), .slice (some ⟨w.heap.size + 1, 0, none⟩) L L]) ∧ Ri 3 w' (w.heap.size + 1) (tab n (fun _ _ => 0)) ∧ Below w.heap.size w w' := by
  have h2 : n * n ≤ 64 * 64 := Nat.mul_le_mul hn hn
  rw [← hL] at h2
  have e1 : (n : Int) * (n : Int) = (L : Int) := by rw [hL, Int.natCast_mul]
  have hmk := mk_ints (n := L) (by omega)
  have HZ : Hid (tab n (fun _ _ => (0 : Int)) = List.replicate L 0) := by show _ = _; rw [hL, zero_tab]
  have b2 : (L : Int) ≤ 4096 := by omega
  clear hL
  go_enter Tryd.func17, Tryd.ntmps17
  go_wp2
  refine bodyPost_ret (v := .agg #[.int .i64 (n : Int), .slice (some ⟨w.heap.size + 1, 0, none⟩) L L]) (by simp [results, Tryd.results17, go_sem]) rfl ⟨rfl, ?_, by go_grown⟩
  rw [HZ.out]
  exact Ri.made 3 _ L (by simp)

set_option maxRecDepth 100000 in
set_option maxHeartbeats 1000000 in
theorem lay_any {w : World} {n g L side c b o : Nat} {C : List Int} (hL : L = n * n) (hn : n ≤ 64) (hs : side ≤ n) (h0 : 0 < side) (hC : C.length = side * side) (hc : C.length ≤ c)
    (hr : Ri 3 w g (tab n (fun _ _ => 0))) (hi : Si w (some ⟨b, o, none⟩) C) (hb : b ≠ g) :
    Calls Tryd.prog 18 #[.agg #[.int .i64 (n : Int), .slice (some ⟨g, 0, none⟩) L L], .slice (some ⟨b, o, none⟩) C.length c, .int .i64 (side : Int)] w fun e w' => e = .returned (.tuple #[]) ∧ Ri 3 w' g (tab n (layF side C)) ∧ Kf g w w' := by
  have HB : Hid (Below w.heap.size w (w.alloc (.cells #[.int .i64 (n : Int), .slice (some ⟨g, 0, none⟩) L L] 38))) := from_alloc _ _
  have HG : Hid (g < w.heap.size) := hr.lt
  have HR : Hid (Ri 3 (w.alloc (.cells #[.int .i64 (n : Int), .slice (some ⟨g, 0, none⟩) L L] 38)) g (tab n (layP side 0 C))) := by
    show Ri _ _ _ _
    rw [tab_ext (n := n) (f := layP side 0 C) (h := fun _ _ => 0) (fun y x _ _ => by simp [layP])]
    exact hr.to HB.out
  have HS : Hid (Si (w.alloc (.cells #[.int .i64 (n : Int), .slice (some ⟨g, 0, none⟩) L L] 38)) (some ⟨b, o, none⟩) C) := hi.to HB.out
  have HC : Hid (C.length = side * side) := hC
  have HL : Hid (L = n * n) := hL
  have c0 : (w.alloc (.cells #[.int .i64 (n : Int), .slice (some ⟨g, 0, none⟩) L L] 38)).cell? ⟨w.heap.size, 0, none⟩ = some (.int .i64 (n : Int)) := by simp [go_sem]
  have c1 : (w.alloc (.cells #[.int .i64 (n : Int), .slice (some ⟨g, 0, none⟩) L L] 38)).cell? ⟨w.heap.size, 1, none⟩ = some (.slice (some ⟨g, 0, none⟩) L L) := by simp [go_sem]
  have HZ : Hid (w.heap.size < (w.alloc (.cells #[.int .i64 (n : Int), .slice (some ⟨g, 0, none⟩) L L] 38)).heap.size) := by show _ < _; simp
  have s64 : (side : Int) ≤ 64 := by omega
  have HN : Hid (n ≤ 64) := hn
  have HSN : Hid (side ≤ n) := hs
  have HCc : Hid (C.length ≤ c) := hc
  clear hr hi hC hL hn hs hc
  go_enter Tryd.func18, Tryd.ntmps18
  go_wp2_with fail
  generalize (w.alloc (.cells #[.int .i64 (n : Int), .slice (some ⟨g, 0, none⟩) L L] 38)) = V at *
  have HK : Hid (∀ v : World, Kf g V v → (v.cell? ⟨w.heap.size, 0, none⟩ = some (.int .i64 (n : Int)) ∧ v.cell? ⟨w.heap.size, 1, none⟩ = some (.slice (some ⟨g, 0, none⟩) L L))) := fun v hv =>
    ⟨by rw [hv.cell _ _ HZ.out (by have := HG.out; omega)]; exact c0, by rw [hv.cell _ _ HZ.out (by have := HG.out; omega)]; exact c1⟩
  clear c0 c1
  go_loopw [8] (fun i wr => ∃ y : Nat, y ≤ side ∧ i = .int .i64 y ∧ Ri 3 wr g (tab n (layP side y C)) ∧ Kf g V wr) (fun i _ => side - (intOf i).toNat)
  case atStart => exact ⟨0, by omega, rfl, HR.out, Kf.refl _ _⟩
  case round =>
    obtain ⟨y, hy, rfl, hr, hk⟩ := hrel
    have y0 : (0 : Int) ≤ (y : Int) := by omega
    by_cases hlt : y < side
    · have y1 : (y : Int) < (side : Int) := by omega
      obtain ⟨x0, x1⟩ := HK.out wr hk
      have hp := ix_le (n := side) hlt
      rw [← HC.out] at hp
      have hps : side * side ≤ 64 * 64 := Nat.mul_le_mul (by omega) (by omega)
      rw [← HC.out] at hps
      have e1 : IntKind.i64.wrap ((y : Int) * (side : Int)) = ((y * side : Nat) : Int) := by rw [← Int.natCast_mul, IntKind.wrap_i64]; omega
      have e2 : IntKind.i64.wrap (IntKind.i64.wrap ((y : Int) + 1) * (side : Int)) = ((y * side + side : Nat) : Int) := by
        rw [show IntKind.i64.wrap ((y : Int) + 1) = ((y + 1 : Nat) : Int) from by rw [IntKind.wrap_i64]; omega, ← Int.natCast_mul, Nat.succ_mul, IntKind.wrap_i64]; omega
      have e2' : IntKind.i64.wrap (((y : Int) + 1) * (side : Int)) = ((y * side + side : Nat) : Int) := by
        rw [show ((y : Int) + 1) = ((y + 1 : Nat) : Int) from by omega, ← Int.natCast_mul, Nat.succ_mul, IntKind.wrap_i64]; omega
      have e3 : IntKind.i64.wrap ((y : Int) + 1) = (y : Int) + 1 := by rw [IntKind.wrap_i64]; omega
      have HRow : Hid (∀ v : World, Calls Tryd.prog 23 #[.agg #[.int .i64 (n : Int), .slice (some ⟨g, 0, none⟩) L L], .int .i64 (y : Int)] v fun e w' => e = .returned (.slice (some ⟨g, y * n, none⟩) n (L - y * n)) ∧ Below v.heap.size v w') := fun v => row_any HL.out HN.out (by have := HSN.out; omega)
      have hsl := sg_len C (y * side) side hp
      have HNN : Hid ((sg C (y * side) side).length = Nat.min side n) := by unfold Hid; rw [hsl]; exact (Nat.min_eq_left HSN.out).symm
      have HPos : Hid (0 < (sg C (y * side) side).length) := by unfold Hid; rw [hsl]; exact h0
      have HST : Hid (splice (tab n (layP side y C)) (y * n) (sg C (y * side) side) = tab n (layP side (y + 1) C)) := lay_step n side C hlt HSN.out HC.out
      have HSS : Hid (∀ v : World, Below wr.drew.heap.size wr.drew v → Si v (some ⟨b, o + y * side, none⟩) (sg C (y * side) side)) := fun v hv => (((HS.out.kf hk (fun b' o' e => by simp only [Option.some.injEq, Addr.mk.injEq] at e; omega)).drew.to hv)).seg _ _ hp
      have HRR : Hid (∀ v : World, Below wr.drew.heap.size wr.drew v → Ri 3 v g (tab n (layP side y C))) := fun v hv => hr.drew.to hv
      have HF : Hid (y * n + (sg C (y * side) side).length ≤ (tab n (layP side y C)).length) := by
        unfold Hid
        have := ix_le (n := n) (show y < n from by have := HSN.out; omega)
        have := HSN.out
        rw [hsl, tab_len]; omega
      have HKr : Hid (Kf g V wr) := hk
      have HLT : Hid (y < side) := hlt
      have b0 : (0 : Int) ≤ ((y * side : Nat) : Int) := by omega
      have b1 : ((y * side : Nat) : Int) ≤ ((y * side + side : Nat) : Int) := by omega
      have b2 : ((y * side + side : Nat) : Int) ≤ (c : Int) := by have := HCc.out; omega
      have b3 : ¬ y * side = c := by have := HCc.out; omega
      have b4 : y * side + side - y * side = side := by omega
      generalize hD : sg C (y * side) side = D at *
      generalize hQ : y * side + side = q2 at *
      generalize hP : y * side = q at *
      have b5 : ((q2 : Int) - (q : Int)).toNat = side := by omega
      clear hr hk hp hps hsl hD hQ hP hlt hy
      go_wp2_with fail
      go_region_held3 (fun v => v.cell? ⟨w.heap.size, 0, none⟩ = some (.int .i64 (n : Int)) ∧ v.cell? ⟨w.heap.size, 1, none⟩ = some (.slice (some ⟨g, 0, none⟩) L L))
        ((exact HK.out _ (by first | exact HKr.out.drew | exact HKr.out.drew.step (by assumption) | exact (HKr.out.drew.step (by assumption)).kb (by assumption))))
        (first | (go_at_call 23; refine (HRow.out _).mono ?_; rintro e w6 ⟨rfl, hb6⟩) | (refine step_copy_ri rfl (.tmp 13) (.tmp 22) rfl _ _ _ _ _ _ (by rfl) (by rfl) g (y * n) _ D (HRR.out _ (by assumption)) (by first | exact HNN.out | (rw [HNN.out]; simp)) HPos.out (by rfl) (HSS.out _ (by assumption)) HF.out ?_; intro w7 hr7 hk7))
      go_wp2_with fail
      have hlt := HLT.out
      go_roundw
      case rel => exact ⟨y + 1, by omega, by go_num, by rw [← HST.out]; exact hr7, (HKr.out.drew.step hb6).kb hk7⟩
      case measure => simp [intOf]; omega
    · obtain rfl : y = side := by omega
      have HR2 : Hid (Ri 3 wr g (tab n (layF y C))) := hr
      have HK2 : Hid (Kf g w wr) := Kf.old HB.out hk
      clear hr hk
      go_wp2_with fail
      go_end0
      exact ⟨rfl, HR2.out, HK2.out⟩

end Go.Proofs.YtddnnlofdicgkabDoor
