/- DERIVED. The deferred closure of code: it recovers a stop that was thrown. -/
import Derived.Test.YtkmnpechhdendaaDoorYf
import Derived.Defers
import Derived.Recover
import Derived.Laws.Pointers
import Derived.BigRegion
namespace Go.Proofs.YtkmnpechhdendaaDoor
open Go.RowKit L3

/-- both results are laid anew -/
structure Ld (A B : Nat) (v : Value) (e : Int) (w w' : World) : Prop where
  a : w'.cell? ⟨A, 0, none⟩ = some v
  b : w'.cell? ⟨B, 0, none⟩ = some (.int .i64 e)
  ke : Ke (fun y => y = A ∨ y = B) w w'

theorem ld_of {A B : Nat} {w : World} {va ve : Value} (hAB : A ≠ B) (ha : w.cell? ⟨A, 0, none⟩ = some va) (hb : w.cell? ⟨B, 0, none⟩ = some ve) (v : Value) (e : Int) : Ld A B v e w ((w.setCell ⟨A, 0, none⟩ v).setCell ⟨B, 0, none⟩ (.int .i64 e)).drew := by
  have n1 : (⟨B, 0, none⟩ : Addr) ≠ ⟨A, 0, none⟩ := fun e => by simp only [Addr.mk.injEq, and_true] at e; exact hAB e.symm
  have hb' : (w.setCell ⟨A, 0, none⟩ v).cell? ⟨B, 0, none⟩ = some ve := by rw [World.cell?_setCell_other _ _ _ _ (Ne.symm n1)]; exact hb
  refine ⟨?_, ?_, ?_⟩
  · show ((w.setCell ⟨A, 0, none⟩ v).setCell ⟨B, 0, none⟩ (.int .i64 e)).cell? ⟨A, 0, none⟩ = _
    rw [World.cell?_setCell_other _ _ _ _ n1]; exact World.cell?_setCell_same _ _ _ ha
  · exact World.cell?_setCell_same (w := w.setCell ⟨A, 0, none⟩ v) _ _ hb'
  · have k1 := Ke.set (fun y => y = A ∨ y = B) w ⟨A, 0, none⟩ v (Or.inl rfl)
    have k2 := Ke.set (fun y => y = A ∨ y = B) (w.setCell ⟨A, 0, none⟩ v) ⟨B, 0, none⟩ (.int .i64 e) (Or.inr rfl)
    have k3 := k1.trans k2 (R := fun y => y = A ∨ y = B) (fun _ e => e) (fun _ _ e => e)
    exact ⟨k3.os, k3.tape, k3.output, k3.size, k3.block⟩

set_option maxRecDepth 100000 in
set_option maxHeartbeats 1000000 in
theorem catch_idle (A B : Nat) (w : World) :
    CallsD Tryd.prog 38 #[.pointer (some ⟨A, 0, none⟩), .pointer (some ⟨B, 0, none⟩)] .returning w fun e u' w' => e = .returned (.tuple #[]) ∧ u' = .returning ∧ w' = w := by
  refine callsD_of_wpS Tryd.func38 rfl fun c₀ cs hu => ?_
  apply wpS_seq
  apply wpS_region
  simp [wpOpsS, go_sem, recoverD, hu, Tryd.ntmps38, Exit.thenS]
  change Code.wpS _ _ _ { tmps := #[.pointer (some ⟨A, 0, none⟩), .pointer (some ⟨B, 0, none⟩), .nilIface, .nilIface, undef, undef, undef, undef, undef], defers := [] } _ _
  refine wpS_of_wp ?_
  go_wp2_with fail
  cases c₀
  simp_all [bodyPostS, results, Tryd.results38]

set_option maxRecDepth 100000 in
set_option maxHeartbeats 1000000 in
theorem catch_stop (A B : Nat) (hAB : A ≠ B) (w : World) (va ve : Value) (ha : w.cell? ⟨A, 0, none⟩ = some va) (hb : w.cell? ⟨B, 0, none⟩ = some ve) (fa : w.frozen? ⟨A, 0, none⟩ = false) (fb : w.frozen? ⟨B, 0, none⟩ = false) :
    CallsD Tryd.prog 38 #[.pointer (some ⟨A, 0, none⟩), .pointer (some ⟨B, 0, none⟩)] (.panicking [{ v := .iface 89 (.agg #[.int .i64 4]), recovered := false }]) w fun e u' w' =>
      e = .returned (.tuple #[]) ∧ u' = .panicking [{ v := .iface 89 (.agg #[.int .i64 4]), recovered := true }] ∧ Ld A B (.slice none 0 0) 4 w w' := by
  refine callsD_of_wpS Tryd.func38 rfl fun c₀ cs hu => ?_
  apply wpS_seq
  apply wpS_region
  simp [wpOpsS, go_sem, recoverD, hu, Tryd.ntmps38, Exit.thenS]
  change Code.wpS _ _ _ { tmps := #[.pointer (some ⟨A, 0, none⟩), .pointer (some ⟨B, 0, none⟩), .iface 89 (.agg #[.int .i64 4]), .iface 89 (.agg #[.int .i64 4]), undef, undef, undef, undef, undef], defers := [] } _ _
  refine wpS_of_wp ?_
  go_wp2_with fail
  have hta : ∀ u : World, (Instr.typeAssert (.iface 89 (.agg #[.int .i64 4])) 20 89 false).run Tryd.prog u = .ok (.agg #[.int .i64 4]) u := fun u => by kernel_rfl
  have hfl : ∀ u : World, (Instr.field 89 (.agg #[.int .i64 4]) 0).run Tryd.prog u = .ok (.int .i64 4) u := fun u => by kernel_rfl
  have HL : Hid (Ld A B (.slice none 0 0) 4 w ((w.setCell ⟨A, 0, none⟩ (.slice none 0 0)).setCell ⟨B, 0, none⟩ (.int .i64 4)).drew) := ld_of hAB ha hb _ _
  go_region
  show bodyPostS _ _ _ _ _ _ _ _ _
  simp [bodyPostS, results, Tryd.results38]
  exact HL.out

end Go.Proofs.YtkmnpechhdendaaDoor
