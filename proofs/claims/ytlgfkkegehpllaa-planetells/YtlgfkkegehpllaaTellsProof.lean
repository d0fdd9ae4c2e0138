/-
  PlaneTells: of any two planes and any two numbers, New, Check, At, Same and Apart answer as the document says, and the planes stay as they were. No condition.
-/
import Derived.Test.YtlgfkkegehpllaaRows
import Derived.Test.YtlgfkkegehpllaaOp
import Derived.Test.YtlgfkkegehpllaaRa
namespace Go.Proofs.Ytlgfkkegehpllaa
open Go.ChangeShapes Go.WideShapes Go.ChangeAt Go.RowKit

set_option maxRecDepth 100000 in
theorem planeTells_lifted (os : Os) (started : os.Started) (H : Type) (enc : TypeId × Value → H) :
    ReturnsInHanded {} Try.checked os 3 .any (Rows.planeTellsSpec.pre6 enc Try.prog Try.f3 Rows.planeTellsRow.domain false) (Rows.planeTellsSpec.post enc Try.prog Try.f3 false true false false) := by
  refine returnsInHanded_of_change_sized (C := Try.checked) Try.own started (by kernel_rfl) Try.func3
    (ChangeSpec.witness6 (enc := enc) (C := Try.checked) false ⟨#[], #[.agg #[.int .i64 0, .int .i64 0, .slice none 0 0], .agg #[.int .i64 0, .int .i64 0, .slice none 0 0], .agg #[.int .i64 0, .int .i64 0]], []⟩ 8 (by kernel_rfl) (by kernel_rfl) (by kernel_rfl) (by kernel_rfl)) ?_
  intro W base args ds gs before hval0 hW _ hsz0 _
  have hsz : (DataW.weightsEach Try.prog (Try.f3.params.toList ++ Rows.planeTellsSpec.plain.varTypes Try.prog) (ds ++ gs)).all (· ≤ reachBytes) = true := hsz0
  clear hsz0
  have hval : ∀ (j : Nat) t v, Try.f3.params[j]? = some t → args[j]? = some v → Value.okWide Try.prog W .any base t v := hval0
  have hW' := hW
  obtain ⟨p, q, hA0, hV, rfl, _, _⟩ := hW
  have hA : DataW.TrodAll enc Try.prog W 0 (fun _ => true) true Try.f3.params.toList args.toList ds p := hA0
  rw [Try.params3] at hA hval hsz
  obtain ⟨v0, v1, v2, d0, d1, d2, p0, p1, p2, rfl, rfl, rfl, h0, h1, h2⟩ := trodAll_three hA
  obtain ⟨rfl, rfl⟩ := trodVars_none hV
  have k0 := h0
  have lt0 : ∀ x ∈ p0, x.block < W.heap.size := by obtain ⟨m, hm⟩ := k0; exact DataW.trod_lt m _ _ _ hm
  have hw0 := sub_weights hsz (j := 0) (t := 24) (d := d0) rfl rfl
  obtain ⟨cs0, rfl, hs0⟩ := okWide_struct Try.underlying24 (hval 0 24 v0 rfl rfl)
  rw [Try.cells24] at hs0
  obtain ⟨y00, y01, y02, rfl⟩ := three_cells hs0
  obtain ⟨m0, hm0⟩ := h0
  obtain ⟨X0, Y0, a0, c0, C0, rfl, rfl, rfl, hin0, hl0⟩ := open_plane (by simpa [Value.cells] using hm0)
  replace hl0 := hl0 hw0
  have k1 := h1
  have lt1 : ∀ x ∈ p1, x.block < W.heap.size := by obtain ⟨m, hm⟩ := k1; exact DataW.trod_lt m _ _ _ hm
  have hw1 := sub_weights hsz (j := 1) (t := 24) (d := d1) rfl rfl
  obtain ⟨cs1, rfl, hs1⟩ := okWide_struct Try.underlying24 (hval 1 24 v1 rfl rfl)
  rw [Try.cells24] at hs1
  obtain ⟨y10, y11, y12, rfl⟩ := three_cells hs1
  obtain ⟨m1, hm1⟩ := h1
  obtain ⟨X1, Y1, a1, c1, C1, rfl, rfl, rfl, hin1, hl1⟩ := open_plane (by simpa [Value.cells] using hm1)
  replace hl1 := hl1 hw1
  have k2 := h2
  have lt2 : ∀ x ∈ p2, x.block < W.heap.size := by obtain ⟨m, hm⟩ := k2; exact DataW.trod_lt m _ _ _ hm
  have hw2 := sub_weights hsz (j := 2) (t := 25) (d := d2) rfl rfl
  obtain ⟨cs2, rfl, hs2⟩ := okWide_array Try.underlying25 (hval 2 25 v2 rfl rfl)
  rw [Try.cells25] at hs2
  obtain ⟨y20, y21, rfl⟩ := two_cells hs2
  obtain ⟨m2, hm2⟩ := h2
  obtain ⟨X2, Y2, rfl, rfl, bX2, bY2⟩ := open_pair (by simpa [Value.cells] using hm2)
  clear hA0 hval0
  refine (tells_walk hin0.sl hin1.sl hin0.byt hin1.byt hl0 hl1).mono fun e W' ⟨he, bel⟩ => ?_
  subst he
  exact ⟨_, rfl, _, _, _, [], _, [], hW', trodAll_mk1 (shut_bool Try.underlying4 _), (trodAll_mk3 (Below.trod Try.laidOut (by kernel_rfl) (of_decide_eq_true (by kernel_rfl)) k0 bel lt0) (Below.trod Try.laidOut (by kernel_rfl) (of_decide_eq_true (by kernel_rfl)) k1 bel lt1) (Below.trod Try.laidOut (by kernel_rfl) (of_decide_eq_true (by kernel_rfl)) k2 bel lt2)), rfl, bel.frame _, fun h => by cases h⟩

theorem planeTells_holds : Rows.PlaneTellsSaid :=
  OpenClaim.holds_of_wide 3 Try.f3 rfl rfl rfl rfl rfl rfl rfl ⟨rfl, rfl, rfl, rfl, rfl⟩ rfl rfl rfl rfl rfl (by kernel_rfl) Try.func3 (by kernel_rfl)
    (of_decide_eq_true (by kernel_rfl)) (by unfold Func.isWrapper; first | (rw [if_pos (by decide +kernel)]; kernel_rfl) | (rw [if_neg (by decide +kernel)]; exact ⟨rfl, rfl⟩))
    (fun os started H enc _ => planeTells_lifted os started H enc)
#print axioms planeTells_holds

end Go.Proofs.Ytlgfkkegehpllaa
