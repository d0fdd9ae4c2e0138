/-
  ScoreDearer: of any distances and rates, and a lambda that is finite and 0 at least, what is farther or takes more costs no less. No condition.
-/
import Derived.Test.YtdiphgkgehpgiaaRows
import Derived.Test.YtdiphgkgehpgiaaOp
import Derived.Test.YtdiphgkgehpgiaaGe
namespace Go.Proofs.Ytdiphgkgehpgiaa
open Go.ChangeShapes Go.WideShapes Go.ChangeAt Go.RowKit

set_option maxRecDepth 100000 in
theorem scoreDearer_lifted (os : Os) (started : os.Started) (H : Type) (enc : TypeId × Value → H) :
    ReturnsInHanded {} Try.checked os 7 .any (Rows.scoreDearerSpec.pre6 enc Try.prog Try.f7 Rows.scoreDearerRow.domain false) (Rows.scoreDearerSpec.post enc Try.prog Try.f7 false true false false) := by
  refine returnsInHanded_of_change_sized (C := Try.checked) Try.own started (by kernel_rfl) Try.func7
    (ChangeSpec.witness6 (enc := enc) (C := Try.checked) false ⟨#[], #[.agg #[.int .u64 0, .int .u64 0], .agg #[.int .u64 0, .int .u64 0], .float .f64 0], []⟩ 8 (by kernel_rfl) (by kernel_rfl) (by kernel_rfl) (by kernel_rfl)) ?_
  intro W base args ds gs before hval0 hW _ hsz0 _
  have hsz : (DataW.weightsEach Try.prog (Try.f7.params.toList ++ Rows.scoreDearerSpec.plain.varTypes Try.prog) (ds ++ gs)).all (· ≤ reachBytes) = true := hsz0
  clear hsz0
  have hval : ∀ (j : Nat) t v, Try.f7.params[j]? = some t → args[j]? = some v → Value.okWide Try.prog W .any base t v := hval0
  have hW' := hW
  obtain ⟨p, q, hA0, hV, rfl, _, _⟩ := hW
  have hA : DataW.TrodAll enc Try.prog W 0 (fun _ => true) true Try.f7.params.toList args.toList ds p := hA0
  rw [Try.params7] at hA hval hsz
  obtain ⟨v0, v1, v2, d0, d1, d2, p0, p1, p2, rfl, rfl, rfl, h0, h1, h2⟩ := trodAll_three hA
  obtain ⟨rfl, rfl⟩ := trodVars_none hV
  have k0 := h0
  have lt0 : ∀ x ∈ p0, x.block < W.heap.size := by obtain ⟨m, hm⟩ := k0; exact DataW.trod_lt m _ _ _ hm
  have hw0 := sub_weights hsz (j := 0) (t := 46) (d := d0) rfl rfl
  obtain ⟨cs0, rfl, hs0⟩ := okWide_array Try.underlying46 (hval 0 46 v0 rfl rfl)
  rw [Try.cells46] at hs0
  obtain ⟨y00, y01, rfl⟩ := two_cells hs0
  obtain ⟨m0, hm0⟩ := h0
  obtain ⟨X0, Y0, rfl, rfl, bX0, bY0⟩ := open_pair (by simpa [Value.cells] using hm0)
  have k1 := h1
  have lt1 : ∀ x ∈ p1, x.block < W.heap.size := by obtain ⟨m, hm⟩ := k1; exact DataW.trod_lt m _ _ _ hm
  have hw1 := sub_weights hsz (j := 1) (t := 46) (d := d1) rfl rfl
  obtain ⟨cs1, rfl, hs1⟩ := okWide_array Try.underlying46 (hval 1 46 v1 rfl rfl)
  rw [Try.cells46] at hs1
  obtain ⟨y10, y11, rfl⟩ := two_cells hs1
  obtain ⟨m1, hm1⟩ := h1
  obtain ⟨X1, Y1, rfl, rfl, bX1, bY1⟩ := open_pair (by simpa [Value.cells] using hm1)
  obtain ⟨x2, rfl, rfl, rfl, wx2⟩ := open_float Try.underlying27 (hval 2 27 v2 rfl rfl) h2
  have k2 := h2
  have bx2 := f64_lt wx2
  clear hA0 hval0
  refine (dearer_any bX0 bY0 bX1 bY1 bx2).mono fun e W' ⟨he, bel⟩ => ?_
  subst he
  exact ⟨_, rfl, _, _, _, [], _, [], hW', trodAll_mk1 (shut_bool Try.underlying4 _), (trodAll_mk3 (Below.trod Try.laidOut (by kernel_rfl) (of_decide_eq_true (by kernel_rfl)) k0 bel lt0) (Below.trod Try.laidOut (by kernel_rfl) (of_decide_eq_true (by kernel_rfl)) k1 bel lt1) (by first | exact k2 | exact shut_float Try.underlying27 wx2)), rfl, bel.frame _, fun h => by cases h⟩

theorem scoreDearer_holds : Rows.ScoreDearerSaid :=
  OpenClaim.holds_of_wide 7 Try.f7 rfl rfl rfl rfl rfl rfl rfl ⟨rfl, rfl, rfl, rfl, rfl⟩ rfl rfl rfl rfl rfl (by kernel_rfl) Try.func7 (by kernel_rfl)
    (of_decide_eq_true (by kernel_rfl)) (by unfold Func.isWrapper; first | (rw [if_pos (by decide +kernel)]; kernel_rfl) | (rw [if_neg (by decide +kernel)]; exact ⟨rfl, rfl⟩))
    (fun os started H enc _ => scoreDearer_lifted os started H enc)
#print axioms scoreDearer_holds

end Go.Proofs.Ytdiphgkgehpgiaa
