/-
  PROVED HERE: Rows.QuantRiseSaid: for every two ints and every header the law QuantRise of layer 9 (steps rise with base and delta, lie between 4 and 1613, and are 4 where nothing is lost) returns true, and the arguments read as they did; no condition beyond the row's own.
-/
import Derived.Test.YtaliaoapbjbfaaaRows
import Derived.Test.YtaliaoapbjbfaaaOp
import Derived.Test.YtaliaoapbjbfaaaQm
namespace Go.Proofs.Ytaliaoapbjbfaaa
open Go.ChangeShapes Go.WideShapes Go.ChangeAt Go.RowKit

set_option maxRecDepth 100000 in
theorem quantRise_lifted (os : Os) (started : os.Started) (H : Type) (enc : TypeId × Value → H) :
    ReturnsInHanded {} Try.checked os 7 .any (Rows.quantRiseSpec.pre6 enc Try.prog Try.f7 Rows.quantRiseRow.domain false) (Rows.quantRiseSpec.post enc Try.prog Try.f7 false true false false) := by
  refine returnsInHanded_of_change_sized (C := Try.checked) Try.own started (by kernel_rfl) Try.func7
    (ChangeSpec.witness6 (enc := enc) (C := Try.checked) false ⟨#[], #[.int .i64 0, .int .i64 0, .agg #[.bool false, .int .i64 0, .bool false, .bool false, .int .i64 0, .int .i64 0, .int .i64 0, .int .i64 0, .int .i64 0, .int .i64 0, .int .i64 0, .int .i64 0, .int .i64 0, .int .i64 0, .int .i64 0, .int .i64 0, .int .i64 0, .bool false, .int .i64 0, .int .i64 0, .int .i64 0, .int .i64 0, .int .i64 0, .bool false, .int .i64 0, .int .i64 0, .slice none 0 0, .bool false, .bool false, .bool false]], []⟩ 8 (by kernel_rfl) (by kernel_rfl) (by kernel_rfl) (by kernel_rfl)) ?_
  intro W base args ds gs before hval0 hW _ hsz0 _
  have hsz : (DataW.weightsEach Try.prog (Try.f7.params.toList ++ Rows.quantRiseSpec.plain.varTypes Try.prog) (ds ++ gs)).all (· ≤ reachBytes) = true := hsz0
  clear hsz0
  have hval : ∀ (j : Nat) t v, Try.f7.params[j]? = some t → args[j]? = some v → Value.okWide Try.prog W .any base t v := hval0
  have hW' := hW
  obtain ⟨p, q, hA0, hV, rfl, _, _⟩ := hW
  have hA : DataW.TrodAll enc Try.prog W 0 (fun _ => true) true Try.f7.params.toList args.toList ds p := hA0
  rw [Try.params7] at hA hval hsz
  obtain ⟨v0, v1, v2, d0, d1, d2, p0, p1, p2, rfl, rfl, rfl, h0, h1, h2⟩ := trodAll_three hA
  obtain ⟨rfl, rfl⟩ := trodVars_none hV
  obtain ⟨x0, rfl, rfl, rfl, wx0⟩ := open_int Try.underlying3 (hval 0 3 v0 rfl rfl) h0
  have k0 := h0
  have bx0 := bounds_i64' wx0
  obtain ⟨x1, rfl, rfl, rfl, wx1⟩ := open_int Try.underlying3 (hval 1 3 v1 rfl rfl) h1
  have k1 := h1
  have bx1 := bounds_i64' wx1
  have k2 := h2
  have lt2 : ∀ x ∈ p2, x.block < W.heap.size := by obtain ⟨m, hm⟩ := k2; exact DataW.trod_lt m _ _ _ hm
  obtain ⟨cs2, rfl, hs2⟩ := okWide_struct Try.underlying28 (hval 2 28 v2 rfl rfl)
  rw [Try.cells28] at hs2
  obtain ⟨y2x0, y2x1, y2x2, y2x3, y2x4, y2x5, y2x6, y2x7, y2x8, y2x9, y2x10, y2x11, y2x12, y2x13, y2x14, y2x15, y2x16, y2x17, y2x18, y2x19, y2x20, y2x21, y2x22, y2x23, y2x24, y2x25, y2x26, y2x27, y2x28, y2x29, rfl⟩ := thirty_cells hs2
  obtain ⟨m2, hm2⟩ := h2
  obtain ⟨B2, da2, db2, dc2, dd2, de2, rfl, rfl, rfl, rfl, rfl, rfl⟩ := open_head (by simpa [Value.cells] using hm2)
  clear hA0 hval0
  refine (rise_walk).mono fun e W' ⟨he, bel⟩ => ?_
  subst he
  exact ⟨_, rfl, _, _, _, [], _, [], hW', trodAll_mk1 (shut_bool Try.underlying4 _), (trodAll_mk3 (by first | exact k0 | exact shut_int Try.underlying3 wx0) (by first | exact k1 | exact shut_int Try.underlying3 wx1) (Below.trod Try.laidOut (by kernel_rfl) (of_decide_eq_true (by kernel_rfl)) k2 bel lt2)), rfl, bel.frame _, fun h => by cases h⟩

theorem quantRise_holds : Rows.QuantRiseSaid :=
  OpenClaim.holds_of_wide 7 Try.f7 rfl rfl rfl rfl rfl rfl rfl ⟨rfl, rfl, rfl, rfl, rfl⟩ rfl rfl rfl rfl rfl (by kernel_rfl) Try.func7 (by kernel_rfl)
    (of_decide_eq_true (by kernel_rfl)) (by unfold Func.isWrapper; first | (rw [if_pos (by decide +kernel)]; kernel_rfl) | (rw [if_neg (by decide +kernel)]; exact ⟨rfl, rfl⟩))
    (fun os started H enc _ => quantRise_lifted os started H enc)
#print axioms quantRise_holds

end Go.Proofs.Ytaliaoapbjbfaaa
