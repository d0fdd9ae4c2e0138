/-
  What is blended lies between both; beside the rectangle nothing is changed.
-/
import Derived.Test.YtpideemiijhkgaaDoorRows
import Derived.Test.YtpideemiijhkgaaDoorCards
import Derived.Test.YtpideemiijhkgaaDoorTie
import Derived.Test.YtpideemiijhkgaaDoorOp
import Derived.Test.YtpideemiijhkgaaDoorBh
import Derived.LaidMore
import Derived.Lay
import Derived.SevenTiedAt
import Derived.Stop.Joined
namespace Go.Proofs.YtpideemiijhkgaaDoor
open Go.ChangeShapes Go.WideShapes Go.ChangeAt Go.RowKit

set_option maxRecDepth 100000 in
theorem motionBetween_lifted (os : Os) (started : os.Started) (H : Type) (enc : TypeId × Value → H) :
    ReturnsInHanded {} Tryd.checked os 8 .any (fun w args => (Rows.motionBetweenSpec.pre enc Tryd.prog Tryd.f8 Rows.motionBetweenRow.domain false w args ∧ laidMetH Tryd.prog Rows.motionBetweenRow.laid w) ∧ sizedMet enc Tryd.prog Tryd.f8 (OpenSpec.ofChange Rows.motionBetweenSpec) false w args)
      (Rows.motionBetweenSpec.post enc Tryd.prog Tryd.f8 false true false false) := by
  refine returnsInHanded_of_change_and (C := Tryd.checked) (X := fun w _ => laidMetH Tryd.prog Rows.motionBetweenRow.laid w) (fun _ _ _ hh h => h.of_heap hh) Tryd.own started (by kernel_rfl) Tryd.func8
    (ChangeSpec.witness_shaped (enc := enc) (C := Tryd.checked) (os := os) (X := fun w _ => laidMetH Tryd.prog Rows.motionBetweenRow.laid w) false (World.laidAll Tryd.prog os Rows.motionBetweenRow.laid) #[.agg #[.slice none 0 0, .int .i64 0, .int .i64 0, .int .i64 0, .int .i64 0, .int .i64 0, .slice none 0 0], .bool false] 8 (World.laidAll_os _ _ _)
      (World.shaped_of_ZipB (by kernel_rfl) (by kernel_rfl)) (by kernel_rfl) (by kernel_rfl) (by kernel_rfl)
      (by rw [MakeChecks.laidMetH_plain _ _ _ (by kernel_rfl)]; exact laidMet_laidAll _ (by kernel_rfl) (by kernel_rfl))) ?_
  intro W base args ds gs before hval0 hW _ hsz0 hX _
  have hsz : (DataW.weightsEach Tryd.prog (Tryd.f8.params.toList ++ Rows.motionBetweenSpec.plain.varTypes Tryd.prog) (ds ++ gs)).all (· ≤ reachBytes) = true := hsz0
  clear hsz0
  have hval : ∀ (j : Nat) t v, Tryd.f8.params[j]? = some t → args[j]? = some v → Value.okWide Tryd.prog W .any base t v := hval0
  have hW' := hW
  obtain ⟨p, q, hA0, hV, rfl, _, _⟩ := hW
  have hA : DataW.TrodAll enc Tryd.prog W 0 (fun _ => true) true Tryd.f8.params.toList args.toList ds p := hA0
  rw [Tryd.params8] at hA hval hsz
  obtain ⟨v0, v1, d0, d1, p0, p1, rfl, rfl, rfl, h0, h1⟩ := trodAll_two hA
  obtain ⟨rfl, rfl⟩ := trodVars_none hV
  have k0 := h0
  have lt0 : ∀ x ∈ p0, x.block < W.heap.size := by obtain ⟨m, hm⟩ := k0; exact DataW.trod_lt m _ _ _ hm
  have hw0 := sub_weights hsz (j := 0) (t := 51) (d := d0) rfl rfl
  obtain ⟨cs0, rfl, hs0⟩ := okWide_struct Tryd.underlying51 (hval 0 51 v0 rfl rfl)
  rw [Tryd.cells51] at hs0
  obtain ⟨y00, y01, y02, y03, y04, y05, y06, rfl⟩ := seven_cells hs0
  obtain ⟨m0, hm0⟩ := h0
  obtain ⟨a, c, C, bw, X, Y, w, ht, b, d, D, rfl, rfl, rfl, rfl, rfl, rfl, rfl, hi, hj, hxy, hl⟩ := open_blend (by simpa [Value.cells] using hm0)
  replace hl := hl hw0
  obtain ⟨q1, rfl, rfl, rfl⟩ := open_bool Tryd.underlying4 (hval 1 4 v1 rfl rfl) h1
  have k1 := h1
  have hg : Gt W := gt_of (by rw [← MakeChecks.laidMetH_plain _ _ _ (by kernel_rfl)]; exact hX)
  clear hA0 hval0
  refine (between_walk hg hi hj hxy hl).mono fun e W' ⟨he, bel⟩ => ?_
  subst he
  exact ⟨_, rfl, _, _, _, [], _, [], hW', trodAll_mk1 (shut_bool Tryd.underlying4 _), (trodAll_mk2 (Below.trod Tryd.laidOut (by kernel_rfl) (of_decide_eq_true (by kernel_rfl)) k0 bel lt0) (by first | exact k1 | exact shut_bool Tryd.underlying4 _)), rfl, bel.frame _, fun h => by cases h⟩

theorem motionBetween_holds : Rows.MotionBetweenSaid :=
  OpenClaim.holds_of_wide 8 Tryd.f8 rfl rfl rfl rfl rfl rfl rfl ⟨rfl, rfl, rfl, rfl, rfl⟩ rfl rfl rfl rfl rfl (by kernel_rfl) Tryd.func8 (by kernel_rfl)
    (of_decide_eq_true (by kernel_rfl)) (by unfold Func.isWrapper; first | (rw [if_pos (by decide +kernel)]; kernel_rfl) | (rw [if_neg (by decide +kernel)]; exact ⟨rfl, rfl⟩))
    (fun os started H enc _ => motionBetween_lifted os started H enc)

theorem motionBetween_card : Rows.MotionBetweenCardSaid :=
  Claim7.holds_tied_plain_at .later [] [.data, .data] true (true, "35c6b5dd8eb4be457949d911a121a6d5690c1bd4cd1c00bbc2b4466e8a864199") false motionBetween_holds (fun _ h => by cases h) (by kernel_rfl) (fun _ h => by cases h) motionBetween_row_tie rfl ⟨rfl, rfl⟩ (by kernel_rfl) rfl
    (fun f fn hf hfn => by
      obtain rfl : f = 8 := Option.some.inj ((show Tryd.prog.funcNamed "zoetrope/zoetropelaw15.MotionBetween" = some 8 by kernel_rfl).symm.trans hf) |>.symm
      obtain rfl : fn = Tryd.f8 := (Option.some.inj (Tryd.func8.symm.trans hfn)).symm
      exact ⟨by kernel_rfl, fun j t ht => by
        rw [Tryd.params8] at ht
        have hm : t ∈ ([51, 4] : List TypeId) := by simpa using Array.mem_of_getElem? ht
        have hall : (([51, 4] : List TypeId).all fun u => !Tryd.prog.wantsStandIn u) = true := by kernel_rfl
        exact (show Tryd.prog.wantsStandIn t = false by simpa using List.all_eq_true.1 hall t hm)⟩)
    (by kernel_rfl)
#print axioms motionBetween_card

end Go.Proofs.YtpideemiijhkgaaDoor
