/-
  PROVED HERE: Rows.SubpelPartsCardSaid: for every plane, place and pair of numbers the law SubpelParts of layer 14 (a block's part is a block) returns true, and the arguments read as they did; both tables of taps that the row lists are laid as the text lays them; no condition beyond the row's own.
-/
import Derived.Test.YtgmdanipcnkhdabDoorRows
import Derived.Test.YtgmdanipcnkhdabDoorCards
import Derived.Test.YtgmdanipcnkhdabDoorTie
import Derived.Test.YtgmdanipcnkhdabDoorOp
import Derived.Test.YtgmdanipcnkhdabDoorPt
import Derived.LaidMore
import Derived.Lay
import Derived.SevenTiedAt
import Derived.Stop.Joined
namespace Go.Proofs.YtgmdanipcnkhdabDoor
open Go.ChangeShapes Go.WideShapes Go.ChangeAt Go.RowKit

set_option maxRecDepth 100000 in
theorem subpelParts_lifted (os : Os) (started : os.Started) (H : Type) (enc : TypeId × Value → H) :
    ReturnsInHanded {} Tryd.checked os 3 .any (fun w args => (Rows.subpelPartsSpec.pre enc Tryd.prog Tryd.f3 Rows.subpelPartsRow.domain false w args ∧ laidMetH Tryd.prog Rows.subpelPartsRow.laid w) ∧ sizedMet enc Tryd.prog Tryd.f3 (OpenSpec.ofChange Rows.subpelPartsSpec) false w args)
      (Rows.subpelPartsSpec.post enc Tryd.prog Tryd.f3 false true false false) := by
  refine returnsInHanded_of_change_and (C := Tryd.checked) (X := fun w _ => laidMetH Tryd.prog Rows.subpelPartsRow.laid w) (fun _ _ _ hh h => h.of_heap hh) Tryd.own started (by kernel_rfl) Tryd.func3
    (ChangeSpec.witness_shaped (enc := enc) (C := Tryd.checked) (os := os) (X := fun w _ => laidMetH Tryd.prog Rows.subpelPartsRow.laid w) false (World.laidAll Tryd.prog os Rows.subpelPartsRow.laid) #[.agg #[.int .i64 0, .int .i64 0, .slice none 0 0], .agg #[.int .i64 0, .int .i64 0, .int .i64 0, .int .i64 0, .int .i64 0], .agg #[.int .i64 0, .int .i64 0]] 8 (World.laidAll_os _ _ _)
      (World.shaped_of_ZipB (by kernel_rfl) (by kernel_rfl)) (by kernel_rfl) (by kernel_rfl) (by kernel_rfl)
      (by rw [MakeChecks.laidMetH_plain _ _ _ (by kernel_rfl)]; exact laidMet_laidAll _ (by kernel_rfl) (by kernel_rfl))) ?_
  intro W base args ds gs before hval0 hW _ hsz0 hX _
  have hsz : (DataW.weightsEach Tryd.prog (Tryd.f3.params.toList ++ Rows.subpelPartsSpec.plain.varTypes Tryd.prog) (ds ++ gs)).all (· ≤ reachBytes) = true := hsz0
  clear hsz0
  have hval : ∀ (j : Nat) t v, Tryd.f3.params[j]? = some t → args[j]? = some v → Value.okWide Tryd.prog W .any base t v := hval0
  have hW' := hW
  obtain ⟨p, q, hA0, hV, rfl, _, _⟩ := hW
  have hA : DataW.TrodAll enc Tryd.prog W 0 (fun _ => true) true Tryd.f3.params.toList args.toList ds p := hA0
  rw [Tryd.params3] at hA hval hsz
  obtain ⟨v0, v1, v2, d0, d1, d2, p0, p1, p2, rfl, rfl, rfl, h0, h1, h2⟩ := trodAll_three hA
  obtain ⟨rfl, rfl⟩ := trodVars_none hV
  have k0 := h0
  have lt0 : ∀ x ∈ p0, x.block < W.heap.size := by obtain ⟨m, hm⟩ := k0; exact DataW.trod_lt m _ _ _ hm
  have hw0 := sub_weights hsz (j := 0) (t := 24) (d := d0) rfl rfl
  obtain ⟨cs0, rfl, hs0⟩ := okWide_struct Tryd.underlying24 (hval 0 24 v0 rfl rfl)
  rw [Tryd.cells24] at hs0
  obtain ⟨y00, y01, y02, rfl⟩ := three_cells hs0
  obtain ⟨m0, hm0⟩ := h0
  obtain ⟨X0, Y0, a0, c0, C0, rfl, rfl, rfl, hin0, hl0⟩ := open_plane (by simpa [Value.cells] using hm0)
  replace hl0 := hl0 hw0
  have k1 := h1
  have lt1 : ∀ x ∈ p1, x.block < W.heap.size := by obtain ⟨m, hm⟩ := k1; exact DataW.trod_lt m _ _ _ hm
  obtain ⟨cs1, rfl, hs1⟩ := okWide_struct Tryd.underlying26 (hval 1 26 v1 rfl rfl)
  rw [Tryd.cells26] at hs1
  obtain ⟨y10, y11, y12, y13, y14, rfl⟩ := five_cells hs1
  obtain ⟨m1, hm1⟩ := h1
  obtain ⟨la1, lb1, lc1, ld1, le1, rfl, rfl, rfl, rfl, rfl⟩ := open_place (by simpa [Value.cells] using hm1)
  have k2 := h2
  have lt2 : ∀ x ∈ p2, x.block < W.heap.size := by obtain ⟨m, hm⟩ := k2; exact DataW.trod_lt m _ _ _ hm
  obtain ⟨cs2, rfl, hs2⟩ := okWide_array Tryd.underlying27 (hval 2 27 v2 rfl rfl)
  rw [Tryd.cells27] at hs2
  obtain ⟨y20, y21, rfl⟩ := two_cells hs2
  obtain ⟨m2, hm2⟩ := h2
  obtain ⟨X2, Y2, rfl, rfl, bX2, bY2⟩ := open_pair (by simpa [Value.cells] using hm2)
  have hg : Gt W := gt_of (by rw [← MakeChecks.laidMetH_plain _ _ _ (by kernel_rfl)]; exact hX)
  clear hA0 hval0
  refine (parts_walk hg hin0).mono fun e W' ⟨he, bel⟩ => ?_
  subst he
  exact ⟨_, rfl, _, _, _, [], _, [], hW', trodAll_mk1 (shut_bool Tryd.underlying4 _), (trodAll_mk3 (Below.trod Tryd.laidOut (by kernel_rfl) (of_decide_eq_true (by kernel_rfl)) k0 bel lt0) (Below.trod Tryd.laidOut (by kernel_rfl) (of_decide_eq_true (by kernel_rfl)) k1 bel lt1) (Below.trod Tryd.laidOut (by kernel_rfl) (of_decide_eq_true (by kernel_rfl)) k2 bel lt2)), rfl, bel.frame _, fun h => by cases h⟩

theorem subpelParts_holds : Rows.SubpelPartsSaid :=
  OpenClaim.holds_of_wide 3 Tryd.f3 rfl rfl rfl rfl rfl rfl rfl ⟨rfl, rfl, rfl, rfl, rfl⟩ rfl rfl rfl rfl rfl (by kernel_rfl) Tryd.func3 (by kernel_rfl)
    (of_decide_eq_true (by kernel_rfl)) (by unfold Func.isWrapper; first | (rw [if_pos (by decide +kernel)]; kernel_rfl) | (rw [if_neg (by decide +kernel)]; exact ⟨rfl, rfl⟩))
    (fun os started H enc _ => subpelParts_lifted os started H enc)

theorem subpelParts_card : Rows.SubpelPartsCardSaid :=
  Claim7.holds_tied_plain_at .later [] [.data, .data] true (true, "5b3440635c0ec2e4b703b909baab557bc0faa50a716b58a6ad27b791b5b06666") false subpelParts_holds (fun _ h => by cases h) (by kernel_rfl) (fun _ h => by cases h) subpelParts_row_tie rfl ⟨rfl, rfl⟩ (by kernel_rfl) rfl
    (fun f fn hf hfn => by
      obtain rfl : f = 3 := Option.some.inj ((show Tryd.prog.funcNamed "zoetrope/zoetropelaw14.SubpelParts" = some 3 by kernel_rfl).symm.trans hf) |>.symm
      obtain rfl : fn = Tryd.f3 := (Option.some.inj (Tryd.func3.symm.trans hfn)).symm
      exact ⟨by kernel_rfl, fun j t ht => by
        rw [Tryd.params3] at ht
        have hm : t ∈ ([24, 26, 27] : List TypeId) := by simpa using Array.mem_of_getElem? ht
        have hall : (([24, 26, 27] : List TypeId).all fun u => !Tryd.prog.wantsStandIn u) = true := by kernel_rfl
        exact (show Tryd.prog.wantsStandIn t = false by simpa using List.all_eq_true.1 hall t hm)⟩)
    (by kernel_rfl)
#print axioms subpelParts_card

end Go.Proofs.YtgmdanipcnkhdabDoor
