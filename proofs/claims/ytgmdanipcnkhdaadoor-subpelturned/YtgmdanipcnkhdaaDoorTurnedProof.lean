/-
  PROVED HERE: Rows.SubpelTurnedCardSaid: for every plane and place the law SubpelTurned of layer 14 (of a plane turned about the block at the contrary place is the block, turned about) returns true, and the arguments read as they did; both tables of taps that the row lists are laid as the text lays them; no condition beyond the row's own.
-/
import Derived.Test.YtgmdanipcnkhdaaDoorRows
import Derived.Test.YtgmdanipcnkhdaaDoorCards
import Derived.Test.YtgmdanipcnkhdaaDoorTie
import Derived.Test.YtgmdanipcnkhdaaDoorOp
import Derived.Test.YtgmdanipcnkhdaaDoorTu
import Derived.LaidMore
import Derived.Lay
import Derived.SevenTiedAt
import Derived.Stop.Joined
namespace Go.Proofs.YtgmdanipcnkhdaaDoor
open Go.ChangeShapes Go.WideShapes Go.ChangeAt Go.RowKit

set_option maxRecDepth 100000 in
theorem subpelTurned_lifted (os : Os) (started : os.Started) (H : Type) (enc : TypeId × Value → H) :
    ReturnsInHanded {} Tryd.checked os 8 .any (fun w args => (Rows.subpelTurnedSpec.pre enc Tryd.prog Tryd.f8 Rows.subpelTurnedRow.domain false w args ∧ laidMetH Tryd.prog Rows.subpelTurnedRow.laid w) ∧ sizedMet enc Tryd.prog Tryd.f8 (OpenSpec.ofChange Rows.subpelTurnedSpec) false w args)
      (Rows.subpelTurnedSpec.post enc Tryd.prog Tryd.f8 false true false false) := by
  refine returnsInHanded_of_change_and (C := Tryd.checked) (X := fun w _ => laidMetH Tryd.prog Rows.subpelTurnedRow.laid w) (fun _ _ _ hh h => h.of_heap hh) Tryd.own started (by kernel_rfl) Tryd.func8
    (ChangeSpec.witness_shaped (enc := enc) (C := Tryd.checked) (os := os) (X := fun w _ => laidMetH Tryd.prog Rows.subpelTurnedRow.laid w) false (World.laidAll Tryd.prog os Rows.subpelTurnedRow.laid) #[.agg #[.int .i64 0, .int .i64 0, .slice none 0 0], .agg #[.int .i64 0, .int .i64 0, .int .i64 0, .int .i64 0, .int .i64 0]] 8 (World.laidAll_os _ _ _)
      (World.shaped_of_ZipB (by kernel_rfl) (by kernel_rfl)) (by kernel_rfl) (by kernel_rfl) (by kernel_rfl)
      (by rw [MakeChecks.laidMetH_plain _ _ _ (by kernel_rfl)]; exact laidMet_laidAll _ (by kernel_rfl) (by kernel_rfl))) ?_
  intro W base args ds gs before hval0 hW _ hsz0 hX _
  have hsz : (DataW.weightsEach Tryd.prog (Tryd.f8.params.toList ++ Rows.subpelTurnedSpec.plain.varTypes Tryd.prog) (ds ++ gs)).all (· ≤ reachBytes) = true := hsz0
  clear hsz0
  have hval : ∀ (j : Nat) t v, Tryd.f8.params[j]? = some t → args[j]? = some v → Value.okWide Tryd.prog W .any base t v := hval0
  have hW' := hW
  obtain ⟨p, q, hA0, hV, rfl, _, _⟩ := hW
  have hA : DataW.TrodAll enc Tryd.prog W 0 (fun _ => true) true Tryd.f8.params.toList args.toList ds p := hA0
  rw [Tryd.params8] at hA hval hsz
  obtain ⟨v0, v1, d0, d1, p0, p1, rfl, rfl, rfl, h0, h1⟩ := trodAll_two hA
  obtain ⟨rfl, rfl⟩ := trodVars_none hV
  have k0 := h0
  have lt0 : ∀ x ∈ p0, x.block < W.heap.size := by obtain ⟨m, hm⟩ := k0; exact DataW.trod_lt m _ _ _ hm
  have hw0 := sub_weights hsz (j := 0) (t := 30) (d := d0) rfl rfl
  obtain ⟨cs0, rfl, hs0⟩ := okWide_struct Tryd.underlying30 (hval 0 30 v0 rfl rfl)
  rw [Tryd.cells30] at hs0
  obtain ⟨y00, y01, y02, rfl⟩ := three_cells hs0
  obtain ⟨m0, hm0⟩ := h0
  obtain ⟨X0, Y0, a0, c0, C0, rfl, rfl, rfl, hin0, hl0⟩ := open_plane (by simpa [Value.cells] using hm0)
  replace hl0 := hl0 hw0
  have k1 := h1
  have lt1 : ∀ x ∈ p1, x.block < W.heap.size := by obtain ⟨m, hm⟩ := k1; exact DataW.trod_lt m _ _ _ hm
  obtain ⟨cs1, rfl, hs1⟩ := okWide_struct Tryd.underlying32 (hval 1 32 v1 rfl rfl)
  rw [Tryd.cells32] at hs1
  obtain ⟨y10, y11, y12, y13, y14, rfl⟩ := five_cells hs1
  obtain ⟨m1, hm1⟩ := h1
  obtain ⟨la1, lb1, lc1, ld1, le1, rfl, rfl, rfl, rfl, rfl⟩ := open_place (by simpa [Value.cells] using hm1)
  have hg : Gt W := gt_of (by rw [← MakeChecks.laidMetH_plain _ _ _ (by kernel_rfl)]; exact hX)
  clear hA0 hval0
  refine (turned_walk hg hin0).mono fun e W' ⟨he, bel⟩ => ?_
  subst he
  exact ⟨_, rfl, _, _, _, [], _, [], hW', trodAll_mk1 (shut_bool Tryd.underlying4 _), (trodAll_mk2 (Below.trod Tryd.laidOut (by kernel_rfl) (of_decide_eq_true (by kernel_rfl)) k0 bel lt0) (Below.trod Tryd.laidOut (by kernel_rfl) (of_decide_eq_true (by kernel_rfl)) k1 bel lt1)), rfl, bel.frame _, fun h => by cases h⟩

theorem subpelTurned_holds : Rows.SubpelTurnedSaid :=
  OpenClaim.holds_of_wide 8 Tryd.f8 rfl rfl rfl rfl rfl rfl rfl ⟨rfl, rfl, rfl, rfl, rfl⟩ rfl rfl rfl rfl rfl (by kernel_rfl) Tryd.func8 (by kernel_rfl)
    (of_decide_eq_true (by kernel_rfl)) (by unfold Func.isWrapper; first | (rw [if_pos (by decide +kernel)]; kernel_rfl) | (rw [if_neg (by decide +kernel)]; exact ⟨rfl, rfl⟩))
    (fun os started H enc _ => subpelTurned_lifted os started H enc)

theorem subpelTurned_card : Rows.SubpelTurnedCardSaid :=
  Claim7.holds_tied_plain_at .later [] [.data, .data] true (true, "2565ee80439dcff6106f7b81673a65cc5cf36658483a4664900c2cbda478b8cc") false subpelTurned_holds (fun _ h => by cases h) (by kernel_rfl) (fun _ h => by cases h) subpelTurned_row_tie rfl ⟨rfl, rfl⟩ (by kernel_rfl) rfl
    (fun f fn hf hfn => by
      obtain rfl : f = 8 := Option.some.inj ((show Tryd.prog.funcNamed "zoetrope/zoetropelaw14.SubpelTurned" = some 8 by kernel_rfl).symm.trans hf) |>.symm
      obtain rfl : fn = Tryd.f8 := (Option.some.inj (Tryd.func8.symm.trans hfn)).symm
      exact ⟨by kernel_rfl, fun j t ht => by
        rw [Tryd.params8] at ht
        have hm : t ∈ ([30, 32] : List TypeId) := by simpa using Array.mem_of_getElem? ht
        have hall : (([30, 32] : List TypeId).all fun u => !Tryd.prog.wantsStandIn u) = true := by kernel_rfl
        exact (show Tryd.prog.wantsStandIn t = false by simpa using List.all_eq_true.1 hall t hm)⟩)
    (by kernel_rfl)
#print axioms subpelTurned_card

end Go.Proofs.YtgmdanipcnkhdaaDoor
