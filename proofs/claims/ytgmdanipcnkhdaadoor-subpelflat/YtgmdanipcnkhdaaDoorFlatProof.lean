/-
  PROVED HERE: Rows.SubpelFlatCardSaid: for every sample, pair of numbers and place the law SubpelFlat of layer 14 (a plane that is all alike gives blocks that are all alike) returns true, and the arguments read as they did; both tables of taps that the row lists are laid as the text lays them; no condition beyond the row's own.
-/
import Derived.Test.YtgmdanipcnkhdaaDoorRows
import Derived.Test.YtgmdanipcnkhdaaDoorCards
import Derived.Test.YtgmdanipcnkhdaaDoorTie
import Derived.Test.YtgmdanipcnkhdaaDoorOp
import Derived.Test.YtgmdanipcnkhdaaDoorFl
import Derived.LaidMore
import Derived.Lay
import Derived.SevenTiedAt
import Derived.Stop.Joined
namespace Go.Proofs.YtgmdanipcnkhdaaDoor
open Go.ChangeShapes Go.WideShapes Go.ChangeAt Go.RowKit

set_option maxRecDepth 100000 in
theorem subpelFlat_lifted (os : Os) (started : os.Started) (H : Type) (enc : TypeId × Value → H) :
    ReturnsInHanded {} Tryd.checked os 7 .any (fun w args => (Rows.subpelFlatSpec.pre enc Tryd.prog Tryd.f7 Rows.subpelFlatRow.domain false w args ∧ laidMetH Tryd.prog Rows.subpelFlatRow.laid w) ∧ sizedMet enc Tryd.prog Tryd.f7 (OpenSpec.ofChange Rows.subpelFlatSpec) false w args)
      (Rows.subpelFlatSpec.post enc Tryd.prog Tryd.f7 false true false false) := by
  refine returnsInHanded_of_change_and (C := Tryd.checked) (X := fun w _ => laidMetH Tryd.prog Rows.subpelFlatRow.laid w) (fun _ _ _ hh h => h.of_heap hh) Tryd.own started (by kernel_rfl) Tryd.func7
    (ChangeSpec.witness_shaped (enc := enc) (C := Tryd.checked) (os := os) (X := fun w _ => laidMetH Tryd.prog Rows.subpelFlatRow.laid w) false (World.laidAll Tryd.prog os Rows.subpelFlatRow.laid) #[.int .u8 0, .agg #[.int .i64 0, .int .i64 0], .agg #[.int .i64 0, .int .i64 0, .int .i64 0, .int .i64 0, .int .i64 0]] 8 (World.laidAll_os _ _ _)
      (World.shaped_of_ZipB (by kernel_rfl) (by kernel_rfl)) (by kernel_rfl) (by kernel_rfl) (by kernel_rfl)
      (by rw [MakeChecks.laidMetH_plain _ _ _ (by kernel_rfl)]; exact laidMet_laidAll _ (by kernel_rfl) (by kernel_rfl))) ?_
  intro W base args ds gs before hval0 hW _ hsz0 hX _
  have hsz : (DataW.weightsEach Tryd.prog (Tryd.f7.params.toList ++ Rows.subpelFlatSpec.plain.varTypes Tryd.prog) (ds ++ gs)).all (· ≤ reachBytes) = true := hsz0
  clear hsz0
  have hval : ∀ (j : Nat) t v, Tryd.f7.params[j]? = some t → args[j]? = some v → Value.okWide Tryd.prog W .any base t v := hval0
  have hW' := hW
  obtain ⟨p, q, hA0, hV, rfl, _, _⟩ := hW
  have hA : DataW.TrodAll enc Tryd.prog W 0 (fun _ => true) true Tryd.f7.params.toList args.toList ds p := hA0
  rw [Tryd.params7] at hA hval hsz
  obtain ⟨v0, v1, v2, d0, d1, d2, p0, p1, p2, rfl, rfl, rfl, h0, h1, h2⟩ := trodAll_three hA
  obtain ⟨rfl, rfl⟩ := trodVars_none hV
  obtain ⟨x0, rfl, rfl, rfl, wx0⟩ := open_int Tryd.underlying5 (hval 0 5 v0 rfl rfl) h0
  have k0 := h0
  have bx0 := bounds_u8' wx0
  obtain ⟨q0, rfl⟩ : ∃ q : Nat, x0 = (q : Int) := ⟨x0.toNat, by omega⟩
  have k1 := h1
  have lt1 : ∀ x ∈ p1, x.block < W.heap.size := by obtain ⟨m, hm⟩ := k1; exact DataW.trod_lt m _ _ _ hm
  obtain ⟨cs1, rfl, hs1⟩ := okWide_array Tryd.underlying45 (hval 1 45 v1 rfl rfl)
  rw [Tryd.cells45] at hs1
  obtain ⟨y10, y11, rfl⟩ := two_cells hs1
  obtain ⟨m1, hm1⟩ := h1
  obtain ⟨X1, Y1, rfl, rfl, bX1, bY1⟩ := open_pair (by simpa [Value.cells] using hm1)
  have k2 := h2
  have lt2 : ∀ x ∈ p2, x.block < W.heap.size := by obtain ⟨m, hm⟩ := k2; exact DataW.trod_lt m _ _ _ hm
  obtain ⟨cs2, rfl, hs2⟩ := okWide_struct Tryd.underlying32 (hval 2 32 v2 rfl rfl)
  rw [Tryd.cells32] at hs2
  obtain ⟨y20, y21, y22, y23, y24, rfl⟩ := five_cells hs2
  obtain ⟨m2, hm2⟩ := h2
  obtain ⟨la2, lb2, lc2, ld2, le2, rfl, rfl, rfl, rfl, rfl⟩ := open_place (by simpa [Value.cells] using hm2)
  have hg : Gt W := gt_of (by rw [← MakeChecks.laidMetH_plain _ _ _ (by kernel_rfl)]; exact hX)
  clear hA0 hval0
  refine (flat_walk hg (by omega)).mono fun e W' ⟨he, bel⟩ => ?_
  subst he
  exact ⟨_, rfl, _, _, _, [], _, [], hW', trodAll_mk1 (shut_bool Tryd.underlying4 _), (trodAll_mk3 (by first | exact k0 | exact shut_int Tryd.underlying5 wx0) (Below.trod Tryd.laidOut (by kernel_rfl) (of_decide_eq_true (by kernel_rfl)) k1 bel lt1) (Below.trod Tryd.laidOut (by kernel_rfl) (of_decide_eq_true (by kernel_rfl)) k2 bel lt2)), rfl, bel.frame _, fun h => by cases h⟩

theorem subpelFlat_holds : Rows.SubpelFlatSaid :=
  OpenClaim.holds_of_wide 7 Tryd.f7 rfl rfl rfl rfl rfl rfl rfl ⟨rfl, rfl, rfl, rfl, rfl⟩ rfl rfl rfl rfl rfl (by kernel_rfl) Tryd.func7 (by kernel_rfl)
    (of_decide_eq_true (by kernel_rfl)) (by unfold Func.isWrapper; first | (rw [if_pos (by decide +kernel)]; kernel_rfl) | (rw [if_neg (by decide +kernel)]; exact ⟨rfl, rfl⟩))
    (fun os started H enc _ => subpelFlat_lifted os started H enc)

theorem subpelFlat_card : Rows.SubpelFlatCardSaid :=
  Claim7.holds_tied_plain_at .later [] [.data, .data] true (true, "2565ee80439dcff6106f7b81673a65cc5cf36658483a4664900c2cbda478b8cc") false subpelFlat_holds (fun _ h => by cases h) (by kernel_rfl) (fun _ h => by cases h) subpelFlat_row_tie rfl ⟨rfl, rfl⟩ (by kernel_rfl) rfl
    (fun f fn hf hfn => by
      obtain rfl : f = 7 := Option.some.inj ((show Tryd.prog.funcNamed "zoetrope/zoetropelaw14.SubpelFlat" = some 7 by kernel_rfl).symm.trans hf) |>.symm
      obtain rfl : fn = Tryd.f7 := (Option.some.inj (Tryd.func7.symm.trans hfn)).symm
      exact ⟨by kernel_rfl, fun j t ht => by
        rw [Tryd.params7] at ht
        have hm : t ∈ ([5, 45, 32] : List TypeId) := by simpa using Array.mem_of_getElem? ht
        have hall : (([5, 45, 32] : List TypeId).all fun u => !Tryd.prog.wantsStandIn u) = true := by kernel_rfl
        exact (show Tryd.prog.wantsStandIn t = false by simpa using List.all_eq_true.1 hall t hm)⟩)
    (by kernel_rfl)
#print axioms subpelFlat_card

end Go.Proofs.YtgmdanipcnkhdaaDoor
