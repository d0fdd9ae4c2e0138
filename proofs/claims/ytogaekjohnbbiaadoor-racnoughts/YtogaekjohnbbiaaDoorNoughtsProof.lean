/-
  PROVED HERE: Rows.RacNoughtsCardSaid: for every slice of bytes, every number and every list of parts the law RacNoughts of layer 2 (noughts at the end do not count) returns true, and the arguments read as they did; the two tables of unicode/utf8 that the row lists are laid as the text lays them; no condition beyond the row's own.
-/
import Derived.Test.YtogaekjohnbbiaaDoorRows
import Derived.Test.YtogaekjohnbbiaaDoorCards
import Derived.Test.YtogaekjohnbbiaaDoorTie
import Derived.Test.YtogaekjohnbbiaaDoorOp
import Derived.Test.YtogaekjohnbbiaaDoorOq
import Derived.Test.YtogaekjohnbbiaaDoorLwI
import Derived.LaidMore
import Derived.Lay
import Derived.SevenTiedAt
import Derived.Stop.Joined
namespace Go.Proofs.YtogaekjohnbbiaaDoor
open Go.ChangeShapes Go.WideShapes Go.ChangeAt Go.RowKit

set_option maxRecDepth 100000 in
theorem racNoughts_lifted (os : Os) (started : os.Started) (H : Type) (enc : TypeId × Value → H) :
    ReturnsInHanded {} Tryd.checked os 7 .any (fun w args => (Rows.racNoughtsSpec.pre enc Tryd.prog Tryd.f7 Rows.racNoughtsRow.domain false w args ∧ laidMetH Tryd.prog Rows.racNoughtsRow.laid w) ∧ sizedMet enc Tryd.prog Tryd.f7 (OpenSpec.ofChange Rows.racNoughtsSpec) false w args)
      (Rows.racNoughtsSpec.post enc Tryd.prog Tryd.f7 false true false false) := by
  refine returnsInHanded_of_change_and (C := Tryd.checked) (X := fun w _ => laidMetH Tryd.prog Rows.racNoughtsRow.laid w) (fun _ _ _ hh h => h.of_heap hh) Tryd.own started (by kernel_rfl) Tryd.func7
    (ChangeSpec.witness_shaped (enc := enc) (C := Tryd.checked) (os := os) (X := fun w _ => laidMetH Tryd.prog Rows.racNoughtsRow.laid w) false (World.laidAll Tryd.prog os Rows.racNoughtsRow.laid) #[.slice none 0 0, .int .i64 0, .slice none 0 0] 8 (World.laidAll_os _ _ _)
      (World.shaped_of_ZipB (by kernel_rfl) (by kernel_rfl)) (by kernel_rfl) (by kernel_rfl) (by kernel_rfl)
      (by rw [MakeChecks.laidMetH_plain _ _ _ (by kernel_rfl)]; exact laidMet_laidAll _ (by kernel_rfl) (by kernel_rfl))) ?_
  intro W base args ds gs before hval0 hW _ hsz0 _ _
  have hsz : (DataW.weightsEach Tryd.prog (Tryd.f7.params.toList ++ Rows.racNoughtsSpec.plain.varTypes Tryd.prog) (ds ++ gs)).all (· ≤ reachBytes) = true := hsz0
  clear hsz0
  have hval : ∀ (j : Nat) t v, Tryd.f7.params[j]? = some t → args[j]? = some v → Value.okWide Tryd.prog W .any base t v := hval0
  have hW' := hW
  obtain ⟨p, q, hA0, hV, rfl, _, _⟩ := hW
  have hA : DataW.TrodAll enc Tryd.prog W 0 (fun _ => true) true Tryd.f7.params.toList args.toList ds p := hA0
  rw [Tryd.params7] at hA hval hsz
  obtain ⟨v0, v1, v2, d0, d1, d2, p0, p1, p2, rfl, rfl, rfl, h0, h1, h2⟩ := trodAll_three hA
  obtain ⟨rfl, rfl⟩ := trodVars_none hV
  obtain ⟨a0, len0, cap0, rfl⟩ := okWide_slice Tryd.underlying32 (hval 0 32 v0 rfl rfl)
  have k0 := h0
  have lt0 : ∀ x ∈ p0, x.block < W.heap.size := by obtain ⟨m, hm⟩ := k0; exact DataW.trod_lt m _ _ _ hm
  obtain ⟨x1, rfl, rfl, rfl, wx1⟩ := open_int Tryd.underlying3 (hval 1 3 v1 rfl rfl) h1
  have k1 := h1
  obtain ⟨a2, len2, cap2, rfl⟩ := okWide_slice Tryd.underlying22 (hval 2 22 v2 rfl rfl)
  have k2 := h2
  have lt2 : ∀ x ∈ p2, x.block < W.heap.size := by obtain ⟨m, hm⟩ := k2; exact DataW.trod_lt m _ _ _ hm
  obtain ⟨zs0, rfl, hsrc0, hz0, hd0⟩ := open_bytes h0
  have hl0 : zs0.length ≤ 140737488351232 := by
    rcases hd0 with ⟨_, h⟩ | ⟨e, s, rfl, h⟩
    · omega
    · have := sized_slice hsz (j := 0) (t := 32) (e := 5) rfl rfl Tryd.underlying32
      rw [Tryd.bytes5] at this
      simp only [reachBytes] at this
      omega
  obtain ⟨L2, rfl, hpt2, hd2⟩ := open_parts h2
  have hl2 : L2.length ≤ 140737488351232 := by
    rcases hd2 with ⟨_, h⟩ | ⟨e, s, rfl, h⟩
    · omega
    · have := sized_slice hsz (j := 2) (t := 22) (e := 31) rfl rfl Tryd.underlying22
      rw [Tryd.bytes31] at this
      simp only [reachBytes] at this
      omega
  clear hA0 hval0
  refine (noughts_walk W a0 cap0 zs0 x1 a2 cap2 L2 hsrc0 (open_cap k0) hz0 (by omega) hpt2 (by omega)).mono fun e W' ⟨he, bel⟩ => ?_
  subst he
  exact ⟨_, rfl, _, _, _, [], _, [], hW', trodAll_mk1 (shut_bool Tryd.underlying4 _), (trodAll_mk3 (Below.trod Tryd.laidOut (by kernel_rfl) (of_decide_eq_true (by kernel_rfl)) k0 bel lt0) (by first | exact k1 | exact shut_int Tryd.underlying3 wx1) (Below.trod Tryd.laidOut (by kernel_rfl) (of_decide_eq_true (by kernel_rfl)) k2 bel lt2)), rfl, bel.frame _, fun h => by cases h⟩

theorem racNoughts_holds : Rows.RacNoughtsSaid :=
  OpenClaim.holds_of_wide 7 Tryd.f7 rfl rfl rfl rfl rfl rfl rfl ⟨rfl, rfl, rfl, rfl, rfl⟩ rfl rfl rfl rfl rfl (by kernel_rfl) Tryd.func7 (by kernel_rfl)
    (of_decide_eq_true (by kernel_rfl)) (by unfold Func.isWrapper; first | (rw [if_pos (by decide +kernel)]; kernel_rfl) | (rw [if_neg (by decide +kernel)]; exact ⟨rfl, rfl⟩))
    (fun os started H enc _ => racNoughts_lifted os started H enc)

theorem racNoughts_card : Rows.RacNoughtsCardSaid :=
  Claim7.holds_tied_plain_at .later [] [.data, .pinned] true (true, "f2d6f4b9ccd32a247dc5f36e3abc098bfa78b15b9d1007e2580f656167e5294e") false racNoughts_holds (fun _ h => by cases h) (by kernel_rfl) (fun _ h => by cases h) racNoughts_row_tie rfl ⟨rfl, rfl⟩ (by kernel_rfl) rfl
    (fun f fn hf hfn => by
      obtain rfl : f = 7 := Option.some.inj ((show Tryd.prog.funcNamed "zoetrope/zoetropelaw02.RacNoughts" = some 7 by kernel_rfl).symm.trans hf) |>.symm
      obtain rfl : fn = Tryd.f7 := (Option.some.inj (Tryd.func7.symm.trans hfn)).symm
      exact ⟨by kernel_rfl, fun j t ht => by
        rw [Tryd.params7] at ht
        have hm : t ∈ ([32, 3, 22] : List TypeId) := by simpa using Array.mem_of_getElem? ht
        have hall : (([32, 3, 22] : List TypeId).all fun u => !Tryd.prog.wantsStandIn u) = true := by kernel_rfl
        exact (show Tryd.prog.wantsStandIn t = false by simpa using List.all_eq_true.1 hall t hm)⟩)
    (by kernel_rfl)
#print axioms racNoughts_card

end Go.Proofs.YtogaekjohnbbiaaDoor
