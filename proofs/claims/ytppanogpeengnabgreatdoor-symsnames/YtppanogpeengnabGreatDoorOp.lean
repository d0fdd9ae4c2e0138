/- DERIVED. The table of shapes that is laid. -/
import Derived.Test.YtppanogpeengnabGreatDoorSa
import Derived.ProofKit
import Derived.OpenShut
import Derived.ShutString
import Derived.ChangeOld
import Derived.SizedLaws
import Derived.Deep.Slices
import Derived.Deep.Strs
import Derived.Lib.LaidTab

namespace Go.Proofs.YtppanogpeengnabGreatDoor
open Go.ChangeShapes Go.WideShapes Go.ChangeAt Go.RowKit

theorem Tryz.own : ownKnob Tryz.prog.godebug = none := by kernel_rfl
theorem Tryz.laidOut : laidOutB Tryz.prog = true := by kernel_rfl
theorem Tryz.cells3 : Tryz.prog.cellsOf 3 = 1 := by kernel_rfl
theorem Tryz.cells4 : Tryz.prog.cellsOf 4 = 1 := by kernel_rfl
theorem gTab : Tryz.prog.globalNamed "zoetrope/syms.shapes" = some 0 := by kernel_rfl
theorem gTabType : (Tryz.prog.globals[0]?).map (·.type) = some 67 := by kernel_rfl
/-- an array, element by element -/
theorem cells_of_arr {H : Type} {enc : TypeId × Value → H} {P : Program} {w : World} {base : Nat} {sp : Nat → Bool} {held : Bool} {fuel : Nat} {t e : TypeId} {n m : Nat} {cs : List Value} {ds : List (DataW H)} {p : List MemPlace}
    (ht : P.underlying t = some (.array n e)) (hce : P.cellsOf e = m) (h : DataW.trod enc P w base sp held fuel t cs = some (.agg ds, p)) :
    ∀ i d, i < n → ds[i]? = some d → ∃ f q, DataW.trod enc P w base sp held f e ((cs.drop (i * m)).take m) = some (d, q) := by
  cases fuel with
  | zero => simp [DataW.trod] at h
  | succ fuel =>
    simp only [DataW.trod, ht, hce] at h
    split at h
    · obtain ⟨xs, hm, hx⟩ := Option.map_eq_some_iff.1 h
      intro i d hi hd
      obtain ⟨b, hb, hf⟩ := Lib.mapM_at hm i i (by simp [hi])
      have h2 : xs.map (·.1) = ds := by
        have := congrArg Prod.fst hx
        simpa using this
      rw [← h2, List.getElem?_map, hb] at hd
      simp only [Option.map_some, Option.some.injEq] at hd
      subst hd
      exact ⟨fuel, b.2, hf⟩
    · cases h

theorem laid_shp : (Rows.laid_zoetrope_syms_shapes : DataW Unit) = .agg (shp.map fun q => .agg [.lit (.int .i64 (q.1 : Nat)), .lit (.int .i64 (q.2.1 : Nat)), .lit (.bool q.2.2)]) := rfl
theorem sh_of {W : World} {d1 d3 : String × DataW Unit} (h : laidMet Tryz.prog [d1, ("zoetrope/syms.shapes", Rows.laid_zoetrope_syms_shapes), d3] W) : Sh W := by
  obtain ⟨ps, ⟨_, _, _, _, _, _, _, _, _, _, ⟨g, t, cs, fuel, p, q, hg, ht, hvar, hd, _, _⟩, _⟩, _⟩ := h
  obtain rfl := Option.some.inj (gTab.symm.trans hg)
  obtain rfl := Option.some.inj (gTabType.symm.trans ht)
  rw [laid_shp] at hd
  have hlen : shp.length = 32 := by decide
  have key : ∀ k, k < 32 → W.cell? ⟨0, k * 3, none⟩ = some (.int .i64 (sC k : Nat)) ∧ W.cell? ⟨0, k * 3 + 1, none⟩ = some (.int .i64 (sV k : Nat)) ∧ W.cell? ⟨0, k * 3 + 2, none⟩ = some (.bool (sS k)) := fun k hk => by
    have hk' : k < shp.length := by omega
    obtain ⟨f, r, hf⟩ := cells_of_arr Tryz.underlying67 (m := 3) (by kernel_rfl) hd k _ hk (by rw [List.getElem?_map, List.getElem?_eq_getElem hk']; rfl)
    have hget : shp[k] = (sC k, sV k, sS k) := by
      unfold sC sV sS
      rw [List.getD_eq_getElem?_getD, List.getElem?_eq_getElem hk']; rfl
    rw [hget] at hf
    obtain ⟨y0, y1, y2, n, hy, hcl, g0, g1, g2⟩ := Deep.trod_struct3 Tryz.underlying66 hf
    simp only [Tryz.cells3, Tryz.cells4] at g0 g1 g2
    obtain ⟨k0, e0, e0', _⟩ := DataW.trod_int Tryz.underlying3 g0
    obtain ⟨k1, e1, e1', _⟩ := DataW.trod_int Tryz.underlying3 g1
    obtain ⟨k2, e2, e2'⟩ := DataW.trod_bool Tryz.underlying4 g2
    subst e0' e1' e2'
    simp only [Prod.mk.injEq, DataW.agg.injEq, List.cons.injEq, DataW.lit.injEq, Lit.int.injEq, true_and, Lit.bool.injEq, and_true] at hy
    obtain ⟨⟨rfl, rfl, rfl⟩, _⟩ := hy
    have c : ∀ j, W.cell? ⟨0, j, none⟩ = cs.toList[j]? := fun j => by rw [World.var?_cell gTab hvar j]; simp
    rw [c, c, c]
    have f0 := congrArg (·[0]?) e0
    have f1 := congrArg (·[0]?) e1
    have f2 := congrArg (·[0]?) e2
    simp [List.getElem?_drop] at f0 f1 f2
    simp only [Array.getElem?_toList]
    exact ⟨f0, f1, f2⟩
  exact ⟨World.block_lt_of_cell? W _ (key 0 (by omega)).1, fun k hk => (key k hk).1, fun k hk => (key k hk).2.1, fun k hk => (key k hk).2.2⟩

end Go.Proofs.YtppanogpeengnabGreatDoor
