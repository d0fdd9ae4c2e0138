/- DERIVED. The arguments of the statements of layer 7, opened: a slice of ints; the table that is laid. -/
import Derived.Test.YtddnnlofdicgkabDoorGb
import Derived.ProofKit
import Derived.OpenShut
import Derived.ShutString
import Derived.ChangeOld
import Derived.SizedLaws
import Derived.Deep.Slices
import Derived.Deep.Strs
import Derived.Lib.LaidTab
namespace Go.Proofs.YtddnnlofdicgkabDoor
open Go.ChangeShapes Go.WideShapes Go.ChangeAt Go.RowKit

theorem Tryd.own : ownKnob Tryd.prog.godebug = none := by kernel_rfl
theorem Tryd.laidOut : laidOutB Tryd.prog = true := by kernel_rfl
theorem Tryd.cells3 : Tryd.prog.cellsOf 3 = 1 := by kernel_rfl
theorem Tryd.cells60 : Tryd.prog.cellsOf 60 = 65 := by kernel_rfl
theorem Tryd.bytes3 : Tryd.prog.bytesOf 3 = 8 := by kernel_rfl
theorem gTab : Tryd.prog.globalNamed "zoetrope/basis.quarter" = some 0 := by kernel_rfl
theorem gTabType : (Tryd.prog.globals[0]?).map (·.type) = some 60 := by kernel_rfl

/-- a slice of ints that came in -/
theorem open_row {H : Type} {enc : TypeId × Value → H} {W : World} {a : Option Addr} {len cap : Nat} {d : DataW H} {ps : List MemPlace} (h : DataW.Trod enc Tryd.prog W 0 (fun _ => true) true 22 (.slice a len cap) d ps) :
    ∃ C : List Int, C.length = len ∧ Si W a C ∧ (d = .nil ∧ len = 0 ∨ ∃ e s, d = .slice e s ∧ e.length = len) := by
  obtain ⟨fuel, hf⟩ := h
  rcases open_ints Tryd.underlying22 Tryd.underlying3 Tryd.cells3 hf with ⟨hcs, hx⟩ | ⟨x, l, c, zs, hcs, _, hl, hm, hz, hx, hcell, hwz⟩
  · simp [Value.cells] at hcs
    obtain ⟨rfl, rfl, rfl⟩ := hcs
    simp only [Prod.mk.injEq] at hx
    exact ⟨[], rfl, Or.inl rfl, Or.inl ⟨hx.1, rfl⟩⟩
  · simp [Value.cells] at hcs
    obtain ⟨rfl, rfl, rfl⟩ := hcs
    simp at hz
    simp only [Prod.mk.injEq] at hx
    have hget : ∀ j, j < len → (zs.take len).getD j 0 = zs.getD j 0 := fun j hj => by
      rw [List.getD_eq_getElem?_getD, List.getD_eq_getElem?_getD, List.getElem?_take_of_lt hj]
    have hlen : (zs.take len).length = len := by simp; omega
    refine ⟨zs.take len, hlen, ?_, Or.inr ⟨_, _, hx.1, by simp [lits]; omega⟩⟩
    by_cases h0 : len = 0
    · exact Or.inl (List.eq_nil_of_length_eq_zero (by omega))
    · have hq0 := hcell 0 (by omega)
      obtain ⟨b, off, spot⟩ := x
      have hspot : spot = none := by simpa [Addr.add] using World.cell?_spot hq0
      subst hspot
      have hbl := World.block_lt_of_cell? W _ hq0
      rw [addr_add] at hbl
      refine Or.inr ⟨b, off, rfl, hbl, fun j hj => ?_⟩
      rw [hlen] at hj
      have := hcell j (by omega)
      rw [addr_add] at this
      rw [this, hget j hj]

theorem qt_of {W : World} (h : laidMet Tryd.prog [("zoetrope/basis.quarter", Rows.laid_zoetrope_basis_quarter)] W) : Qt W := by
  have ht : Lib.TabIs Tryd.prog W "zoetrope/basis.quarter" .i64 qT := Lib.tabIs_of_head (rest := []) gTab gTabType Tryd.underlying60 Tryd.underlying3 Tryd.cells3 Tryd.cells60 h
  have hc : ∀ k, k < 65 → W.cell? ⟨0, k, none⟩ = some (.int .i64 (qv k)) := fun k hk => ht.cell gTab k (by show k < 65; exact hk)
  exact ⟨World.block_lt_of_cell? W _ (hc 0 (by omega)), hc⟩

end Go.Proofs.YtddnnlofdicgkabDoor
