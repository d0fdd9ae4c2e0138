/- DERIVED. The arguments of the statements of layer 10, opened: a slice of ints; the table of neighbours that is laid. -/
import Derived.Test.YtoddkhaaacpelaaDoorNa
import Derived.ProofKit
import Derived.OpenShut
import Derived.ShutString
import Derived.ChangeOld
import Derived.SizedLaws
import Derived.Deep.Slices
import Derived.Deep.Strs
import Derived.ChangeSame
import Derived.Lib.LaidTab
namespace Go.Proofs.YtoddkhaaacpelaaDoor
open Go.ChangeShapes Go.WideShapes Go.ChangeAt Go.RowKit

theorem Tryd.own : ownKnob Tryd.prog.godebug = none := by kernel_rfl
theorem Tryd.laidOut : laidOutB Tryd.prog = true := by kernel_rfl
theorem Tryd.cells3 : Tryd.prog.cellsOf 3 = 1 := by kernel_rfl
theorem Tryd.bytes3 : Tryd.prog.bytesOf 3 = 8 := by kernel_rfl
theorem gTab : Tryd.prog.globalNamed "zoetrope/scan.near" = some 0 := by kernel_rfl
theorem gTabType : (Tryd.prog.globals[0]?).map (·.type) = some 43 := by kernel_rfl

/-- a slice of ints that came in -/
theorem open_row {H : Type} {enc : TypeId × Value → H} {W : World} {a : Option Addr} {len cap : Nat} {d : DataW H} {ps : List MemPlace} (h : DataW.Trod enc Tryd.prog W 0 (fun _ => true) true 22 (.slice a len cap) d ps) :
    ∃ C : List Int, C.length = len ∧ Si W a C ∧ (d = .nil ∧ len = 0 ∨ ∃ e s, d = .slice e s ∧ e.length = len) := by
  obtain ⟨fuel, hf⟩ := h
  rcases open_ints Tryd.underlying22 Tryd.underlying3 Tryd.cells3 hf with ⟨hcs, hx⟩ | ⟨x, l, c, zs, hcs, _, hl, hm, hz, hx, hcell, hwz⟩
  · simp [Value.cells] at hcs
    obtain ⟨rfl, rfl, rfl⟩ := hcs
    simp only [Prod.mk.injEq] at hx
    exact ⟨[], rfl, Or.inl rfl, Or.inl ⟨hx.1, rfl⟩⟩
  · simp [Value.cells] at hcs
    obtain ⟨rfl, rfl, rfl⟩ := hcs
    simp at hz
    simp only [Prod.mk.injEq] at hx
    have hget : ∀ j, j < len → (zs.take len).getD j 0 = zs.getD j 0 := fun j hj => by
      rw [List.getD_eq_getElem?_getD, List.getD_eq_getElem?_getD, List.getElem?_take_of_lt hj]
    have hlen : (zs.take len).length = len := by simp; omega
    refine ⟨zs.take len, hlen, ?_, Or.inr ⟨_, _, hx.1, by simp [lits]; omega⟩⟩
    by_cases h0 : len = 0
    · exact Or.inl (List.eq_nil_of_length_eq_zero (by omega))
    · have hq0 := hcell 0 (by omega)
      obtain ⟨b, off, spot⟩ := x
      have hspot : spot = none := by simpa [Addr.add] using World.cell?_spot hq0
      subst hspot
      have hbl := World.block_lt_of_cell? W _ hq0
      rw [addr_add] at hbl
      refine Or.inr ⟨b, off, rfl, hbl, fun j hj => ?_⟩
      rw [hlen] at hj
      have := hcell j (by omega)
      rw [addr_add] at this
      rw [this, hget j hj]

/-- an array, element by element -/
theorem cells_of_arr {H : Type} {enc : TypeId × Value → H} {P : Program} {w : World} {base : Nat} {sp : Nat → Bool} {held : Bool} {fuel : Nat} {t e : TypeId} {n m : Nat} {cs : List Value} {ds : List (DataW H)} {p : List MemPlace}
    (ht : P.underlying t = some (.array n e)) (hce : P.cellsOf e = m) (h : DataW.trod enc P w base sp held fuel t cs = some (.agg ds, p)) :
    ∀ i d, i < n → ds[i]? = some d → ∃ f q, DataW.trod enc P w base sp held f e ((cs.drop (i * m)).take m) = some (d, q) := by
  cases fuel with
  | zero => simp [DataW.trod] at h
  | succ fuel =>
    simp only [DataW.trod, ht, hce] at h
    split at h
    · obtain ⟨xs, hm, hx⟩ := Option.map_eq_some_iff.1 h
      intro i d hi hd
      obtain ⟨b, hb, hf⟩ := Lib.mapM_at hm i i (by simp [hi])
      have h2 : xs.map (·.1) = ds := by
        have := congrArg Prod.fst hx
        simpa using this
      rw [← h2, List.getElem?_map, hb] at hd
      simp only [Option.map_some, Option.some.injEq] at hd
      subst hd
      exact ⟨fuel, b.2, hf⟩
    · cases h

def ner : List (Nat × Nat) := [(0, 1), (1, 0), (1, 1), (0, 2), (2, 0)]
theorem ner_at (k : Nat) (hk : k < 5) : ner[k]? = some (dn k, rt k) := by
  have : k = 0 ∨ k = 1 ∨ k = 2 ∨ k = 3 ∨ k = 4 := by omega
  rcases this with rfl | rfl | rfl | rfl | rfl <;> rfl
theorem laid_ner : (Rows.laid_zoetrope_scan_near : DataW Unit) = .agg (ner.map fun q => .agg [.lit (.int .i64 (q.1 : Nat)), .lit (.int .i64 (q.2 : Nat))]) := rfl
theorem nt_of {W : World} (h : laidMet Tryd.prog [("zoetrope/scan.near", Rows.laid_zoetrope_scan_near)] W) : Nt W := by
  obtain ⟨ps, ⟨g, t, cs, fuel, p, q, hg, ht, hvar, hd, _, _⟩, _⟩ := h
  obtain rfl := Option.some.inj (gTab.symm.trans hg)
  obtain rfl := Option.some.inj (gTabType.symm.trans ht)
  rw [laid_ner] at hd
  have key : ∀ k, k < 5 → W.cell? ⟨0, k * 2, none⟩ = some (.int .i64 (dn k : Nat)) ∧ W.cell? ⟨0, k * 2 + 1, none⟩ = some (.int .i64 (rt k : Nat)) := fun k hk => by
    obtain ⟨f, r, hf⟩ := cells_of_arr Tryd.underlying43 (m := 2) (by kernel_rfl) hd k _ hk (by rw [List.getElem?_map, ner_at k hk]; rfl)
    obtain ⟨y0, y1, n, hy, hcl, g0, g1⟩ := trod_struct2 Tryd.underlying42 hf
    simp only [Tryd.cells3] at g0 g1
    obtain ⟨k0, e0, e0', _⟩ := DataW.trod_int Tryd.underlying3 g0
    obtain ⟨k1, e1, e1', _⟩ := DataW.trod_int Tryd.underlying3 g1
    subst e0' e1'
    simp only [Prod.mk.injEq, DataW.agg.injEq, List.cons.injEq, DataW.lit.injEq, Lit.int.injEq, true_and, and_true] at hy
    obtain ⟨⟨rfl, rfl⟩, _⟩ := hy
    have c : ∀ j, W.cell? ⟨0, j, none⟩ = cs.toList[j]? := fun j => by rw [World.var?_cell gTab hvar j]; simp
    rw [c, c]
    have f0 := congrArg (·[0]?) e0
    have f1 := congrArg (·[0]?) e1
    simp [List.getElem?_drop] at f0 f1
    simp only [Array.getElem?_toList]
    exact ⟨f0, f1⟩
  exact ⟨World.block_lt_of_cell? W _ (key 0 (by omega)).1, fun k hk => (key k hk).1, fun k hk => (key k hk).2⟩

end Go.Proofs.YtoddkhaaacpelaaDoor
