/- DERIVED. An array of four whole numbers that came in. -/
import Derived.Test.YtppanogpeengnaaDoorOp
import Derived.Laws.IdiomArrays
namespace Go.Proofs.YtppanogpeengnaaDoor
open Go.ChangeShapes Go.WideShapes Go.ChangeAt Go.RowKit L3

theorem Tryd.cells58 : Tryd.prog.cellsOf 58 = 4 := by kernel_rfl
set_option maxRecDepth 100000 in
theorem open_four {H : Type} {enc : TypeId × Value → H} {W : World} {base : Nat} {v : Value} {d : DataW H} {ps : List MemPlace} (hv : Value.okWide Tryd.prog W .any base 58 v) (h : DataW.Trod enc Tryd.prog W 0 (fun _ => true) true 58 v d ps) :
    ∃ s0 s1 s2 s3 : Int, v = .agg #[.int .i64 s0, .int .i64 s1, .int .i64 s2, .int .i64 s3] := by
  simp only [Value.okWide, Tryd.underlying58] at hv
  obtain ⟨cs, rfl, hs, _⟩ := hv
  rw [Tryd.cells58] at hs
  obtain ⟨fuel, hf⟩ := h
  obtain ⟨l⟩ := cs
  match l, hs with
  | [c0, c1, c2, c3], _ =>
    simp only [Value.cells] at hf
    obtain ⟨y0, y1, y2, y3, n, _, g0, g1, g2, g3⟩ := trod_array4 Tryd.underlying58 Tryd.cells3 hf
    obtain ⟨k0, e0, _⟩ := DataW.trod_int Tryd.underlying3 g0
    obtain ⟨k1, e1, _⟩ := DataW.trod_int Tryd.underlying3 g1
    obtain ⟨k2, e2, _⟩ := DataW.trod_int Tryd.underlying3 g2
    obtain ⟨k3, e3, _⟩ := DataW.trod_int Tryd.underlying3 g3
    simp at e0 e1 e2 e3
    subst e0 e1 e2 e3
    exact ⟨k0, k1, k2, k3, rfl⟩

end Go.Proofs.YtppanogpeengnaaDoor
