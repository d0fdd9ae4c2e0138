/- DERIVED. A slice of things to code has room. -/
import Derived.Test.YtppanogpeengnaaDoorOp
import Derived.Test.YtppanogpeengnaaDoorUd
namespace Go.Proofs.YtppanogpeengnaaDoor
open Go.ChangeShapes Go.WideShapes Go.ChangeAt Go.RowKit L3

theorem dos_cap {H : Type} {enc : TypeId × Value → H} {W : World} {a : Option Addr} {len cap : Nat} {d : DataW H} {ps : List MemPlace} (h : DataW.Trod enc Tryd.prog W 0 (fun _ => true) true 22 (.slice a len cap) d ps) : len ≤ cap := by
  obtain ⟨fuel, hf⟩ := h
  rcases Deep.open_slice Tryd.underlying22 hf with ⟨hcs, _⟩ | ⟨x, l, c, m, n, D, Pl, hcs, _, hl, _⟩
  · simp [Value.cells] at hcs
    omega
  · simp [Value.cells] at hcs
    omega

end Go.Proofs.YtppanogpeengnaaDoor
