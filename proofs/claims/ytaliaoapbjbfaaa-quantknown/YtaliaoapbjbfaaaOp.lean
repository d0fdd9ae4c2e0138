/- DERIVED. The arguments of the statements of layer 9, opened: a frame's header. -/
import Derived.Test.YtaliaoapbjbfaaaGb
import Derived.ProofKit
import Derived.OpenShut
import Derived.ShutString
import Derived.ChangeOld
import Derived.SizedLaws
import Derived.Deep.Slices
import Derived.Deep.Strs
import Derived.Lib.SmallJoins
namespace Go.Proofs.Ytaliaoapbjbfaaa
open Go.ChangeShapes Go.WideShapes Go.ChangeAt Go.RowKit

theorem Try.own : ownKnob Try.prog.godebug = none := by kernel_rfl
theorem Try.laidOut : laidOutB Try.prog = true := by kernel_rfl
theorem Try.cells3 : Try.prog.cellsOf 3 = 1 := by kernel_rfl
theorem Try.cells23 : Try.prog.cellsOf 23 = 5 := by kernel_rfl
theorem Try.cells28 : Try.prog.cellsOf 28 = 30 := by kernel_rfl
theorem bounds_i64' {n : Int} (h : (Lit.int .i64 n).wf = true) : -9223372036854775808 ≤ n ∧ n ≤ 9223372036854775807 := by
  have h1 : IntKind.i64.min = -9223372036854775808 := rfl
  have h2 : IntKind.i64.max = 9223372036854775807 := rfl
  simp only [Lit.wf, Bool.and_eq_true, decide_eq_true_eq] at h
  omega
theorem thirty_cells {cs : Array Value} (h : cs.size = 30) : ∃ y0 y1 y2 y3 y4 y5 y6 y7 y8 y9 y10 y11 y12 y13 y14 y15 y16 y17 y18 y19 y20 y21 y22 y23 y24 y25 y26 y27 y28 y29, cs = #[y0, y1, y2, y3, y4, y5, y6, y7, y8, y9, y10, y11, y12, y13, y14, y15, y16, y17, y18, y19, y20, y21, y22, y23, y24, y25, y26, y27, y28, y29] := by
  obtain ⟨l⟩ := cs
  match l, h with
  | [y0, y1, y2, y3, y4, y5, y6, y7, y8, y9, y10, y11, y12, y13, y14, y15, y16, y17, y18, y19, y20, y21, y22, y23, y24, y25, y26, y27, y28, y29], _ => exact ⟨y0, y1, y2, y3, y4, y5, y6, y7, y8, y9, y10, y11, y12, y13, y14, y15, y16, y17, y18, y19, y20, y21, y22, y23, y24, y25, y26, y27, y28, y29, rfl⟩
/-- a header's cells: its base and its deltas -/
theorem open_head {H : Type} {enc : TypeId × Value → H} {W : World} {fuel : Nat} {y0 y1 y2 y3 y4 y5 y6 y7 y8 y9 y10 y11 y12 y13 y14 y15 y16 y17 y18 y19 y20 y21 y22 y23 y24 y25 y26 y27 y28 y29 : Value} {x : DataW H × List MemPlace} (h : DataW.trod enc Try.prog W 0 (fun _ => true) true fuel 28 [y0, y1, y2, y3, y4, y5, y6, y7, y8, y9, y10, y11, y12, y13, y14, y15, y16, y17, y18, y19, y20, y21, y22, y23, y24, y25, y26, y27, y28, y29] = some x) :
    ∃ B d0 d1 d2 d3 d4, y9 = .int .i64 B ∧ y10 = .int .i64 d0 ∧ y11 = .int .i64 d1 ∧ y12 = .int .i64 d2 ∧ y13 = .int .i64 d3 ∧ y14 = .int .i64 d4 := by
  obtain ⟨xs, n, _, rfl, hl, hlen, hf⟩ := DataW.trod_struct Try.underlying28 h
  have f7 := hf 7 { name := "Base", type := 3, offset := 9, embedded := false, tag := "", pkgPath := "", byteOffset := 64 } rfl
  have f8 := hf 8 { name := "Deltas", type := 23, offset := 10, embedded := false, tag := "", pkgPath := "", byteOffset := 72 } rfl
  rw [List.getElem?_eq_getElem (by rw [hlen]; decide)] at f7 f8
  rw [Try.cells3] at f7
  rw [Try.cells23] at f8
  simp at f7 f8
  obtain ⟨k0, e0, _, w0⟩ := DataW.trod_int Try.underlying3 f7
  obtain ⟨zs, m2, _, hx2, _, hlen2, hg⟩ := DataW.trod_array Try.underlying23 f8
  match zs, hlen2 with
  | [z0, z1, z2, z3, z4], _ =>
    have g0 := hg 0 (by omega)
    have g1 := hg 1 (by omega)
    have g2 := hg 2 (by omega)
    have g3 := hg 3 (by omega)
    have g4 := hg 4 (by omega)
    simp [Try.cells3] at g0 g1 g2 g3 g4
    obtain ⟨k1, e1, _⟩ := DataW.trod_int Try.underlying3 g0
    obtain ⟨k2, e2, _⟩ := DataW.trod_int Try.underlying3 g1
    obtain ⟨k3, e3, _⟩ := DataW.trod_int Try.underlying3 g2
    obtain ⟨k4, e4, _⟩ := DataW.trod_int Try.underlying3 g3
    obtain ⟨k5, e5, _⟩ := DataW.trod_int Try.underlying3 g4
    simp at e0 e1 e2 e3 e4 e5
    exact ⟨k0, k1, k2, k3, k4, k5, e0, e1, e2, e3, e4, e5⟩

end Go.Proofs.Ytaliaoapbjbfaaa
