/- DERIVED. How long a table that came in can be. -/
import Derived.Test.YtpijgdfhkmailaaOq
namespace Go.Proofs.Ytpijgdfhkmailaa
open Go.ChangeShapes Go.WideShapes Go.ChangeAt Go.RowKit

theorem table_len {H : Type} {enc : TypeId × Value → H} {W : World} {fuel len c : Nat} {a : Option Addr} {v1 : Value} {x : DataW H × List MemPlace} (h : DataW.trod enc Try.prog W 0 (fun _ => true) true fuel 24 [.slice a len c, v1] = some x) (hw : (x.1.weights Try.prog 24).all (· ≤ reachBytes) = true) : len ≤ 70368744175616 := by
  obtain ⟨y0, y1, m, hx, _, g0, g1⟩ := trod_struct2 Try.underlying24 h
  simp only [Try.cells22, Try.cells3] at g0 g1
  simp at g0 g1
  obtain ⟨a', c', C, he, _, _, hlw⟩ := open_nums Try.underlying22 Try.underlying49 Try.cells49 (fun _ h => bounds_u16' h) (by omega) g0
  rw [hx] at hw
  simp only [DataW.weights, Try.underlying24, List.map_cons, List.map_nil, DataW.weightsEach] at hw
  rw [List.all_append, Bool.and_eq_true] at hw
  have hl := hlw hw.1
  rw [Try.bytes49] at hl
  simp only [reachBytes] at hl
  simp only [Value.slice.injEq] at he
  omega

end Go.Proofs.Ytpijgdfhkmailaa
