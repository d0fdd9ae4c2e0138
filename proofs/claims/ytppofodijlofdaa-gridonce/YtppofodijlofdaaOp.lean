/- DERIVED. The arguments of GridNear opened: blocks. -/
import Derived.Test.YtppofodijlofdaaCu
import Derived.ProofKit
import Derived.OpenShut
import Derived.ShutString
import Derived.ChangeOld
import Derived.SizedLaws
import Derived.Deep.Slices
import Derived.Deep.Strs
import Derived.Lib.SmallJoins
namespace Go.Proofs.Ytppofodijlofdaa
open Go.ChangeShapes Go.WideShapes Go.ChangeAt Go.RowKit

theorem Try.own : ownKnob Try.prog.godebug = none := by kernel_rfl
theorem Try.cells40 : Try.prog.cellsOf 40 = 23 := by kernel_rfl
theorem Try.cells4 : Try.prog.cellsOf 4 = 1 := by kernel_rfl
theorem Try.cells35 : Try.prog.cellsOf 35 = 2 := by kernel_rfl
theorem Try.cells38 : Try.prog.cellsOf 38 = 4 := by kernel_rfl
theorem Try.cells53 : Try.prog.cellsOf 53 = 92 := by kernel_rfl
theorem okWide_array {P : Program} {w : World} {r : Reach} {base : Nat} {t e : TypeId} {n : Nat} {v : Value} (ht : P.underlying t = some (.array n e)) (h : Value.okWide P w r base t v) : ∃ cs, v = .agg cs ∧ cs.size = P.cellsOf t := by
  simp only [Value.okWide, ht] at h
  obtain ⟨cs, h1, h2, _⟩ := h
  exact ⟨cs, h1, h2⟩
--[a
/-- what one argument weighs -/
theorem sub_weights {H : Type} {P : Program} {ts : List TypeId} {ds : List (DataW H)} (h : (DataW.weightsEach P ts ds).all (· ≤ reachBytes) = true) {j : Nat} {t : TypeId} {d : DataW H} (ht : ts[j]? = some t) (hd : ds[j]? = some d) : (d.weights P t).all (· ≤ reachBytes) = true := by
  rw [List.all_eq_true] at *
  exact fun n hn => h n (DataW.weights_mem_each ht hd n hn)
section
variable {H : Type} {enc : TypeId × Value → H} {W : World} {base : Nat} {sp : Nat → Bool} {held : Bool} {fuel : Nat}
theorem open_i {c : Value} {x : DataW H × List MemPlace} (h : DataW.trod enc Try.prog W base sp held fuel 3 [c] = some x) : ∃ n, c = .int .i64 n := by
  obtain ⟨k, e, _, _⟩ := DataW.trod_int Try.underlying3 h
  exact ⟨k, by simpa using e⟩
theorem open_b {c : Value} {x : DataW H × List MemPlace} (h : DataW.trod enc Try.prog W base sp held fuel 4 [c] = some x) : ∃ n, c = .bool n := by
  obtain ⟨k, e, _⟩ := DataW.trod_bool Try.underlying4 h
  exact ⟨k, by simpa using e⟩
theorem open_2 {c d : Value} {x : DataW H × List MemPlace} (h : DataW.trod enc Try.prog W base sp held fuel 35 [c, d] = some x) : ∃ n m, c = .int .i64 n ∧ d = .int .i64 m := by
  obtain ⟨xs, m2, _, hx2, _, hlen, hf⟩ := DataW.trod_array Try.underlying35 h
  match xs, hlen with
  | [z0, z1], _ =>
    have f0 := hf 0 (by omega)
    have f1 := hf 1 (by omega)
    simp [Try.cells3] at f0 f1
    obtain ⟨n, rfl⟩ := open_i f0
    obtain ⟨m, rfl⟩ := open_i f1
    exact ⟨n, m, rfl, rfl⟩
theorem open_v {c d : Value} {x : DataW H × List MemPlace} (h : DataW.trod enc Try.prog W base sp held fuel 37 [c, d] = some x) : ∃ n m, c = .int .i64 n ∧ d = .int .i64 m := by
  obtain ⟨y0, y1, m, hx, _, g0, g1⟩ := trod_struct2 Try.underlying37 h
  simp only [Try.cells3] at g0 g1
  simp at g0 g1
  obtain ⟨n, rfl⟩ := open_i g0
  obtain ⟨m, rfl⟩ := open_i g1
  exact ⟨n, m, rfl, rfl⟩
theorem open_4 {a b c d : Value} {x : DataW H × List MemPlace} (h : DataW.trod enc Try.prog W base sp held fuel 38 [a, b, c, d] = some x) : ∃ n m n' m', a = .int .i64 n ∧ b = .int .i64 m ∧ c = .int .i64 n' ∧ d = .int .i64 m' := by
  obtain ⟨xs, m2, _, hx2, _, hlen, hf⟩ := DataW.trod_array Try.underlying38 h
  match xs, hlen with
  | [z0, z1], _ =>
    have f0 := hf 0 (by omega)
    have f1 := hf 1 (by omega)
    simp [Try.cells37] at f0 f1
    obtain ⟨n, m, rfl, rfl⟩ := open_v f0
    obtain ⟨n', m', rfl, rfl⟩ := open_v f1
    exact ⟨n, m, n', m', rfl, rfl, rfl, rfl⟩
theorem open_block {cs : List Value} {x : DataW H × List MemPlace} (h : DataW.trod enc Try.prog W base sp held fuel 40 cs = some x) : ∃ b : Bl, cs = b.cs := by
  obtain ⟨xs, n, _, _, hl, hlen, hf⟩ := DataW.trod_struct Try.underlying40 h
  rw [Try.cells40] at hl
  have hs : ∀ i, i < 19 → ∃ y, xs[i]? = some y := fun i hi => ⟨xs[i]'(by rw [hlen]; exact hi), List.getElem?_eq_getElem _⟩
  match cs, hl with
  | [c0, c1, c2, c3, c4, c5, c6, c7, c8, c9, c10, c11, c12, c13, c14, c15, c16, c17, c18, c19, c20, c21, c22], _ =>
    have g0 := hf 0 _ rfl
    obtain ⟨y0, e0⟩ := hs 0 (by omega)
    rw [e0] at g0
    (try simp only [Try.cells3] at g0)
    obtain ⟨v0, rfl⟩ := open_i (c := c0) (by first | exact g0 | simpa [Try.cells3] using g0)
    have g1 := hf 1 _ rfl
    obtain ⟨y1, e1⟩ := hs 1 (by omega)
    rw [e1] at g1
    (try simp only [Try.cells3] at g1)
    obtain ⟨v1, rfl⟩ := open_i (c := c1) (by first | exact g1 | simpa [Try.cells3] using g1)
    have g2 := hf 2 _ rfl
    obtain ⟨y2, e2⟩ := hs 2 (by omega)
    rw [e2] at g2
    (try simp only [Try.cells3] at g2)
    obtain ⟨v2, rfl⟩ := open_i (c := c2) (by first | exact g2 | simpa [Try.cells3] using g2)
    have g3 := hf 3 _ rfl
    obtain ⟨y3, e3⟩ := hs 3 (by omega)
    rw [e3] at g3
    (try simp only [Try.cells3] at g3)
    obtain ⟨v3, rfl⟩ := open_i (c := c3) (by first | exact g3 | simpa [Try.cells3] using g3)
    have g4 := hf 4 _ rfl
    obtain ⟨y4, e4⟩ := hs 4 (by omega)
    rw [e4] at g4
    (try simp only [Try.cells4] at g4)
    obtain ⟨v4, rfl⟩ := open_b (c := c4) (by first | exact g4 | simpa [Try.cells4] using g4)
    have g5 := hf 5 _ rfl
    obtain ⟨y5, e5⟩ := hs 5 (by omega)
    rw [e5] at g5
    (try simp only [Try.cells4] at g5)
    obtain ⟨v5, rfl⟩ := open_b (c := c5) (by first | exact g5 | simpa [Try.cells4] using g5)
    have g6 := hf 6 _ rfl
    obtain ⟨y6, e6⟩ := hs 6 (by omega)
    rw [e6] at g6
    (try simp only [Try.cells3] at g6)
    obtain ⟨v6, rfl⟩ := open_i (c := c6) (by first | exact g6 | simpa [Try.cells3] using g6)
    have g7 := hf 7 _ rfl
    obtain ⟨y7, e7⟩ := hs 7 (by omega)
    rw [e7] at g7
    (try simp only [Try.cells3] at g7)
    obtain ⟨v7, rfl⟩ := open_i (c := c7) (by first | exact g7 | simpa [Try.cells3] using g7)
    have g8 := hf 8 _ rfl
    obtain ⟨y8, e8⟩ := hs 8 (by omega)
    rw [e8] at g8
    (try simp only [Try.cells3] at g8)
    obtain ⟨v8, rfl⟩ := open_i (c := c8) (by first | exact g8 | simpa [Try.cells3] using g8)
    have g9 := hf 9 _ rfl
    obtain ⟨y9, e9⟩ := hs 9 (by omega)
    rw [e9] at g9
    (try simp only [Try.cells3] at g9)
    obtain ⟨v9, rfl⟩ := open_i (c := c9) (by first | exact g9 | simpa [Try.cells3] using g9)
    have g10 := hf 10 _ rfl
    obtain ⟨y10, e10⟩ := hs 10 (by omega)
    rw [e10] at g10
    (try simp only [Try.cells3] at g10)
    obtain ⟨v10, rfl⟩ := open_i (c := c10) (by first | exact g10 | simpa [Try.cells3] using g10)
    have g11 := hf 11 _ rfl
    obtain ⟨y11, e11⟩ := hs 11 (by omega)
    rw [e11] at g11
    (try simp only [Try.cells3] at g11)
    obtain ⟨v11, rfl⟩ := open_i (c := c11) (by first | exact g11 | simpa [Try.cells3] using g11)
    have g12 := hf 12 _ rfl
    obtain ⟨y12, e12⟩ := hs 12 (by omega)
    rw [e12] at g12
    (try simp only [Try.cells3] at g12)
    obtain ⟨v12, rfl⟩ := open_i (c := c12) (by first | exact g12 | simpa [Try.cells3] using g12)
    have g13 := hf 13 _ rfl
    obtain ⟨y13, e13⟩ := hs 13 (by omega)
    rw [e13] at g13
    (try simp only [Try.cells4] at g13)
    obtain ⟨v13, rfl⟩ := open_b (c := c13) (by first | exact g13 | simpa [Try.cells4] using g13)
    have g14 := hf 14 _ rfl
    obtain ⟨y14, e14⟩ := hs 14 (by omega)
    rw [e14] at g14
    (try simp only [Try.cells35] at g14)
    obtain ⟨v14, v15, rfl, rfl⟩ := open_2 (c := c14) (d := c15)  (by first | exact g14 | simpa [Try.cells35] using g14)
    have g15 := hf 15 _ rfl
    obtain ⟨y15, e15⟩ := hs 15 (by omega)
    rw [e15] at g15
    (try simp only [Try.cells3] at g15)
    obtain ⟨v16, rfl⟩ := open_i (c := c16) (by first | exact g15 | simpa [Try.cells3] using g15)
    have g16 := hf 16 _ rfl
    obtain ⟨y16, e16⟩ := hs 16 (by omega)
    rw [e16] at g16
    (try simp only [Try.cells38] at g16)
    obtain ⟨v17, v18, v19, v20, rfl, rfl, rfl, rfl⟩ := open_4 (a := c17) (b := c18) (c := c19) (d := c20) (by first | exact g16 | simpa [Try.cells38] using g16)
    have g17 := hf 17 _ rfl
    obtain ⟨y17, e17⟩ := hs 17 (by omega)
    rw [e17] at g17
    (try simp only [Try.cells3] at g17)
    obtain ⟨v21, rfl⟩ := open_i (c := c21) (by first | exact g17 | simpa [Try.cells3] using g17)
    have g18 := hf 18 _ rfl
    obtain ⟨y18, e18⟩ := hs 18 (by omega)
    rw [e18] at g18
    (try simp only [Try.cells4] at g18)
    obtain ⟨v22, rfl⟩ := open_b (c := c22) (by first | exact g18 | simpa [Try.cells4] using g18)
    exact ⟨⟨v0, v1, v2, v3, v4, v5, v6, v7, v8, v9, v10, v11, v12, v13, v14, v15, v16, v17, v18, v19, v20, v21, v22⟩, rfl⟩
theorem open_near {cs : List Value} {x : DataW H × List MemPlace} (h : DataW.trod enc Try.prog W base sp held fuel 53 cs = some x) : ∃ N : Nat → Bl, cs = bs [N 0, N 1, N 2, N 3] := by
  obtain ⟨xs, m2, _, hx2, hl, hlen, hf⟩ := DataW.trod_array Try.underlying53 h
  rw [Try.cells53] at hl
  match xs, hlen with
  | [z0, z1, z2, z3], _ =>
    have f0 := hf 0 (by omega)
    have f1 := hf 1 (by omega)
    have f2 := hf 2 (by omega)
    have f3 := hf 3 (by omega)
    rw [Try.cells40] at f0 f1 f2 f3
    obtain ⟨b0, h0⟩ := open_block f0
    obtain ⟨b1, h1⟩ := open_block f1
    obtain ⟨b2, h2⟩ := open_block f2
    obtain ⟨b3, h3⟩ := open_block f3
    refine ⟨fun k => [b0, b1, b2, b3].getD k bz, ?_⟩
    show cs = bs [b0, b1, b2, b3]
    simp only [bs_cons, bs_nil, List.append_nil]
    rw [← h0, ← h1, ← h2, ← h3]
    simp only [Nat.zero_mul, List.drop_zero, Nat.one_mul]
    have e3 : (cs.drop (3 * 23)).take 23 = cs.drop (3 * 23) := List.take_of_length_le (by rw [List.length_drop]; omega)
    rw [e3]
    have d1 : cs.drop (2 * 23) = (cs.drop (2 * 23)).take 23 ++ cs.drop (3 * 23) := by have := (List.take_append_drop 23 (cs.drop (2 * 23))).symm; rw [List.drop_drop] at this; simpa using this
    have d2 : cs.drop 23 = (cs.drop 23).take 23 ++ cs.drop (2 * 23) := by have := (List.take_append_drop 23 (cs.drop 23)).symm; rw [List.drop_drop] at this; simpa using this
    have d3 : cs = cs.take 23 ++ cs.drop 23 := (List.take_append_drop 23 cs).symm
    rw [← d1, ← d2, ← d3]
end
end Go.Proofs.Ytppofodijlofdaa
