/- DERIVED. The arguments of the statements of layer 5, opened: samples, a plane, a rectangle, a frame, a pair of numbers. -/
import Derived.Test.YtlgfkkegehpllabPi
import Derived.ProofKit
import Derived.OpenShut
import Derived.ShutString
import Derived.ChangeOld
import Derived.SizedLaws
import Derived.Deep.Slices
import Derived.Deep.Strs
import Derived.Lib.SmallJoins
namespace Go.Proofs.Ytlgfkkegehpllab
open Go.ChangeShapes Go.WideShapes Go.ChangeAt Go.RowKit

theorem Try.own : ownKnob Try.prog.godebug = none := by kernel_rfl
theorem Try.laidOut : laidOutB Try.prog = true := by kernel_rfl
theorem Try.cells3 : Try.prog.cellsOf 3 = 1 := by kernel_rfl
theorem Try.cells5 : Try.prog.cellsOf 5 = 1 := by kernel_rfl
theorem Try.cells22 : Try.prog.cellsOf 22 = 1 := by kernel_rfl
theorem Try.cells24 : Try.prog.cellsOf 24 = 3 := by kernel_rfl
theorem Try.cells32 : Try.prog.cellsOf 32 = 4 := by kernel_rfl
theorem Try.cells46 : Try.prog.cellsOf 46 = 9 := by kernel_rfl
theorem Try.cells48 : Try.prog.cellsOf 48 = 9 := by kernel_rfl
theorem Try.bytes5 : Try.prog.bytesOf 5 = 1 := by kernel_rfl

theorem bounds_u8' {n : Int} (h : (Lit.int .u8 n).wf = true) : 0 ≤ n ∧ n < 256 := by
  have h1 : IntKind.u8.min = 0 := rfl
  have h2 : IntKind.u8.max = 255 := rfl
  simp only [Lit.wf, Bool.and_eq_true, decide_eq_true_eq] at h
  omega
theorem bounds_i64' {n : Int} (h : (Lit.int .i64 n).wf = true) : -9223372036854775808 ≤ n ∧ n ≤ 9223372036854775807 := by
  have h1 : IntKind.i64.min = -9223372036854775808 := rfl
  have h2 : IntKind.i64.max = 9223372036854775807 := rfl
  simp only [Lit.wf, Bool.and_eq_true, decide_eq_true_eq] at h
  omega

/-- what one argument weighs -/
theorem sub_weights {H : Type} {P : Program} {ts : List TypeId} {ds : List (DataW H)} (h : (DataW.weightsEach P ts ds).all (· ≤ reachBytes) = true) {j : Nat} {t : TypeId} {d : DataW H} (ht : ts[j]? = some t) (hd : ds[j]? = some d) : (d.weights P t).all (· ≤ reachBytes) = true := by
  rw [List.all_eq_true] at *
  exact fun n hn => h n (DataW.weights_mem_each ht hd n hn)

/-- a slice of samples -/
theorem open_bytes {H : Type} {enc : TypeId × Value → H} {W : World} {fuel : Nat} {v : Value} {x : DataW H × List MemPlace} (h : DataW.trod enc Try.prog W 0 (fun _ => true) true fuel 22 [v] = some x) :
    ∃ a c C, v = .slice a C.length c ∧ Sl W .u8 a C ∧ Byt C ∧ C.length ≤ c ∧ ((x.1.weights Try.prog 22).all (· ≤ reachBytes) = true → C.length ≤ 140737488355328) := by
  rcases open_ints Try.underlying22 Try.underlying5 Try.cells5 h with ⟨hcs, hx⟩ | ⟨a, l, c, zs, hcs, _, hl, hm, hz, hx, hcell, hwz⟩
  · simp at hcs
    subst hcs
    exact ⟨none, 0, [], rfl, Or.inl rfl, fun j => by simp, Nat.le_refl _, fun _ => by simp⟩
  · simp at hcs
    subst hcs
    simp at hz
    have hget : ∀ j, j < l → ((zs.take l).map Int.toNat).getD j 0 = (zs.getD j 0).toNat := fun j hj => by
      rw [List.getD_eq_getElem?_getD, List.getD_eq_getElem?_getD, List.getElem?_map, List.getElem?_take_of_lt hj]
      rw [List.getElem?_eq_getElem (show j < zs.length by omega)]
      rfl
    have hin : ∀ j, j < l → 0 ≤ zs.getD j 0 ∧ zs.getD j 0 < 256 := fun j hj => by
      rw [List.getD_eq_getElem?_getD, List.getElem?_eq_getElem (show j < zs.length by omega)]
      exact bounds_u8' (hwz _ (List.getElem_mem _))
    have hlen : ((zs.take l).map Int.toNat).length = l := by simp; omega
    refine ⟨some a, c, (zs.take l).map Int.toNat, by rw [hlen], ?_, fun i => ?_, by rw [hlen]; exact hl, fun hw => ?_⟩
    · by_cases h0 : l = 0
      · left; exact List.eq_nil_of_length_eq_zero (by rw [hlen]; exact h0)
      · have hc0 := hcell 0 (by omega)
        obtain ⟨b, off, spot⟩ := a
        have hspot : spot = none := by simpa [Addr.add] using World.cell?_spot hc0
        subst hspot
        have hbl := World.block_lt_of_cell? W _ hc0
        rw [addr_add] at hbl
        refine Or.inr ⟨b, off, rfl, hbl, fun j hj => ?_⟩
        rw [hlen] at hj
        have := hin j hj
        rw [← addr_add, hcell j (by omega), hget j hj, show (((zs.getD j 0).toNat : Nat) : Int) = zs.getD j 0 from by omega]
    · by_cases hi : i < l
      · rw [hget i hi]; have := hin i hi; omega
      · rw [List.getD_eq_getElem?_getD, List.getElem?_eq_none (by omega)]; exact Nat.zero_lt_succ _
    · rw [hx] at hw
      simp only [DataW.weights, Try.underlying22] at hw
      rw [List.all_cons, Bool.and_eq_true] at hw
      have := of_decide_eq_true hw.1
      rw [hlen]
      rw [Try.bytes5] at this
      simp only [reachBytes] at this
      simp [lits] at this
      omega

theorem three_cells {cs : Array Value} (h : cs.size = 3) : ∃ y0 y1 y2, cs = #[y0, y1, y2] := by
  obtain ⟨l⟩ := cs
  match l, h with
  | [y0, y1, y2], _ => exact ⟨y0, y1, y2, rfl⟩
theorem four_cells {cs : Array Value} (h : cs.size = 4) : ∃ y0 y1 y2 y3, cs = #[y0, y1, y2, y3] := by
  obtain ⟨l⟩ := cs
  match l, h with
  | [y0, y1, y2, y3], _ => exact ⟨y0, y1, y2, y3, rfl⟩
theorem nine_cells {cs : Array Value} (h : cs.size = 9) : ∃ y0 y1 y2 y3 y4 y5 y6 y7 y8, cs = #[y0, y1, y2, y3, y4, y5, y6, y7, y8] := by
  obtain ⟨l⟩ := cs
  match l, h with
  | [y0, y1, y2, y3, y4, y5, y6, y7, y8], _ => exact ⟨y0, y1, y2, y3, y4, y5, y6, y7, y8, rfl⟩

/-- a plane in memory that may be read -/
structure PlIn (w : World) (W H : Int) (a : Option Addr) (c : Nat) (C : List Nat) : Prop where
  sl : Sl w .u8 a C
  byt : Byt C
  cap : C.length ≤ c
  w0 : -9223372036854775808 ≤ W
  w1 : W ≤ 9223372036854775807
  h0 : -9223372036854775808 ≤ H
  h1 : H ≤ 9223372036854775807

/-- a plane's three cells -/
theorem open_plane {H : Type} {enc : TypeId × Value → H} {W : World} {fuel : Nat} {v0 v1 v2 : Value} {x : DataW H × List MemPlace} (h : DataW.trod enc Try.prog W 0 (fun _ => true) true fuel 24 [v0, v1, v2] = some x) :
    ∃ X Y a c C, v0 = .int .i64 X ∧ v1 = .int .i64 Y ∧ v2 = .slice a C.length c ∧ PlIn W X Y a c C ∧ ((x.1.weights Try.prog 24).all (· ≤ reachBytes) = true → C.length ≤ 140737488355328) := by
  obtain ⟨y0, y1, y2, m, hx, _, g0, g1, g2⟩ := Deep.trod_struct3 Try.underlying24 h
  simp only [Try.cells22, Try.cells3] at g0 g1 g2
  simp at g0 g1 g2
  obtain ⟨k0, e0, _, w0⟩ := DataW.trod_int Try.underlying3 g0
  obtain ⟨k1, e1, _, w1⟩ := DataW.trod_int Try.underlying3 g1
  obtain ⟨a, c, C, rfl, hsl, hu, hcap, hlw⟩ := open_bytes g2
  simp at e0 e1
  subst e0 e1
  have b0 := bounds_i64' w0
  have b1 := bounds_i64' w1
  refine ⟨k0, k1, a, c, C, rfl, rfl, rfl, ⟨hsl, hu, hcap, b0.1, b0.2, b1.1, b1.2⟩, fun hw => hlw ?_⟩
  rw [hx] at hw
  simp only [DataW.weights, Try.underlying24, List.map_cons, List.map_nil, DataW.weightsEach] at hw
  rw [List.all_append, Bool.and_eq_true, List.all_append, Bool.and_eq_true] at hw
  simp only [List.all_append, Bool.and_eq_true] at hw
  exact hw.2.2.1

/-- a rectangle's four cells -/
theorem open_rect {H : Type} {enc : TypeId × Value → H} {W : World} {fuel : Nat} {v0 v1 v2 v3 : Value} {x : DataW H × List MemPlace} (h : DataW.trod enc Try.prog W 0 (fun _ => true) true fuel 32 [v0, v1, v2, v3] = some x) :
    ∃ X Y w ht, v0 = .int .i64 X ∧ v1 = .int .i64 Y ∧ v2 = .int .i64 w ∧ v3 = .int .i64 ht ∧ (-9223372036854775808 ≤ X ∧ X ≤ 9223372036854775807) ∧ (-9223372036854775808 ≤ Y ∧ Y ≤ 9223372036854775807) ∧ (-9223372036854775808 ≤ w ∧ w ≤ 9223372036854775807) ∧ (-9223372036854775808 ≤ ht ∧ ht ≤ 9223372036854775807) := by
  obtain ⟨y0, y1, y2, y3, m, hx, _, g0, g1, g2, g3⟩ := Joins.trod_struct4 Try.underlying32 h
  simp only [Try.cells3] at g0 g1 g2 g3
  simp at g0 g1 g2 g3
  obtain ⟨k0, e0, _, w0⟩ := DataW.trod_int Try.underlying3 g0
  obtain ⟨k1, e1, _, w1⟩ := DataW.trod_int Try.underlying3 g1
  obtain ⟨k2, e2, _, w2⟩ := DataW.trod_int Try.underlying3 g2
  obtain ⟨k3, e3, _, w3⟩ := DataW.trod_int Try.underlying3 g3
  simp at e0 e1 e2 e3
  subst e0 e1 e2 e3
  exact ⟨k0, k1, k2, k3, rfl, rfl, rfl, rfl, bounds_i64' w0, bounds_i64' w1, bounds_i64' w2, bounds_i64' w3⟩

/-- a frame's nine cells -/
theorem open_frame {H : Type} {enc : TypeId × Value → H} {W : World} {fuel : Nat} {v0 v1 v2 v3 v4 v5 v6 v7 v8 : Value} {x : DataW H × List MemPlace} (h : DataW.trod enc Try.prog W 0 (fun _ => true) true fuel 48 [v0, v1, v2, v3, v4, v5, v6, v7, v8] = some x) :
    ∃ X0 Y0 a0 c0 C0 X1 Y1 a1 c1 C1 X2 Y2 a2 c2 C2, v0 = .int .i64 X0 ∧ v1 = .int .i64 Y0 ∧ v2 = .slice a0 C0.length c0 ∧ v3 = .int .i64 X1 ∧ v4 = .int .i64 Y1 ∧ v5 = .slice a1 C1.length c1 ∧ v6 = .int .i64 X2 ∧ v7 = .int .i64 Y2 ∧ v8 = .slice a2 C2.length c2 ∧ PlIn W X0 Y0 a0 c0 C0 ∧ PlIn W X1 Y1 a1 c1 C1 ∧ PlIn W X2 Y2 a2 c2 C2 ∧
      ((x.1.weights Try.prog 48).all (· ≤ reachBytes) = true → C0.length ≤ 140737488355328 ∧ C1.length ≤ 140737488355328 ∧ C2.length ≤ 140737488355328) := by
  obtain ⟨z, m, hx, _, g⟩ := trod_struct1 Try.underlying48 h
  simp only [Try.cells46] at g
  simp at g
  obtain ⟨xs, m2, _, hx2, _, hlen, hf⟩ := DataW.trod_array Try.underlying46 g
  match xs, hlen with
  | [z0, z1, z2], _ =>
    have f0 := hf 0 (by omega)
    have f1 := hf 1 (by omega)
    have f2 := hf 2 (by omega)
    simp [Try.cells24] at f0 f1 f2
    obtain ⟨X0, Y0, a0, c0, C0, rfl, rfl, rfl, p0, l0⟩ := open_plane f0
    obtain ⟨X1, Y1, a1, c1, C1, rfl, rfl, rfl, p1, l1⟩ := open_plane f1
    obtain ⟨X2, Y2, a2, c2, C2, rfl, rfl, rfl, p2, l2⟩ := open_plane f2
    refine ⟨X0, Y0, a0, c0, C0, X1, Y1, a1, c1, C1, X2, Y2, a2, c2, C2, rfl, rfl, rfl, rfl, rfl, rfl, rfl, rfl, rfl, p0, p1, p2, fun hw => ?_⟩
    rw [hx, hx2] at hw
    simp only [DataW.weights, Try.underlying48, Try.underlying46, List.map_cons, List.map_nil, DataW.weightsEach, DataW.weightsAll, List.all_append, Bool.and_eq_true] at hw
    exact ⟨l0 hw.1.1, l1 hw.1.2.1, l2 hw.1.2.2.1⟩

/-- two numbers -/
theorem two_cells {cs : Array Value} (h : cs.size = 2) : ∃ y0 y1, cs = #[y0, y1] := by
  obtain ⟨l⟩ := cs
  match l, h with
  | [y0, y1], _ => exact ⟨y0, y1, rfl⟩
theorem okWide_array {P : Program} {w : World} {r : Reach} {base : Nat} {t e : TypeId} {n : Nat} {v : Value} (ht : P.underlying t = some (.array n e)) (h : Value.okWide P w r base t v) : ∃ cs, v = .agg cs ∧ cs.size = P.cellsOf t := by
  simp only [Value.okWide, ht] at h
  obtain ⟨cs, h1, h2, _⟩ := h
  exact ⟨cs, h1, h2⟩

end Go.Proofs.Ytlgfkkegehpllab
