/- DERIVED. The arguments of the statements of layer 14, opened: samples, a plane, a place, a pair of numbers; the tables that are laid. -/
import Derived.Test.YtgmdanipcnkhdaaDoorCa
import Derived.ProofKit
import Derived.OpenShut
import Derived.ShutString
import Derived.ChangeOld
import Derived.SizedLaws
import Derived.Deep.Slices
import Derived.Deep.Strs
import Derived.Lib.SmallJoins
import Derived.Lib.LaidTab
namespace Go.Proofs.YtgmdanipcnkhdaaDoor
open Go.ChangeShapes Go.WideShapes Go.ChangeAt Go.RowKit

theorem Tryd.own : ownKnob Tryd.prog.godebug = none := by kernel_rfl
theorem Tryd.laidOut : laidOutB Tryd.prog = true := by kernel_rfl
theorem Tryd.cells3 : Tryd.prog.cellsOf 3 = 1 := by kernel_rfl
theorem Tryd.cells5 : Tryd.prog.cellsOf 5 = 1 := by kernel_rfl
theorem Tryd.cells28 : Tryd.prog.cellsOf 28 = 1 := by kernel_rfl
theorem Tryd.cells30 : Tryd.prog.cellsOf 30 = 3 := by kernel_rfl
theorem Tryd.cells45 : Tryd.prog.cellsOf 45 = 2 := by kernel_rfl
theorem Tryd.cells32 : Tryd.prog.cellsOf 32 = 5 := by kernel_rfl
theorem Tryd.cells22 : Tryd.prog.cellsOf 22 = 8 := by kernel_rfl
theorem Tryd.bytes5 : Tryd.prog.bytesOf 5 = 1 := by kernel_rfl
theorem gSm : Tryd.prog.globalNamed "zoetrope/subpel.smooth" = some 0 := by kernel_rfl
theorem gRg : Tryd.prog.globalNamed "zoetrope/subpel.regular" = some 1 := by kernel_rfl
theorem gSmT : (Tryd.prog.globals[0]?).map (·.type) = some 63 := by kernel_rfl
theorem gRgT : (Tryd.prog.globals[1]?).map (·.type) = some 63 := by kernel_rfl

theorem bounds_u8' {n : Int} (h : (Lit.int .u8 n).wf = true) : 0 ≤ n ∧ n < 256 := by
  have h1 : IntKind.u8.min = 0 := rfl
  have h2 : IntKind.u8.max = 255 := rfl
  simp only [Lit.wf, Bool.and_eq_true, decide_eq_true_eq] at h
  omega
theorem bounds_i64' {n : Int} (h : (Lit.int .i64 n).wf = true) : -9223372036854775808 ≤ n ∧ n ≤ 9223372036854775807 := by
  have h1 : IntKind.i64.min = -9223372036854775808 := rfl
  have h2 : IntKind.i64.max = 9223372036854775807 := rfl
  simp only [Lit.wf, Bool.and_eq_true, decide_eq_true_eq] at h
  omega

/-- what one argument weighs -/
theorem sub_weights {H : Type} {P : Program} {ts : List TypeId} {ds : List (DataW H)} (h : (DataW.weightsEach P ts ds).all (· ≤ reachBytes) = true) {j : Nat} {t : TypeId} {d : DataW H} (ht : ts[j]? = some t) (hd : ds[j]? = some d) : (d.weights P t).all (· ≤ reachBytes) = true := by
  rw [List.all_eq_true] at *
  exact fun n hn => h n (DataW.weights_mem_each ht hd n hn)

/-- a slice of samples -/
theorem open_bytes {H : Type} {enc : TypeId × Value → H} {W : World} {fuel : Nat} {v : Value} {x : DataW H × List MemPlace} (h : DataW.trod enc Tryd.prog W 0 (fun _ => true) true fuel 28 [v] = some x) :
    ∃ a c C, v = .slice a C.length c ∧ Sl W .u8 a C ∧ Byt C ∧ C.length ≤ c ∧ ((x.1.weights Tryd.prog 28).all (· ≤ reachBytes) = true → C.length ≤ 140737488355328) := by
  rcases open_ints Tryd.underlying28 Tryd.underlying5 Tryd.cells5 h with ⟨hcs, hx⟩ | ⟨a, l, c, zs, hcs, _, hl, hm, hz, hx, hcell, hwz⟩
  · simp at hcs
    subst hcs
    exact ⟨none, 0, [], rfl, Or.inl rfl, fun j => by simp, Nat.le_refl _, fun _ => by simp⟩
  · simp at hcs
    subst hcs
    simp at hz
    have hget : ∀ j, j < l → ((zs.take l).map Int.toNat).getD j 0 = (zs.getD j 0).toNat := fun j hj => by
      rw [List.getD_eq_getElem?_getD, List.getD_eq_getElem?_getD, List.getElem?_map, List.getElem?_take_of_lt hj]
      rw [List.getElem?_eq_getElem (show j < zs.length by omega)]
      rfl
    have hin : ∀ j, j < l → 0 ≤ zs.getD j 0 ∧ zs.getD j 0 < 256 := fun j hj => by
      rw [List.getD_eq_getElem?_getD, List.getElem?_eq_getElem (show j < zs.length by omega)]
      exact bounds_u8' (hwz _ (List.getElem_mem _))
    have hlen : ((zs.take l).map Int.toNat).length = l := by simp; omega
    refine ⟨some a, c, (zs.take l).map Int.toNat, by rw [hlen], ?_, fun i => ?_, by rw [hlen]; exact hl, fun hw => ?_⟩
    · by_cases h0 : l = 0
      · left; exact List.eq_nil_of_length_eq_zero (by rw [hlen]; exact h0)
      · have hc0 := hcell 0 (by omega)
        obtain ⟨b, off, spot⟩ := a
        have hspot : spot = none := by simpa [Addr.add] using World.cell?_spot hc0
        subst hspot
        have hbl := World.block_lt_of_cell? W _ hc0
        rw [addr_add] at hbl
        refine Or.inr ⟨b, off, rfl, hbl, fun j hj => ?_⟩
        rw [hlen] at hj
        have := hin j hj
        rw [← addr_add, hcell j (by omega), hget j hj, show (((zs.getD j 0).toNat : Nat) : Int) = zs.getD j 0 from by omega]
    · by_cases hi : i < l
      · rw [hget i hi]; have := hin i hi; omega
      · rw [List.getD_eq_getElem?_getD, List.getElem?_eq_none (by omega)]; exact Nat.zero_lt_succ _
    · rw [hx] at hw
      simp only [DataW.weights, Tryd.underlying28] at hw
      rw [List.all_cons, Bool.and_eq_true] at hw
      have := of_decide_eq_true hw.1
      rw [hlen]
      rw [Tryd.bytes5] at this
      simp only [reachBytes] at this
      simp [lits] at this
      omega

theorem three_cells {cs : Array Value} (h : cs.size = 3) : ∃ y0 y1 y2, cs = #[y0, y1, y2] := by
  obtain ⟨l⟩ := cs
  match l, h with
  | [y0, y1, y2], _ => exact ⟨y0, y1, y2, rfl⟩
/-- a plane in memory that may be read -/
structure PlIn (w : World) (W H : Int) (a : Option Addr) (c : Nat) (C : List Nat) : Prop where
  sl : Sl w .u8 a C
  byt : Byt C
  cap : C.length ≤ c
  w0 : -9223372036854775808 ≤ W
  w1 : W ≤ 9223372036854775807
  h0 : -9223372036854775808 ≤ H
  h1 : H ≤ 9223372036854775807

/-- a plane's three cells -/
theorem open_plane {H : Type} {enc : TypeId × Value → H} {W : World} {fuel : Nat} {v0 v1 v2 : Value} {x : DataW H × List MemPlace} (h : DataW.trod enc Tryd.prog W 0 (fun _ => true) true fuel 30 [v0, v1, v2] = some x) :
    ∃ X Y a c C, v0 = .int .i64 X ∧ v1 = .int .i64 Y ∧ v2 = .slice a C.length c ∧ PlIn W X Y a c C ∧ ((x.1.weights Tryd.prog 30).all (· ≤ reachBytes) = true → C.length ≤ 140737488355328) := by
  obtain ⟨y0, y1, y2, m, hx, _, g0, g1, g2⟩ := Deep.trod_struct3 Tryd.underlying30 h
  simp only [Tryd.cells28, Tryd.cells3] at g0 g1 g2
  simp at g0 g1 g2
  obtain ⟨k0, e0, _, w0⟩ := DataW.trod_int Tryd.underlying3 g0
  obtain ⟨k1, e1, _, w1⟩ := DataW.trod_int Tryd.underlying3 g1
  obtain ⟨a, c, C, rfl, hsl, hu, hcap, hlw⟩ := open_bytes g2
  simp at e0 e1
  subst e0 e1
  have b0 := bounds_i64' w0
  have b1 := bounds_i64' w1
  refine ⟨k0, k1, a, c, C, rfl, rfl, rfl, ⟨hsl, hu, hcap, b0.1, b0.2, b1.1, b1.2⟩, fun hw => hlw ?_⟩
  rw [hx] at hw
  simp only [DataW.weights, Tryd.underlying30, List.map_cons, List.map_nil, DataW.weightsEach] at hw
  rw [List.all_append, Bool.and_eq_true, List.all_append, Bool.and_eq_true] at hw
  simp only [List.all_append, Bool.and_eq_true] at hw
  exact hw.2.2.1

theorem two_cells {cs : Array Value} (h : cs.size = 2) : ∃ y0 y1, cs = #[y0, y1] := by
  obtain ⟨l⟩ := cs
  match l, h with
  | [y0, y1], _ => exact ⟨y0, y1, rfl⟩
theorem okWide_array {P : Program} {w : World} {r : Reach} {base : Nat} {t e : TypeId} {n : Nat} {v : Value} (ht : P.underlying t = some (.array n e)) (h : Value.okWide P w r base t v) : ∃ cs, v = .agg cs ∧ cs.size = P.cellsOf t := by
  simp only [Value.okWide, ht] at h
  obtain ⟨cs, h1, h2, _⟩ := h
  exact ⟨cs, h1, h2⟩
theorem open_pair {H : Type} {enc : TypeId × Value → H} {W : World} {fuel : Nat} {v0 v1 : Value} {x : DataW H × List MemPlace} (h : DataW.trod enc Tryd.prog W 0 (fun _ => true) true fuel 45 [v0, v1] = some x) :
    ∃ X Y, v0 = .int .i64 X ∧ v1 = .int .i64 Y ∧ (-9223372036854775808 ≤ X ∧ X ≤ 9223372036854775807) ∧ (-9223372036854775808 ≤ Y ∧ Y ≤ 9223372036854775807) := by
  obtain ⟨xs, m2, _, hx2, _, hlen, hf⟩ := DataW.trod_array Tryd.underlying45 h
  match xs, hlen with
  | [z0, z1], _ =>
    have f0 := hf 0 (by omega)
    have f1 := hf 1 (by omega)
    simp [Tryd.cells3] at f0 f1
    obtain ⟨k0, e0, _, w0⟩ := DataW.trod_int Tryd.underlying3 f0
    obtain ⟨k1, e1, _, w1⟩ := DataW.trod_int Tryd.underlying3 f1
    simp at e0 e1
    subst e0 e1
    exact ⟨k0, k1, rfl, rfl, bounds_i64' w0, bounds_i64' w1⟩

theorem five_cells {cs : Array Value} (h : cs.size = 5) : ∃ y0 y1 y2 y3 y4, cs = #[y0, y1, y2, y3, y4] := by
  obtain ⟨l⟩ := cs
  match l, h with
  | [y0, y1, y2, y3, y4], _ => exact ⟨y0, y1, y2, y3, y4, rfl⟩
/-- a place's five cells -/
theorem open_place {H : Type} {enc : TypeId × Value → H} {W : World} {fuel : Nat} {v0 v1 v2 v3 v4 : Value} {x : DataW H × List MemPlace} (h : DataW.trod enc Tryd.prog W 0 (fun _ => true) true fuel 32 [v0, v1, v2, v3, v4] = some x) :
    ∃ a b c d f, v0 = .int .i64 a ∧ v1 = .int .i64 b ∧ v2 = .int .i64 c ∧ v3 = .int .i64 d ∧ v4 = .int .i64 f := by
  obtain ⟨xs, n, _, _, hl, hlen, hf⟩ := DataW.trod_struct Tryd.underlying32 h
  have g0 := hf 0 _ rfl
  have g1 := hf 1 _ rfl
  have g2 := hf 2 _ rfl
  have g3 := hf 3 _ rfl
  have g4 := hf 4 _ rfl
  match xs, hlen with
  | [y0, y1, y2, y3, y4], _ =>
    simp [Tryd.cells3] at g0 g1 g2 g3 g4
    obtain ⟨k0, e0, _, _⟩ := DataW.trod_int Tryd.underlying3 g0
    obtain ⟨k1, e1, _, _⟩ := DataW.trod_int Tryd.underlying3 g1
    obtain ⟨k2, e2, _, _⟩ := DataW.trod_int Tryd.underlying3 g2
    obtain ⟨k3, e3, _, _⟩ := DataW.trod_int Tryd.underlying3 g3
    obtain ⟨k4, e4, _, _⟩ := DataW.trod_int Tryd.underlying3 g4
    simp at e0 e1 e2 e3 e4
    exact ⟨k0, k1, k2, k3, k4, e0, e1, e2, e3, e4⟩

/-- an array's parts, one by one -/
theorem cells_of_arr {H : Type} {enc : TypeId × Value → H} {P : Program} {w : World} {base : Nat} {sp : Nat → Bool} {held : Bool} {fuel : Nat} {t e : TypeId} {n m : Nat} {cs : List Value} {ds : List (DataW H)} {p : List MemPlace}
    (ht : P.underlying t = some (.array n e)) (hce : P.cellsOf e = m) (h : DataW.trod enc P w base sp held fuel t cs = some (.agg ds, p)) :
    ∀ i d, i < n → ds[i]? = some d → ∃ f q, DataW.trod enc P w base sp held f e ((cs.drop (i * m)).take m) = some (d, q) := by
  cases fuel with
  | zero => simp [DataW.trod] at h
  | succ fuel =>
    simp only [DataW.trod, ht, hce] at h
    split at h
    · obtain ⟨xs, hm, hx⟩ := Option.map_eq_some_iff.1 h
      intro i d hi hd
      obtain ⟨b, hb, hf⟩ := Lib.mapM_at hm i i (by simp [hi])
      have h2 : xs.map (·.1) = ds := by
        have := congrArg Prod.fst hx
        simpa using this
      rw [← h2, List.getElem?_map, hb] at hd
      simp only [Option.map_some, Option.some.injEq] at hd
      subst hd
      exact ⟨fuel, b.2, hf⟩
    · cases h
/-- a table of taps, as data -/
def tbD {H : Type} (L : List (List Int)) : DataW H := .agg (L.map fun r => .agg (r.map fun z => .lit (.int .i64 z)))
theorem laid_rg : (Rows.laid_zoetrope_subpel_regular : DataW Unit) = tbD rgT := rfl
theorem laid_sm : (Rows.laid_zoetrope_subpel_smooth : DataW Unit) = tbD smT := rfl
theorem tab_cells {H : Type} {enc : TypeId × Value → H} {W : World} {base : Nat} {sp : Nat → Bool} {held : Bool} {fuel : Nat} {cs : List Value} {L : List (List Int)} {p : List MemPlace} (hL : ∀ k, k < 9 → (L.getD k []).length = 8) (h9 : L.length = 9) (h : DataW.trod enc Tryd.prog W base sp held fuel 63 cs = some (tbD L, p)) :
    ∀ k j, k < 9 → j < 8 → cs[k * 8 + j]? = some (.int .i64 ((L.getD k []).getD j 0)) := fun k j hk hj => by
  have hrow : (L.map fun r : List Int => (DataW.agg (r.map fun z => .lit (.int .i64 z)) : DataW H))[k]? = some (.agg ((L.getD k []).map fun z => .lit (.int .i64 z))) := by
    rw [List.getElem?_map, List.getD_eq_getElem?_getD, List.getElem?_eq_getElem (by omega)]; rfl
  obtain ⟨f, q, hf⟩ := cells_of_arr Tryd.underlying63 (m := 8) Tryd.cells22 h k _ hk hrow
  have hl := hL k hk
  generalize L.getD k [] = R at *
  have hcell : (R.map fun z : Int => (DataW.lit (.int .i64 z) : DataW H))[j]? = some (.lit (.int .i64 (R.getD j 0))) := by
    rw [List.getElem?_map, List.getD_eq_getElem?_getD, List.getElem?_eq_getElem (by omega)]; rfl
  obtain ⟨f2, q2, hf2⟩ := cells_of_arr Tryd.underlying22 (m := 1) Tryd.cells3 hf j _ hj hcell
  obtain ⟨k0, e0, e1, _⟩ := DataW.trod_int Tryd.underlying3 hf2
  have f0 := congrArg (·[0]?) e0
  simp only [Prod.mk.injEq, DataW.lit.injEq, Lit.int.injEq, true_and] at e1
  rw [e1.1]
  simpa [List.getElem?_drop, List.getElem?_take, hj] using f0
theorem gt_of {W : World} (h : laidMet Tryd.prog [("zoetrope/subpel.regular", Rows.laid_zoetrope_subpel_regular), ("zoetrope/subpel.smooth", Rows.laid_zoetrope_subpel_smooth)] W) : Gt W := by
  obtain ⟨ps, ⟨g1, t1, cs1, fuel1, q1, r1, hg1, ht1, hvar1, hd1, ⟨g2, t2, cs2, fuel2, q2, r2, hg2, ht2, hvar2, hd2, _, _⟩, _⟩, _⟩ := h
  obtain rfl := Option.some.inj (gRg.symm.trans hg1)
  obtain rfl := Option.some.inj (gRgT.symm.trans ht1)
  obtain rfl := Option.some.inj (gSm.symm.trans hg2)
  obtain rfl := Option.some.inj (gSmT.symm.trans ht2)
  rw [laid_rg] at hd1
  rw [laid_sm] at hd2
  have k1 := tab_cells (by decide) (by decide) hd1
  have k2 := tab_cells (by decide) (by decide) hd2
  have c1 : ∀ j, W.cell? ⟨1, j, none⟩ = cs1.toList[j]? := fun j => by rw [World.var?_cell gRg hvar1 j]; simp
  have c2 : ∀ j, W.cell? ⟨0, j, none⟩ = cs2.toList[j]? := fun j => by rw [World.var?_cell gSm hvar2 j]; simp
  have s := fun k j hk hj => (c2 (k * 8 + j)).trans (k2 k j hk hj)
  have r := fun k j hk hj => (c1 (k * 8 + j)).trans (k1 k j hk hj)
  exact ⟨World.block_lt_of_cell? W _ (r 0 0 (by omega) (by omega)), s, r⟩

end Go.Proofs.YtgmdanipcnkhdaaDoor
