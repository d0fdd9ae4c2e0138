/- DERIVED. The arguments of the statements of layer 15, opened; the tables that are laid. -/
import Derived.Test.YtpideemiijhkgabDoorCa
import Derived.ProofKit
import Derived.OpenShut
import Derived.ShutString
import Derived.ChangeOld
import Derived.SizedLaws
import Derived.Deep.Slices
import Derived.Deep.Strs
import Derived.Lib.SmallJoins
import Derived.Lib.LaidTab
namespace Go.Proofs.YtpideemiijhkgabDoor
open Go.ChangeShapes Go.WideShapes Go.ChangeAt Go.RowKit

theorem Tryd.own : ownKnob Tryd.prog.godebug = none := by kernel_rfl
theorem Tryd.laidOut : laidOutB Tryd.prog = true := by kernel_rfl
theorem Tryd.cells3 : Tryd.prog.cellsOf 3 = 1 := by kernel_rfl
theorem Tryd.cells5 : Tryd.prog.cellsOf 5 = 1 := by kernel_rfl
theorem Tryd.cells22 : Tryd.prog.cellsOf 22 = 1 := by kernel_rfl
theorem Tryd.cells39 : Tryd.prog.cellsOf 39 = 3 := by kernel_rfl
theorem Tryd.cells48 : Tryd.prog.cellsOf 48 = 8 := by kernel_rfl
theorem Tryd.cells24 : Tryd.prog.cellsOf 24 = 4 := by kernel_rfl
theorem Tryd.cells46 : Tryd.prog.cellsOf 46 = 2 := by kernel_rfl
theorem Tryd.cells26 : Tryd.prog.cellsOf 26 = 7 := by kernel_rfl
theorem Tryd.cells42 : Tryd.prog.cellsOf 42 = 9 := by kernel_rfl
theorem Tryd.cells40 : Tryd.prog.cellsOf 40 = 9 := by kernel_rfl
theorem Tryd.cells74 : Tryd.prog.cellsOf 74 = 8 := by kernel_rfl
theorem Tryd.bytes5 : Tryd.prog.bytesOf 5 = 1 := by kernel_rfl
theorem gSm : Tryd.prog.globalNamed "zoetrope/subpel.smooth" = some 0 := by kernel_rfl
theorem gRg : Tryd.prog.globalNamed "zoetrope/subpel.regular" = some 1 := by kernel_rfl
theorem gSmT : (Tryd.prog.globals[0]?).map (·.type) = some 81 := by kernel_rfl
theorem gRgT : (Tryd.prog.globals[1]?).map (·.type) = some 81 := by kernel_rfl

theorem bounds_u8' {n : Int} (h : (Lit.int .u8 n).wf = true) : 0 ≤ n ∧ n < 256 := by
  have h1 : IntKind.u8.min = 0 := rfl
  have h2 : IntKind.u8.max = 255 := rfl
  simp only [Lit.wf, Bool.and_eq_true, decide_eq_true_eq] at h
  omega
theorem bounds_i64' {n : Int} (h : (Lit.int .i64 n).wf = true) : -9223372036854775808 ≤ n ∧ n ≤ 9223372036854775807 := by
  have h1 : IntKind.i64.min = -9223372036854775808 := rfl
  have h2 : IntKind.i64.max = 9223372036854775807 := rfl
  simp only [Lit.wf, Bool.and_eq_true, decide_eq_true_eq] at h
  omega

/-- what one argument weighs -/
theorem sub_weights {H : Type} {P : Program} {ts : List TypeId} {ds : List (DataW H)} (h : (DataW.weightsEach P ts ds).all (· ≤ reachBytes) = true) {j : Nat} {t : TypeId} {d : DataW H} (ht : ts[j]? = some t) (hd : ds[j]? = some d) : (d.weights P t).all (· ≤ reachBytes) = true := by
  rw [List.all_eq_true] at *
  exact fun n hn => h n (DataW.weights_mem_each ht hd n hn)

/-- a slice of samples -/
theorem open_bytes {H : Type} {enc : TypeId × Value → H} {W : World} {fuel : Nat} {v : Value} {x : DataW H × List MemPlace} (h : DataW.trod enc Tryd.prog W 0 (fun _ => true) true fuel 22 [v] = some x) :
    ∃ a c C, v = .slice a C.length c ∧ Sl W .u8 a C ∧ Byt C ∧ C.length ≤ c ∧ ((x.1.weights Tryd.prog 22).all (· ≤ reachBytes) = true → C.length ≤ 140737488355328) := by
  rcases open_ints Tryd.underlying22 Tryd.underlying5 Tryd.cells5 h with ⟨hcs, hx⟩ | ⟨a, l, c, zs, hcs, _, hl, hm, hz, hx, hcell, hwz⟩
  · simp at hcs
    subst hcs
    exact ⟨none, 0, [], rfl, Or.inl rfl, fun j => by simp, Nat.le_refl _, fun _ => by simp⟩
  · simp at hcs
    subst hcs
    simp at hz
    have hget : ∀ j, j < l → ((zs.take l).map Int.toNat).getD j 0 = (zs.getD j 0).toNat := fun j hj => by
      rw [List.getD_eq_getElem?_getD, List.getD_eq_getElem?_getD, List.getElem?_map, List.getElem?_take_of_lt hj]
      rw [List.getElem?_eq_getElem (show j < zs.length by omega)]
      rfl
    have hin : ∀ j, j < l → 0 ≤ zs.getD j 0 ∧ zs.getD j 0 < 256 := fun j hj => by
      rw [List.getD_eq_getElem?_getD, List.getElem?_eq_getElem (show j < zs.length by omega)]
      exact bounds_u8' (hwz _ (List.getElem_mem _))
    have hlen : ((zs.take l).map Int.toNat).length = l := by simp; omega
    refine ⟨some a, c, (zs.take l).map Int.toNat, by rw [hlen], ?_, fun i => ?_, by rw [hlen]; exact hl, fun hw => ?_⟩
    · by_cases h0 : l = 0
      · left; exact List.eq_nil_of_length_eq_zero (by rw [hlen]; exact h0)
      · have hc0 := hcell 0 (by omega)
        obtain ⟨b, off, spot⟩ := a
        have hspot : spot = none := by simpa [Addr.add] using World.cell?_spot hc0
        subst hspot
        have hbl := World.block_lt_of_cell? W _ hc0
        rw [addr_add] at hbl
        refine Or.inr ⟨b, off, rfl, hbl, fun j hj => ?_⟩
        rw [hlen] at hj
        have := hin j hj
        rw [← addr_add, hcell j (by omega), hget j hj, show (((zs.getD j 0).toNat : Nat) : Int) = zs.getD j 0 from by omega]
    · by_cases hi : i < l
      · rw [hget i hi]; have := hin i hi; omega
      · rw [List.getD_eq_getElem?_getD, List.getElem?_eq_none (by omega)]; exact Nat.zero_lt_succ _
    · rw [hx] at hw
      simp only [DataW.weights, Tryd.underlying22] at hw
      rw [List.all_cons, Bool.and_eq_true] at hw
      have := of_decide_eq_true hw.1
      rw [hlen]
      rw [Tryd.bytes5] at this
      simp only [reachBytes] at this
      simp [lits] at this
      omega

theorem three_cells {cs : Array Value} (h : cs.size = 3) : ∃ y0 y1 y2, cs = #[y0, y1, y2] := by
  obtain ⟨l⟩ := cs
  match l, h with
  | [y0, y1, y2], _ => exact ⟨y0, y1, y2, rfl⟩
/-- a plane in memory that may be read -/
structure PlIn (w : World) (W H : Int) (a : Option Addr) (c : Nat) (C : List Nat) : Prop where
  sl : Sl w .u8 a C
  byt : Byt C
  cap : C.length ≤ c
  w0 : -9223372036854775808 ≤ W
  w1 : W ≤ 9223372036854775807
  h0 : -9223372036854775808 ≤ H
  h1 : H ≤ 9223372036854775807

/-- a plane's three cells -/
theorem open_plane {H : Type} {enc : TypeId × Value → H} {W : World} {fuel : Nat} {v0 v1 v2 : Value} {x : DataW H × List MemPlace} (h : DataW.trod enc Tryd.prog W 0 (fun _ => true) true fuel 39 [v0, v1, v2] = some x) :
    ∃ X Y a c C, v0 = .int .i64 X ∧ v1 = .int .i64 Y ∧ v2 = .slice a C.length c ∧ PlIn W X Y a c C ∧ ((x.1.weights Tryd.prog 39).all (· ≤ reachBytes) = true → C.length ≤ 140737488355328) := by
  obtain ⟨y0, y1, y2, m, hx, _, g0, g1, g2⟩ := Deep.trod_struct3 Tryd.underlying39 h
  simp only [Tryd.cells22, Tryd.cells3] at g0 g1 g2
  simp at g0 g1 g2
  obtain ⟨k0, e0, _, w0⟩ := DataW.trod_int Tryd.underlying3 g0
  obtain ⟨k1, e1, _, w1⟩ := DataW.trod_int Tryd.underlying3 g1
  obtain ⟨a, c, C, rfl, hsl, hu, hcap, hlw⟩ := open_bytes g2
  simp at e0 e1
  subst e0 e1
  have b0 := bounds_i64' w0
  have b1 := bounds_i64' w1
  refine ⟨k0, k1, a, c, C, rfl, rfl, rfl, ⟨hsl, hu, hcap, b0.1, b0.2, b1.1, b1.2⟩, fun hw => hlw ?_⟩
  rw [hx] at hw
  simp only [DataW.weights, Tryd.underlying39, List.map_cons, List.map_nil, DataW.weightsEach] at hw
  rw [List.all_append, Bool.and_eq_true, List.all_append, Bool.and_eq_true] at hw
  simp only [List.all_append, Bool.and_eq_true] at hw
  exact hw.2.2.1

theorem two_cells {cs : Array Value} (h : cs.size = 2) : ∃ y0 y1, cs = #[y0, y1] := by
  obtain ⟨l⟩ := cs
  match l, h with
  | [y0, y1], _ => exact ⟨y0, y1, rfl⟩
theorem okWide_array {P : Program} {w : World} {r : Reach} {base : Nat} {t e : TypeId} {n : Nat} {v : Value} (ht : P.underlying t = some (.array n e)) (h : Value.okWide P w r base t v) : ∃ cs, v = .agg cs ∧ cs.size = P.cellsOf t := by
  simp only [Value.okWide, ht] at h
  obtain ⟨cs, h1, h2, _⟩ := h
  exact ⟨cs, h1, h2⟩
theorem seven_cells {cs : Array Value} (h : cs.size = 7) : ∃ y0 y1 y2 y3 y4 y5 y6, cs = #[y0, y1, y2, y3, y4, y5, y6] := by
  obtain ⟨l⟩ := cs
  match l, h with
  | [y0, y1, y2, y3, y4, y5, y6], _ => exact ⟨y0, y1, y2, y3, y4, y5, y6, rfl⟩
theorem eight_cells {cs : Array Value} (h : cs.size = 8) : ∃ y0 y1 y2 y3 y4 y5 y6 y7, cs = #[y0, y1, y2, y3, y4, y5, y6, y7] := by
  obtain ⟨l⟩ := cs
  match l, h with
  | [y0, y1, y2, y3, y4, y5, y6, y7], _ => exact ⟨y0, y1, y2, y3, y4, y5, y6, y7, rfl⟩
theorem nine_cells {cs : Array Value} (h : cs.size = 9) : ∃ y0 y1 y2 y3 y4 y5 y6 y7 y8, cs = #[y0, y1, y2, y3, y4, y5, y6, y7, y8] := by
  obtain ⟨l⟩ := cs
  match l, h with
  | [y0, y1, y2, y3, y4, y5, y6, y7, y8], _ => exact ⟨y0, y1, y2, y3, y4, y5, y6, y7, y8, rfl⟩
/-- a rectangle's four cells -/
theorem open_rect {H : Type} {enc : TypeId × Value → H} {W : World} {fuel : Nat} {v0 v1 v2 v3 : Value} {x : DataW H × List MemPlace} (h : DataW.trod enc Tryd.prog W 0 (fun _ => true) true fuel 24 [v0, v1, v2, v3] = some x) :
    ∃ X Y w ht, v0 = .int .i64 X ∧ v1 = .int .i64 Y ∧ v2 = .int .i64 w ∧ v3 = .int .i64 ht ∧ (-9223372036854775808 ≤ X ∧ X ≤ 9223372036854775807) ∧ (-9223372036854775808 ≤ Y ∧ Y ≤ 9223372036854775807) ∧ (-9223372036854775808 ≤ w ∧ w ≤ 9223372036854775807) ∧ (-9223372036854775808 ≤ ht ∧ ht ≤ 9223372036854775807) := by
  obtain ⟨y0, y1, y2, y3, m, hx, _, g0, g1, g2, g3⟩ := Joins.trod_struct4 Tryd.underlying24 h
  simp only [Tryd.cells3] at g0 g1 g2 g3
  simp at g0 g1 g2 g3
  obtain ⟨k0, e0, _, w0⟩ := DataW.trod_int Tryd.underlying3 g0
  obtain ⟨k1, e1, _, w1⟩ := DataW.trod_int Tryd.underlying3 g1
  obtain ⟨k2, e2, _, w2⟩ := DataW.trod_int Tryd.underlying3 g2
  obtain ⟨k3, e3, _, w3⟩ := DataW.trod_int Tryd.underlying3 g3
  simp at e0 e1 e2 e3
  subst e0 e1 e2 e3
  exact ⟨k0, k1, k2, k3, rfl, rfl, rfl, rfl, bounds_i64' w0, bounds_i64' w1, bounds_i64' w2, bounds_i64' w3⟩
/-- a frame's nine cells -/
theorem open_frame {H : Type} {enc : TypeId × Value → H} {W : World} {fuel : Nat} {v0 v1 v2 v3 v4 v5 v6 v7 v8 : Value} {x : DataW H × List MemPlace} (h : DataW.trod enc Tryd.prog W 0 (fun _ => true) true fuel 42 [v0, v1, v2, v3, v4, v5, v6, v7, v8] = some x) :
    ∃ X0 Y0 a0 c0 C0 X1 Y1 a1 c1 C1 X2 Y2 a2 c2 C2, v0 = .int .i64 X0 ∧ v1 = .int .i64 Y0 ∧ v2 = .slice a0 C0.length c0 ∧ v3 = .int .i64 X1 ∧ v4 = .int .i64 Y1 ∧ v5 = .slice a1 C1.length c1 ∧ v6 = .int .i64 X2 ∧ v7 = .int .i64 Y2 ∧ v8 = .slice a2 C2.length c2 ∧ PlIn W X0 Y0 a0 c0 C0 ∧ PlIn W X1 Y1 a1 c1 C1 ∧ PlIn W X2 Y2 a2 c2 C2 ∧
      ((x.1.weights Tryd.prog 42).all (· ≤ reachBytes) = true → C0.length ≤ 140737488355328 ∧ C1.length ≤ 140737488355328 ∧ C2.length ≤ 140737488355328) := by
  obtain ⟨z, m, hx, _, g⟩ := trod_struct1 Tryd.underlying42 h
  simp only [Tryd.cells40] at g
  simp at g
  obtain ⟨xs, m2, _, hx2, _, hlen, hf⟩ := DataW.trod_array Tryd.underlying40 g
  match xs, hlen with
  | [z0, z1, z2], _ =>
    have f0 := hf 0 (by omega)
    have f1 := hf 1 (by omega)
    have f2 := hf 2 (by omega)
    simp [Tryd.cells39] at f0 f1 f2
    obtain ⟨X0, Y0, a0, c0, C0, rfl, rfl, rfl, p0, l0⟩ := open_plane f0
    obtain ⟨X1, Y1, a1, c1, C1, rfl, rfl, rfl, p1, l1⟩ := open_plane f1
    obtain ⟨X2, Y2, a2, c2, C2, rfl, rfl, rfl, p2, l2⟩ := open_plane f2
    refine ⟨X0, Y0, a0, c0, C0, X1, Y1, a1, c1, C1, X2, Y2, a2, c2, C2, rfl, rfl, rfl, rfl, rfl, rfl, rfl, rfl, rfl, p0, p1, p2, fun hw => ?_⟩
    rw [hx, hx2] at hw
    simp only [DataW.weights, Tryd.underlying42, Tryd.underlying40, List.map_cons, List.map_nil, DataW.weightsEach, DataW.weightsAll, List.all_append, Bool.and_eq_true] at hw
    exact ⟨l0 hw.1.1, l1 hw.1.2.1, l2 hw.1.2.2.1⟩

/-- a vector's two cells -/
theorem open_vec {H : Type} {enc : TypeId × Value → H} {W : World} {fuel : Nat} {v0 v1 : Value} {x : DataW H × List MemPlace} (h : DataW.trod enc Tryd.prog W 0 (fun _ => true) true fuel 46 [v0, v1] = some x) :
    ∃ X Y, v0 = .int .i64 X ∧ v1 = .int .i64 Y := by
  obtain ⟨y0, y1, m, hx, _, g0, g1⟩ := trod_struct2 Tryd.underlying46 h
  simp only [Tryd.cells3] at g0 g1
  simp at g0 g1
  obtain ⟨k0, e0, _, w0⟩ := DataW.trod_int Tryd.underlying3 g0
  obtain ⟨k1, e1, _, w1⟩ := DataW.trod_int Tryd.underlying3 g1
  simp at e0 e1
  subst e0 e1
  exact ⟨k0, k1, rfl, rfl⟩
/-- a move's eight cells -/
theorem open_move {H : Type} {enc : TypeId × Value → H} {W : World} {fuel : Nat} {v0 v1 v2 v3 v4 v5 v6 v7 : Value} {x : DataW H × List MemPlace} (h : DataW.trod enc Tryd.prog W 0 (fun _ => true) true fuel 48 [v0, v1, v2, v3, v4, v5, v6, v7] = some x) :
    ∃ n X Y w ht vx vy k, v0 = .int .i64 n ∧ v1 = .int .i64 X ∧ v2 = .int .i64 Y ∧ v3 = .int .i64 w ∧ v4 = .int .i64 ht ∧ v5 = .int .i64 vx ∧ v6 = .int .i64 vy ∧ v7 = .int .i64 k := by
  obtain ⟨y0, y1, y2, y3, m, hx, _, g0, g1, g2, g3⟩ := Joins.trod_struct4 Tryd.underlying48 h
  simp only [Tryd.cells3, Tryd.cells24, Tryd.cells46] at g0 g1 g2 g3
  simp at g0 g1 g2 g3
  obtain ⟨k0, e0, _, _⟩ := DataW.trod_int Tryd.underlying3 g0
  obtain ⟨X, Y, w, ht, rfl, rfl, rfl, rfl, _⟩ := open_rect g1
  obtain ⟨vx, vy, rfl, rfl⟩ := open_vec g2
  obtain ⟨k3, e3, _, _⟩ := DataW.trod_int Tryd.underlying3 g3
  simp at e0 e3
  subst e0 e3
  exact ⟨k0, X, Y, w, ht, vx, vy, k3, rfl, rfl, rfl, rfl, rfl, rfl, rfl, rfl⟩
/-- samples in memory that may be read -/
structure ByIn (w : World) (a : Option Addr) (c : Nat) (C : List Nat) : Prop where
  sl : Sl w .u8 a C
  byt : Byt C
  cap : C.length ≤ c
/-- a blend's seven cells -/
theorem open_blend {H : Type} {enc : TypeId × Value → H} {W : World} {fuel : Nat} {v0 v1 v2 v3 v4 v5 v6 : Value} {x : DataW H × List MemPlace} (h : DataW.trod enc Tryd.prog W 0 (fun _ => true) true fuel 26 [v0, v1, v2, v3, v4, v5, v6] = some x) :
    ∃ a c C bw X Y w ht b d D, v0 = .slice a C.length c ∧ v1 = .int .i64 bw ∧ v2 = .int .i64 X ∧ v3 = .int .i64 Y ∧ v4 = .int .i64 w ∧ v5 = .int .i64 ht ∧ v6 = .slice b D.length d ∧ ByIn W a c C ∧ ByIn W b d D ∧ (X ≤ 9223372036854775807 ∧ Y ≤ 9223372036854775807) ∧ ((x.1.weights Tryd.prog 26).all (· ≤ reachBytes) = true → C.length ≤ 140737488355328 ∧ D.length ≤ 140737488355328) := by
  obtain ⟨y0, y1, y2, y3, m, hx, _, g0, g1, g2, g3⟩ := Joins.trod_struct4 Tryd.underlying26 h
  simp only [Tryd.cells3, Tryd.cells24, Tryd.cells22] at g0 g1 g2 g3
  simp at g0 g1 g2 g3
  obtain ⟨a, c, C, rfl, hsl, hu, hcap, hlw⟩ := open_bytes g0
  obtain ⟨k1, e1, _, _⟩ := DataW.trod_int Tryd.underlying3 g1
  obtain ⟨X, Y, w, ht, rfl, rfl, rfl, rfl, bX, bY, _⟩ := open_rect g2
  obtain ⟨b, d, D, rfl, hsl2, hu2, hcap2, hlw2⟩ := open_bytes g3
  simp at e1
  subst e1
  refine ⟨a, c, C, k1, X, Y, w, ht, b, d, D, rfl, rfl, rfl, rfl, rfl, rfl, rfl, ⟨hsl, hu, hcap⟩, ⟨hsl2, hu2, hcap2⟩, ⟨bX.2, bY.2⟩, fun hw => ?_⟩
  rw [hx] at hw
  simp only [DataW.weights, Tryd.underlying26, List.map_cons, List.map_nil, DataW.weightsEach, List.all_append, Bool.and_eq_true] at hw
  exact ⟨hlw hw.1, hlw2 hw.2.2.2.1⟩

/-- an array's parts, one by one -/
theorem cells_of_arr {H : Type} {enc : TypeId × Value → H} {P : Program} {w : World} {base : Nat} {sp : Nat → Bool} {held : Bool} {fuel : Nat} {t e : TypeId} {n m : Nat} {cs : List Value} {ds : List (DataW H)} {p : List MemPlace}
    (ht : P.underlying t = some (.array n e)) (hce : P.cellsOf e = m) (h : DataW.trod enc P w base sp held fuel t cs = some (.agg ds, p)) :
    ∀ i d, i < n → ds[i]? = some d → ∃ f q, DataW.trod enc P w base sp held f e ((cs.drop (i * m)).take m) = some (d, q) := by
  cases fuel with
  | zero => simp [DataW.trod] at h
  | succ fuel =>
    simp only [DataW.trod, ht, hce] at h
    split at h
    · obtain ⟨xs, hm, hx⟩ := Option.map_eq_some_iff.1 h
      intro i d hi hd
      obtain ⟨b, hb, hf⟩ := Lib.mapM_at hm i i (by simp [hi])
      have h2 : xs.map (·.1) = ds := by
        have := congrArg Prod.fst hx
        simpa using this
      rw [← h2, List.getElem?_map, hb] at hd
      simp only [Option.map_some, Option.some.injEq] at hd
      subst hd
      exact ⟨fuel, b.2, hf⟩
    · cases h
/-- a table of taps, as data -/
def tbD {H : Type} (L : List (List Int)) : DataW H := .agg (L.map fun r => .agg (r.map fun z => .lit (.int .i64 z)))
theorem laid_rg : (Rows.laid_zoetrope_subpel_regular : DataW Unit) = tbD rgT := rfl
theorem laid_sm : (Rows.laid_zoetrope_subpel_smooth : DataW Unit) = tbD smT := rfl
theorem tab_cells {H : Type} {enc : TypeId × Value → H} {W : World} {base : Nat} {sp : Nat → Bool} {held : Bool} {fuel : Nat} {cs : List Value} {L : List (List Int)} {p : List MemPlace} (hL : ∀ k, k < 9 → (L.getD k []).length = 8) (h9 : L.length = 9) (h : DataW.trod enc Tryd.prog W base sp held fuel 81 cs = some (tbD L, p)) :
    ∀ k j, k < 9 → j < 8 → cs[k * 8 + j]? = some (.int .i64 ((L.getD k []).getD j 0)) := fun k j hk hj => by
  have hrow : (L.map fun r : List Int => (DataW.agg (r.map fun z => .lit (.int .i64 z)) : DataW H))[k]? = some (.agg ((L.getD k []).map fun z => .lit (.int .i64 z))) := by
    rw [List.getElem?_map, List.getD_eq_getElem?_getD, List.getElem?_eq_getElem (by omega)]; rfl
  obtain ⟨f, q, hf⟩ := cells_of_arr Tryd.underlying81 (m := 8) Tryd.cells74 h k _ hk hrow
  have hl := hL k hk
  generalize L.getD k [] = R at *
  have hcell : (R.map fun z : Int => (DataW.lit (.int .i64 z) : DataW H))[j]? = some (.lit (.int .i64 (R.getD j 0))) := by
    rw [List.getElem?_map, List.getD_eq_getElem?_getD, List.getElem?_eq_getElem (by omega)]; rfl
  obtain ⟨f2, q2, hf2⟩ := cells_of_arr Tryd.underlying74 (m := 1) Tryd.cells3 hf j _ hj hcell
  obtain ⟨k0, e0, e1, _⟩ := DataW.trod_int Tryd.underlying3 hf2
  have f0 := congrArg (·[0]?) e0
  simp only [Prod.mk.injEq, DataW.lit.injEq, Lit.int.injEq, true_and] at e1
  rw [e1.1]
  simpa [List.getElem?_drop, List.getElem?_take, hj] using f0
theorem gt_of {W : World} (h : laidMet Tryd.prog [("zoetrope/subpel.regular", Rows.laid_zoetrope_subpel_regular), ("zoetrope/subpel.smooth", Rows.laid_zoetrope_subpel_smooth)] W) : Gt W := by
  obtain ⟨ps, ⟨g1, t1, cs1, fuel1, q1, r1, hg1, ht1, hvar1, hd1, ⟨g2, t2, cs2, fuel2, q2, r2, hg2, ht2, hvar2, hd2, _, _⟩, _⟩, _⟩ := h
  obtain rfl := Option.some.inj (gRg.symm.trans hg1)
  obtain rfl := Option.some.inj (gRgT.symm.trans ht1)
  obtain rfl := Option.some.inj (gSm.symm.trans hg2)
  obtain rfl := Option.some.inj (gSmT.symm.trans ht2)
  rw [laid_rg] at hd1
  rw [laid_sm] at hd2
  have k1 := tab_cells (by decide) (by decide) hd1
  have k2 := tab_cells (by decide) (by decide) hd2
  have c1 : ∀ j, W.cell? ⟨1, j, none⟩ = cs1.toList[j]? := fun j => by rw [World.var?_cell gRg hvar1 j]; simp
  have c2 : ∀ j, W.cell? ⟨0, j, none⟩ = cs2.toList[j]? := fun j => by rw [World.var?_cell gSm hvar2 j]; simp
  have s := fun k j hk hj => (c2 (k * 8 + j)).trans (k2 k j hk hj)
  have r := fun k j hk hj => (c1 (k * 8 + j)).trans (k1 k j hk hj)
  exact ⟨World.block_lt_of_cell? W _ (r 0 0 (by omega) (by omega)), s, r⟩

end Go.Proofs.YtpideemiijhkgabDoor
