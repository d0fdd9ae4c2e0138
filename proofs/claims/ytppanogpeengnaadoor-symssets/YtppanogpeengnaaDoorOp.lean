/- DERIVED. The arguments of the statements of layer 4, opened: bytes, things to code, ints; the table of shapes that is laid. -/
import Derived.Test.YtppanogpeengnaaDoorRows
import Derived.Test.YtppanogpeengnaaDoorS4
import Derived.ProofKit
import Derived.OpenShut
import Derived.ShutString
import Derived.ChangeOld
import Derived.SizedLaws
import Derived.Deep.Slices
import Derived.Deep.Strs
import Derived.Lib.LaidTab
namespace Go.Proofs.YtppanogpeengnaaDoor
open Go.ChangeShapes Go.WideShapes Go.ChangeAt Go.RowKit L3

theorem Tryd.own : ownKnob Tryd.prog.godebug = none := by kernel_rfl
theorem Tryd.laidOut : laidOutB Tryd.prog = true := by kernel_rfl
theorem Tryd.cells3 : Tryd.prog.cellsOf 3 = 1 := by kernel_rfl
theorem Tryd.cells4 : Tryd.prog.cellsOf 4 = 1 := by kernel_rfl
theorem Tryd.cells5 : Tryd.prog.cellsOf 5 = 1 := by kernel_rfl
theorem Tryd.cells43 : Tryd.prog.cellsOf 43 = 5 := by kernel_rfl
theorem Tryd.cells96 : Tryd.prog.cellsOf 96 = 96 := by kernel_rfl
theorem Tryd.bytes3 : Tryd.prog.bytesOf 3 = 8 := by kernel_rfl
theorem Tryd.bytes5 : Tryd.prog.bytesOf 5 = 1 := by kernel_rfl
theorem Tryd.bytes43 : Tryd.prog.bytesOf 43 = 40 := by kernel_rfl
theorem gTab : Tryd.prog.globalNamed "zoetrope/syms.shapes" = some 0 := by kernel_rfl
theorem gTabType : (Tryd.prog.globals[0]?).map (·.type) = some 96 := by kernel_rfl
theorem addr_add (g k j : Nat) : (⟨g, k, none⟩ : Addr).add j = ⟨g, k + j, none⟩ := by unfold Addr.add; split <;> simp_all

/-- a slice of bytes that came in: its bytes; they are bytes; how it reads -/
theorem open_bytes {H : Type} {enc : TypeId × Value → H} {W : World} {a : Option Addr} {len cap : Nat} {d : DataW H} {ps : List MemPlace} (h : DataW.Trod enc Tryd.prog W 0 (fun _ => true) true 44 (.slice a len cap) d ps) :
    ∃ zs : List Nat, zs.length = len ∧ L2.SrcOf W (.slice a len cap) zs ∧ (∀ i, zs.getD i 0 < 256) ∧ (d = .nil ∧ len = 0 ∨ ∃ e s, d = .slice e s ∧ e.length = len) := by
  obtain ⟨fuel, hf⟩ := h
  rcases open_ints Tryd.underlying44 Tryd.underlying5 Tryd.cells5 hf with ⟨hcs, hx⟩ | ⟨x, l, c, zs, hcs, _, hl, hm, hz, hx, hcell, hwz⟩
  · simp [Value.cells] at hcs
    obtain ⟨rfl, rfl, rfl⟩ := hcs
    simp only [Prod.mk.injEq] at hx
    exact ⟨[], rfl, Or.inl ⟨rfl, rfl⟩, by simp, Or.inl ⟨hx.1, rfl⟩⟩
  · simp [Value.cells] at hcs
    obtain ⟨rfl, rfl, rfl⟩ := hcs
    simp at hz
    simp only [Prod.mk.injEq] at hx
    have hb : ∀ n ∈ zs, 0 ≤ n ∧ n ≤ 255 := fun n hn => bounds_u8 (hwz n hn)
    have hget : ∀ j, j < len → ((zs.take len).map Int.toNat).getD j 0 = (zs.getD j 0).toNat := fun j hj => by
      rw [List.getD_eq_getElem?_getD, List.getD_eq_getElem?_getD, List.getElem?_map, List.getElem?_take_of_lt hj]
      rw [List.getElem?_eq_getElem (show j < zs.length by omega)]
      rfl
    have hin : ∀ j, j < len → 0 ≤ zs.getD j 0 ∧ zs.getD j 0 ≤ 255 := fun j hj => by
      rw [List.getD_eq_getElem?_getD, List.getElem?_eq_getElem (show j < zs.length by omega)]
      exact hb _ (List.getElem_mem _)
    have hlen : ((zs.take len).map Int.toNat).length = len := by simp; omega
    refine ⟨(zs.take len).map Int.toNat, hlen, Or.inr ⟨x, cap, by rw [hlen], fun j hj => ?_⟩, fun i => ?_, Or.inr ⟨_, _, hx.1, by simp [lits]; omega⟩⟩
    · rw [hlen] at hj
      rw [hcell j (by omega), hget j hj]
      have := hin j hj
      rw [show (((zs.getD j 0).toNat : Nat) : Int) = zs.getD j 0 from by omega]
    · by_cases hi : i < len
      · rw [hget i hi]; have := hin i hi; omega
      · rw [List.getD_eq_getElem?_getD, List.getElem?_eq_none (by omega)]; simp

instance : Inhabited Dx := ⟨dz⟩
/-- a slice of things to code that came in -/
theorem open_dos {H : Type} {enc : TypeId × Value → H} {W : World} {a : Option Addr} {len cap : Nat} {d : DataW H} {ps : List MemPlace} (h : DataW.Trod enc Tryd.prog W 0 (fun _ => true) true 22 (.slice a len cap) d ps) :
    ∃ L : List Dx, L.length = len ∧ DoAt W a L ∧ (d = .nil ∧ len = 0 ∨ ∃ e s, d = .slice e s ∧ e.length = len) := by
  obtain ⟨fuel, hf⟩ := h
  rcases Deep.open_slice Tryd.underlying22 hf with ⟨hcs, hx⟩ | ⟨x, l, c, m, n, D, Pl, hcs, _, hl, hm, hmm, hx, hel⟩
  · simp [Value.cells] at hcs
    obtain ⟨rfl, rfl, rfl⟩ := hcs
    simp only [Prod.mk.injEq] at hx
    exact ⟨[], rfl, Or.inl rfl, Or.inl ⟨hx.1, rfl⟩⟩
  · simp [Value.cells] at hcs
    obtain ⟨rfl, rfl, rfl⟩ := hcs
    simp at hmm
    simp only [Prod.mk.injEq] at hx
    have each : ∀ i, i < len → ∃ q : Dx, W.cell? (x.add (i * 5)) = some (.bool q.b) ∧ W.cell? (x.add (i * 5 + 1)) = some (.int .i64 q.n) ∧ W.cell? (x.add (i * 5 + 2)) = some (.int .i64 q.k) ∧ W.cell? (x.add (i * 5 + 3)) = some (.int .i64 q.c) ∧ W.cell? (x.add (i * 5 + 4)) = some (.int .i64 q.v) := by
      intro i hi
      obtain ⟨cs', h1, h2⟩ := hel i (by omega)
      rw [Tryd.cells43] at h1
      obtain ⟨_, hlen, hcell⟩ := World.cells?_some h1
      obtain ⟨xs, n', _, _, _, hxl, hfl⟩ := DataW.trod_struct Tryd.underlying43 h2
      have hxl5 : xs.length = 5 := hxl
      have hy : ∀ i, i < 5 → ∃ y, xs[i]? = some y := fun i hi => ⟨xs[i], List.getElem?_eq_getElem (by omega)⟩
      obtain ⟨y0, z0⟩ := hy 0 (by omega)
      obtain ⟨y1, z1⟩ := hy 1 (by omega)
      obtain ⟨y2, z2⟩ := hy 2 (by omega)
      obtain ⟨y3, z3⟩ := hy 3 (by omega)
      obtain ⟨y4, z4⟩ := hy 4 (by omega)
      have g0 : DataW.trod enc Tryd.prog W 0 (fun _ => true) true n' 4 ((cs'.drop 0).take (Tryd.prog.cellsOf 4)) = some y0 := (hfl 0 _ rfl).trans z0
      have g1 : DataW.trod enc Tryd.prog W 0 (fun _ => true) true n' 3 ((cs'.drop 1).take (Tryd.prog.cellsOf 3)) = some y1 := (hfl 1 _ rfl).trans z1
      have g2 : DataW.trod enc Tryd.prog W 0 (fun _ => true) true n' 3 ((cs'.drop 2).take (Tryd.prog.cellsOf 3)) = some y2 := (hfl 2 _ rfl).trans z2
      have g3 : DataW.trod enc Tryd.prog W 0 (fun _ => true) true n' 3 ((cs'.drop 3).take (Tryd.prog.cellsOf 3)) = some y3 := (hfl 3 _ rfl).trans z3
      have g4 : DataW.trod enc Tryd.prog W 0 (fun _ => true) true n' 3 ((cs'.drop 4).take (Tryd.prog.cellsOf 3)) = some y4 := (hfl 4 _ rfl).trans z4
      simp only [Tryd.cells3, Tryd.cells4] at g0 g1 g2 g3 g4
      clear hfl z0 z1 z2 z3 z4 hy
      match cs', hlen with
      | [v0, v1, v2, v3, v4], _ =>
        simp at g0 g1 g2 g3 g4
        obtain ⟨k0, e0, _⟩ := DataW.trod_bool Tryd.underlying4 g0
        obtain ⟨k1, e1, _, _⟩ := DataW.trod_int Tryd.underlying3 g1
        obtain ⟨k2, e2, _, _⟩ := DataW.trod_int Tryd.underlying3 g2
        obtain ⟨k3, e3, _, _⟩ := DataW.trod_int Tryd.underlying3 g3
        obtain ⟨k4, e4, _, _⟩ := DataW.trod_int Tryd.underlying3 g4
        simp at e0 e1 e2 e3 e4
        subst e0 e1 e2 e3 e4
        have c0 := hcell 0 (by omega)
        have c1 := hcell 1 (by omega)
        have c2 := hcell 2 (by omega)
        have c3 := hcell 3 (by omega)
        have c4 := hcell 4 (by omega)
        rw [Deep.add_add] at c0 c1 c2 c3 c4
        exact ⟨⟨k0, k1, k2, k3, k4⟩, by simpa using c0, by simpa using c1, by simpa using c2, by simpa using c3, by simpa using c4⟩
    obtain ⟨q, hq⟩ := Deep.choose_lt each
    have hget : ∀ j, j < len → ((List.range len).map q).getD j dz = q j := fun j hj => by
      rw [List.getD_eq_getElem?_getD, List.getElem?_map, List.getElem?_range hj]; rfl
    refine ⟨(List.range len).map q, by simp, ?_, Or.inr ⟨_, _, hx.1, by simp⟩⟩
    by_cases h0 : len = 0
    · subst h0; exact Or.inl (by simp)
    · have hq0 := (hq 0 (by omega)).1
      obtain ⟨b, off, spot⟩ := x
      have hspot : spot = none := by simpa [Addr.add] using World.cell?_spot hq0
      subst hspot
      have hbl := World.block_lt_of_cell? W _ hq0
      rw [addr_add] at hbl
      refine Or.inr ⟨b, off, rfl, hbl, fun j hj => ?_⟩
      simp at hj
      obtain ⟨c0, c1, c2, c3, c4⟩ := hq j hj
      rw [addr_add] at c0 c1 c2 c3 c4
      rw [hget j hj]
      exact ⟨c0, c1, c2, c3, c4⟩

/-- an array, element by element -/
theorem cells_of_arr {H : Type} {enc : TypeId × Value → H} {P : Program} {w : World} {base : Nat} {sp : Nat → Bool} {held : Bool} {fuel : Nat} {t e : TypeId} {n m : Nat} {cs : List Value} {ds : List (DataW H)} {p : List MemPlace}
    (ht : P.underlying t = some (.array n e)) (hce : P.cellsOf e = m) (h : DataW.trod enc P w base sp held fuel t cs = some (.agg ds, p)) :
    ∀ i d, i < n → ds[i]? = some d → ∃ f q, DataW.trod enc P w base sp held f e ((cs.drop (i * m)).take m) = some (d, q) := by
  cases fuel with
  | zero => simp [DataW.trod] at h
  | succ fuel =>
    simp only [DataW.trod, ht, hce] at h
    split at h
    · obtain ⟨xs, hm, hx⟩ := Option.map_eq_some_iff.1 h
      intro i d hi hd
      obtain ⟨b, hb, hf⟩ := Lib.mapM_at hm i i (by simp [hi])
      have h2 : xs.map (·.1) = ds := by
        have := congrArg Prod.fst hx
        simpa using this
      rw [← h2, List.getElem?_map, hb] at hd
      simp only [Option.map_some, Option.some.injEq] at hd
      subst hd
      exact ⟨fuel, b.2, hf⟩
    · cases h

theorem laid_shp : (Rows.laid_zoetrope_syms_shapes : DataW Unit) = .agg (shp.map fun q => .agg [.lit (.int .i64 (q.1 : Nat)), .lit (.int .i64 (q.2.1 : Nat)), .lit (.bool q.2.2)]) := rfl
theorem sh_of {W : World} {d1 d3 : String × DataW Unit} (h : laidMet Tryd.prog [d1, ("zoetrope/syms.shapes", Rows.laid_zoetrope_syms_shapes), d3] W) : Sh W := by
  obtain ⟨ps, ⟨_, _, _, _, _, _, _, _, _, _, ⟨g, t, cs, fuel, p, q, hg, ht, hvar, hd, _, _⟩, _⟩, _⟩ := h
  obtain rfl := Option.some.inj (gTab.symm.trans hg)
  obtain rfl := Option.some.inj (gTabType.symm.trans ht)
  rw [laid_shp] at hd
  have hlen : shp.length = 32 := by decide
  have key : ∀ k, k < 32 → W.cell? ⟨0, k * 3, none⟩ = some (.int .i64 (sC k : Nat)) ∧ W.cell? ⟨0, k * 3 + 1, none⟩ = some (.int .i64 (sV k : Nat)) ∧ W.cell? ⟨0, k * 3 + 2, none⟩ = some (.bool (sS k)) := fun k hk => by
    have hk' : k < shp.length := by omega
    obtain ⟨f, r, hf⟩ := cells_of_arr Tryd.underlying96 (m := 3) (by kernel_rfl) hd k _ hk (by rw [List.getElem?_map, List.getElem?_eq_getElem hk']; rfl)
    have hget : shp[k] = (sC k, sV k, sS k) := by
      unfold sC sV sS
      rw [List.getD_eq_getElem?_getD, List.getElem?_eq_getElem hk']; rfl
    rw [hget] at hf
    obtain ⟨y0, y1, y2, n, hy, hcl, g0, g1, g2⟩ := Deep.trod_struct3 Tryd.underlying95 hf
    simp only [Tryd.cells3, Tryd.cells4] at g0 g1 g2
    obtain ⟨k0, e0, e0', _⟩ := DataW.trod_int Tryd.underlying3 g0
    obtain ⟨k1, e1, e1', _⟩ := DataW.trod_int Tryd.underlying3 g1
    obtain ⟨k2, e2, e2'⟩ := DataW.trod_bool Tryd.underlying4 g2
    subst e0' e1' e2'
    simp only [Prod.mk.injEq, DataW.agg.injEq, List.cons.injEq, DataW.lit.injEq, Lit.int.injEq, true_and, Lit.bool.injEq, and_true] at hy
    obtain ⟨⟨rfl, rfl, rfl⟩, _⟩ := hy
    have c : ∀ j, W.cell? ⟨0, j, none⟩ = cs.toList[j]? := fun j => by rw [World.var?_cell gTab hvar j]; simp
    rw [c, c, c]
    have f0 := congrArg (·[0]?) e0
    have f1 := congrArg (·[0]?) e1
    have f2 := congrArg (·[0]?) e2
    simp [List.getElem?_drop] at f0 f1 f2
    simp only [Array.getElem?_toList]
    exact ⟨f0, f1, f2⟩
  exact ⟨World.block_lt_of_cell? W _ (key 0 (by omega)).1, fun k hk => (key k hk).1, fun k hk => (key k hk).2.1, fun k hk => (key k hk).2.2⟩

end Go.Proofs.YtppanogpeengnaaDoor
