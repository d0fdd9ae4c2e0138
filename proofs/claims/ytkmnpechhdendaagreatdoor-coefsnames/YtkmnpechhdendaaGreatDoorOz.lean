/- DERIVED. Blocks that came in, with how long their levels can be. -/
import Derived.Test.YtkmnpechhdendaaGreatDoorOp
namespace Go.Proofs.YtkmnpechhdendaaGreatDoor
open Go.ChangeShapes Go.WideShapes Go.ChangeAt Go.RowKit L3

theorem all_weights {H : Type} {P : Program} {e : TypeId} {d : DataW H} : ∀ {ds : List (DataW H)}, (DataW.weightsAll P e ds).all (· ≤ reachBytes) = true → d ∈ ds → (d.weights P e).all (· ≤ reachBytes) = true
  | [], _, h => by simp at h
  | x :: r, h, hd => by
    simp only [DataW.weightsAll] at h
    rw [List.all_append, Bool.and_eq_true] at h
    rcases List.mem_cons.1 hd with rfl | hd
    · exact h.1
    · exact all_weights h.2 hd
theorem all_each {H : Type} {P : Program} {ts : List TypeId} {ds : List (DataW H)} (h : (DataW.weightsEach P ts ds).all (· ≤ reachBytes) = true) {j : Nat} {t : TypeId} {d : DataW H} (ht : ts[j]? = some t) (hd : ds[j]? = some d) : (d.weights P t).all (· ≤ reachBytes) = true :=
  List.all_eq_true.2 fun n hn => List.all_eq_true.1 h n (DataW.weights_mem_each ht hd n hn)
/-- no block has more levels than a machine holds -/
structure Short (L : List Dd) : Prop where
  len : ∀ j, j < L.length → (L.getD j dd0).L.length ≤ 17592186043904
theorem lvl_len {H : Type} {enc : TypeId × Value → H} {W : World} {fuel n lc : Nat} {la : Option Addr} {y : DataW H × List MemPlace} (hf : DataW.trod enc Tryz.prog W 0 (fun _ => true) true fuel 34 [.slice la n lc] = some y) (hw : (y.1.weights Tryz.prog 34).all (· ≤ reachBytes) = true) : n ≤ 17592186043904 := by
  rcases open_ints Tryz.underlying34 Tryz.underlying3 Tryz.cells3 hf with ⟨hcs, hx⟩ | ⟨x, l, c, zs, hcs, _, hl, hm, hz, hx, hcell, hwz⟩
  · simp at hcs
    omega
  · simp at hcs
    obtain ⟨rfl, rfl, rfl⟩ := hcs
    rw [hx] at hw
    simp only [DataW.weights, Tryz.underlying34] at hw
    rw [List.all_cons, Bool.and_eq_true] at hw
    have hs := of_decide_eq_true hw.1
    rw [Tryz.bytes3] at hs
    simp [lits] at hs hz
    simp only [reachBytes] at hs
    omega
/-- a slice of blocks that came in, with how long their levels can be -/
theorem open_dos_tight {H : Type} {enc : TypeId × Value → H} {W : World} {a : Option Addr} {len cap : Nat} {d : DataW H} {ps : List MemPlace} (h : DataW.Trod enc Tryz.prog W 0 (fun _ => true) true 22 (.slice a len cap) d ps) (hw : (d.weights Tryz.prog 22).all (· ≤ reachBytes) = true) :
    ∃ L : List Dd, L.length = len ∧ (DoAt W a L ∧ Short L) ∧ (d = .nil ∧ len = 0 ∨ ∃ e s, d = .slice e s ∧ e.length = len) ∧ len ≤ cap := by
  obtain ⟨fuel, hf⟩ := h
  rcases Deep.open_slice Tryz.underlying22 hf with ⟨hcs, hx⟩ | ⟨x, l, c, m, n, D, Pl, hcs, _, hl, hm, hmm, hx, hel⟩
  · simp [Value.cells] at hcs
    obtain ⟨rfl, rfl, rfl⟩ := hcs
    simp only [Prod.mk.injEq] at hx
    exact ⟨[], rfl, ⟨Or.inl rfl, ⟨fun j hj => by simp at hj⟩⟩, Or.inl ⟨hx.1, rfl⟩, Nat.le_refl _⟩
  · simp [Value.cells] at hcs
    obtain ⟨rfl, rfl, rfl⟩ := hcs
    simp at hmm
    simp only [Prod.mk.injEq] at hx
    rw [hx.1] at hw
    simp only [DataW.weights, Tryz.underlying22] at hw
    rw [List.all_cons, Bool.and_eq_true, List.all_append, Bool.and_eq_true] at hw
    have each : ∀ i, i < len → ∃ q : Dd, DdAt W x i q ∧ q.L.length ≤ 17592186043904 := by
      intro i hi
      obtain ⟨cs', h1, h2⟩ := hel i (by omega)
      rw [Tryz.cells36] at h1
      obtain ⟨_, hlen, hcell⟩ := World.cells?_some h1
      have hwi : ((D i).weights Tryz.prog 36).all (· ≤ reachBytes) = true := all_weights hw.2.1 (List.mem_map.2 ⟨i, by simpa using hi, rfl⟩)
      obtain ⟨xs, n', _, hxd, _, hxl, hfl⟩ := DataW.trod_struct Tryz.underlying36 h2
      have hxl4 : xs.length = 4 := hxl
      have hy : ∀ i, i < 4 → ∃ y, xs[i]? = some y := fun i hi => ⟨xs[i], List.getElem?_eq_getElem (by omega)⟩
      obtain ⟨y0, z0⟩ := hy 0 (by omega)
      obtain ⟨y1, z1⟩ := hy 1 (by omega)
      obtain ⟨y2, z2⟩ := hy 2 (by omega)
      obtain ⟨y3, z3⟩ := hy 3 (by omega)
      have g0 : DataW.trod enc Tryz.prog W 0 (fun _ => true) true n' 3 ((cs'.drop 0).take (Tryz.prog.cellsOf 3)) = some y0 := (hfl 0 _ rfl).trans z0
      have g1 : DataW.trod enc Tryz.prog W 0 (fun _ => true) true n' 3 ((cs'.drop 1).take (Tryz.prog.cellsOf 3)) = some y1 := (hfl 1 _ rfl).trans z1
      have g2 : DataW.trod enc Tryz.prog W 0 (fun _ => true) true n' 3 ((cs'.drop 2).take (Tryz.prog.cellsOf 3)) = some y2 := (hfl 2 _ rfl).trans z2
      have g3 : DataW.trod enc Tryz.prog W 0 (fun _ => true) true n' 34 ((cs'.drop 3).take (Tryz.prog.cellsOf 34)) = some y3 := (hfl 3 _ rfl).trans z3
      simp only [Tryz.cells3, Tryz.cells34] at g0 g1 g2 g3
      have hxe : xs = [y0, y1, y2, y3] := by
        match xs, hxl4 with
        | [a0, a1, a2, a3], _ => simp at z0 z1 z2 z3; simp [z0, z1, z2, z3]
      have hw3 : (y3.1.weights Tryz.prog 34).all (· ≤ reachBytes) = true := by
        have e : D i = .agg (xs.map (·.1)) := congrArg Prod.fst hxd
        rw [e, hxe] at hwi
        simp only [DataW.weights, Tryz.underlying36] at hwi
        refine List.all_eq_true.2 fun n hn => List.all_eq_true.1 hwi n ?_
        exact DataW.weights_mem_each (j := 3) (t := 34) (d := y3.1) rfl rfl n hn
      clear hfl z0 z1 z2 z3 hy hxd hxe hwi
      match cs', hlen with
      | [v0, v1, v2, v3], _ =>
        simp at g0 g1 g2 g3
        obtain ⟨k0, e0, _, _⟩ := DataW.trod_int Tryz.underlying3 g0
        obtain ⟨k1, e1, _, _⟩ := DataW.trod_int Tryz.underlying3 g1
        obtain ⟨k2, e2, _, _⟩ := DataW.trod_int Tryz.underlying3 g2
        obtain ⟨la, lc, L, e3, hsi, hml⟩ := open_lvl g3
        simp at e0 e1 e2
        subst e0 e1 e2 e3
        have c0 := hcell 0 (by omega)
        have c1 := hcell 1 (by omega)
        have c2 := hcell 2 (by omega)
        have c3 := hcell 3 (by omega)
        rw [Deep.add_add] at c0 c1 c2 c3
        exact ⟨⟨k0, k1, k2, la, lc, L⟩, ⟨by simpa using c0, by simpa using c1, by simpa using c2, by simpa using c3, hsi, hml⟩, lvl_len g3 hw3⟩
    obtain ⟨q, hq⟩ := Deep.choose_lt each
    have hget : ∀ j, j < len → ((List.range len).map q).getD j dd0 = q j := fun j hj => by
      rw [List.getD_eq_getElem?_getD, List.getElem?_map, List.getElem?_range hj]; rfl
    refine ⟨(List.range len).map q, by simp, ⟨?_, ⟨fun j hj => by rw [hget j (by simpa using hj)]; exact (hq j (by simpa using hj)).2⟩⟩, Or.inr ⟨_, _, hx.1, by simp⟩, hl⟩
    by_cases h0 : len = 0
    · subst h0; exact Or.inl (by simp)
    · have hq0 := (hq 0 (by omega)).1.1
      obtain ⟨b, off, spot⟩ := x
      have hspot : spot = none := by simpa [Addr.add] using World.cell?_spot hq0
      subst hspot
      have hbl := World.block_lt_of_cell? W _ hq0
      rw [addr_add] at hbl
      refine Or.inr ⟨b, off, rfl, hbl, fun j hj => ?_⟩
      simp at hj
      rw [hget j hj]
      exact (hq j hj).1

end Go.Proofs.YtkmnpechhdendaaGreatDoor
