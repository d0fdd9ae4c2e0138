/- DERIVED. The arguments opened: bytes, a list of pieces. -/
import Derived.Test.YtkippnfijjhobaaTi
import Derived.Test.YtkippnfijjhobaaRows
import Derived.ProofKit
import Derived.OpenShut
import Derived.ShutString
import Derived.ChangeOld
import Derived.SizedLaws
import Derived.Deep.Slices
import Derived.Deep.Strs
namespace Go.Proofs.Ytkippnfijjhobaa
open Go.ChangeShapes Go.WideShapes Go.ChangeAt Go.RowKit

theorem Try.own : ownKnob Try.prog.godebug = none := by kernel_rfl
theorem Try.laidOut : laidOutB Try.prog = true := by kernel_rfl
theorem Try.cells5 : Try.prog.cellsOf 5 = 1 := by kernel_rfl
theorem Try.cells3 : Try.prog.cellsOf 3 = 1 := by kernel_rfl
theorem Try.cells22 : Try.prog.cellsOf 22 = 1 := by kernel_rfl
theorem Try.cells44 : Try.prog.cellsOf 44 = 2 := by kernel_rfl
theorem Try.bytes5 : Try.prog.bytesOf 5 = 1 := by kernel_rfl
theorem Try.bytes44 : Try.prog.bytesOf 44 = 32 := by kernel_rfl
theorem all_weights {H : Type} {P : Program} {e : TypeId} {d : DataW H} : ∀ {ds : List (DataW H)}, (DataW.weightsAll P e ds).all (· ≤ reachBytes) = true → d ∈ ds → (d.weights P e).all (· ≤ reachBytes) = true
  | [], _, h => by simp at h
  | x :: r, h, hd => by
    simp only [DataW.weightsAll] at h
    rw [List.all_append, Bool.and_eq_true] at h
    rcases List.mem_cons.1 hd with rfl | hd
    · exact h.1
    · exact all_weights h.2 hd
theorem all_each {H : Type} {P : Program} {ts : List TypeId} {ds : List (DataW H)} (h : (DataW.weightsEach P ts ds).all (· ≤ reachBytes) = true) {j : Nat} {t : TypeId} {d : DataW H} (ht : ts[j]? = some t) (hd : ds[j]? = some d) : (d.weights P t).all (· ≤ reachBytes) = true :=
  List.all_eq_true.2 fun n hn => List.all_eq_true.1 h n (DataW.weights_mem_each ht hd n hn)
theorem bulk_lits {H : Type} (k : IntKind) : ∀ L : List Int, Rows.uptoBulkAll (H := H) (lits k L) = L.length := by
  intro L
  induction L with
  | nil => simp [lits, Rows.uptoBulkAll]
  | cons x t ih =>
    have e : lits (H := H) k (x :: t) = .lit (.int k x) :: lits k t := by simp [lits]
    rw [e, Rows.uptoBulkAll, ih, Rows.uptoBulk, List.length_cons]
    · omega
    · intro b hb; cases hb
/-- bytes that came in -/
theorem open_body {H : Type} {enc : TypeId × Value → H} {W : World} {a : Option Addr} {len cap fuel : Nat} {y : DataW H × List MemPlace} (hf : DataW.trod enc Try.prog W 0 (fun _ => true) true fuel 22 [.slice a len cap] = some y) (hw : (y.1.weights Try.prog 22).all (· ≤ reachBytes) = true) :
    ∃ zs : List Nat, zs.length = len ∧ By W W.heap.size (.slice a len cap) zs ∧ len + 1 ≤ Rows.uptoBulk y.1 := by
  rcases open_ints Try.underlying22 Try.underlying5 Try.cells5 hf with ⟨hcs, hx⟩ | ⟨x, l, c, zs, hcs, _, hl, hm, hz, hx, hcell, hwz⟩
  · simp at hcs
    obtain ⟨rfl, rfl, rfl⟩ := hcs
    refine ⟨[], rfl, ⟨⟨none, 0, rfl, Nat.le_refl _, fun _ => rfl, Or.inl rfl⟩, by simp, by simp⟩, ?_⟩
    rw [hx]
    simp [Rows.uptoBulk]
  · simp at hcs
    obtain ⟨rfl, rfl, rfl⟩ := hcs
    simp at hz
    have hwl : len ≤ 140737488355328 := by
      rw [hx] at hw
      simp only [DataW.weights, Try.underlying22] at hw
      rw [List.all_cons, Bool.and_eq_true] at hw
      have hs := of_decide_eq_true hw.1
      rw [Try.bytes5] at hs
      simp [lits] at hs hz
      simp only [reachBytes] at hs
      omega
    have hb : ∀ n ∈ zs, 0 ≤ n ∧ n ≤ 255 := fun n hn => bounds_u8 (hwz n hn)
    have hget : ∀ j, j < len → ((zs.take len).map Int.toNat).getD j 0 = (zs.getD j 0).toNat := fun j hj => by
      rw [List.getD_eq_getElem?_getD, List.getD_eq_getElem?_getD, List.getElem?_map, List.getElem?_take_of_lt hj]
      rw [List.getElem?_eq_getElem (show j < zs.length by omega)]
      rfl
    have hin : ∀ j, j < len → 0 ≤ zs.getD j 0 ∧ zs.getD j 0 ≤ 255 := fun j hj => by
      rw [List.getD_eq_getElem?_getD, List.getElem?_eq_getElem (show j < zs.length by omega)]
      exact hb _ (List.getElem_mem _)
    have hlen : ((zs.take len).map Int.toNat).length = len := by simp; omega
    have hnz : (some x : Option Addr) = none → cap = 0 := by intro e; cases e
    refine ⟨(zs.take len).map Int.toNat, hlen, ⟨⟨some x, cap, by rw [hlen], by rw [hlen]; exact hl, hnz, ?_⟩, fun i => ?_, by rw [hlen]; exact hwl⟩, ?_⟩
    · by_cases h0 : len = 0
      · subst h0; exact Or.inl (by simp)
      · have hq0 := hcell 0 (by omega)
        obtain ⟨b, off, spot⟩ := x
        have hspot : spot = none := by simpa [Addr.add] using World.cell?_spot hq0
        subst hspot
        have hbl := World.block_lt_of_cell? W _ hq0
        rw [addr_add] at hbl
        refine Or.inr ⟨b, off, rfl, hbl, fun j hj => ?_⟩
        rw [hlen] at hj
        have := hcell j (by omega)
        rw [addr_add] at this
        rw [this, hget j hj]
        have := hin j hj
        rw [show (((zs.getD j 0).toNat : Nat) : Int) = zs.getD j 0 from by omega]
    · by_cases hi : i < len
      · rw [hget i hi]; have := hin i hi; omega
      · rw [List.getD_eq_getElem?_getD, List.getElem?_eq_none (by omega)]; simp
    · rw [hx]
      simp only [Rows.uptoBulk, bulk_lits]
      simp
      omega
theorem bulk_sum {H : Type} (q : Nat → Pc) (D : Nat → DataW H) : ∀ l : List Nat, (∀ i ∈ l, (q i).2.length + 3 ≤ Rows.uptoBulk (D i)) → szP (l.map q) ≤ 2 * Rows.uptoBulkAll (l.map D) := by
  intro l
  induction l with
  | nil => intro _; simp [szP, Rows.uptoBulkAll]
  | cons x t ih =>
    intro h
    have h1 := h x (by simp)
    have h2 := ih (fun i hi => h i (by simp [hi]))
    simp only [List.map_cons, Rows.uptoBulkAll]
    have e : szP (q x :: t.map q) = (q x).2.length + 6 + szP (t.map q) := by simp [szP]
    rw [e]
    omega
/-- a list of pieces that came in -/
theorem open_obus {H : Type} {enc : TypeId × Value → H} {W : World} {a : Option Addr} {len cap : Nat} {d : DataW H} {ps : List MemPlace} (h : DataW.Trod enc Try.prog W 0 (fun _ => true) true 24 (.slice a len cap) d ps) (hw : (d.weights Try.prog 24).all (· ≤ reachBytes) = true) :
    ∃ P : List Pc, P.length = len ∧ Ob W W.heap.size (.slice a len cap) P ∧ len ≤ 4398046511104 ∧ szP P ≤ 2 * Rows.uptoBulk d := by
  obtain ⟨fuel, hf⟩ := h
  rcases Deep.open_slice Try.underlying24 hf with ⟨hcs, hx⟩ | ⟨x, l, c, m, n, D, Pl, hcs, _, hl, hm, hmm, hx, hel⟩
  · simp [Value.cells] at hcs
    obtain ⟨rfl, rfl, rfl⟩ := hcs
    exact ⟨[], rfl, ⟨none, 0, [], rfl, Nat.le_refl _, Or.inl rfl, ⟨rfl, fun j hj => by simp at hj⟩⟩, by omega, by simp [szP]⟩
  · simp [Value.cells] at hcs
    obtain ⟨rfl, rfl, rfl⟩ := hcs
    simp at hmm
    simp only [Prod.mk.injEq] at hx
    rw [hx.1] at hw ⊢
    simp only [DataW.weights, Try.underlying24] at hw
    rw [List.all_cons, Bool.and_eq_true, List.all_append, Bool.and_eq_true] at hw
    have hlen42 : len ≤ 4398046511104 := by
      have hs := of_decide_eq_true hw.1
      rw [Try.bytes44] at hs
      simp at hs
      simp only [reachBytes] at hs
      omega
    have each : ∀ i, i < len → ∃ q : Oh × Pc, W.cell? (x.add (i * 2)) = some (.int .i64 q.1.1) ∧ W.cell? (x.add (i * 2 + 1)) = some q.1.body ∧ Hd1 W W.heap.size q.1 q.2 ∧ q.2.2.length + 3 ≤ Rows.uptoBulk (D i) := by
      intro i hi
      obtain ⟨cs', h1, h2⟩ := hel i (by omega)
      rw [Try.cells44] at h1
      obtain ⟨_, hlen, hcell⟩ := World.cells?_some h1
      have hwi : ((D i).weights Try.prog 44).all (· ≤ reachBytes) = true := all_weights hw.2.1 (List.mem_map.2 ⟨i, by simpa using hi, rfl⟩)
      obtain ⟨xs, n', _, hxd, _, hxl, hfl⟩ := DataW.trod_struct Try.underlying44 h2
      have hxl2 : xs.length = 2 := hxl
      have hy : ∀ i, i < 2 → ∃ y, xs[i]? = some y := fun i hi => ⟨xs[i], List.getElem?_eq_getElem (by omega)⟩
      obtain ⟨y0, z0⟩ := hy 0 (by omega)
      obtain ⟨y1, z1⟩ := hy 1 (by omega)
      have g0 : DataW.trod enc Try.prog W 0 (fun _ => true) true n' 3 ((cs'.drop 0).take (Try.prog.cellsOf 3)) = some y0 := (hfl 0 _ rfl).trans z0
      have g1 : DataW.trod enc Try.prog W 0 (fun _ => true) true n' 22 ((cs'.drop 1).take (Try.prog.cellsOf 22)) = some y1 := (hfl 1 _ rfl).trans z1
      simp only [Try.cells3, Try.cells22] at g0 g1
      have hxe : xs = [y0, y1] := by
        match xs, hxl2 with
        | [a0, a1], _ => simp at z0 z1; simp [z0, z1]
      have hDe : D i = .agg [y0.1, y1.1] := by
        have e : D i = .agg (xs.map (·.1)) := congrArg Prod.fst hxd
        rw [e, hxe]; rfl
      have hw1 : (y1.1.weights Try.prog 22).all (· ≤ reachBytes) = true := by
        rw [hDe] at hwi
        simp only [DataW.weights, Try.underlying44] at hwi
        refine List.all_eq_true.2 fun n hn => List.all_eq_true.1 hwi n ?_
        exact DataW.weights_mem_each (j := 1) (t := 22) (d := y1.1) rfl rfl n hn
      clear hfl z0 z1 hy hxd hxe hwi
      match cs', hlen with
      | [v0, v1], _ =>
        simp at g0 g1
        obtain ⟨k0, e0, e0d, _⟩ := DataW.trod_int Try.underlying3 g0
        simp at e0
        subst e0
        obtain ⟨sa, sn, sc, rfl⟩ : ∃ sa sn sc, v1 = .slice sa sn sc := by
          rcases open_ints Try.underlying22 Try.underlying5 Try.cells5 g1 with ⟨hcs, _⟩ | ⟨x, l, c, zs, hcs, _⟩
          · simp at hcs; exact ⟨_, _, _, hcs⟩
          · simp at hcs; exact ⟨_, _, _, hcs⟩
        obtain ⟨zs, hz, hby, hbulk⟩ := open_body g1 hw1
        have c0 := hcell 0 (by omega)
        have c1 := hcell 1 (by omega)
        rw [Deep.add_add] at c0 c1
        refine ⟨((k0, sa, sn, sc), (k0, zs)), by simpa using c0, by simpa [Oh.body] using c1, ⟨rfl, hby⟩, ?_⟩
        rw [hDe]
        have hone : 1 ≤ Rows.uptoBulk y0.1 := by rw [e0d]; simp [Rows.uptoBulk]
        simp only [Rows.uptoBulk, Rows.uptoBulkAll]
        show zs.length + 3 ≤ _
        omega
    obtain ⟨q, hq⟩ := Deep.choose_lt each
    have hgO : ∀ j, j < len → ((List.range len).map fun i => (q i).1).getD j oh0 = (q j).1 := fun j hj => by
      rw [List.getD_eq_getElem?_getD, List.getElem?_map, List.getElem?_range hj]; rfl
    have hgP : ∀ j, j < len → ((List.range len).map fun i => (q i).2).getD j p0 = (q j).2 := fun j hj => by
      rw [List.getD_eq_getElem?_getD, List.getElem?_map, List.getElem?_range hj]; rfl
    refine ⟨(List.range len).map fun i => (q i).2, by simp, ⟨some x, cap, (List.range len).map fun i => (q i).1, by simp, by simpa using hl, ?_, ⟨by simp, fun j hj => ?_⟩⟩, hlen42, ?_⟩
    · by_cases h0 : len = 0
      · subst h0; exact Or.inl (by simp)
      · have hq0 := (hq 0 (by omega)).1
        obtain ⟨b, off, spot⟩ := x
        have hspot : spot = none := by simpa [Addr.add] using World.cell?_spot hq0
        subst hspot
        have hbl := World.block_lt_of_cell? W _ hq0
        rw [addr_add] at hbl
        refine Or.inr ⟨b, off, rfl, hbl, fun j hj => ?_⟩
        simp at hj
        obtain ⟨c0, c1, _⟩ := hq j hj
        rw [addr_add] at c0 c1
        rw [hgO j hj]
        exact ⟨c0, c1⟩
    · simp at hj
      rw [hgO j hj, hgP j hj]
      exact (hq j hj).2.2.1
    · have := bulk_sum (fun i => (q i).2) D (List.range len) (fun i hi => (hq i (by simpa using hi)).2.2.2)
      simp only [Rows.uptoBulk]
      omega
end Go.Proofs.Ytkippnfijjhobaa
