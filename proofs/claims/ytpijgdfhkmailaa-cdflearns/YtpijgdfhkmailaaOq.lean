/- DERIVED. The arguments of the statements of layer 3, opened: a list of tables, a list of whole numbers. -/
import Derived.Test.YtpijgdfhkmailaaOp
import Derived.Test.YtpijgdfhkmailaaLb
namespace Go.Proofs.Ytpijgdfhkmailaa
open Go.ChangeShapes Go.WideShapes Go.ChangeAt Go.RowKit

/-- a list of whole numbers that came in -/
theorem open_list {H : Type} {enc : TypeId × Value → H} {W : World} {a : Option Addr} {len cap : Nat} {d : DataW H} {ps : List MemPlace} (h : DataW.Trod enc Try.prog W 0 (fun _ => true) true 39 (.slice a len cap) d ps) (hw : (d.weights Try.prog 39).all (· ≤ reachBytes) = true) :
    ∃ zs : List Int, zs.length = len ∧ Ns W a zs ∧ zs.length ≤ 17592186044416 := by
  obtain ⟨fuel, hf⟩ := h
  rcases open_ints Try.underlying39 Try.underlying3 Try.cells3 hf with ⟨hcs, hx⟩ | ⟨x, l, c, zs, hcs, _, hl, hm, hz, hx, hcell, hwz⟩
  · simp [Value.cells] at hcs
    obtain ⟨rfl, rfl, rfl⟩ := hcs
    exact ⟨[], rfl, Or.inl rfl, by simp⟩
  · simp [Value.cells] at hcs
    obtain ⟨rfl, rfl, rfl⟩ := hcs
    simp at hz
    simp only [Prod.mk.injEq] at hx
    have hget : ∀ j, j < len → (zs.take len).getD j 0 = zs.getD j 0 := fun j hj => by
      rw [List.getD_eq_getElem?_getD, List.getD_eq_getElem?_getD, List.getElem?_take_of_lt hj]
    have hlen : (zs.take len).length = len := by simp; omega
    refine ⟨zs.take len, hlen, ?_, ?_⟩
    · by_cases h0 : len = 0
      · left; exact List.eq_nil_of_length_eq_zero (by rw [hlen]; exact h0)
      · have hc0 := hcell 0 (by omega)
        obtain ⟨b, off, spot⟩ := x
        have hspot : spot = none := by simpa [Addr.add] using World.cell?_spot hc0
        subst hspot
        have hbl := World.block_lt_of_cell? W _ hc0
        rw [addr_add] at hbl
        refine Or.inr ⟨b, off, rfl, hbl, fun j hj => ?_⟩
        rw [hlen] at hj
        rw [← addr_add, hcell j (by omega), hget j hj]
    · rw [hlen]
      rw [hx.1] at hw
      simp only [DataW.weights, Try.underlying39] at hw
      rw [List.all_cons, Bool.and_eq_true] at hw
      have := of_decide_eq_true hw.1
      rw [Try.bytes3] at this
      simp [lits, reachBytes] at this
      omega

instance : Inhabited Tb := ⟨⟨none, 0, [], 0⟩⟩
/-- a list of tables: none, or a row of them -/
def Tl (w : World) (a : Option Addr) (L : List Tb) : Prop := L = [] ∨ ∃ b o, a = some ⟨b, o, none⟩ ∧ Ts w b o L

/-- a list of tables that came in -/
theorem open_tables {H : Type} {enc : TypeId × Value → H} {W : World} {a : Option Addr} {len cap : Nat} {d : DataW H} {ps : List MemPlace} (h : DataW.Trod enc Try.prog W 0 (fun _ => true) true 42 (.slice a len cap) d ps) (hw : (d.weights Try.prog 42).all (· ≤ reachBytes) = true) :
    ∃ L : List Tb, L.length = len ∧ Tl W a L ∧ L.length ≤ 4398046511104 := by
  obtain ⟨fuel, hf⟩ := h
  rcases Deep.open_slice Try.underlying42 hf with ⟨hcs, hx⟩ | ⟨x, l, c, m, n, D, Pl, hcs, _, hl, hm, hmm, hx, hel⟩
  · simp [Value.cells] at hcs
    obtain ⟨rfl, rfl, rfl⟩ := hcs
    exact ⟨[], rfl, Or.inl rfl, by simp⟩
  · simp [Value.cells] at hcs
    obtain ⟨rfl, rfl, rfl⟩ := hcs
    simp at hmm
    simp only [Prod.mk.injEq] at hx
    rw [hx.1] at hw
    simp only [DataW.weights, Try.underlying42] at hw
    rw [List.all_cons, Bool.and_eq_true, List.all_append, Bool.and_eq_true] at hw
    have hsize := of_decide_eq_true hw.1
    rw [Try.bytes24] at hsize
    simp [reachBytes] at hsize
    have each : ∀ i, i < len → ∃ t : Tb, W.cell? (x.add (i * 2)) = some (.slice t.a t.C.length t.c) ∧ W.cell? (x.add (i * 2 + 1)) = some (.int .i64 t.n) ∧ t.In W := by
      intro i hi
      obtain ⟨cs', h1, h2⟩ := hel i (by omega)
      rw [Try.cells24] at h1
      obtain ⟨_, hlen, hcell⟩ := World.cells?_some h1
      match cs', hlen with
      | [v0, v1], _ =>
        have hwi : ((D i).weights Try.prog 24).all (· ≤ reachBytes) = true := all_weights hw.2.1 (List.mem_map.2 ⟨i, by simpa using hi, rfl⟩)
        obtain ⟨t, rfl, rfl, hin, _⟩ := open_table h2 hwi
        have c0 := hcell 0 (by omega)
        have c1 := hcell 1 (by omega)
        rw [Deep.add_add] at c0 c1
        exact ⟨t, by simpa using c0, by simpa using c1, hin⟩
    obtain ⟨q, hq⟩ := Deep.choose_lt each
    have hget : ∀ j t, ((List.range len).map q)[j]? = some t → j < len ∧ t = q j := fun j t ht => by
      rw [List.getElem?_map] at ht
      obtain ⟨i, hi, rfl⟩ := Option.map_eq_some_iff.1 ht
      obtain ⟨h1, rfl⟩ := List.getElem?_eq_some_iff.1 hi
      simp at h1
      exact ⟨h1, by simp⟩
    refine ⟨(List.range len).map q, by simp, ?_, by simp; omega⟩
    by_cases h0 : len = 0
    · subst h0; exact Or.inl (by simp)
    · have hq0 := (hq 0 (by omega)).1
      obtain ⟨b, off, spot⟩ := x
      have hspot : spot = none := by simpa [Addr.add] using World.cell?_spot hq0
      subst hspot
      have hbl := World.block_lt_of_cell? W _ hq0
      rw [addr_add] at hbl
      refine Or.inr ⟨b, off, rfl, hbl, fun j t ht => ?_, fun j t ht => ?_, fun t ht => ?_⟩
      · obtain ⟨hj, rfl⟩ := hget j t ht
        have := (hq j hj).1
        rw [addr_add] at this
        exact this
      · obtain ⟨hj, rfl⟩ := hget j t ht
        have := (hq j hj).2.1
        rw [addr_add] at this
        exact this
      · obtain ⟨i, hi, rfl⟩ := List.mem_map.1 ht
        exact (hq i (by simpa using hi)).2.2

end Go.Proofs.Ytpijgdfhkmailaa
