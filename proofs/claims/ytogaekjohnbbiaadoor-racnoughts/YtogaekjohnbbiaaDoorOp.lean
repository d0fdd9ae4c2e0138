/- DERIVED. The arguments of the statements of layer 2, opened: a slice of bytes, a slice of parts. -/
import Derived.Test.YtogaekjohnbbiaaDoorLwD
import Derived.ProofKit
import Derived.OpenShut
import Derived.ShutString
import Derived.ChangeOld
import Derived.SizedLaws
import Derived.Deep.Slices
import Derived.Deep.Strs
namespace Go.Proofs.YtogaekjohnbbiaaDoor
open Go.ChangeShapes Go.WideShapes Go.ChangeAt Go.RowKit

theorem Tryd.own : ownKnob Tryd.prog.godebug = none := by kernel_rfl
theorem Tryd.laidOut : laidOutB Tryd.prog = true := by kernel_rfl
theorem Tryd.cells5 : Tryd.prog.cellsOf 5 = 1 := by kernel_rfl
theorem Tryd.cells29 : Tryd.prog.cellsOf 29 = 1 := by kernel_rfl
theorem Tryd.cells31 : Tryd.prog.cellsOf 31 = 2 := by kernel_rfl
theorem Tryd.bytes5 : Tryd.prog.bytesOf 5 = 1 := by kernel_rfl
theorem Tryd.bytes31 : Tryd.prog.bytesOf 31 = 8 := by kernel_rfl
theorem addr_add (g k j : Nat) : (⟨g, k, none⟩ : Addr).add j = ⟨g, k + j, none⟩ := by unfold Addr.add; split <;> simp_all

/-- a slice of bytes that came in: its bytes; they are bytes; how it reads -/
theorem open_bytes {H : Type} {enc : TypeId × Value → H} {W : World} {a : Option Addr} {len cap : Nat} {d : DataW H} {ps : List MemPlace} (h : DataW.Trod enc Tryd.prog W 0 (fun _ => true) true 32 (.slice a len cap) d ps) :
    ∃ zs : List Nat, zs.length = len ∧ SrcOf W (.slice a len cap) zs ∧ (∀ i, zs.getD i 0 < 256) ∧ (d = .nil ∧ len = 0 ∨ ∃ e s, d = .slice e s ∧ e.length = len) := by
  obtain ⟨fuel, hf⟩ := h
  rcases open_ints Tryd.underlying32 Tryd.underlying5 Tryd.cells5 hf with ⟨hcs, hx⟩ | ⟨x, l, c, zs, hcs, _, hl, hm, hz, hx, hcell, hwz⟩
  · simp [Value.cells] at hcs
    obtain ⟨rfl, rfl, rfl⟩ := hcs
    simp only [Prod.mk.injEq] at hx
    exact ⟨[], rfl, Or.inl ⟨rfl, rfl⟩, by simp, Or.inl ⟨hx.1, rfl⟩⟩
  · simp [Value.cells] at hcs
    obtain ⟨rfl, rfl, rfl⟩ := hcs
    simp at hz
    simp only [Prod.mk.injEq] at hx
    have hb : ∀ n ∈ zs, 0 ≤ n ∧ n ≤ 255 := fun n hn => bounds_u8 (hwz n hn)
    have hget : ∀ j, j < len → ((zs.take len).map Int.toNat).getD j 0 = (zs.getD j 0).toNat := fun j hj => by
      rw [List.getD_eq_getElem?_getD, List.getD_eq_getElem?_getD, List.getElem?_map, List.getElem?_take_of_lt hj]
      rw [List.getElem?_eq_getElem (show j < zs.length by omega)]
      rfl
    have hin : ∀ j, j < len → 0 ≤ zs.getD j 0 ∧ zs.getD j 0 ≤ 255 := fun j hj => by
      rw [List.getD_eq_getElem?_getD, List.getElem?_eq_getElem (show j < zs.length by omega)]
      exact hb _ (List.getElem_mem _)
    have hlen : ((zs.take len).map Int.toNat).length = len := by simp; omega
    refine ⟨(zs.take len).map Int.toNat, hlen, Or.inr ⟨x, cap, by rw [hlen], fun j hj => ?_⟩, fun i => ?_, Or.inr ⟨_, _, hx.1, by simp [lits]; omega⟩⟩
    · rw [hlen] at hj
      rw [hcell j (by omega), hget j hj]
      have := hin j hj
      rw [show (((zs.getD j 0).toNat : Nat) : Int) = zs.getD j 0 from by omega]
    · by_cases hi : i < len
      · rw [hget i hi]; have := hin i hi; omega
      · rw [List.getD_eq_getElem?_getD, List.getElem?_eq_none (by omega)]; simp

theorem bounds_u32' {n : Int} (h : (Lit.int .u32 n).wf = true) : 0 ≤ n ∧ n ≤ 4294967295 := by
  have h1 : IntKind.u32.min = 0 := rfl
  have h2 : IntKind.u32.max = 4294967295 := rfl
  simp only [Lit.wf, Bool.and_eq_true, decide_eq_true_eq] at h
  omega

/-- a slice of parts that came in -/
theorem open_parts {H : Type} {enc : TypeId × Value → H} {W : World} {a : Option Addr} {len cap : Nat} {d : DataW H} {ps : List MemPlace} (h : DataW.Trod enc Tryd.prog W 0 (fun _ => true) true 22 (.slice a len cap) d ps) :
    ∃ L : List (Nat × Nat), L.length = len ∧ PtAt W (.slice a len cap) L ∧ (d = .nil ∧ len = 0 ∨ ∃ e s, d = .slice e s ∧ e.length = len) := by
  obtain ⟨fuel, hf⟩ := h
  rcases Deep.open_slice Tryd.underlying22 hf with ⟨hcs, hx⟩ | ⟨x, l, c, m, n, D, Pl, hcs, _, hl, hm, hmm, hx, hel⟩
  · simp [Value.cells] at hcs
    obtain ⟨rfl, rfl, rfl⟩ := hcs
    simp only [Prod.mk.injEq] at hx
    exact ⟨[], rfl, Or.inl ⟨rfl, _, _, rfl⟩, Or.inl ⟨hx.1, rfl⟩⟩
  · simp [Value.cells] at hcs
    obtain ⟨rfl, rfl, rfl⟩ := hcs
    simp at hmm
    simp only [Prod.mk.injEq] at hx
    have each : ∀ i, i < len → ∃ q : Nat × Nat, W.cell? (x.add (i * 2)) = some (.int .u32 (q.1 : Nat)) ∧ W.cell? (x.add (i * 2 + 1)) = some (.int .u32 (q.2 : Nat)) ∧ q.1 < 4294967296 ∧ q.2 < 4294967296 := by
      intro i hi
      obtain ⟨cs', h1, h2⟩ := hel i (by omega)
      rw [Tryd.cells31] at h1
      obtain ⟨_, hlen, hcell⟩ := World.cells?_some h1
      obtain ⟨y0, y1, n', hy, hcl, g0, g1⟩ := trod_struct2 Tryd.underlying31 h2
      match cs', hlen with
      | [v0, v1], _ =>
        simp only [Tryd.cells29] at g0 g1
        simp at g0 g1
        obtain ⟨k0, e0, _, w0⟩ := DataW.trod_int Tryd.underlying29 g0
        obtain ⟨k1, e1, _, w1⟩ := DataW.trod_int Tryd.underlying29 g1
        simp at e0 e1
        subst e0 e1
        have b0 := bounds_u32' w0
        have b1 := bounds_u32' w1
        have c0 := hcell 0 (by omega)
        have c1 := hcell 1 (by omega)
        rw [Deep.add_add] at c0 c1
        refine ⟨(k0.toNat, k1.toNat), ?_, ?_, by simp; omega, by simp; omega⟩
        · simp only
          rw [show ((k0.toNat : Nat) : Int) = k0 from by omega]
          simpa using c0
        · simp only
          rw [show ((k1.toNat : Nat) : Int) = k1 from by omega]
          simpa using c1
    obtain ⟨q, hq⟩ := Deep.choose_lt each
    have hget : ∀ j, j < len → ((List.range len).map q).getD j (0, 0) = q j := fun j hj => by
      rw [List.getD_eq_getElem?_getD, List.getElem?_map, List.getElem?_range hj]; rfl
    refine ⟨(List.range len).map q, by simp, ?_, Or.inr ⟨_, _, hx.1, by simp⟩⟩
    by_cases h0 : len = 0
    · subst h0; exact Or.inl ⟨by simp, _, _, rfl⟩
    · have hq0 := (hq 0 (by omega)).1
      obtain ⟨b, off, spot⟩ := x
      have hspot : spot = none := by simpa [Addr.add] using World.cell?_spot hq0
      subst hspot
      have hbl := World.block_lt_of_cell? W _ hq0
      rw [addr_add] at hbl
      refine Or.inr ⟨b, off, cap, by simp, hbl, fun j hj => ?_⟩
      simp at hj
      obtain ⟨c0, c1, c2, c3⟩ := hq j hj
      rw [addr_add] at c0 c1
      rw [hget j hj]
      exact ⟨c0, c1, c2, c3⟩

end Go.Proofs.YtogaekjohnbbiaaDoor
