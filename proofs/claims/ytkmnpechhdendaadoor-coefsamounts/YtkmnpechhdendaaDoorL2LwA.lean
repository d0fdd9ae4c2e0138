/- DERIVED. The walks of EqBytes, of 'may' and of 'about', and of the statements' own 'works'. -/
import Derived.Test.YtkmnpechhdendaaDoorL2EnE
namespace Go.Proofs.YtkmnpechhdendaaDoor.L2
open Go.RowKit

/-- bytes that can be read: none, or cells from the beginning of a block -/
def Rr (w : World) (v : Value) (zs : List Nat) : Prop :=
  (zs = [] ∧ ∃ a c, v = .slice a 0 c) ∨ ∃ b c, v = .slice (some ⟨b, 0, none⟩) zs.length c ∧ ∀ j, j < zs.length → w.cell? ⟨b, j, none⟩ = some (.int .u8 (zs.getD j 0 : Nat))
theorem Rr.sl {w : World} {v : Value} {zs : List Nat} (h : Rr w v zs) : ∃ a c, v = .slice a zs.length c := by
  rcases h with ⟨rfl, a, c, rfl⟩ | ⟨b, c, rfl, _⟩
  · exact ⟨_, _, rfl⟩
  · exact ⟨_, _, rfl⟩
theorem Rr.form {w : World} {a : Option Addr} {n c : Nat} {zs : List Nat} (h : Rr w (.slice a n c) zs) (h0 : 0 < zs.length) : ∃ b, a = some ⟨b, 0, none⟩ ∧ ∀ j, j < zs.length → w.cell? ⟨b, j, none⟩ = some (.int .u8 (zs.getD j 0 : Nat)) := by
  rcases h with ⟨rfl, _⟩ | ⟨b, c', h1, h2⟩
  · simp at h0
  · simp only [Value.slice.injEq] at h1
    exact ⟨b, h1.1, h2⟩
theorem Rr.ofOwn {w : World} {B : Nat} {v : Value} {zs : List Nat} (h : w.ownsRow B 5 1 v zs.length (bs zs)) : Rr w v zs := by
  by_cases h0 : zs.length = 0
  · obtain ⟨a, c, rfl⟩ := own_slice h
    exact Or.inl ⟨List.eq_nil_of_length_eq_zero h0, a, c, by rw [h0]⟩
  · obtain ⟨b, cap, rfl, _, _⟩ := h.form (by omega)
    exact Or.inr ⟨b, cap, rfl, fun j hj => by rw [h.cellAt j (by omega)]; exact bs_get zs j hj⟩
theorem By.rr {w : World} {v : Value} {b : Nat} {zs : List Nat} {T k : Nat} (h : By w v b zs T k) : Rr w v zs := by
  obtain ⟨c, rfl, _⟩ := h.form
  exact Or.inr ⟨b, c, rfl, h.cell⟩
theorem By.src {w : World} {v : Value} {b : Nat} {zs : List Nat} {T k : Nat} (h : By w v b zs T k) : SrcOf w v zs := by
  obtain ⟨c, rfl, _⟩ := h.form
  exact Or.inr ⟨⟨b, 0, none⟩, c, rfl, fun j hj => by rw [show (⟨b, 0, none⟩ : Addr).add j = ⟨b, j, none⟩ from (by unfold Addr.add; split <;> simp_all)]; exact h.cell j hj⟩
theorem By.below {w w' : World} {v : Value} {b : Nat} {zs : List Nat} {T k B : Nat} (h : By w v b zs T k) (hb : Below B w w') (hB : b < B) : By w' v b zs T k :=
  ⟨h.form, fun j hj => by rw [hb.cell (p := ⟨b, j, none⟩) hB]; exact h.cell j hj, fun j => by rw [newFrozen hb b j hB]; exact h.thaw j, Nat.lt_of_lt_of_le h.lies hb.size, h.len, h.val, h.byt, h.last⟩
theorem list_eq_of_getD {xs ys : List Nat} (hl : xs.length = ys.length) (h : ∀ j, j < xs.length → xs.getD j 0 = ys.getD j 0) : xs = ys := by
  refine List.ext_getElem hl fun j h1 h2 => ?_
  have := h j h1
  rw [List.getD_eq_getElem?_getD, List.getD_eq_getElem?_getD, List.getElem?_eq_getElem h1, List.getElem?_eq_getElem h2] at this
  simpa using this

theorem drewN_drewN (w : World) (a b : Nat) : (w.drewN a).drewN b = w.drewN (a + b) := by
  simp [World.drewN, Nat.add_assoc]

/-- one number, one row of bytes -/
theorem By.uniq {w w' : World} {v v' : Value} {b b' : Nat} {zs zs' : List Nat} {T k : Nat} (h : By w v b zs T k) (h' : By w' v' b' zs' T k) : zs = zs' := by
  have hp := pre_inj h.byt h'.byt (k + 4) (h.val.trans h'.val.symm)
  have l1 := h.len
  have l2 := h'.len
  have hall : ∀ i, zs.getD i 0 = zs'.getD i 0 := fun i => by
    by_cases hi : i < k + 4
    · exact hp i hi
    · rw [getD_len zs (by omega), getD_len zs' (by omega)]
  have hlen : zs.length = zs'.length := by
    rcases Nat.lt_trichotomy zs.length zs'.length with e | e | e
    · exact absurd ((hall _).symm.trans (getD_len zs (by omega))) (h'.last (by omega))
    · exact e
    · exact absurd ((hall _).trans (getD_len zs' (by omega))) (h.last (by omega))
  exact list_eq_of_getD hlen (fun j _ => hall j)


end Go.Proofs.YtkmnpechhdendaaDoor.L2
