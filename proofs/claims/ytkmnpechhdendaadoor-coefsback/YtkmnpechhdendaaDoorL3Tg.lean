/- DERIVED. A list of tables in memory; the walks of middle and Average. -/
import Derived.Test.YtkmnpechhdendaaDoorL3Tf
namespace Go.Proofs.YtkmnpechhdendaaDoor.L3
open Go.RowKit

/-- a table as a value -/
structure Tb where
  a : Option Addr
  c : Nat
  C : List Nat
  n : Int
/-- a table's numbers lie in memory -/
structure Tb.In (w : World) (t : Tb) : Prop where
  sl : Sl w .u16 t.a t.C
  len : t.C.length ≤ 70368744177664
  u16 : ∀ i, t.C.getD i 0 < 65536
theorem Tb.In.to {w w' : World} {t : Tb} (h : t.In w) (hb : Below w.heap.size w w') : t.In w' := ⟨h.sl.to hb, h.len, h.u16⟩
/-- tables that lie in a row, from cell o of block b -/
structure Ts (w : World) (b o : Nat) (L : List Tb) : Prop where
  low : b < w.heap.size
  cell0 : ∀ j t, L[j]? = some t → w.cell? ⟨b, o + j * 2, none⟩ = some (.slice t.a t.C.length t.c)
  cell1 : ∀ j t, L[j]? = some t → w.cell? ⟨b, o + j * 2 + 1, none⟩ = some (.int .i64 t.n)
  ins : ∀ t, t ∈ L → t.In w
theorem Ts.to {w w' : World} {b o : Nat} {L : List Tb} (h : Ts w b o L) (hb : Below w.heap.size w w') : Ts w' b o L :=
  ⟨Nat.lt_of_lt_of_le h.low hb.size, fun j t ht => by rw [newCell hb _ _ h.low]; exact h.cell0 j t ht, fun j t ht => by rw [newCell hb _ _ h.low]; exact h.cell1 j t ht, fun t ht => (h.ins t ht).to hb⟩

def smK (L : List Tb) (i k : Nat) : Nat := sm ((L.take k).map Tb.C) i
theorem smK_zero (L : List Tb) (i : Nat) : smK L i 0 = 0 := by simp [smK, sm]
theorem smK_succ (L : List Tb) (i k : Nat) (t : Tb) (h : L[k]? = some t) : smK L i (k + 1) = smK L i k + t.C.getD i 0 := by
  unfold smK
  rw [List.take_add_one, h]
  simp [sm_append, sm_cons, sm_nil]
theorem smK_all (L : List Tb) (i : Nat) : smK L i L.length = sm (L.map Tb.C) i := by simp [smK]
theorem smK_le (L : List Tb) (i : Nat) (h : ∀ t ∈ L, t.C.getD i 0 < 65536) : ∀ k, k ≤ L.length → smK L i k ≤ k * 65535
  | 0, _ => by rw [smK_zero]; exact Nat.zero_le _
  | k + 1, hk => by
    have := smK_le L i h k (by omega)
    rw [smK_succ L i k L[k] (List.getElem?_eq_getElem (by omega))]
    have := h L[k] (List.getElem_mem _)
    omega

set_option maxRecDepth 100000 in
set_option maxHeartbeats 1000000 in
/-- tables that have an average -/
def AvOk (L : List Tb) (m : Nat) : Prop := ∀ t, t ∈ L → TOk t.C t.n ∧ t.C.length = m
def FiInv2 (w : World) (f : Nat → Nat) (n g : Nat) (i : Value) (wr : World) : Prop :=
  ∃ k : Nat, k ≤ n ∧ i = .int .i64 k ∧ Ow wr g g n n (part f n k) ∧ Below g w wr
def AvInv (W : World) (L : List Tb) (m : Nat) (iv : Value) (wr : World) : Prop := ∃ k : Nat, k ≤ L.length ∧ iv = .int .i64 k ∧ Below W.heap.size W wr ∧ ∀ j t, j < k → L[j]? = some t → TOk t.C t.n ∧ t.C.length = m


end Go.Proofs.YtkmnpechhdendaaDoor.L3
