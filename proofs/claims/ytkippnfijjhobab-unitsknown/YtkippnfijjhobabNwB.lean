/- DERIVED. (*bits.Reader).Rest of whatever reader; the walks of Bring and of the statements' own 'read'. -/
import Derived.Test.YtkippnfijjhobabNwA
import Derived.Test.YtkippnfijjhobabRdG
namespace Go.Proofs.Ytkippnfijjhobab
open Go.RowKit

theorem Rd.below {w w' : World} {r : Nat} {v : Value} {zs : List Nat} {p : Nat} (h : Rd w r v zs p) (hb : Below w.heap.size w w') : Rd w' r v zs p :=
  h.carry (hb.block r h.low) (fun g hg => hb.block g (h.own_lt g hg).1) hb.size

/-- a number brought to one below five -/
def bring5 (i : Int) : Nat := (i % 5).toNat
theorem bring5_lt (i : Int) : bring5 i < 5 := by unfold bring5; omega
theorem tmod_five (i : Int) : (0 ≤ i.tmod 5 → i.tmod 5 = i % 5) ∧ (i.tmod 5 < 0 → i.tmod 5 + 5 = i % 5) ∧ -4 ≤ i.tmod 5 ∧ i.tmod 5 ≤ 4 := by
  by_cases h : 0 ≤ i
  · rw [Int.tmod_eq_emod_of_nonneg h]; omega
  · obtain ⟨j, rfl⟩ : ∃ j, i = -j := ⟨-i, by omega⟩
    rw [Int.neg_tmod, Int.tmod_eq_emod_of_nonneg (by omega)]; omega
/-- of the blocks that were there r alone may have turned -/
structure Kq (r : Nat) (w w' : World) : Prop where
  os : w'.os = w.os
  tape : w'.tape = w.tape
  output : w'.output = w.output
  size : w.heap.size ≤ w'.heap.size
  block : ∀ k, k < w.heap.size → k ≠ r → w'.heap[k]? = w.heap[k]?
theorem Kq.trans {r : Nat} {a b c : World} (h : Kq r a b) (k : Kq r b c) : Kq r a c :=
  ⟨k.os.trans h.os, k.tape.trans h.tape, k.output.trans h.output, Nat.le_trans h.size k.size, fun i hi hr => (k.block i (Nat.lt_of_lt_of_le hi h.size) hr).trans (h.block i hi hr)⟩
theorem Kp.kq {r : Nat} {w w' : World} (h : Kp r w w') : Kq r w w' := ⟨h.os, h.tape, h.output, Nat.le_of_eq h.size.symm, fun k _ hk => h.block k hk⟩
theorem Kq.below {r : Nat} {w w' : World} (h : Below w.heap.size w w') : Kq r w w' := ⟨h.os, h.tape, h.output, h.size, fun k hk _ => h.block k hk⟩
theorem Kq.toBelow {r B : Nat} {w w' : World} (h : Kq r w w') (hB : B ≤ r) (hs : B ≤ w.heap.size) : Below B w w' := ⟨h.os, h.tape, h.output, h.size, fun k hk => h.block k (by omega) (by omega)⟩

/-- what a call of the statements' tells of a reader: value, error, place -/
def rdOne (zs : List Nat) (p : Nat) (kind n : Int) : Nat × Nat × Nat :=
  match bring5 kind with
  | 0 => rFixed zs p n
  | 1 => (((rSigned zs p n).1 % 4294967296).toNat, (rSigned zs p n).2.1, (rSigned zs p n).2.2)
  | 2 => rUvlc zs p
  | 3 => rLeb zs p
  | _ => (0, (rAlign zs p).1, (rAlign zs p).2)

end Go.Proofs.Ytkippnfijjhobab
