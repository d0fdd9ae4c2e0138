/- DERIVED. The walk of the statements' own 'works': some numbers, written and read. -/
import Derived.Test.YtkippnfijjhobabWrF
namespace Go.Proofs.Ytkippnfijjhobab
open Go.RowKit

/-- the bytes of a number, the highest first -/
def bytesOf (m N : Nat) : List Nat := (List.range m).map fun j => N / 2 ^ (8 * (m - 1 - j)) % 256
theorem bytes_acc (ys : List Nat) (hz : ∀ i, ys.getD i 0 < 256) : ys = bytesOf ys.length (acc ys 0 ys.length) := by
  refine list_eq_of_getD (by simp [bytesOf]) fun j hj => ?_
  have e1 : (bytesOf ys.length (acc ys 0 ys.length)).getD j 0 = acc ys 0 ys.length / 2 ^ (8 * (ys.length - 1 - j)) % 256 := by
    simp [bytesOf, List.getD_eq_getElem?_getD, hj]
  have h2 := num_cut ys 0 (8 * j) 8 (8 * (ys.length - 1 - j)) ys.length (by omega)
  rw [e1, acc_num ys hz, show (256 : Nat) = 2 ^ 8 from by decide, h2, Nat.mul_zero, Nat.zero_add, num_byte ys j (hz j)]
theorem Wv.bytes {ys : List Nat} {t V : Nat} (h : Wv ys t V) : ys = bytesOf ((t + 7) / 8) (V * 2 ^ (8 * ((t + 7) / 8) - t)) := by
  have h1 := bytes_acc ys h.byt
  rw [h.val, h.len] at h1
  exact h1

theorem Wr.kwBelow {a b : World} {B x : Nat} {d d' : Value} {ys : List Nat} {t V : Nat} (h : Wr a B x d ys t V) (hk : Kw x d d' a b) : Below B a b :=
  ⟨hk.os, hk.tape, hk.output, hk.size, fun k hkB => hk.block k (by have := h.low; omega) (by have := h.low; omega) (fun e => by have := (h.own.lt k e).1; omega)⟩
theorem Kp.toBelow {r B : Nat} {w w' : World} (h : Kp r w w') (hB : B ≤ r) : Below B w w' := ⟨h.os, h.tape, h.output, Nat.le_of_eq h.size.symm, fun k hk => h.block k (by omega)⟩

/-- a writer stays while a reader that was made later moves on -/
theorem Wr.kp {a b : World} {B x r : Nat} {d : Value} {ys : List Nat} {t V : Nat} (h : Wr a B x d ys t V) (hk : Kp r a b) (hx : x ≠ r) (hd : d.ownBlock ≠ some r) : Wr b B x d ys t V :=
  h.carry (hk.block x hx) (fun g hg => hk.block g (fun e => hd (by rw [hg, e]))) (Nat.le_of_eq hk.size.symm)

end Go.Proofs.Ytkippnfijjhobab
