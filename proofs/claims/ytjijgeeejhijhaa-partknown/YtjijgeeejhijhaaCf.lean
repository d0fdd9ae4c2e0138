/- DERIVED. Rows written out; parts by halves and fourths; regions. -/
import Derived.Test.YtjijgeeejhijhaaCe
namespace Go.Proofs.Ytjijgeeejhijhaa
open Go.RowKit

theorem rs_sing (r : Rc) : rs [r] = [.int .i64 r.1, .int .i64 r.2.1, .int .i64 r.2.2.1, .int .i64 r.2.2.2] := by
  unfold rs
  rw [show [r].length * 4 = 4 from rfl, show List.range 4 = [0, 1, 2, 3] from rfl]
  rfl
theorem rs_nil : rs [] = [] := rfl
theorem rs_cons (r : Rc) (L : List Rc) : rs (r :: L) = .int .i64 r.1 :: .int .i64 r.2.1 :: .int .i64 r.2.2.1 :: .int .i64 r.2.2.2 :: rs L := by
  rw [show r :: L = [r] ++ L from rfl, rs_append, rs_sing]; rfl
/-- a rectangle in a variable of the call's own -/
structure Vr (w : World) (b : Nat) (r : Rc) : Prop where
  cl : Cl4 w b 0 r
  lt : b < w.heap.size
theorem Vr.to {w w' : World} {b : Nat} {r : Rc} (h : Vr w b r) (hb : Below w.heap.size w w') : Vr w' b r := ⟨h.cl.below hb h.lt, Nat.lt_of_lt_of_le h.lt hb.size⟩
theorem Vr.box (w : World) (x y a b : Int) : Vr (w.alloc (.cells #[.int .i64 x, .int .i64 y, .int .i64 a, .int .i64 b] 23)) w.heap.size (x, y, a, b) := ⟨box4 _ _ _ _ _, by simp⟩
theorem Vr.box1 (w : World) (x y a b : Int) {g : Nat} (hg : w.heap.size = g) : Vr (w.alloc (.cells #[.int .i64 x, .int .i64 y, .int .i64 a, .int .i64 b] 23)) g (x, y, a, b) := by subst hg; exact Vr.box _ _ _ _ _
theorem Vr.at (w : World) (o : Obj) {b : Nat} {r : Rc} (h : Vr w b r) : Vr (w.alloc o) b r := h.to (from_alloc _ _)
theorem cq_lit {w z : World} {pr n : Nat} {cs : Array Value} {L : List Rc} (hw : w.heap.size = pr) (hz : pr ≤ z.heap.size) (hb : Below pr w z) (hc : cs = (rs L).toArray) (hn : L.length = n) : Cq w (z.alloc (.cells cs 23)) (.returned (.tuple #[.slice (some ⟨z.heap.size, 0, none⟩) n n, .int .i64 0])) L := by
  subst hw hn
  exact ⟨z.heap.size, rfl, Hr.lit _ _ rfl hc, hz, below_alloc hb (Nat.le_refl _) _⟩
theorem cutR_q {s q : Int} (hq : s = 4 * q) (p : Int) : p * s / 4 = p * q := by
  subst hq
  rw [show p * (4 * q) = p * q * 4 from by rw [Int.mul_comm 4 q, Int.mul_assoc]]
  exact Int.mul_ediv_cancel _ (by omega)
/-- the parts by halves and fourths -/
def cutH (kd : Nat) (x y s h q : Int) : List Rc :=
  match kd with
  | 1 => [(x, y, s, h), (x, y + h, s, h)]
  | 2 => [(x, y, h, s), (x + h, y, h, s)]
  | 3 => [(x, y, h, h), (x + h, y, h, h), (x, y + h, h, h), (x + h, y + h, h, h)]
  | 4 => [(x, y, h, h), (x + h, y, h, h), (x, y + h, s, h)]
  | 5 => [(x, y, s, h), (x, y + h, h, h), (x + h, y + h, h, h)]
  | 6 => [(x, y, h, h), (x, y + h, h, h), (x + h, y, h, s)]
  | 7 => [(x, y, h, s), (x + h, y, h, h), (x + h, y + h, h, h)]
  | 8 => [(x, y, s, q), (x, y + q, s, q), (x, y + 2 * q, s, q), (x, y + 3 * q, s, q)]
  | 9 => [(x, y, q, s), (x + q, y, q, s), (x + 2 * q, y, q, s), (x + 3 * q, y, q, s)]
  | _ => [(x, y, s, s)]
theorem cutR_cutH {kd : Nat} {x y s h q : Int} (hq : s = 4 * q) (hh : h = 2 * q) : cutR kd x y s = cutH kd x y s h q := by
  have e := cutR_q hq
  unfold cutR cutH prt
  subst hh
  split <;> simp [prF, e] <;> omega

theorem rgn_mk {x y s : Int} (hs : s = 64 ∨ s = 32 ∨ s = 16 ∨ s = 8) (hx : 0 ≤ x ∧ x ≤ 2048 ∧ x % 8 = 0) (hy : 0 ≤ y ∧ y ≤ 2048 ∧ y % 8 = 0) : rgn x y s s = true := by
  unfold rgn isS un
  simp only [Bool.and_eq_true, decide_eq_true_eq]
  exact ⟨hs, trivial, hx, hy⟩
end Go.Proofs.Ytjijgeeejhijhaa
