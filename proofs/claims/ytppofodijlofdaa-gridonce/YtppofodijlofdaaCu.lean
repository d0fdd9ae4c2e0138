/- DERIVED. What GridNear asks, as plain arithmetic. -/
import Derived.Test.YtppofodijlofdaaCt
namespace Go.Proofs.Ytppofodijlofdaa
open Go.RowKit

def nxs : List Int := [16, 24, 32, 16]
def nys : List Int := [24, 16, 16, 16]
/-- the block that is put for the k-th neighbour -/
def nb (N : Nat → Bl) (k : Nat) : Bl := { N k with x := nxs.getD k 0, y := nys.getD k 0, w := 8, h := 8 }
def LN (N : Nat → Bl) (k : Nat) : List Bl := (List.range k).map (nb N)
theorem LN_succ (N : Nat → Bl) (k : Nat) : LN N (k + 1) = LN N k ++ [nb N k] := by unfold LN; rw [List.range_succ, List.map_append]; rfl
def fF (F : Bl) : Bl := { F with x := 48, y := 40, w := 8, h := 8 }
theorem mpN (N : Nat → Bl) (k : Nat) (hk : k < 4) : mp tA (LN N k) (nb N k) = true := by
  have h0 : mp tA (LN N 0) (nb N 0) = true := by kernel_rfl
  have h1 : mp tA (LN N 1) (nb N 1) = true := by kernel_rfl
  have h2 : mp tA (LN N 2) (nb N 2) = true := by kernel_rfl
  have h3 : mp tA (LN N 3) (nb N 3) = true := by kernel_rfl
  match k, hk with
  | 0, _ => exact h0
  | 1, _ => exact h1
  | 2, _ => exact h2
  | 3, _ => exact h3
theorem mpF (N : Nat → Bl) (F : Bl) : mp tA (LN N 4) (fF F) = true := by kernel_rfl
/-- the candidates of the first k neighbours -/
def wst (N : Nat → Bl) (r : Int) : Nat → List (Int × Int)
  | 0 => []
  | k + 1 => vadd (wst N r k) (vo (N k) r)
theorem vcsN (N : Nat → Bl) (E : List Bl) (r : Int) : vcs (LN N 4 ++ E) (pls 24 24 8) r = wst N r 4 := by kernel_rfl
theorem wst_le (N : Nat → Bl) (r : Int) : ∀ k, (wst N r k).length ≤ 2
  | 0 => by simp [wst]
  | k + 1 => vadd_le (wst_le N r k)
theorem vadd_df {s : List (Int × Int)} {v : Option (Int × Int)} (h : ∀ a b, s = [a, b] → a ≠ b) (hl : s.length ≤ 2) : ∀ a b, vadd s v = [a, b] → a ≠ b := by
  intro a b e
  match v, s with
  | none, s => exact h a b e
  | some v, [] => simp [vadd] at e
  | some v, [u] =>
    by_cases q : v = u
    · simp [vadd, q] at e
    · simp [vadd, q] at e
      rw [← e.1, ← e.2]; exact fun q' => q q'.symm
  | some v, [u, u'] => exact h a b e
theorem wst_df (N : Nat → Bl) (r : Int) : ∀ k a b, wst N r k = [a, b] → a ≠ b
  | 0 => by simp [wst]
  | k + 1 => vadd_df (wst_df N r k) (wst_le N r k)
/-- how many of the first k neighbours count, of those that touch -/
def ctN (q : Bl → Bool) (N : Nat → Bl) : Nat → Nat
  | 0 => 0
  | k + 1 => ctN q N k + (if k < 2 ∧ q (N k) = true then 1 else 0)
theorem ctN_le (q : Bl → Bool) (N : Nat → Bl) : ∀ k, ctN q N k ≤ k
  | 0 => Nat.le_refl _
  | k + 1 => by have := ctN_le q N k; unfold ctN; split <;> omega
theorem at_0 (N : Nat → Bl) (E : List Bl) : atK (LN N 4 ++ E) (24 - 1) 24 = true ∧ atB (LN N 4 ++ E) (24 - 1) 24 = nb N 0 := ⟨by kernel_rfl, by kernel_rfl⟩
theorem at_1 (N : Nat → Bl) (E : List Bl) : atK (LN N 4 ++ E) 24 (24 - 1) = true ∧ atB (LN N 4 ++ E) 24 (24 - 1) = nb N 1 := ⟨by kernel_rfl, by kernel_rfl⟩
theorem ct_sum (q : Bl → Bool) (hq : ∀ N k, q (nb N k) = q (N k)) (N : Nat → Bl) (E : List Bl) : ((cn q (LN N 4 ++ E) 24 (24 - 1) : Nat) + (cn q (LN N 4 ++ E) (24 - 1) 24 : Nat) : Int) = ((ctN q N 4 : Nat) : Int) := by
  unfold cn
  rw [(at_0 N E).1, (at_0 N E).2, (at_1 N E).1, (at_1 N E).2, hq, hq]
  show _ = ((0 + (if 0 < 2 ∧ q (N 0) = true then 1 else 0) + (if 1 < 2 ∧ q (N 1) = true then 1 else 0) + (if 2 < 2 ∧ q (N 2) = true then 1 else 0) + (if 3 < 2 ∧ q (N 3) = true then 1 else 0) : Nat) : Int)
  cases q (N 0) <;> cases q (N 1) <;> simp
theorem ask_n : ask tA 24 24 8 = true := by decide +kernel
theorem im_n : im 8 8 8 64 = true := by decide +kernel
/-- a field of a block is written -/
theorem Ob.fx {u : World} {z : Nat} {l : Bl} (h : Ob u z l) (x : Int) : Ob (u.setCell ⟨z, 0, none⟩ (.int .i64 x)) z { l with x := x } := ⟨heap_set h.heap 0 (.int .i64 x)⟩
theorem Ob.fy {u : World} {z : Nat} {l : Bl} (h : Ob u z l) (x : Int) : Ob (u.setCell ⟨z, 1, none⟩ (.int .i64 x)) z { l with y := x } := ⟨heap_set h.heap 1 (.int .i64 x)⟩
theorem Ob.fw {u : World} {z : Nat} {l : Bl} (h : Ob u z l) (x : Int) : Ob (u.setCell ⟨z, 2, none⟩ (.int .i64 x)) z { l with w := x } := ⟨heap_set h.heap 2 (.int .i64 x)⟩
theorem Ob.fh {u : World} {z : Nat} {l : Bl} (h : Ob u z l) (x : Int) : Ob (u.setCell ⟨z, 3, none⟩ (.int .i64 x)) z { l with h := x } := ⟨heap_set h.heap 3 (.int .i64 x)⟩
theorem Ob.c {u : World} {z : Nat} {l : Bl} (h : Ob u z l) (j : Nat) (v : Value) (hv : l.cs[j]? = some v) : u.cell? ⟨z, j, none⟩ = some v := by have := h.bc.at j v hv; rwa [Nat.zero_add] at this

/-- how GridNear stands: two grids, the neighbours, the far one, the places -/
structure Nw (w u : World) (zx zy p m p' m' : Nat) (v v' : Value) (N : Nat → Bl) (F : Bl) (L L' : List Bl) : Prop where
  gd : Gd u p m tA v L
  hd : Gd u p' m' tA v' L'
  ap : ∀ i, Gb p m v i → ¬ Gb p' m' v' i
  nb : ∀ k, k < 4 → Bc u w.heap.size (k * 23) (N k)
  fb : Ob u (w.heap.size + 1) F
  xs : Ri 54 u zx nxs
  ys : Ri 54 u zy nys
  bel : Below w.heap.size w u
  og : ∀ i, Gb p m v i → w.heap.size + 2 ≤ i ∧ i ≠ zx ∧ i ≠ zy
  oh : ∀ i, Gb p' m' v' i → w.heap.size + 2 ≤ i ∧ i ≠ zx ∧ i ≠ zy
theorem Nw.size {w u : World} {zx zy p m p' m' : Nat} {v v' : Value} {N : Nat → Bl} {F : Bl} {L L' : List Bl} (h : Nw w u zx zy p m p' m' v v' N F L L') : w.heap.size + 2 ≤ u.heap.size := by
  have := h.fb.lt; omega
theorem Nw.to {w u u' : World} {zx zy p m p' m' : Nat} {v v' : Value} {N : Nat → Bl} {F : Bl} {L L' : List Bl} (h : Nw w u zx zy p m p' m' v v' N F L L') (hb : Below u.heap.size u u') : Nw w u' zx zy p m p' m' v v' N F L L' :=
  ⟨h.gd.to hb, h.hd.to hb, h.ap, fun k hk => (h.nb k hk).to hb, h.fb.to hb, h.xs.to hb, h.ys.to hb, h.bel.trans (hb.mono h.bel.size), h.og, h.oh⟩
theorem Nw.putg {w u u' : World} {zx zy p m p' m' : Nat} {v v' v2 : Value} {N : Nat → Bl} {F : Bl} {L L' L2 : List Bl} (h : Nw w u zx zy p m p' m' v v' N F L L') (hg : Gd u' p m tA v2 L2) (ht : Gt p m v v2 u u') : Nw w u' zx zy p m p' m' v2 v' N F L2 L' := by
  have hk : ∀ i, i < u.heap.size → (i < w.heap.size + 2 ∨ i = zx ∨ i = zy) → u'.heap[i]? = u.heap[i]? := fun i hi hz => ht.block i hi (fun q => by have := h.og i q; omega)
  have hs := h.size
  have hx := h.xs.lt
  have hy := h.ys.lt
  have hn : ∀ i, Gb p m v2 i → Gb p m v i ∨ u.heap.size ≤ i := fun i hi => by
    rcases hi with rfl | rfl | hi
    · exact Or.inl (Or.inl rfl)
    · exact Or.inl (Or.inr (Or.inl rfl))
    · rcases ht.new i hi with q | q
      · exact Or.inl (Or.inr (Or.inr q))
      · exact Or.inr q
  refine ⟨hg, h.hd.carry (fun i hi => ht.block i (h.hd.blt hi) (fun q => h.ap i q hi)), fun i hi q => ?_, fun k hk4 => (h.nb k hk4).carry (hk _ (by omega) (by omega)), h.fb.carry (hk _ h.fb.lt (by omega)), h.xs.carry (hk _ hx (by omega)), h.ys.carry (hk _ hy (by omega)), ⟨ht.os.trans h.bel.os, ht.tape.trans h.bel.tape, ht.output.trans h.bel.output, Nat.le_trans h.bel.size ht.size, fun i hi => (hk i (by omega) (by omega)).trans (h.bel.block i hi)⟩, fun i hi => ?_, h.oh⟩
  · rcases hn i hi with a | a
    · exact h.ap i a q
    · have := h.hd.blt q; omega
  · rcases hn i hi with a | a
    · exact h.og i a
    · omega
theorem Nw.swap {w u : World} {zx zy p m p' m' : Nat} {v v' : Value} {N : Nat → Bl} {F : Bl} {L L' : List Bl} (h : Nw w u zx zy p m p' m' v v' N F L L') : Nw w u zx zy p' m' p m v' v N F L' L := ⟨h.hd, h.gd, fun i a b => h.ap i b a, h.nb, h.fb, h.xs, h.ys, h.bel, h.oh, h.og⟩
theorem Nw.puth {w u u' : World} {zx zy p m p' m' : Nat} {v v' v2 : Value} {N : Nat → Bl} {F : Bl} {L L' L2 : List Bl} (h : Nw w u zx zy p m p' m' v v' N F L L') (hg : Gd u' p' m' tA v2 L2) (ht : Gt p' m' v' v2 u u') : Nw w u' zx zy p m p' m' v v2 N F L L2 := (h.swap.putg hg ht).swap
theorem Nw.far {w u u' : World} {zx zy p m p' m' : Nat} {v v' : Value} {N : Nat → Bl} {F F' : Bl} {L L' : List Bl} (h : Nw w u zx zy p m p' m' v v' N F L L') (hf : Ob u' (w.heap.size + 1) F') (hs : Sw (w.heap.size + 1) u u') (h1 : zx ≠ w.heap.size + 1) (h2 : zy ≠ w.heap.size + 1) : Nw w u' zx zy p m p' m' v v' N F' L L' :=
  ⟨h.gd.carry fun i hi => hs.block i (by have := h.og i hi; omega), h.hd.carry fun i hi => hs.block i (by have := h.oh i hi; omega), h.ap, fun k hk => (h.nb k hk).carry (hs.block _ (by omega)), hf, h.xs.carry (hs.block _ h1), h.ys.carry (hs.block _ h2), hs.below h.bel (by omega), h.og, h.oh⟩
end Go.Proofs.Ytppofodijlofdaa
