/- DERIVED. Samples that are turned one by one; what CflMean asks, as arithmetic. -/
import Derived.Test.YtlcegnnhlfafgaaFa
namespace Go.Proofs.Ytlcegnnhlfafgaa
open Go.RowKit

/-- the first k samples turned -/
def upd (D : List Nat) (f : Nat → Nat) (k : Nat) : List Nat := (List.range D.length).map fun i => if i < k then f (D.getD i 0) else D.getD i 0
theorem upd_len (D : List Nat) (f : Nat → Nat) (k : Nat) : (upd D f k).length = D.length := by simp [upd]
theorem upd_get (D : List Nat) (f : Nat → Nat) (k i : Nat) (h : i < D.length) : (upd D f k).getD i 0 = if i < k then f (D.getD i 0) else D.getD i 0 := by simp [upd, h]
theorem upd_zero (D : List Nat) (f : Nat → Nat) : upd D f 0 = D := by
  refine list_eq_of_getD (upd_len _ _ _) fun j hj => ?_
  rw [upd_len] at hj
  rw [upd_get _ _ _ _ hj, if_neg (by omega)]
theorem upd_set (D : List Nat) (f : Nat → Nat) (k : Nat) (h : k < D.length) : (upd D f k).set k (f (D.getD k 0)) = upd D f (k + 1) := by
  refine list_eq_of_getD (by rw [List.length_set, upd_len, upd_len]) fun j hj => ?_
  rw [List.length_set, upd_len] at hj
  rw [nat_set _ _ _ _ (by rw [upd_len]; exact h), upd_get _ _ _ _ hj, upd_get _ _ _ _ hj]
  by_cases e : k = j
  · subst e; rw [if_pos rfl, if_pos (show k < k + 1 by omega)]
  · rw [if_neg e]
    by_cases g : j < k
    · rw [if_pos g, if_pos (show j < k + 1 by omega)]
    · rw [if_neg g, if_neg (show ¬ j < k + 1 by omega)]
theorem upd_all (D : List Nat) (f : Nat → Nat) (i : Nat) (h : i < D.length) : (upd D f D.length).getD i 0 = f (D.getD i 0) := by rw [upd_get _ _ _ _ h, if_pos h]
theorem upd_byt {D : List Nat} {f : Nat → Nat} (h : ∀ i, i < D.length → f (D.getD i 0) < 256) : Byt (upd D f D.length) := fun j => by
  by_cases hj : j < D.length
  · rw [upd_all _ _ _ hj]; exact h j hj
  · rw [List.getD_eq_getElem?_getD, List.getElem?_eq_none (by rw [upd_len]; omega)]; exact Nat.zero_lt_succ _
/-- the greatest of the first k -/
def mx (D : List Nat) : Nat → Nat
  | 0 => 0
  | k + 1 => max (mx D k) (D.getD k 0)
theorem mx_lt {D : List Nat} (h : Byt D) : ∀ k, mx D k < 256
  | 0 => by simp [mx]
  | k + 1 => by have h1 := mx_lt h k; have h2 := h k; rw [mx]; omega
theorem mx_ge {D : List Nat} : ∀ k i, i < k → D.getD i 0 ≤ mx D k
  | 0, i, h => by omega
  | k + 1, i, h => by
    rw [mx]
    by_cases e : i = k
    · subst e; omega
    · have := mx_ge (D := D) k i (by omega); omega
theorem lv_add {D : List Nat} {x y n b : Nat} (hn : n = x * y) (hl : D.length = 4 * x * y) (i : Nat) (hi : i < n) : lv (upd D (fun v => v + b) D.length) x i = lv D x i + 8 * b := by
  have := pl_lt (w := x) (h := y) (i := i) (by rw [← hn]; exact hi)
  rw [← hl] at this
  unfold lv
  rw [upd_all _ _ _ (by omega), upd_all _ _ _ (by omega), upd_all _ _ _ (by omega), upd_all _ _ _ (by omega)]
  omega
theorem lv_flat {D : List Nat} {x y n b : Nat} (hn : n = x * y) (hl : D.length = 4 * x * y) (i : Nat) (hi : i < n) : lv (upd D (fun _ => b) D.length) x i = 8 * b := by
  have := pl_lt (w := x) (h := y) (i := i) (by rw [← hn]; exact hi)
  rw [← hl] at this
  unfold lv
  rw [upd_all _ _ _ (by omega), upd_all _ _ _ (by omega), upd_all _ _ _ (by omega), upd_all _ _ _ (by omega)]
  omega
theorem even_sq {x y n : Nat} (hx : Sd x) (hn : n = x * y) : n % 2 = 0 := by
  have h := hx.four
  obtain ⟨j, hj⟩ : ∃ j, x = 4 * j := ⟨x / 4, by omega⟩
  rw [hn, hj, Nat.mul_assoc]
  omega
theorem sum_half {f : Nat → Nat} {x y n : Nat} (hx : Sd x) (hn : n = x * y) (h0 : 0 < n) : ab (sI (acF f n) n) ≤ (n : Int) / 2 := by
  have h1 := ac_sum (f := f) h0
  have h2 := even_sq hx hn
  refine ab_le ⟨?_, ?_⟩ <;> omega
theorem Si.far {w : World} {b o g j : Nat} {C : List Int} (h : Si w (some ⟨b, o, none⟩) C) (hb : b ≠ g) (v : Value) : Si (w.setCell ⟨g, j, none⟩ v) (some ⟨b, o, none⟩) C := by
  rcases h with h | ⟨b', o', h1, h2, h3⟩
  · exact Or.inl h
  · simp only [Option.some.injEq, Addr.mk.injEq] at h1
    obtain ⟨rfl, rfl, _⟩ := h1
    exact Or.inr ⟨b, o, rfl, by simpa using h2, fun i hi => by rw [World.cell?_setCell_other _ _ _ _ (by simp)]; exact h3 i hi⟩
/-- samples that may be written, a block's numbers beside them -/
structure Mx (w : World) (gx : Nat) (D : List Nat) (ga : Nat) (A : List Int) (wr : World) : Prop where
  row : Rw wr gx D
  num : Si wr (some ⟨ga, 0, none⟩) A
  ne : ga ≠ gx
  low : w.heap.size ≤ gx
  bel : Below w.heap.size w wr
theorem Mx.set {w : World} {gx : Nat} {D : List Nat} {ga : Nat} {A : List Int} {wr : World} (h : Mx w gx D ga A wr) (k x : Nat) : Mx w gx (D.set k x) ga A (wr.setCell ⟨gx, k, none⟩ (.int .u8 (x : Int))) :=
  ⟨h.row.set k x, h.num.far h.ne _, h.ne, h.low, below_set h.bel h.low _⟩
theorem Mx.to {w : World} {gx : Nat} {D : List Nat} {ga : Nat} {A : List Int} {wr wr' : World} (h : Mx w gx D ga A wr) (hb : Below wr.heap.size wr wr') : Mx w gx D ga A wr' :=
  ⟨h.row.to hb, h.num.to hb, h.ne, h.low, below_to h.bel hb⟩

/-- two blocks' numbers beside them -/
structure My (w : World) (gx : Nat) (D : List Nat) (ga gb : Nat) (A : List Int) (wr : World) : Prop where
  mx : Mx w gx D ga A wr
  num : Si wr (some ⟨gb, 0, none⟩) A
  ne : gb ≠ gx
theorem My.set {w : World} {gx : Nat} {D : List Nat} {ga gb : Nat} {A : List Int} {wr : World} (h : My w gx D ga gb A wr) (k x : Nat) : My w gx (D.set k x) ga gb A (wr.setCell ⟨gx, k, none⟩ (.int .u8 (x : Int))) :=
  ⟨h.mx.set k x, h.num.far h.ne _, h.ne⟩
theorem My.to {w : World} {gx : Nat} {D : List Nat} {ga gb : Nat} {A : List Int} {wr wr' : World} (h : My w gx D ga gb A wr) (hb : Below wr.heap.size wr wr') : My w gx D ga gb A wr' :=
  ⟨h.mx.to hb, h.num.to hb, h.ne⟩

end Go.Proofs.Ytlcegnnhlfafgaa
