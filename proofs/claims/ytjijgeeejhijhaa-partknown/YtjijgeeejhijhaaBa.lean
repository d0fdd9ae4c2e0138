/- DERIVED. Rectangles, parts of a region, the tree of a square: plain arithmetic. -/
import Derived.Test.YtjijgeeejhijhaaRows
import Derived.Handy
namespace Go.Proofs.Ytjijgeeejhijhaa

abbrev Rc := Int × Int × Int × Int
/-- the side of a region: 8, 16, 32, 64 -/
def sd : Nat → Int
  | 0 => 8
  | 1 => 16
  | 2 => 32
  | _ => 64
/-- how many partitions -/
def ty : Nat → Int
  | 0 => 1
  | 1 => 8
  | _ => 10
def tyN (s : Int) : Int := if s = 64 ∨ s = 32 then 10 else if s = 16 then 8 else if s = 8 then 1 else 0
theorem tyN_sd {k : Nat} (h : k < 4) : tyN (sd k) = ty k := by
  match k, h with
  | 0, _ | 1, _ | 2, _ | 3, _ => rfl
theorem sd_cases {k : Nat} (h : k < 4) : (k = 0 ∧ sd k = 8) ∨ (k = 1 ∧ sd k = 16) ∨ (k = 2 ∧ sd k = 32) ∨ (k = 3 ∧ sd k = 64) := by
  match k, h with
  | 0, _ | 1, _ | 2, _ | 3, _ => simp [sd]
theorem sd_half {k : Nat} (h : k < 3) : sd (k + 1) = 2 * sd k := by
  match k, h with
  | 0, _ | 1, _ | 2, _ => rfl
/-- parts in fourths of a side -/
def prt : Nat → List Rc
  | 1 => [(0, 0, 4, 2), (0, 2, 4, 2)]
  | 2 => [(0, 0, 2, 4), (2, 0, 2, 4)]
  | 3 => [(0, 0, 2, 2), (2, 0, 2, 2), (0, 2, 2, 2), (2, 2, 2, 2)]
  | 4 => [(0, 0, 2, 2), (2, 0, 2, 2), (0, 2, 4, 2)]
  | 5 => [(0, 0, 4, 2), (0, 2, 2, 2), (2, 2, 2, 2)]
  | 6 => [(0, 0, 2, 2), (0, 2, 2, 2), (2, 0, 2, 4)]
  | 7 => [(0, 0, 2, 4), (2, 0, 2, 2), (2, 2, 2, 2)]
  | 8 => [(0, 0, 4, 1), (0, 1, 4, 1), (0, 2, 4, 1), (0, 3, 4, 1)]
  | 9 => [(0, 0, 1, 4), (1, 0, 1, 4), (2, 0, 1, 4), (3, 0, 1, 4)]
  | _ => [(0, 0, 4, 4)]
/-- a part of a region -/
def prF (x y s : Int) (p : Rc) : Rc := (x + p.1 * s / 4, y + p.2.1 * s / 4, p.2.2.1 * s / 4, p.2.2.2 * s / 4)
def cutR (kd : Nat) (x y s : Int) : List Rc := (prt kd).map (prF x y s)
theorem prt_len (kd : Nat) : 1 ≤ (prt kd).length ∧ (prt kd).length ≤ 4 := by unfold prt; split <;> simp
theorem prt_in (kd : Nat) : ∀ p ∈ prt kd, (0 ≤ p.1 ∧ p.1 ≤ 3) ∧ (0 ≤ p.2.1 ∧ p.2.1 ≤ 3) ∧ (1 ≤ p.2.2.1 ∧ p.2.2.1 ≤ 4) ∧ (1 ≤ p.2.2.2 ∧ p.2.2.2 ≤ 4) := by unfold prt; split <;> simp
theorem cutR_len (kd : Nat) (x y s : Int) : (cutR kd x y s).length = (prt kd).length := by simp [cutR]
/-- do they meet? is one within the other? -/
def meet (a b : Rc) : Bool := decide (a.1 < b.1 + b.2.2.1) && decide (b.1 < a.1 + a.2.2.1) && decide (a.2.1 < b.2.1 + b.2.2.2) && decide (b.2.1 < a.2.1 + a.2.2.2)
def wthn (a b : Rc) : Bool := decide (a.1 ≥ b.1) && decide (a.2.1 ≥ b.2.1) && decide (a.1 + a.2.2.1 ≤ b.1 + b.2.2.1) && decide (a.2.1 + a.2.2.2 ≤ b.2.1 + b.2.2.2)
/-- the next choice -/
def pkV (k : Nat) (C : List Int) (u : Nat) : Nat := if u < C.length then (C.getD u 0 % ty k).toNat else 0
def pkU (C : List Int) (u : Nat) : Nat := if u < C.length then u + 1 else u
/-- the four quarters, i of them done -/
def qsq (f : Int → Int → Nat → List Rc × Nat) (x y h : Int) (u : Nat) : Nat → List Rc × Nat
  | 0 => ([], u)
  | i + 1 => let p := qsq f x y h u i; let q := f (x + ((i % 2 : Nat) : Int) * h) (y + ((i / 2 : Nat) : Int) * h) p.2; (p.1 ++ q.1, q.2)
/-- the tree of a region -/
def tree (ar : Rc) (C : List Int) : Nat → Int → Int → Nat → List Rc × Nat
  | 0, x, y, u => if meet (x, y, 8, 8) ar && wthn (x, y, 8, 8) ar then ([(x, y, 8, 8)], u) else ([], u)
  | k + 1, x, y, u =>
    if meet (x, y, sd (k + 1), sd (k + 1)) ar then
      if wthn (x, y, sd (k + 1), sd (k + 1)) ar then
        if pkV (k + 1) C u = 3 then qsq (tree ar C k) x y (sd k) (pkU C u) 4
        else (cutR (pkV (k + 1) C u) x y (sd (k + 1)), pkU C u)
      else qsq (tree ar C k) x y (sd k) u 4
    else ([], u)
theorem tree_off {ar : Rc} {C : List Int} {k : Nat} {x y : Int} {u : Nat} (h : meet (x, y, sd k, sd k) ar = false) : tree ar C k x y u = ([], u) := by
  match k with
  | 0 => unfold tree; rw [if_neg]; intro q; rw [Bool.and_eq_true] at q; rw [show meet (x, y, 8, 8) ar = false from h] at q; simp at q
  | k + 1 => unfold tree; rw [if_neg]; rw [h]; simp
theorem tree_in {ar : Rc} {C : List Int} {k : Nat} {x y : Int} {u : Nat} (h : meet (x, y, sd (k + 1), sd (k + 1)) ar = true) (h1 : wthn (x, y, sd (k + 1), sd (k + 1)) ar = true) (h2 : pkV (k + 1) C u ≠ 3) : tree ar C (k + 1) x y u = (cutR (pkV (k + 1) C u) x y (sd (k + 1)), pkU C u) := by
  rw [tree, if_pos h, if_pos h1, if_neg h2]
theorem tree_split {ar : Rc} {C : List Int} {k : Nat} {x y : Int} {u : Nat} (h : meet (x, y, sd (k + 1), sd (k + 1)) ar = true) (h1 : wthn (x, y, sd (k + 1), sd (k + 1)) ar = true) (h2 : pkV (k + 1) C u = 3) : tree ar C (k + 1) x y u = qsq (tree ar C k) x y (sd k) (pkU C u) 4 := by
  rw [tree, if_pos h, if_pos h1, if_pos h2]
theorem tree_part {ar : Rc} {C : List Int} {k : Nat} {x y : Int} {u : Nat} (h : meet (x, y, sd (k + 1), sd (k + 1)) ar = true) (h1 : wthn (x, y, sd (k + 1), sd (k + 1)) ar = false) : tree ar C (k + 1) x y u = qsq (tree ar C k) x y (sd k) u 4 := by
  rw [tree, if_pos h, if_neg (by simp [h1])]
theorem tree_0 {ar : Rc} {C : List Int} {x y : Int} {u : Nat} (h : meet (x, y, sd 0, sd 0) ar = true) (h1 : wthn (x, y, sd 0, sd 0) ar = true) : tree ar C 0 x y u = (cutR 0 x y (sd 0), u) := by
  rw [tree, if_pos (by rw [Bool.and_eq_true]; exact ⟨h, h1⟩)]
  simp [cutR, prt, prF, sd]
theorem tree_0n {ar : Rc} {C : List Int} {x y : Int} {u : Nat} (h1 : wthn (x, y, sd 0, sd 0) ar = false) : tree ar C 0 x y u = ([], u) := by
  rw [tree, if_neg]; intro q; rw [Bool.and_eq_true] at q; rw [show wthn (x, y, 8, 8) ar = false from h1] at q; simp at q
theorem ty_pos (k : Nat) : 0 < ty k := by unfold ty; split <;> omega
theorem ty_le (k : Nat) : ty k ≤ 10 := by unfold ty; split <;> omega
theorem pkV_lt (k : Nat) (C : List Int) (u : Nat) : (pkV k C u : Int) < ty k := by
  unfold pkV
  have h0 := ty_pos k
  split
  · have h1 := Int.emod_nonneg (C.getD u 0) (show ty k ≠ 0 by omega)
    have h2 := Int.emod_lt_of_pos (C.getD u 0) h0
    omega
  · exact h0
theorem pkU_le {C : List Int} {u : Nat} (h : u ≤ C.length) : u ≤ pkU C u ∧ pkU C u ≤ C.length ∧ pkU C u ≤ u + 1 := by unfold pkU; split <;> omega
theorem qsq_ind {f : Int → Int → Nat → List Rc × Nat} {x y h : Int} {u : Nat} (P : Nat → Prop) (h0 : P u) (hs : ∀ x y u, P u → P (f x y u).2) : ∀ i, P (qsq f x y h u i).2
  | 0 => h0
  | i + 1 => by unfold qsq; exact hs _ _ _ (qsq_ind P h0 hs i)
/-- how many choices were used -/
theorem tree_used {ar : Rc} {C : List Int} : ∀ (k : Nat) (x y : Int) (u : Nat), u ≤ C.length → u ≤ (tree ar C k x y u).2 ∧ (tree ar C k x y u).2 ≤ C.length
  | 0, x, y, u, hu => by unfold tree; split <;> exact ⟨Nat.le_refl _, hu⟩
  | k + 1, x, y, u, hu => by
    have hp := pkU_le hu
    have hq : ∀ v, u ≤ v → v ≤ C.length → u ≤ (qsq (tree ar C k) x y (sd k) v 4).2 ∧ (qsq (tree ar C k) x y (sd k) v 4).2 ≤ C.length := fun v h1 h2 =>
      qsq_ind (fun z => u ≤ z ∧ z ≤ C.length) ⟨h1, h2⟩ (fun x y z hz => by have := tree_used (ar := ar) k x y z hz.2; omega) 4
    unfold tree
    split
    · split
      · split
        · exact hq _ hp.1 hp.2.1
        · exact ⟨hp.1, hp.2.1⟩
      · exact hq _ (Nat.le_refl _) hu
    · exact ⟨Nat.le_refl _, hu⟩
/-- how many at most -/
def mx : Nat → Nat
  | 0 => 0
  | k + 1 => 1 + 4 * mx k
theorem qsq_mx {f : Int → Int → Nat → List Rc × Nat} {x y h : Int} {u m : Nat} (hs : ∀ x y u, (f x y u).2 ≤ u + m) : ∀ i, (qsq f x y h u i).2 ≤ u + i * m
  | 0 => by simp [qsq]
  | i + 1 => by
    unfold qsq
    have h1 := qsq_mx (x := x) (y := y) (h := h) (u := u) hs i
    have h2 := hs (x + ((i % 2 : Nat) : Int) * h) (y + ((i / 2 : Nat) : Int) * h) (qsq f x y h u i).2
    have h3 : (i + 1) * m = i * m + m := Nat.succ_mul i m
    show (f _ _ _).2 ≤ _
    omega
theorem tree_mx {ar : Rc} {C : List Int} : ∀ (k : Nat) (x y : Int) (u : Nat), (tree ar C k x y u).2 ≤ u + mx k
  | 0, x, y, u => by unfold tree; split <;> exact Nat.le_refl _
  | k + 1, x, y, u => by
    have hp : pkU C u ≤ u + 1 := by unfold pkU; split <;> omega
    have hq : ∀ v, (qsq (tree ar C k) x y (sd k) v 4).2 ≤ v + 4 * mx k := fun v => qsq_mx (fun x y z => tree_mx (ar := ar) (C := C) k x y z) 4
    have e : mx (k + 1) = 1 + 4 * mx k := rfl
    unfold tree
    split
    · split
      · split
        · have := hq (pkU C u); omega
        · show pkU C u ≤ _; omega
      · have := hq u; omega
    · exact Nat.le_add_right _ _
end Go.Proofs.Ytjijgeeejhijhaa
