/- DERIVED. Which block has which cell; what is told of a place: as plain arithmetic. -/
import Derived.Test.YtppofodijlofdaaMp
namespace Go.Proofs.Ytppofodijlofdaa
open Go.RowKit

/-- a tile: where it begins, and its sides -/
def Rc := Int × Int × Int × Int
def inB (b : Bl) (X Y : Int) : Bool := decide (b.x ≤ X ∧ X < b.x + b.w ∧ b.y ≤ Y ∧ Y < b.y + b.h)
def ow (L : List Bl) (cx cy : Int) : Option Nat := L.findIdx? (fun b => inB b (8 * cx) (8 * cy))
def at? (L : List Bl) (X Y : Int) : Option Bl := L.find? (fun b => inB b X Y)
def sdB (n : Int) : Bool := decide (n = 8 ∨ n = 16 ∨ n = 32 ∨ n = 64)
def hasT (T : Rc) (X Y : Int) : Bool := decide (T.1 ≤ X ∧ X < T.1 + T.2.2.1 ∧ T.2.1 ≤ Y ∧ Y < T.2.1 + T.2.2.2)
def im (n d a b : Int) : Bool := decide (a ≤ n ∧ n ≤ b ∧ n % d = 0)
def mr (a n : Int) : Bool := im a 64 0 192 && (im n 8 8 256 && decide (a + n ≤ 256))
/-- a tile that may be -/
def TOk (T : Rc) : Prop := mr T.1 T.2.2.1 = true ∧ mr T.2.1 T.2.2.2 = true
theorem im_of {n d a b : Int} (h : im n d a b = true) : a ≤ n ∧ n ≤ b ∧ n % d = 0 := of_decide_eq_true h
theorem mr_of {a n : Int} (h : mr a n = true) : 0 ≤ a ∧ a ≤ 192 ∧ a % 64 = 0 ∧ 8 ≤ n ∧ n ≤ 256 ∧ n % 8 = 0 ∧ a + n ≤ 256 := by
  unfold mr at h
  simp only [Bool.and_eq_true, decide_eq_true_eq] at h
  have h1 := im_of h.1
  have h2 := im_of h.2.1
  omega
/-- does a block fit the tile? -/
def fitB (T : Rc) (b : Bl) : Bool := decide (b.x % 8 = 0) && (decide (b.y % 8 = 0) && (sdB b.w && (sdB b.h && (hasT T b.x b.y && hasT T (b.x + b.w - 1) (b.y + b.h - 1)))))
theorem sd_of {n : Int} (h : sdB n = true) : n = 8 ∨ n = 16 ∨ n = 32 ∨ n = 64 := of_decide_eq_true h
theorem has_of {T : Rc} {X Y : Int} (h : hasT T X Y = true) : T.1 ≤ X ∧ X < T.1 + T.2.2.1 ∧ T.2.1 ≤ Y ∧ Y < T.2.1 + T.2.2.2 := of_decide_eq_true h
structure Fit (T : Rc) (b : Bl) : Prop where
  x8 : b.x % 8 = 0
  y8 : b.y % 8 = 0
  ws : b.w = 8 ∨ b.w = 16 ∨ b.w = 32 ∨ b.w = 64
  hs : b.h = 8 ∨ b.h = 16 ∨ b.h = 32 ∨ b.h = 64
  x0 : T.1 ≤ b.x
  x1 : b.x + b.w ≤ T.1 + T.2.2.1
  y0 : T.2.1 ≤ b.y
  y1 : b.y + b.h ≤ T.2.1 + T.2.2.2
theorem fit_of {T : Rc} {b : Bl} (h : fitB T b = true) : Fit T b := by
  unfold fitB at h
  simp only [Bool.and_eq_true, decide_eq_true_eq] at h
  obtain ⟨h1, h2, h3, h4, h5, h6⟩ := h
  have h3 := sd_of h3
  have h4 := sd_of h4
  have h5 := has_of h5
  have h6 := has_of h6
  exact ⟨h1, h2, h3, h4, by omega, by omega, by omega, by omega⟩
theorem fit_mk {T : Rc} {b : Bl} (h : Fit T b) : fitB T b = true := by
  obtain ⟨h1, h2, h3, h4, h5, h6, h7, h8⟩ := h
  unfold fitB sdB hasT
  simp only [Bool.and_eq_true, decide_eq_true_eq]
  exact ⟨h1, h2, h3, h4, by omega, by omega⟩
/-- the cells of a block, row by row -/
def cls (b : Bl) : List (Int × Int) := (List.range (b.h / 8).toNat).flatMap fun j : Nat => (List.range (b.w / 8).toNat).map fun i : Nat => (b.x / 8 + (i : Int), b.y / 8 + (j : Int))
theorem mem_cls {T : Rc} {b : Bl} (h : Fit T b) (cx cy : Int) : (cx, cy) ∈ cls b ↔ inB b (8 * cx) (8 * cy) = true := by
  obtain ⟨h1, h2, h3, h4, -⟩ := h
  unfold cls inB
  simp only [List.mem_flatMap, List.mem_map, List.mem_range, Prod.mk.injEq, decide_eq_true_eq]
  constructor
  · rintro ⟨j, hj, i, hi, rfl, rfl⟩
    omega
  · rintro ⟨a, b', c, d⟩
    exact ⟨(cy - b.y / 8).toNat, by omega, (cx - b.x / 8).toNat, by omega, by omega, by omega⟩
/-- may it be put? -/
def mp (T : Rc) (L : List Bl) (b : Bl) : Bool := fitB T b && (cls b).all (fun c => (ow L c.1 c.2).isNone)
/-- i at all of some cells -/
def upL (f : Int → Int → Option Nat) (l : List (Int × Int)) (i : Nat) : Int → Int → Option Nat := fun x y => if (x, y) ∈ l then some i else f x y
theorem upL_nil (f : Int → Int → Option Nat) (i : Nat) (x y : Int) : upL f [] i x y = f x y := by simp [upL]
theorem upL_snoc (f : Int → Int → Option Nat) (l : List (Int × Int)) (c : Int × Int) (i : Nat) (x y : Int) : up (upL f l i) c.1 c.2 i x y = upL f (l ++ [c]) i x y := by
  unfold up upL
  by_cases h1 : x = c.1 ∧ y = c.2
  · rw [if_pos h1, if_pos (by simp [h1.1, h1.2])]
  · rw [if_neg h1]
    by_cases h2 : (x, y) ∈ l
    · rw [if_pos h2, if_pos (by simp [h2])]
    · rw [if_neg h2, if_neg]
      simp only [List.mem_append, List.mem_singleton]
      rintro (h | h)
      · exact h2 h
      · exact h1 (by rw [← h]; exact ⟨rfl, rfl⟩)
theorem ow_app (L : List Bl) (b : Bl) (cx cy : Int) : ow (L ++ [b]) cx cy = match ow L cx cy with
    | some i => some i
    | none => if inB b (8 * cx) (8 * cy) then some L.length else none := by
  unfold ow
  rw [List.findIdx?_append]
  cases h : List.findIdx? (fun b => inB b (8 * cx) (8 * cy)) L with
  | some i => simp
  | none => by_cases e : inB b (8 * cx) (8 * cy) = true <;> simp [List.findIdx?_cons, e]
theorem put_ow {T : Rc} {L : List Bl} {b : Bl} (h : mp T L b = true) (x y : Int) : upL (ow L) (cls b) L.length x y = ow (L ++ [b]) x y := by
  unfold mp at h
  rw [Bool.and_eq_true] at h
  have hf := fit_of h.1
  have ha := List.all_eq_true.1 h.2
  rw [ow_app]
  unfold upL
  by_cases e : (x, y) ∈ cls b
  · rw [if_pos e]
    have h1 := ha _ e
    simp only [Option.isNone_iff_eq_none] at h1
    rw [h1, if_pos ((mem_cls hf x y).1 e)]
  · rw [if_neg e]
    have h2 : ¬ inB b (8 * x) (8 * y) = true := fun q => e ((mem_cls hf x y).2 q)
    cases ow L x y with
    | some i => rfl
    | none => simp [h2]
theorem inB_cell {T : Rc} {b : Bl} (h : Fit T b) (X Y : Int) : inB b (8 * (X / 8)) (8 * (Y / 8)) = inB b X Y := by
  obtain ⟨h1, h2, h3, h4, -⟩ := h
  unfold inB
  rw [decide_eq_decide]
  omega
theorem find_idx (p q : Bl → Bool) : ∀ L : List Bl, (∀ b ∈ L, p b = q b) → L.find? p = (L.findIdx? q).map (fun i => L.getD i bz)
  | [], _ => rfl
  | b :: L, h => by
    have hb := h b (by simp)
    rw [List.find?_cons, List.findIdx?_cons, ← hb]
    cases p b
    · simp only [Bool.false_eq_true, if_false]
      rw [find_idx p q L (fun c hc => h c (by simp [hc]))]
      cases L.findIdx? q <;> simp
    · simp
theorem at_ow {T : Rc} {L : List Bl} (h : ∀ b ∈ L, Fit T b) (X Y : Int) : at? L X Y = (ow L (X / 8) (Y / 8)).map (fun i => L.getD i bz) :=
  find_idx _ _ L fun b hb => (inB_cell (h b hb) X Y).symm
theorem ow_lt {L : List Bl} {x y : Int} {i : Nat} (h : ow L x y = some i) : i < L.length := by
  unfold ow at h
  exact (List.findIdx?_eq_some_iff_getElem.1 h).1
/-- what is told at a place -/
def atB (L : List Bl) (X Y : Int) : Bl := (at? L X Y).getD bz
def atK (L : List Bl) (X Y : Int) : Bool := (at? L X Y).isSome
/-- how many of one neighbour -/
def cn (q : Bl → Bool) (L : List Bl) (X Y : Int) : Nat := if atK L X Y = true ∧ q (atB L X Y) = true then 1 else 0
theorem cn_le (q : Bl → Bool) (L : List Bl) (X Y : Int) : cn q L X Y ≤ 1 := by unfold cn; split <;> omega
/-- may one ask? -/
def ask (T : Rc) (X Y s : Int) : Bool := decide (X % s = 0) && (decide (Y % s = 0) && hasT T X Y)
/-- a block's vector -/
def vo (b : Bl) (ref : Int) : Option (Int × Int) := if b.it = true then (if b.r0 = ref then some (b.u0, b.u1) else if b.cp = true ∧ b.r1 = ref then some (b.u2, b.u3) else none) else none
def vadd (s : List (Int × Int)) (v : Option (Int × Int)) : List (Int × Int) :=
  match v, s with
  | none, s => s
  | some v, [] => [v]
  | some v, [u] => if v = u then [u] else [u, v]
  | some _, s => s
theorem vadd_le {s : List (Int × Int)} {v : Option (Int × Int)} (h : s.length ≤ 2) : (vadd s v).length ≤ 2 := by
  unfold vadd
  split
  · exact h
  · simp
  · split <;> simp
  · exact h
def pls (x y w : Int) : List (Int × Int) := [(x - 1, y), (x, y - 1), (x + w, y - 1), (x - 1, y - 1)]
def vcs (L : List Bl) (l : List (Int × Int)) (ref : Int) : List (Int × Int) := l.foldl (fun s p => vadd s (vo (atB L p.1 p.2) ref)) []
/-- two vectors, as cells -/
def vc (s : List (Int × Int)) : List Int :=
  match s with
  | [] => [0, 0, 0, 0]
  | [a] => [a.1, a.2, 0, 0]
  | a :: b :: _ => [a.1, a.2, b.1, b.2]
theorem vc_len (s : List (Int × Int)) : (vc s).length = 4 := by unfold vc; split <;> rfl
end Go.Proofs.Ytppofodijlofdaa
