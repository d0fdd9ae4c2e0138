/- DERIVED. GridOnce as plain arithmetic: who has a cell, which blocks may be put, how owners are written. -/
import Derived.Test.YtppofodijlofdaaEb
import Derived.Test.YtppofodijlofdaaBr
namespace Go.Proofs.Ytppofodijlofdaa
open Go.RowKit

/-- tiles that GridOnce makes -/
structure To2 (T : Rc) : Prop where
  ok : TOk T
  w : ∃ c : Nat, 1 ≤ c ∧ c ≤ 16 ∧ T.2.2.1 = 8 * (c : Int)
  h : ∃ c : Nat, 1 ≤ c ∧ c ≤ 16 ∧ T.2.2.2 = 8 * (c : Int)
  x : ∃ a : Nat, a ≤ 1 ∧ T.1 = 64 * (a : Int)
  y : ∃ a : Nat, a ≤ 1 ∧ T.2.1 = 64 * (a : Int)
theorem to2 {a b c d : Int} (ha : 0 ≤ a) (ha2 : a < 2) (hb : 0 ≤ b) (hb2 : b < 2) (hc : 0 ≤ c) (hc2 : c < 16) (hd : 0 ≤ d) (hd2 : d < 16) : To2 (64 * a, 64 * b, 8 * (1 + c), 8 * (1 + d)) := by
  refine ⟨⟨?_, ?_⟩, ⟨(1 + c).toNat, by omega, by omega, by simp only; omega⟩, ⟨(1 + d).toNat, by omega, by omega, by simp only; omega⟩, ⟨a.toNat, by omega, by simp only; omega⟩, ⟨b.toNat, by omega, by simp only; omega⟩⟩
  · unfold mr im
    simp only [Bool.and_eq_true, decide_eq_true_eq]
    omega
  · unfold mr im
    simp only [Bool.and_eq_true, decide_eq_true_eq]
    omega
/-- a block as GridOnce makes it: at cell p q of the tile, r by s cells -/
structure Fo (T : Rc) (b : Bl) (p q r s : Nat) : Prop where
  x : b.x = T.1 + 8 * (p : Int)
  y : b.y = T.2.1 + 8 * (q : Int)
  w : b.w = 8 * (r : Int)
  h : b.h = 8 * (s : Int)
  pb : p < 18
  qb : q < 18
  rb : r = 1 ∨ r = 2 ∨ r = 4 ∨ r = 8
  sb : s = 1 ∨ s = 2 ∨ s = 4 ∨ s = 8
/-- the number of the block that has a cell of the tile, counted from 1; 0 of a free one -/
def ov (T : Rc) (L : List Bl) (x y : Nat) : Int := match ow L (T.1 / 8 + (x : Int)) (T.2.1 / 8 + (y : Int)) with
  | some i => (i : Int) + 1
  | none => 0
theorem ov_none {T : Rc} {L : List Bl} {x y : Nat} : ov T L x y = 0 ↔ ow L (T.1 / 8 + (x : Int)) (T.2.1 / 8 + (y : Int)) = none := by
  unfold ov
  cases ow L (T.1 / 8 + (x : Int)) (T.2.1 / 8 + (y : Int)) with
  | none => simp
  | some i => simp; omega
theorem ov_le {T : Rc} {L : List Bl} {x y : Nat} : 0 ≤ ov T L x y ∧ ov T L x y ≤ (L.length : Int) := by
  unfold ov
  cases h : ow L (T.1 / 8 + (x : Int)) (T.2.1 / 8 + (y : Int)) with
  | none => simp
  | some i => have := ow_lt h; simp; omega
/-- is it within the tile? -/
def Fi (T : Rc) (p q r s : Nat) : Prop := 8 * ((p : Int) + r) ≤ T.2.2.1 ∧ 8 * ((q : Int) + s) ≤ T.2.2.2
/-- are its first rows, and the first cells of the next one, free? -/
def Fr (T : Rc) (L : List Bl) (p q r : Nat) (j c : Nat) : Prop := (∀ y x, y < j → x < r → ov T L (p + x) (q + y) = 0) ∧ ∀ x, x < c → ov T L (p + x) (q + j) = 0
theorem Fr.zero {T : Rc} {L : List Bl} {p q r : Nat} : Fr T L p q r 0 0 := ⟨fun y x h => by omega, fun x h => by omega⟩
theorem Fr.row {T : Rc} {L : List Bl} {p q r j : Nat} : Fr T L p q r j r ↔ Fr T L p q r (j + 1) 0 := by
  constructor
  · rintro ⟨h1, h2⟩
    refine ⟨fun y x hy hx => ?_, fun x h => by omega⟩
    by_cases e : y = j
    · rw [e]; exact h2 x hx
    · exact h1 y x (by omega) hx
  · rintro ⟨h1, -⟩
    exact ⟨fun y x hy hx => h1 y x (by omega) hx, fun x hx => h1 j x (by omega) hx⟩
theorem Fr.cell {T : Rc} {L : List Bl} {p q r j c : Nat} : Fr T L p q r j (c + 1) ↔ Fr T L p q r j c ∧ ov T L (p + c) (q + j) = 0 := by
  constructor
  · rintro ⟨h1, h2⟩
    exact ⟨⟨h1, fun x hx => h2 x (by omega)⟩, h2 c (by omega)⟩
  · rintro ⟨⟨h1, h2⟩, h3⟩
    refine ⟨h1, fun x hx => ?_⟩
    by_cases e : x = c
    · rw [e]; exact h3
    · exact h2 x (by omega)
theorem Fo.fit {T : Rc} {b : Bl} {p q r s : Nat} (h : Fo T b p q r s) (ht : To2 T) : fitB T b = true ↔ Fi T p q r s := by
  obtain ⟨hx, hy, hw, hh, pb, qb, rb, sb⟩ := h
  obtain ⟨ok, ⟨c1, c2, c3, c4⟩, ⟨d1, d2, d3, d4⟩, ⟨a1, a2, a3⟩, ⟨b1, b2, b3⟩⟩ := ht
  constructor
  · intro hf
    have hf := fit_of hf
    have h1 := hf.x1
    have h2 := hf.y1
    unfold Fi
    omega
  · rintro ⟨h1, h2⟩
    refine fit_mk ⟨by omega, by omega, by omega, by omega, by omega, by omega, by omega, by omega⟩
theorem Fo.may {T : Rc} {L : List Bl} {b : Bl} {p q r s : Nat} (h : Fo T b p q r s) (ht : To2 T) : mp T L b = true ↔ Fi T p q r s ∧ Fr T L p q r s 0 := by
  have hf := h.fit ht
  unfold mp
  rw [Bool.and_eq_true, hf]
  refine and_congr_right fun hfi => ?_
  have hfb := fit_of (hf.2 hfi)
  rw [List.all_eq_true]
  obtain ⟨hx, hy, hw, hh, pb, qb, rb, sb⟩ := h
  obtain ⟨ok, -, -, ⟨a1, a2, a3⟩, ⟨b1, b2, b3⟩⟩ := ht
  constructor
  · intro hall
    refine ⟨fun y x hys hxr => ?_, fun x hx => by omega⟩
    rw [ov_none]
    have hc := hall (T.1 / 8 + ((p + x : Nat) : Int), T.2.1 / 8 + ((q + y : Nat) : Int)) ((mem_cls hfb _ _).2 (decide_eq_true (by omega)))
    simpa using hc
  · rintro ⟨h1, -⟩ ⟨cx, cy⟩ hc
    have hi := of_decide_eq_true ((mem_cls hfb cx cy).1 hc)
    have e1 : cx = T.1 / 8 + ((p + (cx - T.1 / 8 - p).toNat : Nat) : Int) := by omega
    have e2 : cy = T.2.1 / 8 + ((q + (cy - T.2.1 / 8 - q).toNat : Nat) : Int) := by omega
    have h2 := h1 (cy - T.2.1 / 8 - q).toNat (cx - T.1 / 8 - p).toNat (by omega) (by omega)
    rw [ov_none, ← e1, ← e2] at h2
    simp only [h2]
    rfl
/-- the owners while a block is being noted: its first rows and the first cells of the next one have its number -/
structure Wm (T : Rc) (L : List Bl) (p q r j c : Nat) (C : List Int) : Prop where
  len : C.length = 256
  val : ∀ x y, x < 16 → y < 16 → C.getD (y * 16 + x) 0 = if p ≤ x ∧ x < p + r ∧ q ≤ y ∧ (y < q + j ∨ y = q + j ∧ x < p + c) then (L.length : Int) + 1 else ov T L x y
/-- the owners -/
structure Wo (T : Rc) (L : List Bl) (C : List Int) : Prop where
  len : C.length = 256
  val : ∀ x y, x < 16 → y < 16 → C.getD (y * 16 + x) 0 = ov T L x y
theorem Wo.begin {T : Rc} {L : List Bl} {p q r : Nat} {C : List Int} (h : Wo T L C) : Wm T L p q r 0 0 C := ⟨h.len, fun x y hx hy => by rw [h.val x y hx hy, if_neg (by omega)]⟩
theorem Wm.row {T : Rc} {L : List Bl} {p q r j : Nat} {C : List Int} (h : Wm T L p q r j r C) : Wm T L p q r (j + 1) 0 C := ⟨h.len, fun x y hx hy => by
  rw [h.val x y hx hy]
  by_cases e : p ≤ x ∧ x < p + r ∧ q ≤ y ∧ (y < q + j ∨ y = q + j ∧ x < p + r)
  · rw [if_pos e, if_pos (by omega)]
  · rw [if_neg e, if_neg (by omega)]⟩
theorem Wm.cell {T : Rc} {L : List Bl} {p q r j c : Nat} {C : List Int} (h : Wm T L p q r j c C) (hc : c < r) (hp : p + r ≤ 16) (hq : q + j < 16) : Wm T L p q r j (c + 1) (C.set ((q + j) * 16 + (p + c)) ((L.length : Int) + 1)) := by
  refine ⟨by rw [List.length_set]; exact h.len, fun x y hx hy => ?_⟩
  rw [List.getD_eq_getElem?_getD, List.getElem?_set]
  by_cases e : (q + j) * 16 + (p + c) = y * 16 + x
  · have ex : x = p + c := by omega
    have ey : y = q + j := by omega
    rw [if_pos e, if_pos (by rw [h.len]; omega), if_pos (by omega)]
    rfl
  · rw [if_neg e, ← List.getD_eq_getElem?_getD, h.val x y hx hy]
    by_cases e2 : p ≤ x ∧ x < p + r ∧ q ≤ y ∧ (y < q + j ∨ y = q + j ∧ x < p + c)
    · rw [if_pos e2, if_pos (by omega)]
    · rw [if_neg e2, if_neg (by omega)]
theorem Wm.end {T : Rc} {L : List Bl} {b : Bl} {p q r s : Nat} {C : List Int} (h : Wm T L p q r s 0 C) (hf : Fo T b p q r s) (ht : To2 T) (hfr : Fr T L p q r s 0) : Wo T (L ++ [b]) C := by
  refine ⟨h.len, fun x y hx hy => ?_⟩
  rw [h.val x y hx hy]
  obtain ⟨ex, ey, ew, eh, pb, qb, rb, sb⟩ := hf
  obtain ⟨ok, -, -, ⟨a1, a2, a3⟩, ⟨b1, b2, b3⟩⟩ := ht
  by_cases e : p ≤ x ∧ x < p + r ∧ q ≤ y ∧ (y < q + s ∨ y = q + s ∧ x < p + 0)
  · rw [if_pos e]
    have hn := hfr.1 (y - q) (x - p) (by omega) (by omega)
    rw [show p + (x - p) = x from by omega, show q + (y - q) = y from by omega, ov_none] at hn
    have hi : inB b (8 * (T.1 / 8 + (x : Int))) (8 * (T.2.1 / 8 + (y : Int))) = true := decide_eq_true (by omega)
    unfold ov
    rw [ow_app, hn]
    simp [hi]
  · rw [if_neg e]
    have hi : inB b (8 * (T.1 / 8 + (x : Int))) (8 * (T.2.1 / 8 + (y : Int))) = false := decide_eq_false (by omega)
    unfold ov
    rw [ow_app]
    cases ow L (T.1 / 8 + (x : Int)) (T.2.1 / 8 + (y : Int)) with
    | some i => rfl
    | none => simp [hi]
theorem Wo.none {T : Rc} : Wo T [] (List.replicate 256 0) := ⟨List.length_replicate, fun x y hx hy => by
  rw [List.getD_eq_getElem?_getD, List.getElem?_replicate, if_pos (by omega)]
  rfl⟩
/-- what a grid says of a place within the tile -/
theorem at_in {T : Rc} {L : List Bl} (hL : ∀ b ∈ L, Fit T b) (ht : To2 T) (x y : Nat) {dx dy : Int} (h1 : 0 ≤ dx) (h2 : dx < 8) (h3 : 0 ≤ dy) (h4 : dy < 8) : (atK L (T.1 + 8 * (x : Int) + dx) (T.2.1 + 8 * (y : Int) + dy) = decide (0 < ov T L x y)) ∧
    (0 < ov T L x y → (ov T L x y - 1).toNat < L.length ∧ atB L (T.1 + 8 * (x : Int) + dx) (T.2.1 + 8 * (y : Int) + dy) = L.getD (ov T L x y - 1).toNat bz) := by
  obtain ⟨ok, -, -, ⟨a1, a2, a3⟩, ⟨b1, b2, b3⟩⟩ := ht
  have hao := at_ow hL (T.1 + 8 * (x : Int) + dx) (T.2.1 + 8 * (y : Int) + dy)
  rw [show (T.1 + 8 * (x : Int) + dx) / 8 = T.1 / 8 + (x : Int) from by omega, show (T.2.1 + 8 * (y : Int) + dy) / 8 = T.2.1 / 8 + (y : Int) from by omega] at hao
  unfold atK atB ov
  rw [hao]
  cases h : ow L (T.1 / 8 + (x : Int)) (T.2.1 / 8 + (y : Int)) with
  | none => simp
  | some i =>
    have := ow_lt h
    simp
    omega
/-- nothing is known to the right of the tile -/
theorem at_out {T : Rc} {L : List Bl} (hL : ∀ b ∈ L, Fit T b) : atK L (T.1 + T.2.2.1) T.2.1 = false := by
  unfold atK at?
  rw [Option.isSome_eq_false_iff, Option.isNone_iff_eq_none, List.find?_eq_none]
  intro b hb hi
  have hi := of_decide_eq_true hi
  have := (hL b hb).x1
  omega
end Go.Proofs.Ytppofodijlofdaa
