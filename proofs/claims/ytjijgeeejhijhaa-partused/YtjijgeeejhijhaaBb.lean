/- DERIVED. What a tree's leaves cover. -/
import Derived.Test.YtjijgeeejhijhaaCf
namespace Go.Proofs.Ytjijgeeejhijhaa

/-- is a place in a rectangle? -/
def inn (p : Rc) (px py : Int) : Nat := if p.1 ≤ px ∧ px < p.1 + p.2.2.1 ∧ p.2.1 ≤ py ∧ py < p.2.1 + p.2.2.2 then 1 else 0
/-- how often a place is covered -/
def cnt (l : List Rc) (px py : Int) : Nat := (l.map fun p => inn p px py).sum
theorem cnt_nil (px py : Int) : cnt [] px py = 0 := rfl
theorem cnt_cons (p : Rc) (l : List Rc) (px py : Int) : cnt (p :: l) px py = inn p px py + cnt l px py := by simp [cnt]
theorem cnt_app (a b : List Rc) (px py : Int) : cnt (a ++ b) px py = cnt a px py + cnt b px py := by simp [cnt]
theorem inn_le (p : Rc) (px py : Int) : inn p px py ≤ 1 := by unfold inn; split <;> omega
/-- one axis at a time -/
def ax1 (x s p : Int) : Nat := if x ≤ p ∧ p < x + s then 1 else 0
theorem inn_ax (x y w h px py : Int) : inn (x, y, w, h) px py = ax1 x w px * ax1 y h py := by
  unfold inn ax1
  by_cases h1 : x ≤ px ∧ px < x + w
  · by_cases h2 : y ≤ py ∧ py < y + h
    · rw [if_pos ⟨h1.1, h1.2, h2.1, h2.2⟩, if_pos h1, if_pos h2]
    · rw [if_neg (fun q => h2 ⟨q.2.2.1, q.2.2.2⟩), if_neg h2, Nat.mul_zero]
  · rw [if_neg (fun q => h1 ⟨q.1, q.2.1⟩), if_neg h1, Nat.zero_mul]
theorem ax1_two {x h p : Int} (h0 : 0 ≤ h) : ax1 x h p + ax1 (x + h) h p = ax1 x (2 * h) p := by
  unfold ax1
  by_cases h1 : x ≤ p <;> by_cases h2 : p < x + h <;> by_cases h3 : p < x + 2 * h
  all_goals first
    | (rw [if_pos (by omega), if_neg (by omega), if_pos (by omega)])
    | (rw [if_neg (by omega), if_pos (by omega), if_pos (by omega)])
    | (rw [if_neg (by omega), if_neg (by omega), if_neg (by omega)])
    | (exfalso; omega)
theorem ax1_four {x q p : Int} (h0 : 0 ≤ q) : ax1 x q p + (ax1 (x + q) q p + (ax1 (x + 2 * q) q p + ax1 (x + 3 * q) q p)) = ax1 x (4 * q) p := by
  have e1 := ax1_two (x := x) (h := q) (p := p) h0
  have e2 := ax1_two (x := x + 2 * q) (h := q) (p := p) h0
  have e3 := ax1_two (x := x) (h := 2 * q) (p := p) (by omega)
  rw [show x + 2 * q + q = x + 3 * q from by omega] at e2
  rw [show 2 * (2 * q) = 4 * q from by omega] at e3
  omega
theorem cutH_cnt {kd : Nat} {x y s h q px py : Int} (hs : s = 4 * q) (hh : h = 2 * q) (q0 : 0 ≤ q) : cnt (cutH kd x y s h q) px py = inn (x, y, s, s) px py := by
  have X2 := ax1_two (x := x) (h := h) (p := px) (by omega)
  have Y2 := ax1_two (x := y) (h := h) (p := py) (by omega)
  have X4 := ax1_four (x := x) (q := q) (p := px) q0
  have Y4 := ax1_four (x := y) (q := q) (p := py) q0
  rw [show 2 * h = s from by omega] at X2 Y2
  rw [← hs] at X4 Y4
  unfold cutH
  split <;> simp only [cnt_cons, cnt_nil, inn_ax, Nat.add_zero]
  · rw [← Nat.mul_add, Y2]
  · rw [← Nat.add_mul, X2]
  · rw [← X2, ← Y2]; simp only [Nat.add_mul, Nat.mul_add]; try omega
  · rw [← X2, ← Y2]; simp only [Nat.add_mul, Nat.mul_add]; try omega
  · rw [← X2, ← Y2]; simp only [Nat.add_mul, Nat.mul_add]; try omega
  · rw [← X2, ← Y2]; simp only [Nat.add_mul, Nat.mul_add]; try omega
  · rw [← X2, ← Y2]; simp only [Nat.add_mul, Nat.mul_add]; try omega
  · rw [← Y4]; simp only [Nat.mul_add]
  · rw [← X4]; simp only [Nat.add_mul]
theorem sd_four (k : Nat) : sd k = 4 * (sd k / 4) ∧ 2 ≤ sd k / 4 := by unfold sd; split <;> decide
theorem cutR_cnt (kd k : Nat) (x y px py : Int) : cnt (cutR kd x y (sd k)) px py = inn (x, y, sd k, sd k) px py := by
  obtain ⟨h1, h2⟩ := sd_four k
  rw [cutR_cutH (h := 2 * (sd k / 4)) h1 rfl]
  exact cutH_cnt h1 rfl (by omega)
theorem qsq_cnt {f : Int → Int → Nat → List Rc × Nat} {x y h px py : Int} {u A : Nat} (h0 : 0 ≤ h) (hs : ∀ i, i < 4 → ∀ u, cnt (f (x + ((i % 2 : Nat) : Int) * h) (y + ((i / 2 : Nat) : Int) * h) u).1 px py = inn (x + ((i % 2 : Nat) : Int) * h, y + ((i / 2 : Nat) : Int) * h, h, h) px py * A) :
    cnt (qsq f x y h u 4).1 px py = inn (x, y, 2 * h, 2 * h) px py * A := by
  simp only [qsq, cnt_app, cnt_nil, Nat.zero_add]
  rw [hs 0 (by omega), hs 1 (by omega), hs 2 (by omega), hs 3 (by omega)]
  have a0 : x + ((0 % 2 : Nat) : Int) * h = x := by simp
  have a1 : x + ((1 % 2 : Nat) : Int) * h = x + h := by simp
  have a2 : x + ((2 % 2 : Nat) : Int) * h = x := by simp
  have a3 : x + ((3 % 2 : Nat) : Int) * h = x + h := by simp
  have b0 : y + ((0 / 2 : Nat) : Int) * h = y := by simp
  have b1 : y + ((1 / 2 : Nat) : Int) * h = y := by simp
  have b2 : y + ((2 / 2 : Nat) : Int) * h = y + h := by simp
  have b3 : y + ((3 / 2 : Nat) : Int) * h = y + h := by simp
  simp only [a0, a1, b0, b2]
  simp only [inn_ax]
  rw [← ax1_two (x := x) h0, ← ax1_two (x := y) h0]
  simp only [Nat.add_mul, Nat.mul_add]
  omega
theorem meet_in {x y s ax ay aw ah px py : Int} (h : meet (x, y, s, s) (ax, ay, aw, ah) = false) : inn (x, y, s, s) px py * inn (ax, ay, aw, ah) px py = 0 := by
  unfold meet at h
  simp only [Bool.and_eq_false_iff, decide_eq_false_iff_not] at h
  unfold inn
  by_cases h1 : x ≤ px ∧ px < x + s ∧ y ≤ py ∧ py < y + s
  · have h2 : ¬ (ax ≤ px ∧ px < ax + aw ∧ ay ≤ py ∧ py < ay + ah) := by omega
    rw [if_neg h2, Nat.mul_zero]
  · rw [if_neg h1, Nat.zero_mul]
theorem wthn_in {x y s ax ay aw ah px py : Int} (h : wthn (x, y, s, s) (ax, ay, aw, ah) = true) : inn (x, y, s, s) px py * inn (ax, ay, aw, ah) px py = inn (x, y, s, s) px py := by
  unfold wthn at h
  simp only [Bool.and_eq_true, decide_eq_true_eq] at h
  unfold inn
  by_cases h1 : x ≤ px ∧ px < x + s ∧ y ≤ py ∧ py < y + s
  · have h2 : ax ≤ px ∧ px < ax + aw ∧ ay ≤ py ∧ py < ay + ah := by omega
    rw [if_pos h1, if_pos h2]
  · rw [if_neg h1, Nat.zero_mul]
/-- an area by eights -/
structure A8 (ar : Rc) : Prop where
  x : ar.1 % 8 = 0
  y : ar.2.1 % 8 = 0
  w : ar.2.2.1 % 8 = 0
  h : ar.2.2.2 % 8 = 0
theorem quarter_mod {x h : Int} (hx : x % 8 = 0) (hh : h % 8 = 0) : ∀ i : Nat, i < 4 → (x + ((i % 2 : Nat) : Int) * h) % 8 = 0 ∧ (x + ((i / 2 : Nat) : Int) * h) % 8 = 0 := by
  intro i hi
  match i, hi with
  | 0, _ | 1, _ | 2, _ | 3, _ => simp; omega
theorem tree_cnt {ar : Rc} {C : List Int} (ha : A8 ar) (px py : Int) : ∀ (k : Nat), k < 4 → ∀ (x y : Int) (u : Nat), x % 8 = 0 → y % 8 = 0 → cnt (tree ar C k x y u).1 px py = inn (x, y, sd k, sd k) px py * inn ar px py
  | 0, _, x, y, u, hx, hy => by
    obtain ⟨ax, ay, aw, ah⟩ := ar
    obtain ⟨a0, a1, a2, a3⟩ := ha
    simp only at a0 a1 a2 a3
    by_cases hm : meet (x, y, sd 0, sd 0) (ax, ay, aw, ah) = true
    · by_cases hi : wthn (x, y, sd 0, sd 0) (ax, ay, aw, ah) = true
      · rw [tree_0 hm hi, cutR_cnt, wthn_in hi]
      · exfalso
        unfold meet sd at hm
        unfold wthn sd at hi
        simp only [Bool.and_eq_true, decide_eq_true_eq] at hm hi
        omega
    · rw [tree_off (by simpa using hm), cnt_nil, meet_in (by simpa using hm)]
  | k + 1, hk, x, y, u, hx, hy => by
    obtain ⟨ax, ay, aw, ah⟩ := ar
    have e := sd_half (k := k) (by omega)
    have hk8 : sd k % 8 = 0 ∧ 0 ≤ sd k := by rcases sd_cases (show k < 4 by omega) with q | q | q | q <;> omega
    have hq : ∀ v, cnt (qsq (tree (ax, ay, aw, ah) C k) x y (sd k) v 4).1 px py = inn (x, y, sd (k + 1), sd (k + 1)) px py * inn (ax, ay, aw, ah) px py := fun v => by
      rw [e]
      exact qsq_cnt hk8.2 (fun i hi w => tree_cnt ha px py k (by omega) _ _ w (quarter_mod hx hk8.1 i hi).1 (quarter_mod hy hk8.1 i hi).2)
    by_cases hm : meet (x, y, sd (k + 1), sd (k + 1)) (ax, ay, aw, ah) = true
    · by_cases hi : wthn (x, y, sd (k + 1), sd (k + 1)) (ax, ay, aw, ah) = true
      · by_cases hp : pkV (k + 1) C u = 3
        · rw [tree_split hm hi hp]; exact hq _
        · rw [tree_in hm hi hp, cutR_cnt, wthn_in hi]
      · rw [tree_part hm (by simpa using hi)]; exact hq _
    · rw [tree_off (by simpa using hm), cnt_nil, meet_in (by simpa using hm)]
/-- a part of a square at X, Y, by eights -/
structure Gd (X Y S : Int) (p : Rc) : Prop where
  x0 : X ≤ p.1
  x1 : p.1 + p.2.2.1 ≤ X + S
  y0 : Y ≤ p.2.1
  y1 : p.2.1 + p.2.2.2 ≤ Y + S
  w0 : 8 ≤ p.2.2.1
  h0 : 8 ≤ p.2.2.2
  w8 : p.2.2.1 % 8 = 0
  h8 : p.2.2.2 % 8 = 0
  x8 : (p.1 - X) % 8 = 0
  y8 : (p.2.1 - Y) % 8 = 0
theorem cutR_gd {kd k : Nat} {x y : Int} (hk : k < 4) (h : (kd : Int) < ty k) : ∀ p ∈ cutR kd x y (sd k), Gd x y (sd k) p := by
  have h10 := ty_le k
  have c : kd < 10 := by omega
  match k, hk with
  | 0, _ =>
    have e : (kd : Int) < 1 := h
    show ∀ p ∈ cutR kd x y 8, Gd x y 8 p
    obtain rfl : kd = 0 := by omega
    simp only [cutR, prt, List.map, prF, List.mem_cons, List.not_mem_nil, or_false]
    rintro p rfl
    exact ⟨by simp only []; omega, by simp only []; omega, by simp only []; omega, by simp only []; omega, by simp only []; omega, by simp only []; omega, by simp only []; omega, by simp only []; omega, by simp only []; omega, by simp only []; omega⟩
  | 1, _ =>
    have e : (kd : Int) < 8 := h
    show ∀ p ∈ cutR kd x y 16, Gd x y 16 p
    have e2 : kd < 8 := by omega
    match kd, e2 with
    | 0, _ | 1, _ | 2, _ | 3, _ | 4, _ | 5, _ | 6, _ | 7, _ =>
      intro p hp
      simp only [cutR, prt, List.map, prF, List.mem_cons, List.not_mem_nil, or_false] at hp
      rcases hp with rfl | rfl | rfl | rfl
      all_goals exact ⟨by simp only []; omega, by simp only []; omega, by simp only []; omega, by simp only []; omega, by simp only []; omega, by simp only []; omega, by simp only []; omega, by simp only []; omega, by simp only []; omega, by simp only []; omega⟩
  | 2, _ =>
    show ∀ p ∈ cutR kd x y 32, Gd x y 32 p
    match kd, c with
    | 0, _ | 1, _ | 2, _ | 3, _ | 4, _ | 5, _ | 6, _ | 7, _ | 8, _ | 9, _ =>
      intro p hp
      simp only [cutR, prt, List.map, prF, List.mem_cons, List.not_mem_nil, or_false] at hp
      rcases hp with rfl | rfl | rfl | rfl
      all_goals exact ⟨by simp only []; omega, by simp only []; omega, by simp only []; omega, by simp only []; omega, by simp only []; omega, by simp only []; omega, by simp only []; omega, by simp only []; omega, by simp only []; omega, by simp only []; omega⟩
  | 3, _ =>
    show ∀ p ∈ cutR kd x y 64, Gd x y 64 p
    match kd, c with
    | 0, _ | 1, _ | 2, _ | 3, _ | 4, _ | 5, _ | 6, _ | 7, _ | 8, _ | 9, _ =>
      intro p hp
      simp only [cutR, prt, List.map, prF, List.mem_cons, List.not_mem_nil, or_false] at hp
      rcases hp with rfl | rfl | rfl | rfl
      all_goals exact ⟨by simp only []; omega, by simp only []; omega, by simp only []; omega, by simp only []; omega, by simp only []; omega, by simp only []; omega, by simp only []; omega, by simp only []; omega, by simp only []; omega, by simp only []; omega⟩
theorem Gd.sub {X Y S x y s : Int} {p : Rc} (h : Gd x y s p) (h1 : X ≤ x) (h2 : x + s ≤ X + S) (h3 : Y ≤ y) (h4 : y + s ≤ Y + S) (h5 : (x - X) % 8 = 0) (h6 : (y - Y) % 8 = 0) : Gd X Y S p := by
  obtain ⟨a0, a1, a2, a3, a4, a5, a6, a7, a8, a9⟩ := h
  exact ⟨by omega, by omega, by omega, by omega, a4, a5, a6, a7, by omega, by omega⟩
theorem qsq_gd {f : Int → Int → Nat → List Rc × Nat} {x y h : Int} {u : Nat} (h0 : 0 ≤ h) (h8 : h % 8 = 0) (hs : ∀ i : Nat, i < 4 → ∀ u, ∀ p ∈ (f (x + ((i % 2 : Nat) : Int) * h) (y + ((i / 2 : Nat) : Int) * h) u).1, Gd (x + ((i % 2 : Nat) : Int) * h) (y + ((i / 2 : Nat) : Int) * h) h p) :
    ∀ i, i ≤ 4 → ∀ p ∈ (qsq f x y h u i).1, Gd x y (2 * h) p
  | 0, _ => by simp [qsq]
  | i + 1, hi => by
    intro p hp
    unfold qsq at hp
    rcases List.mem_append.1 hp with hp | hp
    · exact qsq_gd h0 h8 hs i (by omega) p hp
    · have g := hs i (by omega) _ p hp
      have hi4 : i < 4 := by omega
      refine g.sub ?_ ?_ ?_ ?_ ?_ ?_
      all_goals
        clear g hp hs
        match i, hi4 with
        | 0, _ | 1, _ | 2, _ | 3, _ => simp <;> omega
theorem tree_gd {ar : Rc} {C : List Int} : ∀ (k : Nat), k < 4 → ∀ (x y : Int) (u : Nat), ∀ p ∈ (tree ar C k x y u).1, Gd x y (sd k) p
  | 0, _, x, y, u => by
    intro p hp
    unfold tree at hp
    split at hp
    · simp only [List.mem_singleton] at hp
      subst hp
      show Gd x y 8 _
      exact ⟨by simp only []; omega, by simp only []; omega, by simp only []; omega, by simp only []; omega, by simp only []; omega, by simp only []; omega, by simp only []; omega, by simp only []; omega, by simp only []; omega, by simp only []; omega⟩
    · simp at hp
  | k + 1, hk, x, y, u => by
    have e := sd_half (k := k) (by omega)
    have hk8 : sd k % 8 = 0 ∧ 0 ≤ sd k := by rcases sd_cases (show k < 4 by omega) with q | q | q | q <;> omega
    have hq : ∀ v, ∀ p ∈ (qsq (tree ar C k) x y (sd k) v 4).1, Gd x y (sd (k + 1)) p := fun v => by
      rw [e]
      exact qsq_gd hk8.2 hk8.1 (fun i hi w => tree_gd k (by omega) _ _ w) 4 (by omega)
    intro p hp
    unfold tree at hp
    split at hp
    · split at hp
      · split at hp
        · exact hq _ p hp
        · exact cutR_gd hk (pkV_lt _ _ _) p hp
      · exact hq _ p hp
    · simp at hp
end Go.Proofs.Ytjijgeeejhijhaa
