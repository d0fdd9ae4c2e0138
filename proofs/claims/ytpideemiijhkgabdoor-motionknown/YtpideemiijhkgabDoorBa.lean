/- DERIVED. Plain arithmetic of layer 14: taps, sums by taps, blocks between samples. -/
import Derived.Test.YtpideemiijhkgabDoorGd
namespace Go.Proofs.YtpideemiijhkgabDoor

/-- a list by its places -/
def tab (n : Nat) (f : Nat → Nat) : List Nat := (List.range n).map f
theorem tab_len (n : Nat) (f : Nat → Nat) : (tab n f).length = n := by simp [tab]
theorem tab_get {n : Nat} (f : Nat → Nat) {j : Nat} (h : j < n) : (tab n f).getD j 0 = f j := by simp [tab, List.getD_eq_getElem?_getD, List.getElem?_range h]
theorem eq_tab {L : List Nat} {n : Nat} {f : Nat → Nat} (hl : L.length = n) (h : ∀ j, j < n → L.getD j 0 = f j) : L = tab n f := list_eq_of_getD (by rw [hl, tab_len]) fun j hj => by
  rw [hl] at hj; rw [tab_get f hj]; exact h j hj
theorem tab_eq {n : Nat} {f g : Nat → Nat} (h : ∀ j, j < n → f j = g j) : tab n f = tab n g := eq_tab (tab_len n f) fun j hj => by rw [tab_get f hj]; exact h j hj
theorem tab_over (n : Nat) (f : Nat → Nat) {j : Nat} (h : n ≤ j) : (tab n f).getD j 0 = 0 := by rw [List.getD_eq_getElem?_getD, List.getElem?_eq_none (by rw [tab_len]; exact h)]; rfl
theorem tab_byt {n : Nat} {f : Nat → Nat} (h : ∀ j, f j < 256) : Byt (tab n f) := fun j => by
  by_cases hj : j < n
  · rw [tab_get f hj]; exact h j
  · rw [tab_over n f (by omega)]; omega
theorem rep_get {n v j : Nat} (h : j < n) : (List.replicate n v).getD j 0 = v := by simp [List.getD_eq_getElem?_getD, h]
/-- the same for whole numbers -/
def tbi (n : Nat) (f : Nat → Int) : List Int := (List.range n).map f
theorem tbi_len (n : Nat) (f : Nat → Int) : (tbi n f).length = n := by simp [tbi]
theorem tbi_get {n : Nat} (f : Nat → Int) {j : Nat} (h : j < n) : (tbi n f).getD j 0 = f j := by simp [tbi, List.getD_eq_getElem?_getD, List.getElem?_range h]
theorem tbi_eq {n : Nat} {f g : Nat → Int} (h : ∀ j, j < n → f j = g j) : tbi n f = tbi n g := ext_getD (by rw [tbi_len, tbi_len]) fun j hj => by
  rw [tbi_len] at hj; rw [tbi_get f hj, tbi_get g hj]; exact h j hj
theorem tbi_zero {n : Nat} {f : Nat → Int} (h : ∀ j, j < n → f j = 0) : List.replicate n 0 = tbi n f := ext_getD (by rw [tbi_len]; simp) fun j hj => by
  rw [List.length_replicate] at hj; rw [tbi_get f hj, h j hj]; simp [List.getD_eq_getElem?_getD, hj]
theorem tbi_set {n q : Nat} {f g : Nat → Int} {x : Int} (hq : q < n) (h0 : g q = x) (h : ∀ j, j < n → j ≠ q → g j = f j) : (tbi n f).set q x = tbi n g := ext_getD (by rw [List.length_set, tbi_len, tbi_len]) fun j hj => by
  rw [List.length_set, tbi_len] at hj
  rw [getD_set _ _ _ _ (by rw [tbi_len]; exact hq), tbi_get g hj]
  by_cases e : q = j
  · subst e; rw [if_pos rfl, h0]
  · rw [if_neg e, tbi_get f hj, h j hj (fun k => e k.symm)]
theorem nat_set (C : List Nat) (k j x : Nat) (hk : k < C.length) : (C.set k x).getD j 0 = if k = j then x else C.getD j 0 := by
  rw [List.getD_eq_getElem?_getD, List.getD_eq_getElem?_getD, List.getElem?_set]
  by_cases e : k = j
  · subst e; rw [if_pos rfl, if_pos rfl, if_pos hk]; rfl
  · rw [if_neg e, if_neg e]
theorem tab_set {n q : Nat} {f g : Nat → Nat} {x : Nat} (hq : q < n) (h0 : g q = x) (h : ∀ j, j < n → j ≠ q → g j = f j) : (tab n f).set q x = tab n g := list_eq_of_getD (by rw [List.length_set, tab_len, tab_len]) fun j hj => by
  rw [List.length_set, tab_len] at hj
  rw [nat_set _ _ _ _ (by rw [tab_len]; exact hq), tab_get g hj]
  by_cases e : q = j
  · subst e; rw [if_pos rfl, h0]
  · rw [if_neg e, tab_get f hj, h j hj (fun k => e k.symm)]
theorem tab_zero {n : Nat} {f : Nat → Nat} (h : ∀ j, j < n → f j = 0) : List.replicate n 0 = tab n f := eq_tab (by simp) fun j hj => by rw [rep_get hj, h j hj]
theorem tab_more (n : Nat) (f : Nat → Nat) : tab n f ++ [f n] = tab (n + 1) f := by simp [tab, List.range_succ]

theorem dm {y w i : Nat} (h0 : y * w ≤ i) (h1 : i < y * w + w) : i / w = y ∧ i % w = i - y * w := by
  obtain ⟨r, rfl⟩ := Nat.exists_eq_add_of_le h0
  have hr : r < w := by omega
  refine ⟨?_, ?_⟩
  · rw [Nat.mul_comm y w, Nat.mul_add_div (by omega), Nat.div_eq_of_lt hr]; omega
  · rw [Nat.mul_comm y w, Nat.mul_add_mod, Nat.mod_eq_of_lt hr]; omega
theorem dm_of {y w r : Nat} (h : r < w) : (y * w + r) / w = y ∧ (y * w + r) % w = r := by
  have := dm (y := y) (w := w) (i := y * w + r) (by omega) (by omega)
  exact ⟨this.1, by rw [this.2]; omega⟩
theorem row_le {y h w : Nat} (hy : y < h) : y * w + w ≤ w * h := by
  have := Nat.mul_le_mul_right w (show y + 1 ≤ h from hy)
  rw [Nat.add_mul, Nat.one_mul, Nat.mul_comm h w] at this
  exact this
theorem at_lt {y h w r : Nat} (hy : y < h) (hr : r < w) : y * w + r < w * h := by have := row_le (w := w) hy; omega
theorem parts (i w : Nat) (hw : 0 < w) : i = i / w * w + i % w ∧ i % w < w := ⟨by rw [Nat.mul_comm]; exact (Nat.div_add_mod i w).symm, Nat.mod_lt _ hw⟩
theorem div_of {i w h : Nat} (hi : i < w * h) : i / w < h := Nat.div_lt_of_lt_mul hi

/-- the taps of the kinds regular and smooth, up to the middle -/
def rgT : List (List Int) := [[0, 0, 0, 128, 0, 0, 0, 0], [0, 2, -6, 126, 8, -2, 0, 0], [0, 2, -10, 122, 18, -4, 0, 0], [0, 2, -12, 116, 28, -8, 2, 0], [0, 2, -14, 110, 38, -10, 2, 0], [0, 2, -14, 102, 48, -12, 2, 0], [0, 2, -16, 94, 58, -12, 2, 0], [0, 2, -14, 84, 66, -12, 2, 0], [0, 2, -14, 76, 76, -14, 2, 0]]
def smT : List (List Int) := [[0, 0, 0, 128, 0, 0, 0, 0], [0, 2, 28, 62, 34, 2, 0, 0], [0, 0, 26, 62, 36, 4, 0, 0], [0, 0, 22, 62, 40, 4, 0, 0], [0, 0, 20, 60, 42, 6, 0, 0], [0, 0, 18, 58, 44, 8, 0, 0], [0, 0, 16, 56, 46, 10, 0, 0], [0, -2, 16, 54, 48, 12, 0, 0], [0, -2, 14, 52, 52, 14, -2, 0]]
def hf (k f : Nat) : List Int := (if k = 1 then smT else rgT).getD f []
/-- those of a kind at a place -/
def tp (k f : Nat) : List Int := if k = 2 then [0, 0, 0, 128 - 8 * (f : Int), 8 * (f : Int), 0, 0, 0] else if 8 < f then (hf k (16 - f)).reverse else hf k f
theorem hf_len : ∀ k, k < 2 → ∀ f, f < 9 → (hf k f).length = 8 := by decide +kernel
theorem tp_len : ∀ k, k < 3 → ∀ f, f < 16 → (tp k f).length = 8 := by decide +kernel
theorem tp_in8 : ∀ k, k < 3 → ∀ f, f < 16 → ∀ j, j < 8 → -128 ≤ (tp k f).getD j 0 ∧ (tp k f).getD j 0 ≤ 128 := by decide +kernel
/-- taps: eight of them, none of them great -/
structure Tk (T : List Int) : Prop where
  len : T.length = 8
  lim : ∀ j, -128 ≤ T.getD j 0 ∧ T.getD j 0 ≤ 128
theorem tp_tk {k f : Nat} (hk : k < 3) (hf : f < 16) : Tk (tp k f) := ⟨tp_len k hk f hf, fun j => by
  by_cases h : j < 8
  · exact tp_in8 k hk f hf j h
  · rw [List.getD_eq_getElem?_getD, List.getElem?_eq_none (by rw [tp_len k hk f hf]; omega)]; simp⟩
theorem tp_whole : ∀ k, k < 3 → tp k 0 = [0, 0, 0, 128, 0, 0, 0, 0] := by decide +kernel
theorem tp_rev : ∀ k, k < 3 → ∀ f, f < 16 → 0 < f → tp k (16 - f) = (tp k f).reverse := by decide +kernel

/-- the sum of the first k numbers, each by its tap -/
def dt (T : List Int) (f : Nat → Int) : Nat → Int
  | 0 => 0
  | k + 1 => dt T f k + T.getD k 0 * f k
theorem dt_succ (T : List Int) (f : Nat → Int) (k : Nat) : dt T f (k + 1) = dt T f k + T.getD k 0 * f k := rfl
theorem dt_eq {T : List Int} {f g : Nat → Int} : ∀ {k : Nat}, (∀ j, j < k → f j = g j) → dt T f k = dt T g k
  | 0, _ => rfl
  | k + 1, h => by rw [dt_succ, dt_succ, dt_eq (fun j hj => h j (by omega)), h k (by omega)]
theorem mul_in {a x M : Int} (h0 : -128 ≤ a) (h1 : a ≤ 128) (x0 : -M ≤ x) (x1 : x ≤ M) : -(128 * M) ≤ a * x ∧ a * x ≤ 128 * M := by
  have p1 : 0 ≤ (128 - a) * (M + x) := Int.mul_nonneg (by omega) (by omega)
  have p2 : 0 ≤ (128 + a) * (M - x) := Int.mul_nonneg (by omega) (by omega)
  have p3 : 0 ≤ (128 - a) * (M - x) := Int.mul_nonneg (by omega) (by omega)
  have p4 : 0 ≤ (128 + a) * (M + x) := Int.mul_nonneg (by omega) (by omega)
  simp only [Int.sub_mul, Int.add_mul, Int.mul_add, Int.mul_sub] at p1 p2 p3 p4
  generalize a * x = ax at *
  generalize a * M = am at *
  omega
theorem dt_le {T : List Int} (hT : Tk T) {f : Nat → Int} {M : Int} (hf : ∀ j, -M ≤ f j ∧ f j ≤ M) : ∀ k : Nat, -((k : Int) * (128 * M)) ≤ dt T f k ∧ dt T f k ≤ (k : Int) * (128 * M)
  | 0 => by simp [dt]
  | k + 1 => by
    have ih := dt_le hT hf k
    obtain ⟨a, b⟩ := hT.lim k
    obtain ⟨c, d⟩ := hf k
    have := mul_in a b c d
    rw [dt_succ, show ((k + 1 : Nat) : Int) * (128 * M) = (k : Int) * (128 * M) + 128 * M from by rw [Int.natCast_add, Int.add_mul]; simp]
    omega
theorem dt8 {T : List Int} {t0 t1 t2 t3 t4 t5 t6 t7 : Int} (h : T = [t0, t1, t2, t3, t4, t5, t6, t7]) (f : Nat → Int) : dt T f 8 = t0 * f 0 + t1 * f 1 + t2 * f 2 + t3 * f 3 + t4 * f 4 + t5 * f 5 + t6 * f 6 + t7 * f 7 := by
  subst h; simp [dt]
theorem eight {T : List Int} (h : T.length = 8) : ∃ t0 t1 t2 t3 t4 t5 t6 t7, T = [t0, t1, t2, t3, t4, t5, t6, t7] := by
  match T, h with
  | [t0, t1, t2, t3, t4, t5, t6, t7], _ => exact ⟨t0, t1, t2, t3, t4, t5, t6, t7, rfl⟩

/-- the nearest place -/
def nr (i : Int) (n : Nat) : Nat := if i < 0 then 0 else min i.toNat (n - 1)
theorem nr_lt {i : Int} {n : Nat} (h : 1 ≤ n) : nr i n < n := by unfold nr; split <;> omega
/-- the sample at a place, or what is nearest -/
def sp (C : List Nat) (x y : Nat) (i j : Int) : Nat := C.getD (nr j y * x + nr i x) 0
/-- the sum along a row -/
def mm (C : List Nat) (x y : Nat) (X Y : Int) (T : List Int) (i j : Nat) : Int := (4 + dt T (fun k => (sp C x y (X + (i : Int) + (k : Int) - 3) (Y + (j : Int) - 3) : Int)) 8) / 8
theorem mm_in {C : List Nat} (hC : Byt C) {T : List Int} (hT : Tk T) (x y : Nat) (X Y : Int) (i j : Nat) : -32640 ≤ mm C x y X Y T i j ∧ mm C x y X Y T i j ≤ 32640 := by
  have := dt_le hT (f := fun k => (sp C x y (X + (i : Int) + (k : Int) - 3) (Y + (j : Int) - 3) : Int)) (M := 255) (fun k => by
    have := hC (nr (Y + (j : Int) - 3) y * x + nr (X + (i : Int) + (k : Int) - 3) x)
    simp only [sp]; omega) 8
  unfold mm
  omega
/-- clipped -/
def clp (v : Int) : Nat := if v < 0 then 0 else if 255 < v then 255 else v.toNat
theorem clp_lt (v : Int) : clp v < 256 := by unfold clp; split; omega; split <;> omega
/-- a block's sample -/
def bk (C : List Nat) (x y : Nat) (X Y : Int) (T S : List Int) (i j : Nat) : Nat := clp ((1024 + dt S (fun k => mm C x y X Y T i (j + k)) 8) / 2048)
theorem bk_lt (C : List Nat) (x y : Nat) (X Y : Int) (T S : List Int) (i j : Nat) : bk C x y X Y T S i j < 256 := clp_lt _
/-- a block -/
def bL (C : List Nat) (x y : Nat) (X Y : Int) (T S : List Int) (w h : Nat) : List Nat := tab (w * h) fun n => bk C x y X Y T S (n % w) (n / w)
theorem bL_len (C : List Nat) (x y : Nat) (X Y : Int) (T S : List Int) (w h : Nat) : (bL C x y X Y T S w h).length = w * h := tab_len _ _
theorem bL_byt (C : List Nat) (x y : Nat) (X Y : Int) (T S : List Int) (w h : Nat) : Byt (bL C x y X Y T S w h) := tab_byt fun _ => bk_lt _ _ _ _ _ _ _ _ _
/-- what Fetch answers -/
def fe (C : List Nat) (x y : Nat) (px py : Int) (w h k : Nat) : List Nat := bL C x y (px / 16) (py / 16) (tp k (px % 16).toNat) (tp k (py % 16).toNat) w h
theorem fe_len (C : List Nat) (x y : Nat) (px py : Int) (w h k : Nat) : (fe C x y px py w h k).length = w * h := bL_len _ _ _ _ _ _ _ _ _
theorem fe_byt (C : List Nat) (x y : Nat) (px py : Int) (w h k : Nat) : Byt (fe C x y px py w h k) := bL_byt _ _ _ _ _ _ _ _ _
theorem fe_get {C : List Nat} {x y : Nat} {px py : Int} {w h k i : Nat} (hi : i < w * h) : (fe C x y px py w h k).getD i 0 = bk C x y (px / 16) (py / 16) (tp k (px % 16).toNat) (tp k (py % 16).toNat) (i % w) (i / w) := tab_get _ hi

end Go.Proofs.YtpideemiijhkgabDoor
