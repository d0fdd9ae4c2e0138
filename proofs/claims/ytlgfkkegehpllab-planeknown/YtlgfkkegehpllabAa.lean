/- DERIVED. Plain arithmetic of rows and planes of samples, of no program in particular. -/
import Derived.Laws.CopyOwn
namespace Go.Proofs.Ytlgfkkegehpllab

/-- a list by its places -/
def tab (n : Nat) (f : Nat → Nat) : List Nat := (List.range n).map f
theorem tab_len (n : Nat) (f : Nat → Nat) : (tab n f).length = n := by simp [tab]
theorem tab_get {n : Nat} (f : Nat → Nat) {j : Nat} (h : j < n) : (tab n f).getD j 0 = f j := by simp [tab, List.getD_eq_getElem?_getD, List.getElem?_range h]
theorem list_eq_of_getD {a b : List Nat} (hl : a.length = b.length) (h : ∀ j, j < a.length → a.getD j 0 = b.getD j 0) : a = b := by
  refine List.ext_getElem hl fun j h1 h2 => ?_
  have := h j h1
  simpa [List.getD_eq_getElem?_getD, List.getElem?_eq_getElem h1, List.getElem?_eq_getElem h2] using this
theorem tab_eq {n : Nat} {f g : Nat → Nat} (h : ∀ j, j < n → f j = g j) : tab n f = tab n g := list_eq_of_getD (by simp [tab]) fun j hj => by
  rw [tab_len] at hj; rw [tab_get f hj, tab_get g hj]; exact h j hj
theorem eq_tab {L : List Nat} {n : Nat} {f : Nat → Nat} (hl : L.length = n) (h : ∀ j, j < n → L.getD j 0 = f j) : L = tab n f := list_eq_of_getD (by rw [hl, tab_len]) fun j hj => by
  rw [hl] at hj; rw [tab_get f hj]; exact h j hj
theorem tab_self (L : List Nat) : tab L.length (fun j => L.getD j 0) = L := (eq_tab rfl fun _ _ => rfl).symm
theorem rep_get {n v j : Nat} (h : j < n) : (List.replicate n v).getD j 0 = v := by simp [List.getD_eq_getElem?_getD, h]

theorem splice_len (L : List Nat) (o : Nat) (c : List Nat) (h : o + c.length ≤ L.length) : (splice L o c).length = L.length := length_splice L o c h
theorem splice_get (L : List Nat) (o : Nat) (c : List Nat) (h : o + c.length ≤ L.length) (j : Nat) : (splice L o c).getD j 0 = if o ≤ j ∧ j < o + c.length then c.getD (j - o) 0 else L.getD j 0 := by
  simp only [splice, List.getD_eq_getElem?_getD, List.getElem?_append, List.getElem?_take, List.getElem?_drop, List.length_take]
  have e : min o L.length = o := by omega
  rw [e]
  by_cases h1 : j < o
  · rw [if_pos h1, if_pos h1, if_neg (by omega)]
  · rw [if_neg h1]
    by_cases h2 : j < o + c.length
    · rw [if_pos (by omega), if_pos (by omega)]
    · rw [if_neg (by omega), if_neg (by omega), show o + c.length + (j - o - c.length) = j from by omega]

theorem dm {y w i : Nat} (h0 : y * w ≤ i) (h1 : i < y * w + w) : i / w = y ∧ i % w = i - y * w := by
  obtain ⟨r, rfl⟩ := Nat.exists_eq_add_of_le h0
  have hr : r < w := by omega
  refine ⟨?_, ?_⟩
  · rw [Nat.mul_comm y w, Nat.mul_add_div (by omega), Nat.div_eq_of_lt hr]; omega
  · rw [Nat.mul_comm y w, Nat.mul_add_mod, Nat.mod_eq_of_lt hr]; omega
theorem dm_of {y w r : Nat} (h : r < w) : (y * w + r) / w = y ∧ (y * w + r) % w = r := by
  have := dm (y := y) (w := w) (i := y * w + r) (by omega) (by omega)
  exact ⟨this.1, by rw [this.2]; omega⟩
theorem row_le {y h w : Nat} (hy : y < h) : y * w + w ≤ w * h := by
  have := Nat.mul_le_mul_right w (show y + 1 ≤ h from hy)
  rw [Nat.add_mul, Nat.one_mul, Nat.mul_comm h w] at this
  exact this
theorem at_lt {y h w r : Nat} (hy : y < h) (hr : r < w) : y * w + r < w * h := by have := row_le (w := w) hy; omega
theorem lt_row {y w i : Nat} (hw : 0 < w) : i < y * w ↔ i / w < y := by rw [Nat.div_lt_iff_lt_mul hw]
theorem parts (i w : Nat) (hw : 0 < w) : i = i / w * w + i % w ∧ i % w < w := ⟨by rw [Nat.mul_comm]; exact (Nat.div_add_mod i w).symm, Nat.mod_lt _ hw⟩
theorem div_of {i w h : Nat} (hi : i < w * h) : i / w < h := Nat.div_lt_of_lt_mul hi

/-- n samples from place o on -/
def seg (C : List Nat) (o n : Nat) : List Nat := tab n fun j => C.getD (o + j) 0
theorem seg_len (C : List Nat) (o n : Nat) : (seg C o n).length = n := tab_len _ _
theorem seg_get (C : List Nat) (o n : Nat) {j : Nat} (h : j < n) : (seg C o n).getD j 0 = C.getD (o + j) 0 := tab_get _ h
theorem seg_all (C : List Nat) : seg C 0 C.length = C := by unfold seg; simp only [Nat.zero_add]; exact tab_self C

/-- the samples of a rectangle -/
def cutF (W : Nat) (C : List Nat) (X Y w i : Nat) : Nat := C.getD ((Y + i / w) * W + (X + i % w)) 0
def cutL (W : Nat) (C : List Nat) (X Y w h : Nat) : List Nat := tab (w * h) (cutF W C X Y w)
def cutP (W : Nat) (C : List Nat) (X Y w h y : Nat) : List Nat := tab (w * h) fun i => if i < y * w then cutF W C X Y w i else 0
theorem cutP_len (W : Nat) (C : List Nat) (X Y w h y : Nat) : (cutP W C X Y w h y).length = w * h := tab_len _ _
theorem cutL_len (W : Nat) (C : List Nat) (X Y w h : Nat) : (cutL W C X Y w h).length = w * h := tab_len _ _
theorem cutP_zero (W : Nat) (C : List Nat) (X Y w h : Nat) : cutP W C X Y w h 0 = List.replicate (w * h) 0 := by
  unfold cutP
  refine (eq_tab (by simp) fun j hj => ?_).symm
  rw [rep_get hj, if_neg (by omega)]
theorem cutP_all (W : Nat) (C : List Nat) (X Y w h : Nat) : cutP W C X Y w h h = cutL W C X Y w h := tab_eq fun j hj => by rw [if_pos (by rw [Nat.mul_comm]; exact hj)]
theorem cutP_step (W : Nat) (C : List Nat) (X Y w h y : Nat) (hy : y < h) : splice (cutP W C X Y w h y) (y * w) (seg C ((Y + y) * W + X) w) = cutP W C X Y w h (y + 1) := by
  have hr := row_le (w := w) hy
  have e : (y + 1) * w = y * w + w := by rw [Nat.add_mul, Nat.one_mul]
  have hf : y * w + (seg C ((Y + y) * W + X) w).length ≤ (cutP W C X Y w h y).length := by rw [seg_len, cutP_len]; exact hr
  refine list_eq_of_getD (by rw [splice_len _ _ _ hf, cutP_len, cutP_len]) fun j hj => ?_
  rw [splice_len _ _ _ hf, cutP_len] at hj
  rw [splice_get _ _ _ hf, seg_len]
  unfold cutP
  rw [tab_get _ hj, tab_get _ hj]
  by_cases h1 : y * w ≤ j ∧ j < y * w + w
  · obtain ⟨d, m⟩ := dm h1.1 h1.2
    rw [if_pos h1, if_pos (by omega), seg_get _ _ _ (by omega)]
    unfold cutF
    rw [d, m, Nat.add_assoc]
  · rw [if_neg h1]
    by_cases h2 : j < y * w
    · rw [if_pos h2, if_pos (by omega)]
    · rw [if_neg h2, if_neg (by omega)]

/-- a plane with other samples in a rectangle's first y rows -/
def layF (W : Nat) (C : List Nat) (X Y w : Nat) (B : List Nat) (y i : Nat) : Nat := if X ≤ i % W ∧ i % W < X + w ∧ Y ≤ i / W ∧ i / W < Y + y then B.getD ((i / W - Y) * w + (i % W - X)) 0 else C.getD i 0
def layL (W : Nat) (C : List Nat) (X Y w : Nat) (B : List Nat) (y : Nat) : List Nat := tab C.length (layF W C X Y w B y)
theorem layL_len (W : Nat) (C : List Nat) (X Y w : Nat) (B : List Nat) (y : Nat) : (layL W C X Y w B y).length = C.length := tab_len _ _
theorem layL_get {W : Nat} {C : List Nat} {X Y w : Nat} {B : List Nat} {y i : Nat} (h : i < C.length) : (layL W C X Y w B y).getD i 0 = layF W C X Y w B y i := tab_get _ h
theorem layL_zero (W : Nat) (C : List Nat) (X Y w : Nat) (B : List Nat) : layL W C X Y w B 0 = C := by
  unfold layL
  exact (eq_tab rfl fun j _ => by unfold layF; rw [if_neg (by omega)]).symm
theorem layL_step {W H : Nat} {C : List Nat} {X Y w h : Nat} {B : List Nat} {y : Nat} (hC : C.length = W * H) (hX : X + w ≤ W) (hY : Y + h ≤ H) (hy : y < h) : splice (layL W C X Y w B y) ((Y + y) * W + X) (seg B (y * w) w) = layL W C X Y w B (y + 1) := by
  have hr := row_le (y := Y + y) (h := H) (w := W) (by omega)
  have hf : (Y + y) * W + X + (seg B (y * w) w).length ≤ (layL W C X Y w B y).length := by rw [seg_len, layL_len, hC]; omega
  refine list_eq_of_getD (by rw [splice_len _ _ _ hf, layL_len, layL_len]) fun j hj => ?_
  rw [splice_len _ _ _ hf, layL_len] at hj
  rw [splice_get _ _ _ hf, seg_len]
  rw [layL_get hj, layL_get hj]
  unfold layF
  by_cases h1 : (Y + y) * W + X ≤ j ∧ j < (Y + y) * W + X + w
  · obtain ⟨d, m⟩ := dm (y := Y + y) (w := W) (i := j) (by omega) (by omega)
    rw [if_pos h1, d, m, if_pos (by omega), seg_get _ _ _ (by omega)]
    congr 1
    rw [show Y + y - Y = y from by omega]
    omega
  · rw [if_neg h1]
    by_cases hW : W = 0
    · subst hW; rw [if_neg (by omega), if_neg (by omega)]
    · obtain ⟨p, q⟩ := parts j W (by omega)
      by_cases h2 : X ≤ j % W ∧ j % W < X + w ∧ Y ≤ j / W ∧ j / W < Y + y
      · rw [if_pos h2, if_pos (by omega)]
      · rw [if_neg h2, if_neg]
        intro h3
        have e : j / W = Y + y := by omega
        rw [e] at p
        omega

/-- a plane of w columns that is made of what is nearest -/
def padF (W H : Nat) (C : List Nat) (w i : Nat) : Nat := C.getD (min (i / w) (H - 1) * W + min (i % w) (W - 1)) 0
def padL (W H : Nat) (C : List Nat) (w h : Nat) : List Nat := tab (w * h) (padF W H C w)
def padP (W H : Nat) (C : List Nat) (w h y : Nat) : List Nat := tab (w * h) fun i => if i < y * w then padF W H C w i else 0
theorem padP_len (W H : Nat) (C : List Nat) (w h y : Nat) : (padP W H C w h y).length = w * h := tab_len _ _
theorem padL_len (W H : Nat) (C : List Nat) (w h : Nat) : (padL W H C w h).length = w * h := tab_len _ _
theorem padP_zero (W H : Nat) (C : List Nat) (w h : Nat) : padP W H C w h 0 = List.replicate (w * h) 0 := by
  unfold padP
  refine (eq_tab (by simp) fun j hj => ?_).symm
  rw [rep_get hj, if_neg (by omega)]
theorem padP_all (W H : Nat) (C : List Nat) (w h : Nat) : padP W H C w h h = padL W H C w h := tab_eq fun j hj => by rw [if_pos (by rw [Nat.mul_comm]; exact hj)]
theorem padP_step {W H : Nat} {C : List Nat} {w h y : Nat} (hW : 1 ≤ W) (hw : W ≤ w) (hy : y < h) :
    splice (splice (padP W H C w h y) (y * w) (seg C (min y (H - 1) * W) W)) (y * w + W) (List.replicate (w - W) (C.getD (min y (H - 1) * W + (W - 1)) 0)) = padP W H C w h (y + 1) := by
  have hr := row_le (w := w) hy
  have e : (y + 1) * w = y * w + w := by rw [Nat.add_mul, Nat.one_mul]
  have hf : y * w + (seg C (min y (H - 1) * W) W).length ≤ (padP W H C w h y).length := by rw [seg_len, padP_len]; omega
  have hf2 : y * w + W + (List.replicate (w - W) (C.getD (min y (H - 1) * W + (W - 1)) 0)).length ≤ (splice (padP W H C w h y) (y * w) (seg C (min y (H - 1) * W) W)).length := by rw [splice_len _ _ _ hf, padP_len, List.length_replicate]; omega
  refine list_eq_of_getD (by rw [splice_len _ _ _ hf2, splice_len _ _ _ hf, padP_len, padP_len]) fun j hj => ?_
  rw [splice_len _ _ _ hf2, splice_len _ _ _ hf, padP_len] at hj
  rw [splice_get _ _ _ hf2, splice_get _ _ _ hf, seg_len, List.length_replicate]
  unfold padP
  rw [tab_get _ hj, tab_get _ hj]
  by_cases h1 : y * w ≤ j ∧ j < y * w + w
  · obtain ⟨d, m⟩ := dm h1.1 h1.2
    rw [if_pos (show j < (y + 1) * w by omega)]
    unfold padF
    rw [d, m]
    by_cases h2 : y * w + W ≤ j
    · rw [if_pos (by omega), rep_get (by omega), show min (j - y * w) (W - 1) = W - 1 from by omega]
    · rw [if_neg (by omega), if_pos (by omega), seg_get _ _ _ (by omega), show min (j - y * w) (W - 1) = j - y * w from by omega]
  · rw [if_neg (by omega), if_neg (by omega)]
    by_cases h2 : j < y * w
    · rw [if_pos h2, if_pos (by omega)]
    · rw [if_neg h2, if_neg (by omega)]

end Go.Proofs.Ytlgfkkegehpllab
