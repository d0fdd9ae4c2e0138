/- DERIVED. Plain arithmetic of a range coder: numbers of bytes, parts of a range, an encoder's and a decoder's steps. -/
import Derived.WalkKit
namespace Go.Proofs.YtppanogpeengnaaDoor.L2

/-! ### numbers of bytes -/
/-- the number of the first m bytes, the highest first; behind the last one there are noughts -/
def pre (zs : List Nat) : Nat → Nat
  | 0 => 0
  | m + 1 => pre zs m * 256 + zs.getD m 0

theorem pre_lt {zs : List Nat} (h : ∀ i, zs.getD i 0 < 256) : ∀ m, pre zs m < 256 ^ m := by
  intro m
  induction m with
  | zero => simp [pre]
  | succ m ih => have := h m; rw [pre, Nat.pow_succ]; omega
theorem pre_div {zs : List Nat} (h : ∀ i, zs.getD i 0 < 256) (m : Nat) : ∀ j, pre zs (m + j) / 256 ^ j = pre zs m := by
  intro j
  induction j with
  | zero => simp
  | succ j ih =>
    have := h (m + j)
    rw [← Nat.add_assoc, pre, Nat.pow_succ, Nat.mul_comm (256 ^ j), ← Nat.div_div_eq_div_mul, show (pre zs (m + j) * 256 + zs.getD (m + j) 0) / 256 = pre zs (m + j) from by omega, ih]
theorem pre_congr {xs ys : List Nat} (m : Nat) (h : ∀ i, i < m → xs.getD i 0 = ys.getD i 0) : pre xs m = pre ys m := by
  induction m with
  | zero => rfl
  | succ m ih => rw [pre, pre, ih (fun i hi => h i (by omega)), h m (by omega)]
theorem pre_inj {xs ys : List Nat} (hx : ∀ i, xs.getD i 0 < 256) (hy : ∀ i, ys.getD i 0 < 256) : ∀ m, pre xs m = pre ys m → ∀ i, i < m → xs.getD i 0 = ys.getD i 0 := by
  intro m
  induction m with
  | zero => intro _ i hi; omega
  | succ m ih =>
    intro h i hi
    have h1 := hx m
    have h2 := hy m
    rw [pre, pre] at h
    by_cases e : i = m
    · subst e; omega
    · exact ih (by omega) i (by omega)
theorem getD_snoc (ys : List Nat) (b i : Nat) : (ys ++ [b]).getD i 0 = if i < ys.length then ys.getD i 0 else if i = ys.length then b else 0 := by
  rw [List.getD_eq_getElem?_getD, List.getD_eq_getElem?_getD]
  split
  · rename_i h; rw [List.getElem?_append_left h]
  · rename_i h
    rw [List.getElem?_append_right (by omega)]
    split
    · rename_i e; rw [e]; simp
    · rw [List.getElem?_eq_none (by simp; omega)]; rfl
theorem pre_snoc (ys : List Nat) (b : Nat) : pre (ys ++ [b]) (ys.length + 1) = pre ys ys.length * 256 + b := by
  rw [pre, pre_congr ys.length (xs := ys ++ [b]) (ys := ys) (fun i hi => by rw [getD_snoc, if_pos hi]), getD_snoc, if_neg (by omega), if_pos rfl]
theorem byt_snoc {ys : List Nat} (h : ∀ i, ys.getD i 0 < 256) {b : Nat} (hb : b < 256) : ∀ i, (ys ++ [b]).getD i 0 < 256 := by
  intro i
  rw [getD_snoc]
  have := h i
  split
  · exact this
  · split <;> omega
theorem getD_set (ys : List Nat) (i b j : Nat) (hi : i < ys.length) : (ys.set i b).getD j 0 = if j = i then b else ys.getD j 0 := by
  rw [List.getD_eq_getElem?_getD, List.getD_eq_getElem?_getD, List.getElem?_set]
  by_cases h : j = i
  · subst h; simp [hi]
  · rw [if_neg (fun e => h e.symm), if_neg h]
theorem byt_set {ys : List Nat} (h : ∀ i, ys.getD i 0 < 256) {i b : Nat} (hi : i < ys.length) (hb : b < 256) : ∀ j, (ys.set i b).getD j 0 < 256 := by
  intro j
  rw [getD_set _ _ _ _ hi]
  have := h j
  split <;> omega
theorem pre_set (ys : List Nat) (i b : Nat) (hi : i < ys.length) : ∀ m, i < m → pre (ys.set i b) m + ys.getD i 0 * 256 ^ (m - 1 - i) = pre ys m + b * 256 ^ (m - 1 - i) := by
  intro m
  induction m with
  | zero => intro h; omega
  | succ m ih =>
    intro h
    rw [pre, pre, getD_set _ _ _ _ hi]
    by_cases e : m = i
    · subst e
      rw [pre_congr m (xs := ys.set m b) (ys := ys) (fun j hj => by rw [getD_set _ _ _ _ hi, if_neg (by omega)])]
      simp
      omega
    · have := ih (by omega)
      rw [if_neg e, show m + 1 - 1 - i = (m - 1 - i) + 1 from by omega, Nat.pow_succ]
      generalize 256 ^ (m - 1 - i) = P at *
      rw [← Nat.mul_assoc, ← Nat.mul_assoc]
      omega

/-! ### parts -/
/-- where a part of a range begins -/
def pBeg (g lo : Nat) : Nat := g / 32768 * lo
/-- how wide a part of a range is -/
def pWid (g lo hi : Nat) : Nat := if hi = 32768 then g - g / 32768 * lo else g / 32768 * (hi - lo)

theorem pWid_ok {g lo hi : Nat} (hg : 16777216 ≤ g) (hlt : lo < hi) (hh : hi ≤ 32768) : 512 ≤ pWid g lo hi ∧ pBeg g lo + pWid g lo hi ≤ g := by
  unfold pWid pBeg
  have hr : 512 ≤ g / 32768 := by omega
  have hr2 : g / 32768 * 32768 ≤ g := by omega
  generalize g / 32768 = r at *
  obtain ⟨d, rfl⟩ : ∃ d, hi = lo + d := ⟨hi - lo, by omega⟩
  have h1 : r * (lo + d) ≤ r * 32768 := Nat.mul_le_mul_left r hh
  have h2 : r * 1 ≤ r * d := Nat.mul_le_mul_left r (by omega)
  rw [Nat.mul_add] at h1
  have e2 : lo + d - lo = d := by omega
  split
  · omega
  · rw [e2]; omega
theorem pBeg_le {g lo : Nat} (hg : lo ≤ 32768) : pBeg g lo ≤ g := by
  unfold pBeg
  have h1 : g / 32768 * lo ≤ g / 32768 * 32768 := Nat.mul_le_mul_left _ hg
  omega

/-! ### a decoder -/
/-- as long as the range is too narrow a byte comes in -/
def dn (zs : List Nat) : Nat → Nat → Nat → Nat → Nat × Nat × Nat
  | 0, c, g, q => (c, g, q)
  | f + 1, c, g, q => if g < 16777216 then dn zs f (c * 256 + zs.getD q 0) (g * 256) (q + 1) else (c, g, q)
/-- where a decoder stands -/
def dVal (c g : Nat) : Nat := min (c / (g / 32768)) 32767
/-- a decoder that is narrowed -/
def dTake (zs : List Nat) (c g q lo hi : Nat) : Nat × Nat × Nat := dn zs 2 (c - pBeg g lo) (pWid g lo hi) q
/-- whether it can be -/
def dMay (c g lo hi : Nat) : Prop := lo ≤ dVal c g ∧ dVal c g < hi ∧ hi ≤ 32768
instance (c g lo hi : Nat) : Decidable (dMay c g lo hi) := by unfold dMay; exact inferInstance

theorem dVal_lt (c g : Nat) : dVal c g < 32768 := by unfold dVal; omega
theorem dMay.in {c g lo hi : Nat} (h : dMay c g lo hi) (hc : c < g) (hg : 16777216 ≤ g) : pBeg g lo ≤ c ∧ c - pBeg g lo < pWid g lo hi := by
  obtain ⟨h1, h2, h3⟩ := h
  unfold dVal at h1 h2
  unfold pBeg pWid
  have hr : 512 ≤ g / 32768 := by omega
  generalize g / 32768 = r at *
  have ha : lo ≤ c / r := by omega
  have hb : r * lo ≤ c := by rw [Nat.mul_comm]; exact (Nat.le_div_iff_mul_le (by omega)).1 ha
  refine ⟨hb, ?_⟩
  split
  · omega
  · have hcr : c / r < hi := by omega
    have h4 : c < hi * r := (Nat.div_lt_iff_lt_mul (by omega)).1 hcr
    obtain ⟨d, rfl⟩ : ∃ d, hi = lo + d := ⟨hi - lo, by omega⟩
    rw [Nat.mul_comm, Nat.mul_add] at h4
    rw [show lo + d - lo = d from by omega]
    omega
theorem dn_ok (zs : List Nat) (hz : ∀ i, zs.getD i 0 < 256) : ∀ f c g q, c < g → g < 4294967296 → 16777216 ≤ g * 256 ^ f → (dn zs f c g q).1 < (dn zs f c g q).2.1 ∧ 16777216 ≤ (dn zs f c g q).2.1 ∧ (dn zs f c g q).2.1 < 4294967296 ∧ q ≤ (dn zs f c g q).2.2 ∧ (dn zs f c g q).2.2 ≤ q + f := by
  intro f
  induction f with
  | zero => intro c g q h1 h2 h3; simp [dn]; omega
  | succ f ih =>
    intro c g q h1 h2 h3
    rw [dn]
    split
    · have := ih (c * 256 + zs.getD q 0) (g * 256) (q + 1) (by have := hz q; omega) (by omega) (by rw [Nat.mul_assoc, ← Nat.pow_succ']; exact h3)
      omega
    · simp only; omega
theorem dTake_ok {zs : List Nat} (hz : ∀ i, zs.getD i 0 < 256) {c g q lo hi : Nat} (h : dMay c g lo hi) (hc : c < g) (hg : 16777216 ≤ g) (hg2 : g < 4294967296) :
    (dTake zs c g q lo hi).1 < (dTake zs c g q lo hi).2.1 ∧ 16777216 ≤ (dTake zs c g q lo hi).2.1 ∧ (dTake zs c g q lo hi).2.1 < 4294967296 ∧ q ≤ (dTake zs c g q lo hi).2.2 ∧ (dTake zs c g q lo hi).2.2 ≤ q + 2 := by
  have h1 := h.in hc hg
  have hl : lo < hi := Nat.lt_of_le_of_lt h.1 h.2.1
  have h2 := pWid_ok hg hl h.2.2
  exact dn_ok zs hz 2 _ _ _ h1.2 (by omega) (by omega)
theorem dn_congr {xs ys : List Nat} (h : ∀ i, xs.getD i 0 = ys.getD i 0) : ∀ f c g q, dn xs f c g q = dn ys f c g q := by
  intro f
  induction f with
  | zero => intro c g q; rfl
  | succ f ih => intro c g q; rw [dn, dn, h, ih]
theorem dTake_congr {xs ys : List Nat} (h : ∀ i, xs.getD i 0 = ys.getD i 0) (c g q lo hi : Nat) : dTake xs c g q lo hi = dTake ys c g q lo hi := dn_congr h _ _ _ _
/-- to narrow to everything -/
theorem dTake_all (zs : List Nat) {c g q : Nat} (hg : 16777216 ≤ g) : dTake zs c g q 0 32768 = (c, g, q) := by
  simp [dTake, pBeg, pWid, dn, show ¬ g < 16777216 from by omega]
theorem dMay_all (c g : Nat) : dMay c g 0 32768 := ⟨Nat.zero_le _, dVal_lt c g, Nat.le_refl _⟩

/-! ### an encoder: the number T of all that was put, the range, how many bytes are out -/
def en : Nat → Nat → Nat → Nat → Nat × Nat × Nat
  | 0, T, g, k => (T, g, k)
  | f + 1, T, g, k => if g < 16777216 then en f (T * 256) (g * 256) (k + 1) else (T, g, k)
/-- an encoder that is narrowed -/
def ePut (T g k lo hi : Nat) : Nat × Nat × Nat := en 2 (T + pBeg g lo) (pWid g lo hi) k
/-- what holds of every encoder -/
structure Ev (T g k : Nat) : Prop where
  least : 16777216 ≤ g
  most : g < 4294967296
  fit : T + g ≤ 256 ^ k * 4294967295
theorem en_ok : ∀ f T g k, g < 4294967296 → 16777216 ≤ g * 256 ^ f → T + g ≤ 256 ^ k * 4294967295 → Ev (en f T g k).1 (en f T g k).2.1 (en f T g k).2.2 ∧ k ≤ (en f T g k).2.2 ∧ (en f T g k).2.2 ≤ k + f := by
  intro f
  induction f with
  | zero => intro T g k h1 h2 h3; exact ⟨⟨by simpa [en] using h2, h1, h3⟩, by simp [en]⟩
  | succ f ih =>
    intro T g k h1 h2 h3
    rw [en]
    split
    · have := ih (T * 256) (g * 256) (k + 1) (by omega) (by rw [Nat.mul_assoc, ← Nat.pow_succ']; exact h2) (by rw [Nat.pow_succ]; omega)
      exact ⟨this.1, by omega, by omega⟩
    · exact ⟨⟨by simp only; omega, h1, h3⟩, by simp only; omega⟩
theorem ePut_ok {T g k lo hi : Nat} (h : Ev T g k) (hl : lo < hi) (hh : hi ≤ 32768) : Ev (ePut T g k lo hi).1 (ePut T g k lo hi).2.1 (ePut T g k lo hi).2.2 ∧ k ≤ (ePut T g k lo hi).2.2 ∧ (ePut T g k lo hi).2.2 ≤ k + 2 := by
  have h1 := pWid_ok h.least hl hh
  have h2 := h.most
  have h3 := h.fit
  exact en_ok 2 _ _ _ (by omega) (by omega) (by omega)
theorem ePut_all {T g k : Nat} (hg : 16777216 ≤ g) : ePut T g k 0 32768 = (T, g, k) := by
  simp [ePut, pBeg, pWid, en, show ¬ g < 16777216 from by omega]
theorem Ev.first : Ev 0 4294967295 0 := ⟨by omega, by omega, by simp⟩
theorem Ev.lt {T g k : Nat} (h : Ev T g k) : T < 256 ^ (k + 4) := by
  have h1 := h.fit
  have h2 := h.least
  have h3 : 0 < 256 ^ k := Nat.pow_pos (by omega)
  rw [Nat.pow_add]
  generalize 256 ^ k = P at *
  omega

/-! ### a decoder of an encoder's bytes -/
/-- the interval of one lies in that of the other -/
structure Inc (T g k T' g' k' : Nat) : Prop where
  steps : k ≤ k'
  lower : T * 256 ^ (k' - k) ≤ T'
  upper : T' + g' ≤ (T + g) * 256 ^ (k' - k)
theorem Inc.refl (T g k : Nat) : Inc T g k T g k := ⟨Nat.le_refl _, by simp, by simp⟩
theorem Inc.trans {T g k T' g' k' T'' g'' k'' : Nat} (h : Inc T g k T' g' k') (h' : Inc T' g' k' T'' g'' k'') : Inc T g k T'' g'' k'' := by
  have e : k'' - k = (k' - k) + (k'' - k') := by have := h.steps; have := h'.steps; omega
  refine ⟨Nat.le_trans h.steps h'.steps, ?_, ?_⟩
  · rw [e, Nat.pow_add, ← Nat.mul_assoc]
    exact Nat.le_trans (Nat.mul_le_mul_right _ h.lower) h'.lower
  · rw [e, Nat.pow_add, ← Nat.mul_assoc]
    exact Nat.le_trans h'.upper (Nat.mul_le_mul_right _ h.upper)
theorem en_inc : ∀ f T g k, Inc T g k (en f T g k).1 (en f T g k).2.1 (en f T g k).2.2 := by
  intro f
  induction f with
  | zero => intro T g k; exact Inc.refl _ _ _
  | succ f ih =>
    intro T g k
    rw [en]
    split
    · refine Inc.trans ?_ (ih _ _ _)
      exact ⟨by omega, by rw [show k + 1 - k = 1 from by omega]; omega, by rw [show k + 1 - k = 1 from by omega]; omega⟩
    · exact Inc.refl _ _ _
/-- the decoder's number lies in the encoder's interval -/
theorem Inc.in {T g k T' g' k' : Nat} (h : Inc T g k T' g' k') (hg : 0 < g') {zs : List Nat} (hz : ∀ i, zs.getD i 0 < 256) (hp : pre zs (k' + 4) = T') : T ≤ pre zs (k + 4) ∧ pre zs (k + 4) < T + g := by
  have e : pre zs (k + 4) = T' / 256 ^ (k' - k) := by
    have := pre_div hz (k + 4) (k' - k)
    rw [show k + 4 + (k' - k) = k' + 4 from by have := h.steps; omega, hp] at this
    exact this.symm
  have hP : 0 < 256 ^ (k' - k) := Nat.pow_pos (by omega)
  rw [e]
  refine ⟨(Nat.le_div_iff_mul_le hP).2 h.lower, (Nat.div_lt_iff_lt_mul hP).2 ?_⟩
  have := h.upper
  omega
/-- both step alike -/
theorem dn_en (zs : List Nat) : ∀ f c T g k, c + T = pre zs (k + 4) →
    (dn zs f c g (k + 4)).1 + (en f T g k).1 = pre zs ((en f T g k).2.2 + 4) ∧ (dn zs f c g (k + 4)).2.1 = (en f T g k).2.1 ∧ (dn zs f c g (k + 4)).2.2 = (en f T g k).2.2 + 4 := by
  intro f
  induction f with
  | zero => intro c T g k h; exact ⟨h, rfl, rfl⟩
  | succ f ih =>
    intro c T g k h
    rw [dn, en]
    split
    · have := ih (c * 256 + zs.getD (k + 4) 0) (T * 256) (g * 256) (k + 1) (by rw [show k + 1 + 4 = (k + 4) + 1 from by omega, pre, ← h]; omega)
      rw [show k + 1 + 4 = k + 4 + 1 from by omega] at this
      exact this
    · exact ⟨h, rfl, rfl⟩
/-- what was put is found, one part on -/
theorem found {zs : List Nat} (hz : ∀ i, zs.getD i 0 < 256) {c T g k lo hi T' g' k' : Nat} (hE : Ev T g k) (hl : lo < hi) (hh : hi ≤ 32768) (hc : c + T = pre zs (k + 4))
    (hI : Inc (ePut T g k lo hi).1 (ePut T g k lo hi).2.1 (ePut T g k lo hi).2.2 T' g' k') (hg : 0 < g') (hp : pre zs (k' + 4) = T') :
    dMay c g lo hi ∧ (dTake zs c g (k + 4) lo hi).1 + (ePut T g k lo hi).1 = pre zs ((ePut T g k lo hi).2.2 + 4) ∧ (dTake zs c g (k + 4) lo hi).2.1 = (ePut T g k lo hi).2.1 ∧ (dTake zs c g (k + 4) lo hi).2.2 = (ePut T g k lo hi).2.2 + 4 := by
  have hin := (Inc.trans (en_inc 2 (T + pBeg g lo) (pWid g lo hi) k) hI).in hg hz hp
  have hw := pWid_ok hE.least hl hh
  have hm := hE.least
  have hlow : pBeg g lo ≤ c := by omega
  have hup : c < pBeg g lo + pWid g lo hi := by omega
  refine ⟨?_, dn_en zs 2 (c - pBeg g lo) (T + pBeg g lo) (pWid g lo hi) k (by omega)⟩
  unfold dMay dVal
  unfold pBeg at hlow
  unfold pBeg pWid at hup
  have hr : 512 ≤ g / 32768 := by omega
  generalize g / 32768 = r at *
  have ha : lo ≤ c / r := (Nat.le_div_iff_mul_le (by omega)).2 (by rw [Nat.mul_comm]; exact hlow)
  refine ⟨by omega, ?_, hh⟩
  split at hup
  · omega
  · obtain ⟨d, rfl⟩ : ∃ d, hi = lo + d := ⟨hi - lo, by omega⟩
    rw [show lo + d - lo = d from by omega, ← Nat.mul_add] at hup
    have : c / r < lo + d := (Nat.div_lt_iff_lt_mul (by omega)).2 (by rw [Nat.mul_comm]; exact hup)
    omega

end Go.Proofs.YtppanogpeengnaaDoor.L2
