/- DERIVED. Layer 3's plain arithmetic: tables that may be, the ends of their parts, what they learn, averages. -/
import Derived.Handy
namespace Go.Proofs.YtppanogpeengnaaDoor.L3

theorem getD_lt (C : List Nat) {i : Nat} (h : i < C.length) : C.getD i 0 = C[i] := by simp [List.getD_eq_getElem?_getD, List.getElem?_eq_getElem h]
theorem getD_out (C : List Nat) {i : Nat} (h : C.length ≤ i) : C.getD i 0 = 0 := by simp [List.getD_eq_getElem?_getD, List.getElem?_eq_none h]
theorem list_eq_of_getD {xs ys : List Nat} (hl : xs.length = ys.length) (h : ∀ j, j < xs.length → xs.getD j 0 = ys.getD j 0) : xs = ys := by
  refine List.ext_getElem hl fun j h1 h2 => ?_
  have := h j h1
  rw [getD_lt _ h1, getD_lt _ h2] at this
  exact this
theorem range_getD (f : Nat → Nat) {n i : Nat} (h : i < n) : ((List.range n).map f).getD i 0 = f i := by
  rw [List.getD_eq_getElem?_getD, List.getElem?_map, List.getElem?_range h]; rfl
theorem range_len (f : Nat → Nat) (n : Nat) : ((List.range n).map f).length = n := by simp

/-- a table that may be -/
structure TOk (C : List Nat) (n : Int) : Prop where
  lo : 2 ≤ C.length
  hi : C.length ≤ 16
  last : C.getD (C.length - 1) 0 = 32768
  n0 : 0 ≤ n
  n1 : n ≤ 32
  rise : ∀ i, 1 ≤ i → i < C.length → C.getD (i - 1) 0 ≤ C.getD i 0

theorem TOk.mono {C : List Nat} {n : Int} (h : TOk C n) : ∀ d i, i + d < C.length → C.getD i 0 ≤ C.getD (i + d) 0
  | 0, _, _ => Nat.le_refl _
  | d + 1, i, hi => Nat.le_trans (h.mono d i (by omega)) (by have := h.rise (i + d + 1) (by omega) (by omega); rw [show i + d + 1 - 1 = i + d from by omega] at this; exact this)
theorem TOk.le {C : List Nat} {n : Int} (h : TOk C n) (i : Nat) : C.getD i 0 ≤ 32768 := by
  by_cases hi : i < C.length
  · have := h.mono (C.length - 1 - i) i (by omega)
    rw [show i + (C.length - 1 - i) = C.length - 1 from by omega, h.last] at this
    exact this
  · rw [getD_out C (by omega)]; omega

/-- where a part ends -/
def ee (C : List Nat) (i : Nat) : Nat := C.getD i 0 * (32768 - 4 * C.length) / 32768 + 4 * (i + 1)
/-- where a part begins -/
def eb (C : List Nat) (s : Nat) : Nat := if s = 0 then 0 else ee C (s - 1)
theorem ee_step {C : List Nat} {n : Int} (h : TOk C n) {i : Nat} (hi : i + 1 < C.length) : ee C i + 4 ≤ ee C (i + 1) := by
  unfold ee
  have h1 := h.mono 1 i hi
  have h2 : C.getD i 0 * (32768 - 4 * C.length) ≤ C.getD (i + 1) 0 * (32768 - 4 * C.length) := Nat.mul_le_mul_right _ h1
  have h3 := Nat.div_le_div_right (c := 32768) h2
  omega
theorem ee_last {C : List Nat} {n : Int} (h : TOk C n) : ee C (C.length - 1) = 32768 := by
  unfold ee
  have h1 := h.lo
  have h2 := h.hi
  rw [h.last, Nat.mul_comm, Nat.mul_div_cancel _ (by omega)]
  omega
theorem ee_mono {C : List Nat} {n : Int} (h : TOk C n) : ∀ d i, i + d < C.length → ee C i + 4 * d ≤ ee C (i + d)
  | 0, _, _ => by simp
  | d + 1, i, hi => by have h1 := ee_mono h d i (by omega); have h2 := ee_step h (i := i + d) (by omega); rw [show i + (d + 1) = i + d + 1 from by omega]; omega
theorem ee_pos (C : List Nat) (i : Nat) : 4 ≤ ee C i := by unfold ee; omega
theorem ee_le {C : List Nat} {n : Int} (h : TOk C n) {i : Nat} (hi : i < C.length) : ee C i ≤ 32768 := by
  have := ee_mono h (C.length - 1 - i) i (by omega)
  rw [show i + (C.length - 1 - i) = C.length - 1 from by omega, ee_last h] at this
  omega
theorem eb_ee {C : List Nat} {n : Int} (h : TOk C n) {s : Nat} (hs : s < C.length) : eb C s + 4 ≤ ee C s := by
  unfold eb
  split
  · rename_i e; subst e; have := ee_pos C 0; omega
  · have := ee_step h (i := s - 1) (by omega); rw [show s - 1 + 1 = s from by omega] at this; exact this
theorem eb_succ (C : List Nat) (s : Nat) : eb C (s + 1) = ee C s := by unfold eb; simp
theorem part_uniq {C : List Nat} {n : Int} (h : TOk C n) {s t at' : Nat} (hs : s < C.length) (ht : t < C.length) (s1 : eb C s ≤ at') (s2 : at' < ee C s) (t1 : eb C t ≤ at') (t2 : at' < ee C t) : s = t := by
  rcases Nat.lt_trichotomy s t with e | e | e
  · have := ee_mono h (t - 1 - s) s (by omega)
    rw [show s + (t - 1 - s) = t - 1 from by omega] at this
    unfold eb at t1
    rw [if_neg (by omega)] at t1
    omega
  · exact e
  · have := ee_mono h (s - 1 - t) t (by omega)
    rw [show t + (s - 1 - t) = s - 1 from by omega] at this
    unfold eb at s1
    rw [if_neg (by omega)] at s1
    omega

/-- how slowly a table learns -/
def rt (m : Nat) (n : Int) : Nat := 3 + (if m < 4 then 1 else 2) + (if n > 15 then 1 else 0) + (if n > 31 then 1 else 0)
theorem rt_cases (m : Nat) (n : Int) : rt m n = 4 ∨ rt m n = 5 ∨ rt m n = 6 ∨ rt m n = 7 := by unfold rt; split <;> split <;> split <;> omega
/-- an element behind a value that is learnt -/
def adE (C : List Nat) (r s i : Nat) : Nat := if i + 1 = C.length then C.getD i 0 else if s ≤ i then C.getD i 0 + (32768 - C.getD i 0) / 2 ^ r else C.getD i 0 - C.getD i 0 / 2 ^ r
def ad (C : List Nat) (n : Int) (s : Nat) : List Nat := (List.range C.length).map (adE C (rt C.length n) s)
theorem ad_len (C : List Nat) (n : Int) (s : Nat) : (ad C n s).length = C.length := by simp [ad]
theorem ad_get (C : List Nat) (n : Int) (s i : Nat) (h : i < C.length) : (ad C n s).getD i 0 = adE C (rt C.length n) s i := range_getD _ h
/-- what Count is behind it -/
def adN (n : Int) : Int := min (n + 1) 32

theorem up_mono {c d r : Nat} (h : c ≤ d) (hd : d ≤ 32768) (hr : r = 4 ∨ r = 5 ∨ r = 6 ∨ r = 7) : c + (32768 - c) / 2 ^ r ≤ d + (32768 - d) / 2 ^ r ∧ (32768 - d) / 2 ^ r ≤ (32768 - c) / 2 ^ r ∧ d + (32768 - d) / 2 ^ r ≤ 32768 := by
  rcases hr with rfl | rfl | rfl | rfl <;> simp only [Nat.reducePow] <;> omega
theorem down_mono {c d r : Nat} (h : c ≤ d) (hr : r = 4 ∨ r = 5 ∨ r = 6 ∨ r = 7) : c - c / 2 ^ r ≤ d - d / 2 ^ r ∧ c / 2 ^ r ≤ d / 2 ^ r ∧ d / 2 ^ r ≤ d := by
  rcases hr with rfl | rfl | rfl | rfl <;> simp only [Nat.reducePow] <;> omega

theorem adE_le {C : List Nat} {n : Int} (h : TOk C n) (s i : Nat) : adE C (rt C.length n) s i ≤ 32768 := by
  have h1 := h.le i
  have h2 := (up_mono (Nat.le_refl (C.getD i 0)) h1 (rt_cases C.length n)).2.2
  unfold adE
  split
  · exact h1
  · split
    · exact h2
    · exact Nat.le_trans (Nat.sub_le _ _) h1
/-- an element that is not below the value does not fall; one that is below it does not rise -/
theorem adE_side {C : List Nat} {n : Int} (s i : Nat) : (s ≤ i → C.getD i 0 ≤ adE C (rt C.length n) s i) ∧ (i < s → adE C (rt C.length n) s i ≤ C.getD i 0) := by
  unfold adE
  refine ⟨fun hs => ?_, fun hs => ?_⟩
  · split
    · exact Nat.le_refl _
    · exact Nat.le_add_right _ _
  · split
    · exact Nat.le_refl _
    · rw [if_neg (by omega)]; exact Nat.sub_le _ _
theorem adE_rise {C : List Nat} {n : Int} (h : TOk C n) (s i : Nat) (hi : i + 1 < C.length) : adE C (rt C.length n) s i ≤ adE C (rt C.length n) s (i + 1) := by
  have hr := rt_cases C.length n
  have hm := h.mono 1 i hi
  have hl := h.le (i + 1)
  have hk := h.le i
  have h1 := up_mono hm hl hr
  have h2 := down_mono hm hr
  have h3 := up_mono (Nat.le_refl (C.getD i 0)) hk hr
  by_cases e : i + 1 + 1 = C.length
  · have hz : adE C (rt C.length n) s (i + 1) = 32768 := by
      unfold adE; rw [if_pos e]; have := h.last; rw [show C.length - 1 = i + 1 from by omega] at this; exact this
    rw [hz]; exact adE_le h s i
  · unfold adE
    rw [if_neg (by omega), if_neg e]
    by_cases g1 : s ≤ i
    · rw [if_pos g1, if_pos (by omega)]; exact h1.1
    · rw [if_neg g1]
      by_cases g2 : s ≤ i + 1
      · rw [if_pos g2]; exact Nat.le_trans (Nat.sub_le _ _) (Nat.le_trans hm (Nat.le_add_right _ _))
      · rw [if_neg g2]; exact h2.1
theorem ad_ok {C : List Nat} {n : Int} (h : TOk C n) (s : Nat) : TOk (ad C n s) (adN n) := by
  have h0 := h.n0
  have h1 := h.n1
  have hlo := h.lo
  refine ⟨by rw [ad_len]; exact h.lo, by rw [ad_len]; exact h.hi, ?_, by unfold adN; omega, by unfold adN; omega, fun i h2 h3 => ?_⟩
  · rw [ad_len, ad_get _ _ _ _ (by omega)]
    unfold adE
    rw [if_pos (by omega)]
    exact h.last
  · rw [ad_len] at h3
    rw [ad_get _ _ _ _ h3, ad_get _ _ _ _ (by omega)]
    have := adE_rise h s (i - 1) (by omega)
    rw [show i - 1 + 1 = i from by omega] at this
    exact this
/-- what another value has of C does not grow -/
def sh (C : List Nat) (k : Nat) : Int := if k = 0 then (C.getD 0 0 : Int) else (C.getD k 0 : Int) - (C.getD (k - 1) 0 : Int)
theorem sh_le {C : List Nat} {n : Int} (h : TOk C n) {s k : Nat} (hs : s < C.length) (hk : k < C.length) (hne : k ≠ s) : sh (ad C n s) k ≤ sh C k := by
  have hr := rt_cases C.length n
  unfold sh
  split
  · rename_i e
    subst e
    rw [ad_get _ _ _ _ hk]
    have := (adE_side (C := C) (n := n) s 0).2 (by omega)
    omega
  · rw [ad_get _ _ _ _ hk, ad_get _ _ _ _ (by omega)]
    have hm := h.mono 1 (k - 1) (by omega)
    rw [show k - 1 + 1 = k from by omega] at hm
    have hl := h.le k
    have h1 := up_mono hm hl hr
    have h2 := down_mono hm hr
    have h3 := (adE_side (C := C) (n := n) s (k - 1))
    have h4 := (down_mono (Nat.le_refl (C.getD (k - 1) 0)) hr).2.2
    have h5 : s ≤ k - 1 ∨ k < s := by omega
    unfold adE at *
    rw [if_neg (show ¬ k - 1 + 1 = C.length by omega)] at *
    generalize (32768 - C.getD k 0) / 2 ^ rt C.length n = q1 at *
    generalize (32768 - C.getD (k - 1) 0) / 2 ^ rt C.length n = q2 at *
    generalize C.getD k 0 / 2 ^ rt C.length n = q3 at *
    generalize C.getD (k - 1) 0 / 2 ^ rt C.length n = q4 at *
    by_cases e : k + 1 = C.length
    · rw [if_pos e]
      rcases h5 with g | g
      · have := h3.1 g; omega
      · omega
    · rw [if_neg e]
      rcases h5 with g | g
      · rw [if_pos g, if_pos (by omega)]; omega
      · rw [if_neg (by omega), if_neg (by omega)]; omega
/-- the part of the value is no narrower -/
theorem part_wider {C : List Nat} {n : Int} (_h : TOk C n) {s : Nat} (hs : s < C.length) : ee C s ≤ ee (ad C n s) s ∧ eb (ad C n s) s ≤ eb C s := by
  have a1 := (adE_side (C := C) (n := n) s s).1 (Nat.le_refl _)
  constructor
  · unfold ee
    rw [ad_len, ad_get _ _ _ _ hs]
    have := Nat.div_le_div_right (c := 32768) (Nat.mul_le_mul_right (32768 - 4 * C.length) a1)
    omega
  · unfold eb
    split
    · exact Nat.le_refl _
    · unfold ee
      rw [ad_len, ad_get _ _ _ _ (by omega)]
      have a2 := (adE_side (C := C) (n := n) s (s - 1)).2 (by omega)
      have := Nat.div_le_div_right (c := 32768) (Nat.mul_le_mul_right (32768 - 4 * C.length) a2)
      omega

/-! ### averages -/
def sm (L : List (List Nat)) (i : Nat) : Nat := (L.map fun C => C.getD i 0).sum
def avE (L : List (List Nat)) (i : Nat) : Nat := (L.length / 2 + sm L i) / L.length
def av (m : Nat) (L : List (List Nat)) : List Nat := (List.range m).map (avE L)
theorem av_len (m : Nat) (L : List (List Nat)) : (av m L).length = m := by simp [av]
theorem av_get (m : Nat) (L : List (List Nat)) (i : Nat) (h : i < m) : (av m L).getD i 0 = avE L i := range_getD _ h
theorem sm_nil (i : Nat) : sm [] i = 0 := rfl
theorem sm_cons (C : List Nat) (L : List (List Nat)) (i : Nat) : sm (C :: L) i = C.getD i 0 + sm L i := by simp [sm]
theorem sm_append (L M : List (List Nat)) (i : Nat) : sm (L ++ M) i = sm L i + sm M i := by simp [sm]
theorem sm_reverse (L : List (List Nat)) (i : Nat) : sm L.reverse i = sm L i := by
  induction L with
  | nil => rfl
  | cons C L ih => rw [List.reverse_cons, sm_append, ih, sm_cons, sm_cons, sm_nil]; omega
theorem sm_replicate (C : List Nat) (i : Nat) : ∀ k, sm (List.replicate k C) i = k * C.getD i 0
  | 0 => by simp [sm]
  | k + 1 => by rw [List.replicate_succ, sm_cons, sm_replicate C i k, Nat.succ_mul]; omega
theorem sm_le {L : List (List Nat)} {i m : Nat} (h : ∀ C ∈ L, C.getD i 0 ≤ m) : sm L i ≤ L.length * m := by
  induction L with
  | nil => simp [sm]
  | cons C L ih =>
    rw [sm_cons, List.length_cons, Nat.succ_mul]
    have := h C (by simp)
    have := ih (fun D hD => h D (by simp [hD]))
    omega
theorem sm_ge {L : List (List Nat)} {i m : Nat} (h : ∀ C ∈ L, m ≤ C.getD i 0) : L.length * m ≤ sm L i := by
  induction L with
  | nil => simp [sm]
  | cons C L ih =>
    rw [sm_cons, List.length_cons, Nat.succ_mul]
    have := h C (by simp)
    have := ih (fun D hD => h D (by simp [hD]))
    omega
theorem sm_mono {L : List (List Nat)} {i j : Nat} (h : ∀ C ∈ L, C.getD i 0 ≤ C.getD j 0) : sm L i ≤ sm L j := by
  induction L with
  | nil => simp [sm]
  | cons C L ih =>
    rw [sm_cons, sm_cons]
    have := h C (by simp)
    have := ih (fun D hD => h D (by simp [hD]))
    omega
theorem half_div {k m : Nat} (hk : 0 < k) : (k / 2 + k * m) / k = m := by
  rw [Nat.add_mul_div_left _ _ hk, Nat.div_eq_of_lt (by omega), Nat.zero_add]
theorem avE_le {L : List (List Nat)} {i m : Nat} (h0 : 0 < L.length) (h : ∀ C ∈ L, C.getD i 0 ≤ m) : avE L i ≤ m := by
  unfold avE
  have h1 := sm_le h
  have h2 := Nat.div_le_div_right (c := L.length) (Nat.add_le_add_left h1 (L.length / 2))
  rw [half_div h0] at h2
  exact h2
theorem avE_ge {L : List (List Nat)} {i m : Nat} (h0 : 0 < L.length) (h : ∀ C ∈ L, m ≤ C.getD i 0) : m ≤ avE L i := by
  unfold avE
  have h1 := sm_ge h
  have h2 := Nat.div_le_div_right (c := L.length) (Nat.add_le_add_left h1 (L.length / 2))
  rw [half_div h0] at h2
  exact h2
theorem avE_mono {L : List (List Nat)} {i j : Nat} (h : ∀ C ∈ L, C.getD i 0 ≤ C.getD j 0) : avE L i ≤ avE L j := by
  unfold avE
  exact Nat.div_le_div_right (Nat.add_le_add_left (sm_mono h) _)
theorem avE_reverse (L : List (List Nat)) (i : Nat) : avE L.reverse i = avE L i := by unfold avE; rw [sm_reverse, List.length_reverse]
theorem avE_replicate (C : List Nat) (i : Nat) {k : Nat} (hk : 0 < k) : avE (List.replicate k C) i = C.getD i 0 := by
  unfold avE; rw [sm_replicate, List.length_replicate, half_div hk]

end Go.Proofs.YtppanogpeengnaaDoor.L3
