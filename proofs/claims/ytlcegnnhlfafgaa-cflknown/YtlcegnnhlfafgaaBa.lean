/- DERIVED. Plain arithmetic: what of brightness goes into colours; predictions. -/
import Derived.Test.YtlcegnnhlfafgaaGd
namespace Go.Proofs.Ytlcegnnhlfafgaa
open Go.RowKit

/-- where a place's samples begin -/
def pl (w i : Nat) : Nat := i / w * 4 * w + i % w * 2
theorem pl_at {w x : Nat} (y : Nat) (h : x < w) : pl w (y * w + x) = y * 4 * w + x * 2 := by
  unfold pl
  rw [show (y * w + x) / w = y by rw [Nat.add_comm, Nat.add_mul_div_right _ _ (by omega), Nat.div_eq_of_lt h, Nat.zero_add], show (y * w + x) % w = x by rw [Nat.add_comm, Nat.add_mul_mod_self_right, Nat.mod_eq_of_lt h]]
theorem pl_lt {w h i : Nat} (hi : i < w * h) : pl w i + 2 * w + 1 < 4 * w * h := by
  have hw : 0 < w := by
    rcases Nat.eq_zero_or_pos w with e | e
    · subst e; simp at hi
    · exact e
  have h1 : i / w < h := Nat.div_lt_of_lt_mul hi
  have h2 : i % w < w := Nat.mod_lt _ hw
  unfold pl
  have h3 : (i / w + 1) * (4 * w) ≤ h * (4 * w) := Nat.mul_le_mul_right _ h1
  rw [Nat.add_mul, Nat.one_mul] at h3
  rw [show i / w * 4 * w = i / w * (4 * w) by rw [Nat.mul_assoc], show 4 * w * h = h * (4 * w) by rw [Nat.mul_comm]]
  omega
/-- a place's number -/
def lv (L : List Nat) (w i : Nat) : Nat := 2 * (L.getD (pl w i) 0 + L.getD (pl w i + 1) 0 + L.getD (pl w i + 2 * w) 0 + L.getD (pl w i + 2 * w + 1) 0)
theorem lv_le {L : List Nat} (hb : Byt L) (w i : Nat) : lv L w i ≤ 2040 := by
  unfold lv
  have h1 := hb (pl w i)
  have h2 := hb (pl w i + 1)
  have h3 := hb (pl w i + 2 * w)
  have h4 := hb (pl w i + 2 * w + 1)
  omega
/-- the sum of the first n -/
def sm (f : Nat → Nat) : Nat → Nat
  | 0 => 0
  | n + 1 => sm f n + f n
theorem sm_le {f : Nat → Nat} {M : Nat} : ∀ {n : Nat}, (∀ i, i < n → f i ≤ M) → sm f n ≤ n * M
  | 0, _ => by simp [sm]
  | n + 1, h => by
    have h1 := sm_le (n := n) (fun i hi => h i (by omega))
    have h2 := h n (by omega)
    rw [sm, Nat.add_mul, Nat.one_mul]
    omega
theorem sm_add {f g : Nat → Nat} {c : Nat} : ∀ {n : Nat}, (∀ i, i < n → g i = f i + c) → sm g n = sm f n + n * c
  | 0, _ => by simp [sm]
  | n + 1, h => by
    have h1 := sm_add (n := n) (fun i hi => h i (by omega))
    have h2 := h n (by omega)
    rw [sm, sm, h1, h2, Nat.add_mul, Nat.one_mul]
    omega
theorem sm_zero : ∀ (n : Nat), sm (fun _ => 0) n = 0
  | 0 => rfl
  | n + 1 => by rw [sm, sm_zero n]
/-- the mean, to the nearest -/
def mn (f : Nat → Nat) (n : Nat) : Nat := (sm f n + n / 2) / n
theorem mn_lo {f : Nat → Nat} {n : Nat} (_h : 0 < n) : n * mn f n ≤ sm f n + n / 2 := Nat.mul_div_le _ _
theorem mn_hi {f : Nat → Nat} {n : Nat} (h : 0 < n) : sm f n + n / 2 < n * mn f n + n := by
  have := Nat.lt_mul_div_succ (sm f n + n / 2) h
  unfold mn
  rw [Nat.mul_add, Nat.mul_one] at this
  exact this
theorem mn_le {f : Nat → Nat} {n M : Nat} (h : 0 < n) (hM : ∀ i, i < n → f i ≤ M) : mn f n ≤ M := by
  have h1 := sm_le hM
  unfold mn
  have : (sm f n + n / 2) / n < M + 1 := by
    rw [Nat.div_lt_iff_lt_mul h, Nat.add_mul, Nat.one_mul, Nat.mul_comm M]
    omega
  omega
theorem mn_add {f g : Nat → Nat} {n c : Nat} (h : 0 < n) (hg : ∀ i, i < n → g i = f i + c) : mn g n = mn f n + c := by
  unfold mn
  rw [sm_add hg, show sm f n + n * c + n / 2 = (sm f n + n / 2) + n * c by omega, Nat.add_mul_div_left _ _ h]
theorem mn_flat {g : Nat → Nat} {n c : Nat} (h : 0 < n) (hg : ∀ i, i < n → g i = c) : mn g n = c := by
  have := mn_add (f := fun _ => 0) (g := g) (c := c) h (fun i hi => by rw [hg i hi]; omega)
  rw [this]
  unfold mn
  rw [sm_zero, Nat.zero_add, Nat.div_eq_of_lt (by omega), Nat.zero_add]
/-- the numbers themselves -/
def nm (f : Nat → Nat) (n : Nat) : List Int := (List.range n).map fun i => (f i : Int)
theorem nm_len (f : Nat → Nat) (n : Nat) : (nm f n).length = n := by simp [nm]
theorem nm_get (f : Nat → Nat) (n i : Nat) (h : i < n) : (nm f n).getD i 0 = (f i : Int) := by simp [nm, h]
theorem nm_step (f : Nat → Nat) (n : Nat) : nm f n ++ [(f n : Int)] = nm f (n + 1) := by simp [nm, List.range_succ]
/-- k of them less m -/
def lsF (f : Nat → Nat) (m n k : Nat) : List Int := (List.range n).map fun i => if i < k then (f i : Int) - (m : Int) else (f i : Int)
theorem lsF_len (f : Nat → Nat) (m n k : Nat) : (lsF f m n k).length = n := by simp [lsF]
theorem lsF_get (f : Nat → Nat) (m n k i : Nat) (h : i < n) : (lsF f m n k).getD i 0 = if i < k then (f i : Int) - (m : Int) else (f i : Int) := by simp [lsF, h]
theorem lsF_zero (f : Nat → Nat) (m n : Nat) : lsF f m n 0 = nm f n := by simp [lsF, nm]
theorem lsF_set (f : Nat → Nat) (m n k : Nat) (h : k < n) : (lsF f m n k).set k ((f k : Int) - (m : Int)) = lsF f m n (k + 1) := by
  refine ext_getD (by rw [List.length_set, lsF_len, lsF_len]) fun j hj => ?_
  rw [List.length_set, lsF_len] at hj
  rw [getD_set _ _ _ _ (by rw [lsF_len]; exact h), lsF_get _ _ _ _ _ hj, lsF_get _ _ _ _ _ hj]
  by_cases e : k = j
  · subst e; rw [if_pos rfl, if_pos (by omega)]
  · rw [if_neg e]
    by_cases g : j < k
    · rw [if_pos g, if_pos (by omega)]
    · rw [if_neg g, if_neg (by omega)]
/-- what goes into the colours -/
def acF (f : Nat → Nat) (n : Nat) : List Int := (List.range n).map fun i => (f i : Int) - (mn f n : Int)
theorem acF_len (f : Nat → Nat) (n : Nat) : (acF f n).length = n := by simp [acF]
theorem acF_get (f : Nat → Nat) (n i : Nat) (h : i < n) : (acF f n).getD i 0 = (f i : Int) - (mn f n : Int) := by simp [acF, h]
theorem lsF_all (f : Nat → Nat) (n : Nat) : lsF f (mn f n) n n = acF f n := by
  refine ext_getD (by rw [lsF_len, acF_len]) fun j hj => ?_
  rw [lsF_len] at hj
  rw [lsF_get _ _ _ _ _ hj, acF_get _ _ _ hj, if_pos hj]
theorem acF_add {f g : Nat → Nat} {n c : Nat} (h : 0 < n) (hg : ∀ i, i < n → g i = f i + c) : acF g n = acF f n := by
  refine ext_getD (by rw [acF_len, acF_len]) fun j hj => ?_
  rw [acF_len] at hj
  rw [acF_get _ _ _ hj, acF_get _ _ _ hj, mn_add h hg, hg j hj]
  omega
theorem acF_flat {g : Nat → Nat} {n c : Nat} (h : 0 < n) (hg : ∀ i, i < n → g i = c) : acF g n = List.replicate n 0 := by
  refine ext_getD (by rw [acF_len, List.length_replicate]) fun j hj => ?_
  rw [acF_len] at hj
  rw [acF_get _ _ _ hj, mn_flat h hg, hg j hj]
  simp [hj]
theorem acF_le {f : Nat → Nat} {n M : Nat} (h : 0 < n) (hM : ∀ i, i < n → f i ≤ M) (j : Nat) (hj : j < n) : -(M : Int) ≤ (acF f n).getD j 0 ∧ (acF f n).getD j 0 ≤ (M : Int) := by
  rw [acF_get _ _ _ hj]
  have h1 := mn_le h hM
  have h2 := hM j hj
  omega
/-- the sum of the first k of a list -/
def sI (C : List Int) : Nat → Int
  | 0 => 0
  | k + 1 => sI C k + C.getD k 0
theorem sI_nm (f : Nat → Nat) (n : Nat) : ∀ k, k ≤ n → sI (nm f n) k = (sm f k : Int)
  | 0, _ => rfl
  | k + 1, h => by rw [sI, sI_nm f n k (by omega), nm_get _ _ _ (by omega), sm]; omega
theorem sI_ac (f : Nat → Nat) (n : Nat) : ∀ k, k ≤ n → sI (acF f n) k = (sm f k : Int) - (k : Int) * (mn f n : Int)
  | 0, _ => by simp [sI, sm]
  | k + 1, h => by
    rw [sI, sI_ac f n k (by omega), acF_get _ _ _ (by omega), sm, show ((k + 1 : Nat) : Int) = (k : Int) + 1 by omega, Int.add_mul, Int.one_mul]
    omega
theorem sI_le {C : List Int} {M : Nat} (h : ∀ j, j < C.length → -(M : Int) ≤ C.getD j 0 ∧ C.getD j 0 ≤ (M : Int)) : ∀ k, k ≤ C.length → -((k : Int) * (M : Int)) ≤ sI C k ∧ sI C k ≤ (k : Int) * (M : Int)
  | 0, _ => by simp [sI]
  | k + 1, hk => by
    have h1 := sI_le h k (by omega)
    have h2 := h k (by omega)
    rw [sI, show ((k + 1 : Nat) : Int) = (k : Int) + 1 by omega, Int.add_mul, Int.one_mul]
    omega
theorem ac_sum {f : Nat → Nat} {n : Nat} (h : 0 < n) : -((n / 2 : Nat) : Int) ≤ sI (acF f n) n ∧ sI (acF f n) n ≤ ((n - n / 2 : Nat) : Int) := by
  rw [sI_ac _ _ _ (Nat.le_refl _)]
  have h1 := mn_lo (f := f) h
  have h2 := mn_hi (f := f) h
  rw [← Int.natCast_mul]
  omega

/-- how far a sample is moved -/
def mv (p : Int) : Int := if p < 0 then -((-p + 32) / 64) else (p + 32) / 64
theorem mv_neg (p : Int) : mv (-p) = - mv p := by
  unfold mv
  by_cases h : p < 0
  · rw [if_neg (by omega), if_pos h]; omega
  · by_cases h0 : p = 0
    · subst h0; rfl
    · rw [if_pos (by omega), if_neg h, Int.neg_neg]
theorem mv_zero : mv 0 = 0 := rfl
theorem mv_pos {p : Int} (h : 0 ≤ p) : 0 ≤ mv p := by unfold mv; rw [if_neg (by omega)]; omega
theorem mv_npos {p : Int} (h : p ≤ 0) : mv p ≤ 0 := by
  have := mv_pos (p := -p) (by omega)
  rw [mv_neg] at this
  omega
/-- a prediction -/
def pd (b : Nat) (p : Int) : Nat := if (b : Int) + mv p < 0 then 0 else if 255 < (b : Int) + mv p then 255 else ((b : Int) + mv p).toNat
theorem pd_lt (b : Nat) (p : Int) : pd b p < 256 := by unfold pd; split; omega; split <;> omega
theorem pd_zero {b : Nat} (h : b < 256) : pd b 0 = b := by unfold pd; rw [mv_zero, if_neg (by omega), if_neg (by omega)]; omega
/-- all predictions -/
def pdL (C : List Nat) (A : List Int) (al : Int) : List Nat := (List.range C.length).map fun i => pd (C.getD i 0) (al * A.getD i 0)
theorem pdL_len (C : List Nat) (A : List Int) (al : Int) : (pdL C A al).length = C.length := by simp [pdL]
theorem pdL_get (C : List Nat) (A : List Int) (al : Int) (i : Nat) (h : i < C.length) : (pdL C A al).getD i 0 = pd (C.getD i 0) (al * A.getD i 0) := by simp [pdL, h]
theorem pdL_byt (C : List Nat) (A : List Int) (al : Int) : Byt (pdL C A al) := fun j => by
  by_cases h : j < C.length
  · rw [pdL_get _ _ _ _ h]; exact pd_lt _ _
  · rw [List.getD_eq_getElem?_getD, List.getElem?_eq_none (by rw [pdL_len]; omega)]; exact Nat.zero_lt_succ _
theorem pdL_same {C : List Nat} (hb : Byt C) {A : List Int} {al : Int} (h : ∀ i, i < C.length → al * A.getD i 0 = 0) : pdL C A al = C := by
  refine list_eq_of_getD (pdL_len _ _ _) fun j hj => ?_
  rw [pdL_len] at hj
  rw [pdL_get _ _ _ _ hj, h j hj, pd_zero (hb j)]
theorem pdL_neg {C : List Nat} {A B : List Int} {al : Int} (h : ∀ i, i < C.length → B.getD i 0 = - A.getD i 0) : pdL C A al = pdL C B (-al) := by
  refine list_eq_of_getD (by rw [pdL_len, pdL_len]) fun j hj => ?_
  rw [pdL_len] at hj
  rw [pdL_get _ _ _ _ hj, pdL_get _ _ _ _ hj, h j hj, Int.neg_mul_neg]
/-- k of n made -/
def pdK (C : List Nat) (A : List Int) (al : Int) (k : Nat) : List Nat := (List.range C.length).map fun i => if i < k then pd (C.getD i 0) (al * A.getD i 0) else 0
theorem pdK_len (C : List Nat) (A : List Int) (al : Int) (k : Nat) : (pdK C A al k).length = C.length := by simp [pdK]
theorem pdK_get (C : List Nat) (A : List Int) (al : Int) (k i : Nat) (h : i < C.length) : (pdK C A al k).getD i 0 = if i < k then pd (C.getD i 0) (al * A.getD i 0) else 0 := by simp [pdK, h]
theorem pdK_zero (C : List Nat) (A : List Int) (al : Int) : pdK C A al 0 = List.replicate C.length 0 := by
  refine list_eq_of_getD (by rw [pdK_len, List.length_replicate]) fun j hj => ?_
  rw [pdK_len] at hj
  rw [pdK_get _ _ _ _ _ hj]; simp [hj]
theorem pdK_all (C : List Nat) (A : List Int) (al : Int) : pdK C A al C.length = pdL C A al := by
  refine list_eq_of_getD (by rw [pdK_len, pdL_len]) fun j hj => ?_
  rw [pdK_len] at hj
  rw [pdK_get _ _ _ _ _ hj, pdL_get _ _ _ _ hj, if_pos hj]
theorem nat_set (C : List Nat) (k j x : Nat) (hk : k < C.length) : (C.set k x).getD j 0 = if k = j then x else C.getD j 0 := by
  rw [List.getD_eq_getElem?_getD, List.getD_eq_getElem?_getD, List.getElem?_set]
  by_cases e : k = j
  · subst e; simp [hk]
  · simp [e]
theorem pdK_set (C : List Nat) (A : List Int) (al : Int) (k : Nat) (h : k < C.length) : (pdK C A al k).set k (pd (C.getD k 0) (al * A.getD k 0)) = pdK C A al (k + 1) := by
  refine list_eq_of_getD (by rw [List.length_set, pdK_len, pdK_len]) fun j hj => ?_
  rw [List.length_set, pdK_len] at hj
  rw [nat_set _ _ _ _ (by rw [pdK_len]; exact h), pdK_get _ _ _ _ _ hj, pdK_get _ _ _ _ _ hj]
  by_cases e : k = j
  · subst e; rw [if_pos rfl, if_pos (by omega)]
  · rw [if_neg e]
    by_cases g : j < k
    · rw [if_pos g, if_pos (by omega)]
    · rw [if_neg g, if_neg (by omega)]

end Go.Proofs.Ytlcegnnhlfafgaa
