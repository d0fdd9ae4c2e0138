/- DERIVED. Trees of lists that agree as far as they are used. -/
import Derived.Test.YtjijgeeejhijhaaBa
namespace Go.Proofs.Ytjijgeeejhijhaa

theorem qsq_same {f g : Int → Int → Nat → List Rc × Nat} {n m : Nat} {x y h : Int} {u : Nat} (hnm : n ≤ m) (hm : ∀ x y u, u ≤ m → u ≤ (f x y u).2 ∧ (f x y u).2 ≤ m) (he : ∀ x y u, (f x y u).2 ≤ n → u ≤ n → g x y u = f x y u) (hu : u ≤ n) :
    ∀ i, (qsq f x y h u i).2 ≤ n → qsq g x y h u i = qsq f x y h u i
  | 0, _ => rfl
  | i + 1, h1 => by
    have hp : (qsq f x y h u i).2 ≤ m := qsq_ind (fun z => z ≤ m) (by omega) (fun x y z hz => (hm x y z hz).2) i
    have hq := (hm (x + ((i % 2 : Nat) : Int) * h) (y + ((i / 2 : Nat) : Int) * h) _ hp).1
    have h2 : (f (x + ((i % 2 : Nat) : Int) * h) (y + ((i / 2 : Nat) : Int) * h) (qsq f x y h u i).2).2 ≤ n := h1
    have h3 := qsq_same (x := x) (y := y) (h := h) hnm hm he hu i (Nat.le_trans hq h2)
    unfold qsq
    rw [h3]
    simp only
    rw [he _ _ _ h2 (Nat.le_trans hq h2)]
theorem qsq_or {f g : Int → Int → Nat → List Rc × Nat} {n m : Nat} {x y h : Int} {u : Nat} (hnm : n ≤ m) (hf : ∀ x y u, u ≤ n → (f x y u).2 ≤ n) (hg : ∀ x y u, u ≤ m → u ≤ (g x y u).2 ∧ (g x y u).2 ≤ m) (he : ∀ x y u, u ≤ n → g x y u = f x y u ∨ n ≤ (g x y u).2) (hu : u ≤ n) :
    ∀ i, qsq g x y h u i = qsq f x y h u i ∨ n ≤ (qsq g x y h u i).2
  | 0 => Or.inl rfl
  | i + 1 => by
    have hp : (qsq f x y h u i).2 ≤ n := qsq_ind (fun z => z ≤ n) hu (fun x y z hz => hf x y z hz) i
    have hp' : (qsq g x y h u i).2 ≤ m := qsq_ind (fun z => z ≤ m) (by omega) (fun x y z hz => (hg x y z hz).2) i
    have hq := (hg (x + ((i % 2 : Nat) : Int) * h) (y + ((i / 2 : Nat) : Int) * h) _ hp').1
    rcases qsq_or (x := x) (y := y) (h := h) hnm hf hg he hu i with e | e
    · rcases he (x + ((i % 2 : Nat) : Int) * h) (y + ((i / 2 : Nat) : Int) * h) _ hp with e2 | e2
      · left; unfold qsq; rw [e]; simp only; rw [e2]
      · right; unfold qsq; rw [e]; exact e2
    · right; unfold qsq; exact Nat.le_trans e hq
theorem pk_same {C D : List Int} {k u n : Nat} (hC : n ≤ C.length) (hD : n ≤ D.length) (hu : u < n) (hv : D.getD u 0 % ty k = C.getD u 0 % ty k) : pkV k D u = pkV k C u ∧ pkU D u = pkU C u := by
  unfold pkV pkU
  rw [if_pos (by omega), if_pos (by omega), if_pos (by omega), if_pos (by omega), hv]
  exact ⟨rfl, rfl⟩
/-- what lies behind what was used says nothing -/
theorem tree_same {ar : Rc} {C D : List Int} {n : Nat} (hC : n < C.length) (hD : n ≤ D.length) (hv : ∀ k u, u < n → D.getD u 0 % ty k = C.getD u 0 % ty k) :
    ∀ (k : Nat) (x y : Int) (u : Nat), (tree ar C k x y u).2 ≤ n → u ≤ n → tree ar D k x y u = tree ar C k x y u
  | 0, x, y, u, _, _ => by unfold tree; rfl
  | k + 1, x, y, u, h1, hu => by
    have hq : ∀ v, v ≤ n → (qsq (tree ar C k) x y (sd k) v 4).2 ≤ n → qsq (tree ar D k) x y (sd k) v 4 = qsq (tree ar C k) x y (sd k) v 4 := fun v h2 h3 =>
      qsq_same (Nat.le_of_lt hC) (fun x y z hz => tree_used k x y z hz) (fun x y z h4 h5 => tree_same hC hD hv k x y z h4 h5) h2 4 h3
    have hqu : ∀ v, v ≤ C.length → v ≤ (qsq (tree ar C k) x y (sd k) v 4).2 := fun v h2 =>
      (qsq_ind (fun z => v ≤ z ∧ z ≤ C.length) ⟨Nat.le_refl _, h2⟩ (fun x y z hz => by have := tree_used (ar := ar) k x y z hz.2; omega) 4).1
    have hU := pkU_le (C := C) (u := u) (by omega)
    have hU1 : pkU C u = u + 1 := by unfold pkU; rw [if_pos (by omega)]
    unfold tree at h1 ⊢
    by_cases c1 : meet (x, y, sd (k + 1), sd (k + 1)) ar = true
    · rw [if_pos c1] at h1; rw [if_pos c1, if_pos c1]
      by_cases c2 : wthn (x, y, sd (k + 1), sd (k + 1)) ar = true
      · rw [if_pos c2] at h1; rw [if_pos c2, if_pos c2]
        by_cases c3 : pkV (k + 1) C u = 3
        · rw [if_pos c3] at h1
          have h4 := hqu (pkU C u) (by omega)
          obtain ⟨e1, e2⟩ := pk_same (k := k + 1) (Nat.le_of_lt hC) hD (show u < n by omega) (hv _ _ (by omega))
          rw [e1, e2, if_pos c3, if_pos c3]
          exact hq _ (by omega) h1
        · rw [if_neg c3] at h1
          have h4 : pkU C u ≤ n := h1
          obtain ⟨e1, e2⟩ := pk_same (k := k + 1) (Nat.le_of_lt hC) hD (show u < n by omega) (hv _ _ (by omega))
          rw [e1, e2, if_neg c3, if_neg c3]
      · rw [if_neg c2] at h1; rw [if_neg c2, if_neg c2]
        exact hq _ hu h1
    · rw [if_neg c1, if_neg c1]
/-- what lies behind all that there is may be used, or not -/
theorem tree_or {ar : Rc} {C D : List Int} {n : Nat} (hC : C.length = n) (hD : n ≤ D.length) (hv : ∀ k u, u < n → D.getD u 0 % ty k = C.getD u 0 % ty k) :
    ∀ (k : Nat) (x y : Int) (u : Nat), u ≤ n → tree ar D k x y u = tree ar C k x y u ∨ n ≤ (tree ar D k x y u).2
  | 0, x, y, u, _ => by left; unfold tree; rfl
  | k + 1, x, y, u, hu => by
    by_cases hn : u = n
    · right; subst hn; exact (tree_used (k + 1) x y u hD).1
    have hq : ∀ v, v ≤ n → qsq (tree ar D k) x y (sd k) v 4 = qsq (tree ar C k) x y (sd k) v 4 ∨ n ≤ (qsq (tree ar D k) x y (sd k) v 4).2 := fun v h2 =>
      qsq_or hD (fun x y z hz => by have := tree_used (ar := ar) (C := C) k x y z (by omega); omega) (fun x y z hz => tree_used k x y z hz) (fun x y z h5 => tree_or hC hD hv k x y z h5) h2 4
    obtain ⟨e1, e2⟩ := pk_same (C := C) (D := D) (k := k + 1) (n := n) (by omega) hD (show u < n by omega) (hv _ _ (by omega))
    have hU1 : pkU C u = u + 1 := by unfold pkU; rw [if_pos (by omega)]
    unfold tree
    by_cases c1 : meet (x, y, sd (k + 1), sd (k + 1)) ar = true
    · rw [if_pos c1, if_pos c1]
      by_cases c2 : wthn (x, y, sd (k + 1), sd (k + 1)) ar = true
      · rw [if_pos c2, if_pos c2, e1, e2]
        by_cases c3 : pkV (k + 1) C u = 3
        · rw [if_pos c3, if_pos c3]
          exact hq _ (by omega)
        · rw [if_neg c3, if_neg c3]; exact Or.inl rfl
      · rw [if_neg c2, if_neg c2]
        exact hq _ hu
    · rw [if_neg c1, if_neg c1]; exact Or.inl rfl
/-- a choice turned -/
def tn (C : List Int) (i : Nat) : Int := C.getD i 0 % 40 - 40 * ((i % 3 : Nat) : Int)
def tnL (C : List Int) (n : Nat) : List Int := (List.range n).map (tn C)
theorem tnL_len (C : List Int) (n : Nat) : (tnL C n).length = n := by simp [tnL]
theorem tnL_succ (C : List Int) (n : Nat) : tnL C (n + 1) = tnL C n ++ [tn C n] := by simp [tnL, List.range_succ]
theorem tn_mod (C : List Int) (k i : Nat) : tn C i % ty k = C.getD i 0 % ty k := by
  unfold tn ty; split <;> omega
theorem tnL_get (C : List Int) {n i : Nat} (h : i < n) : ((tnL C n) ++ [3, 3, 3]).getD i 0 = tn C i := by
  unfold tnL
  simp [List.getD_eq_getElem?_getD, List.getElem?_append, h]
/-- what PartUsed asks -/
theorem used_all {ar : Rc} {C : List Int} {X Y : Int} {n : Nat} (hn : (tree ar C 3 X Y 0).2 = n) (hC : n ≤ C.length) :
    tree ar (C.take n) 3 X Y 0 = tree ar C 3 X Y 0 ∧ n ≤ (tree ar (tnL C n ++ [3, 3, 3]) 3 X Y 0).2 ∧ (n = C.length ∨ tree ar (tnL C n ++ [3, 3, 3]) 3 X Y 0 = tree ar C 3 X Y 0) := by
  have hl : n ≤ (tnL C n ++ [3, 3, 3]).length := by rw [List.length_append, tnL_len]; omega
  have hv : ∀ k u, u < n → (tnL C n ++ [3, 3, 3]).getD u 0 % ty k = C.getD u 0 % ty k := fun k u h => by rw [tnL_get C h, tn_mod]
  by_cases h : n = C.length
  · refine ⟨by rw [h, List.take_length], ?_, Or.inl h⟩
    rcases tree_or (ar := ar) h.symm hl hv 3 X Y 0 (Nat.zero_le _) with e | e
    · rw [e]; omega
    · exact e
  · have e := tree_same (ar := ar) (by omega) hl hv 3 X Y 0 (by omega) (Nat.zero_le _)
    refine ⟨?_, by rw [e]; omega, Or.inr e⟩
    refine tree_same (ar := ar) (n := n) (by omega) (by rw [List.length_take]; omega) (fun k u hu => ?_) 3 X Y 0 (by omega) (Nat.zero_le _)
    simp [List.getD_eq_getElem?_getD, hu]
end Go.Proofs.Ytjijgeeejhijhaa
