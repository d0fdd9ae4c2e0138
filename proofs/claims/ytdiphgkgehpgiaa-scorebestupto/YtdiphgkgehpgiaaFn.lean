/- DERIVED. Plain facts about the best place of a list. -/
import Derived.Test.YtdiphgkgehpgiaaFg
namespace Go.Proofs.Ytdiphgkgehpgiaa
open Ieee

theorem bst_none {C : List Nat} : ∀ {k : Nat}, bst C k = none → ∀ j, j < k → Nan (C.getD j 0)
  | 0, _, j, hj => by omega
  | k + 1, h, j, hj => by
    simp only [bst] at h
    split at h
    · rename_i e
      split at h
      · rename_i hn
        by_cases hjk : j = k
        · rw [hjk]; exact hn
        · exact bst_none e j (by omega)
      · cases h
    · split at h <;> cases h
theorem flt_false {a b : Nat} (h : flt a b = false) : Nan a ∨ Nan b ∨ key b ≤ key a := by
  by_cases ha : Nan a
  · exact Or.inl ha
  · by_cases hb : Nan b
    · exact Or.inr (Or.inl hb)
    · rw [flt_iff ha hb] at h
      exact Or.inr (Or.inr (by have := of_decide_eq_false h; omega))
theorem flt_true {a b : Nat} (h : flt a b = true) : ¬ Nan a ∧ ¬ Nan b ∧ key a < key b := of_decide_eq_true h
/-- the best one is the first of the least -/
def Bst (C : List Nat) (k i : Nat) : Prop := ¬ Nan (C.getD i 0) ∧ ∀ j, j < k → Nan (C.getD j 0) ∨ (key (C.getD i 0) ≤ key (C.getD j 0) ∧ (j < i → key (C.getD i 0) < key (C.getD j 0)))
theorem bst_some {C : List Nat} : ∀ {k i : Nat}, bst C k = some i → Bst C k i
  | 0, i, h => by cases h
  | k + 1, i, h => by
    simp only [bst] at h
    split at h
    · rename_i e
      split at h
      · cases h
      · rename_i hn
        simp only [Option.some.injEq] at h
        subst h
        refine ⟨hn, fun j hj => ?_⟩
        by_cases hjk : j = k
        · subst hjk; exact Or.inr ⟨Int.le_refl _, fun h => by omega⟩
        · exact Or.inl (bst_none e j (by omega))
    · rename_i i' e
      obtain ⟨h1, h2⟩ := bst_some e
      have hlt := bst_lt e
      split at h
      · rename_i hf
        simp only [Option.some.injEq] at h
        subst h
        obtain ⟨f1, f2, f3⟩ := flt_true hf
        refine ⟨f1, fun j hj => ?_⟩
        by_cases hjk : j = k
        · subst hjk; exact Or.inr ⟨Int.le_refl _, fun h => by omega⟩
        · rcases h2 j (by omega) with h | ⟨h, _⟩
          · exact Or.inl h
          · exact Or.inr ⟨by omega, fun _ => by omega⟩
      · rename_i hf
        simp only [Option.some.injEq] at h
        subst h
        refine ⟨h1, fun j hj => ?_⟩
        by_cases hjk : j = k
        · subst hjk
          rcases flt_false (Bool.eq_false_iff.2 hf) with h | h | h
          · exact Or.inl h
          · exact absurd h h1
          · exact Or.inr ⟨h, fun h => by omega⟩
        · exact h2 j (by omega)
theorem bst_congr {C D : List Nat} : ∀ {k : Nat}, (∀ j, j < k → C.getD j 0 = D.getD j 0) → bst C k = bst D k
  | 0, _ => rfl
  | k + 1, h => by
    have ih := bst_congr (C := C) (D := D) (k := k) (fun j hj => h j (by omega))
    simp only [bst]
    rw [ih, h k (by omega)]
    cases e : bst D k with
    | none => rfl
    | some i =>
      have hi := bst_lt e
      show (if flt _ (C.getD i 0) = true then _ else _) = (if flt _ (D.getD i 0) = true then _ else _)
      rw [h i (by omega)]
theorem bst_more {E : List Nat} {k : Nat} : ∀ {m : Nat}, (∀ j, k ≤ j → j < k + m → Nan (E.getD j 0) ∨ ∃ i, bst E k = some i ∧ key (E.getD i 0) ≤ key (E.getD j 0)) → bst E (k + m) = bst E k
  | 0, _ => rfl
  | m + 1, h => by
    have ih := bst_more (E := E) (k := k) (m := m) (fun j h1 h2 => h j h1 (by omega))
    show bst E (k + m + 1) = _
    simp only [bst]
    rw [ih]
    rcases h (k + m) (by omega) (by omega) with hn | ⟨i, e, hk⟩
    · cases e : bst E k with
      | none => exact if_pos hn
      | some i => show (if flt _ _ = true then _ else _) = _; rw [flt_nan _ hn]; rfl
    · rw [e]
      show (if flt _ _ = true then _ else _) = _
      rw [if_neg]
      intro hf
      obtain ⟨_, _, f3⟩ := flt_true hf
      omega
theorem getD_app {C D : List Nat} (j : Nat) : (C ++ D).getD j 0 = if j < C.length then C.getD j 0 else D.getD (j - C.length) 0 := by
  rw [List.getD_eq_getElem?_getD, List.getD_eq_getElem?_getD, List.getD_eq_getElem?_getD, List.getElem?_append]
  split <;> rfl
/-- a list put behind itself, and a number that is none behind it, has the same best place -/
theorem bst_twice {C : List Nat} {x : Nat} (hx : Nan x) : bst (C ++ C ++ [x]) (C ++ C ++ [x]).length = bst C C.length := by
  have hg : ∀ j, j < C.length → (C ++ C ++ [x]).getD j 0 = C.getD j 0 := fun j hj => by
    rw [getD_app, if_pos (by simp; omega), getD_app, if_pos hj]
  have h1 : bst (C ++ C ++ [x]) C.length = bst C C.length := bst_congr hg
  have hlen : (C ++ C ++ [x]).length = C.length + (C.length + 1) := by simp <;> omega
  rw [hlen, ← h1]
  refine bst_more fun j hj1 hj2 => ?_
  by_cases hj : j < C.length + C.length
  · have e : (C ++ C ++ [x]).getD j 0 = C.getD (j - C.length) 0 := by
      rw [getD_app, if_pos (by simp; omega), getD_app, if_neg (by omega)]
    rw [e, h1]
    cases e2 : bst C C.length with
    | none => exact Or.inl (bst_none e2 _ (by omega))
    | some i =>
      have hi := bst_lt e2
      rcases (bst_some e2).2 (j - C.length) (by omega) with h | ⟨h, _⟩
      · exact Or.inl h
      · exact Or.inr ⟨i, rfl, by rw [hg i hi]; exact h⟩
  · left
    rw [getD_app, if_neg (by simp; omega)]
    rw [show j - (C ++ C).length = 0 from by simp; omega]
    exact hx

end Go.Proofs.Ytdiphgkgehpgiaa
