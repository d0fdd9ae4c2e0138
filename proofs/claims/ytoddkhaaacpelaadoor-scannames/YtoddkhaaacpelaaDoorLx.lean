/- DERIVED. A region that is gone through in the order of the text, told by pairs of its operations: for regions of a hundred operations. -/
import Derived.BigQuiet
namespace Go.Proofs.YtoddkhaaacpelaaDoor

/-- each operation waits for earlier ones alone -/
def depsOk : Nat → List Oper → Bool
  | _, [] => true
  | k, o :: r => (o.after.all fun e => !Region.binds .any e || Nat.blt e.on k) && depsOk (k + 1) r
/-- each later operation waits for this one, or has nothing to do with it -/
def freeOk (ops : Array Oper) : Nat → List Oper → Bool
  | _, [] => true
  | k, o :: r => (r.all fun oj => (oj.after.any fun e => Region.binds .any e && e.on == k) || o.apart ops oj) && freeOk ops (k + 1) r
theorem depsOk_at : ∀ (l : List Oper) (k : Nat), depsOk k l = true → ∀ (j : Nat) (o : Oper), l[j]? = some o → (o.after.all fun e => !Region.binds .any e || Nat.blt e.on (k + j)) = true
  | [], _, _, j, o, h => by simp at h
  | x :: l, k, h, j, o, ho => by
    simp only [depsOk, Bool.and_eq_true] at h
    cases j with
    | zero =>
      simp at ho
      subst ho
      exact h.1
    | succ j =>
      have := depsOk_at l (k + 1) h.2 j o (by simpa using ho)
      rw [show k + 1 + j = k + (j + 1) by omega] at this
      exact this
theorem freeOk_at {ops : Array Oper} : ∀ (l : List Oper) (k : Nat), freeOk ops k l = true → ∀ (i j : Nat) (oi oj : Oper), i < j → l[i]? = some oi → l[j]? = some oj → ((oj.after.any fun e => Region.binds .any e && e.on == k + i) || oi.apart ops oj) = true
  | [], _, _, i, j, oi, oj, _, h, _ => by simp at h
  | x :: l, k, h, i, j, oi, oj, hij, hi, hj => by
    simp only [freeOk, Bool.and_eq_true] at h
    obtain ⟨j, rfl⟩ : ∃ m, j = m + 1 := ⟨j - 1, by omega⟩
    have hj' : l[j]? = some oj := by simpa using hj
    cases i with
    | zero =>
      simp at hi
      subst hi
      exact List.all_eq_true.1 h.1 oj (List.mem_of_getElem? hj')
    | succ i =>
      have := freeOk_at l (k + 1) h.2 i j oi oj (by omega) (by simpa using hi) hj'
      rw [show k + 1 + i = k + (i + 1) by omega] at this
      exact this
/-- the first k of n are listed -/
def Lst (n k : Nat) (L : Array Bool) : Prop := L.size = n ∧ ∀ i, i < n → L[i]? = some (decide (i < k))
theorem Lst.getD {n k : Nat} {L : Array Bool} (h : Lst n k L) (i : Nat) (hi : i < n) (b : Bool) : L.getD i b = decide (i < k) := by
  have := h.2 i hi
  rw [Array.getD_eq_getD_getElem?, this]; rfl
theorem Lst.set {n k : Nat} {L : Array Bool} (h : Lst n k L) : Lst n (k + 1) (L.setIfInBounds k true) := by
  refine ⟨by simp [h.1], fun i hi => ?_⟩
  rw [Array.getElem?_setIfInBounds, h.1]
  by_cases e : k = i
  · subst e; simp [hi]
  · rw [if_neg e, h.2 i hi]
    congr 1
    exact decide_eq_decide.2 (by omega)
theorem lexFrom_ok {l : List Oper} (hd : depsOk 0 l = true) (hf : freeOk l.toArray 0 l = true) : ∀ fuel k L, k + fuel = l.length → Lst l.length k L → Region.lexFrom .any l.toArray fuel k L = true
  | 0, k, L, hk, hL => by
    unfold Region.lexFrom Region.ready
    simp only [List.isEmpty_iff, List.filter_eq_nil_iff, List.mem_range]
    intro i hi
    have hi' : i < l.length := by simpa using hi
    have hg := hL.getD i hi' true
    have e : decide (i < k) = true := by simp; omega
    rw [e] at hg
    rw [hg]
    simp
  | fuel + 1, k, L, hk, hL => by
    have hkl : k < l.length := by omega
    obtain ⟨o, ho⟩ : ∃ o, l[k]? = some o := ⟨_, List.getElem?_eq_getElem hkl⟩
    unfold Region.lexFrom
    simp only [Bool.and_eq_true]
    refine ⟨⟨?_, ?_⟩, lexFrom_ok hd hf fuel (k + 1) _ (by omega) hL.set⟩
    · simp only [List.contains_iff_mem, Region.ready, List.mem_filter, List.mem_range, Bool.and_eq_true]
      refine ⟨by simpa using hkl, ?_, ?_⟩
      · have hg := hL.getD k hkl true
        rw [hg]; simp
      · rw [show l.toArray[k]? = some o by simpa using ho]
        simp only [Option.map_some, Option.getD_some, Array.all_eq_true_iff_forall_mem]
        have := depsOk_at l 0 hd k o ho
        rw [Array.all_eq_true_iff_forall_mem] at this
        intro e he
        have h1 := this e he
        rw [Nat.zero_add] at h1
        simp only [Bool.or_eq_true] at h1 ⊢
        rcases h1 with h1 | h1
        · exact Or.inl h1
        · have hlt : e.on < k := by rw [Nat.blt_eq] at h1; exact h1
          right
          have hg := hL.getD e.on (by omega) false
          rw [hg]; simp [hlt]
    · unfold Region.free
      rw [show l.toArray[k]? = some o by simpa using ho]
      simp only [List.all_eq_true, List.mem_range]
      intro j hj
      have hj' : j < l.length := by simpa using hj
      obtain ⟨oj, hoj⟩ : ∃ oj, l[j]? = some oj := ⟨_, List.getElem?_eq_getElem hj'⟩
      rw [show l.toArray[j]? = some oj by simpa using hoj]
      have hg := hL.getD j hj' true
      rw [hg]
      rcases Nat.lt_trichotomy j k with e | e | e
      · simp [e]
      · simp [e]
      · have := freeOk_at l 0 hf k j o oj e ho hoj
        rw [Nat.zero_add] at this
        simp only [Bool.or_eq_true] at this ⊢
        exact Or.inr this
/-- the kit's test of a region, by pairs -/
theorem lexB_ok {l : List Oper} (hs : Region.noSelect l.toArray = true) (hd : depsOk 0 l = true) (hf : freeOk l.toArray 0 l = true) : Region.lexB .any l.toArray = true := by
  unfold Region.lexB
  rw [hs, Bool.true_and]
  refine lexFrom_ok hd hf _ 0 _ (by simp) ⟨by simp, fun i hi => ?_⟩
  simp [hi]
theorem wp_region_quiet_pairs {P : Program} {id : Nat} {Q : Exit → Act → World → Prop} {a : Act} {w : World} {l : List Oper} (hm : P.follows .mixedOrders = true) (hs : Region.noSelect l.toArray = true) (hd : depsOk 0 l = true) (hf : freeOk l.toArray 0 l = true)
    (h : wpQuiet P l.toArray (fun w' => ∃ n, w' = w.drewN n) (fun a' => ∀ w', (∃ n, w' = w.drewN n) → Q .normal a' w') l a) : (Code.region id l.toArray true).wp P Q a w :=
  wp_region_quiet_lit hm (lexB_ok hs hd hf) h

end Go.Proofs.YtoddkhaaacpelaaDoor
