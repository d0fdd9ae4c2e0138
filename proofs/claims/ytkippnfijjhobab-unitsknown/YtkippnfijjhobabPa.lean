/- DERIVED. Streams of pieces as plain lists of bytes. -/
import Derived.Test.YtkippnfijjhobabTa
namespace Go.Proofs.Ytkippnfijjhobab

/-- the bytes of a leb -/
def lebA : Nat → Nat → List Nat
  | 0, v => [v]
  | f + 1, v => if v < 128 then [v] else (v % 128 + 128) :: lebA f (v / 128)
def lebB (v : Nat) : List Nat := lebA 4 v
theorem lebA_pos : ∀ f v, 0 < (lebA f v).length := by
  intro f v
  cases f with
  | zero => simp [lebA]
  | succ f => rw [lebA]; split <;> simp
theorem lebA_le : ∀ f v, (lebA f v).length ≤ f + 1 := by
  intro f
  induction f with
  | zero => intro v; simp [lebA]
  | succ f ih => intro v; rw [lebA]; split
                 · simp
                 · have := ih (v / 128); simp; omega
theorem lebB_len (v : Nat) : 0 < (lebB v).length ∧ (lebB v).length ≤ 5 := ⟨lebA_pos 4 v, lebA_le 4 v⟩
theorem lebGo_wv : ∀ f t V v ys, Wv ys t V → t % 8 = 0 → v < 16 * 128 ^ f → Wv (ys ++ lebA f v) (lebGo f t V v).1 (lebGo f t V v).2 := by
  intro f
  induction f with
  | zero =>
    intro t V v ys h h8 hv
    simp only [lebGo, lebA]
    exact h.push h8 v (by simp at hv; omega)
  | succ f ih =>
    intro t V v ys h h8 hv
    rw [lebGo, lebA]
    split
    · exact h.push h8 v (by omega)
    · have h2 := h.push h8 (v % 128 + 128) (by omega)
      have h3 := ih (t + 8) (V * 256 + (v % 128 + 128)) (v / 128) _ h2 (by omega) (by rw [Nat.pow_succ] at hv; omega)
      rw [List.append_assoc] at h3
      exact h3
theorem lebA_byt : ∀ f v, v < 16 * 128 ^ f → ∀ i, (lebA f v).getD i 0 < 256 := by
  intro f
  induction f with
  | zero => intro v hv i; simp at hv; cases i <;> simp [lebA]; omega
  | succ f ih =>
    intro v hv i
    rw [lebA]
    split
    · cases i <;> simp; omega
    · cases i with
      | zero => simp; omega
      | succ i => have := ih (v / 128) (by rw [Nat.pow_succ] at hv; omega) i; simpa using this
theorem getD_cons_succ (x : Nat) (l : List Nat) (i : Nat) : (x :: l).getD (i + 1) 0 = l.getD i 0 := by simp [List.getD_eq_getElem?_getD]
/-- what was written is read -/
theorem leb_there (zs : List Nat) : ∀ f i v a, i + f = 4 → v < 16 * 128 ^ f → (0 < i → v ≠ 0) → i + (lebA f v).length ≤ zs.length → (∀ j, j < (lebA f v).length → zs.getD (i + j) 0 = (lebA f v).getD j 0) →
    rLebFrom zs 0 0 (f + 1) i a = (a + v * 2 ^ (7 * i), 0, 8 * (i + (lebA f v).length)) := by
  intro f
  induction f with
  | zero =>
    intro i v a hi hv h0 hl hz
    have e0 := hz 0 (by simp [lebA])
    simp only [lebA, List.length_singleton] at *
    simp at e0 hv
    rw [rLebFrom, Nat.zero_add, if_neg (by omega), List.getD_eq_getElem?_getD, e0, if_neg (by omega), if_pos (by omega), Nat.mod_eq_of_lt (show v < 128 by omega)]
  | succ f ih =>
    intro i v a hi hv h0 hl hz
    rw [lebA] at hl hz ⊢
    by_cases h1 : v < 128
    · rw [if_pos h1] at hl hz ⊢
      have e0 := hz 0 (by simp)
      simp at e0 hl
      rw [rLebFrom, Nat.zero_add, if_neg (by omega), List.getD_eq_getElem?_getD, e0, if_neg (by omega), if_pos h1, Nat.mod_eq_of_lt h1]
      simp
    · rw [if_neg h1] at hl hz ⊢
      have e0 := hz 0 (by simp)
      simp at e0 hl
      rw [rLebFrom, Nat.zero_add, if_neg (by omega), List.getD_eq_getElem?_getD, e0, if_neg (by omega), if_neg (by omega)]
      have hp : v / 128 < 16 * 128 ^ f := by rw [Nat.pow_succ] at hv; omega
      rw [ih (i + 1) (v / 128) _ (by omega) hp (by omega) (by omega) (fun j hj => by
        have := hz (j + 1) (by simpa using hj)
        rw [getD_cons_succ] at this
        rw [show i + 1 + j = i + (j + 1) from by omega]; exact this)]
      have hm : (v % 128 + 128) % 128 = v % 128 := by omega
      rw [hm, List.length_cons]
      have e : v * 2 ^ (7 * i) = v % 128 * 2 ^ (7 * i) + v / 128 * 2 ^ (7 * (i + 1)) := by
        rw [show 7 * (i + 1) = 7 + 7 * i from by omega, Nat.pow_add, ← Nat.mul_assoc, ← Nat.add_mul]
        congr 1
        omega
      rw [e]
      simp only [Prod.mk.injEq, true_and]
      exact ⟨by omega, by omega⟩
/-- what is read was written so -/
theorem leb_back {zs : List Nat} (hz : ∀ i, zs.getD i 0 < 256) : ∀ f i a a' p, rLebFrom zs 0 0 (f + 1) i a = (a', 0, p) → i + f = 4 →
    ∃ v, a' = a + v * 2 ^ (7 * i) ∧ v < 16 * 128 ^ f ∧ p = 8 * (i + (lebA f v).length) ∧ i + (lebA f v).length ≤ zs.length ∧ (0 < i → v ≠ 0) ∧ ∀ j, j < (lebA f v).length → zs.getD (i + j) 0 = (lebA f v).getD j 0 := by
  intro f
  induction f with
  | zero =>
    intro i a a' p h hi
    rw [rLebFrom, Nat.zero_add] at h
    split at h
    · simp at h
    · split at h
      · simp at h
      · rename_i h1 h2
        split at h
        · rename_i h3
          simp only [Prod.mk.injEq, true_and] at h
          refine ⟨zs.getD i 0, ?_, ?_, ?_, ?_, ?_, ?_⟩
          · rw [← h.1, Nat.mod_eq_of_lt h3]
          · simp only [Nat.pow_zero]; omega
          · rw [← h.2]; simp [lebA]
          · simp [lebA]; omega
          · omega
          · intro j hj; simp [lebA] at hj; subst hj; simp [lebA]
        · rw [rLebFrom] at h; simp at h
  | succ f ih =>
    intro i a a' p h hi
    rw [rLebFrom, Nat.zero_add] at h
    split at h
    · simp at h
    · split at h
      · simp at h
      · rename_i h1 h2
        split at h
        · rename_i h3
          simp only [Prod.mk.injEq, true_and] at h
          have e : lebA (f + 1) (zs.getD i 0) = [zs.getD i 0] := by rw [lebA, if_pos h3]
          refine ⟨zs.getD i 0, ?_, ?_, ?_, ?_, ?_, ?_⟩
          · rw [← h.1, Nat.mod_eq_of_lt h3]
          · have := Nat.one_le_pow f 128 (by omega)
            rw [Nat.pow_succ]
            omega
          · rw [e, ← h.2]; simp
          · rw [e]; simp; omega
          · omega
          · intro j hj; rw [e] at hj ⊢; simp at hj; subst hj; simp
        · rename_i h3
          obtain ⟨v, k1, k2, k3, k4, k5, k6⟩ := ih (i + 1) _ a' p h (by omega)
          have hb := hz i
          have k5' := k5 (by omega)
          have hm : (zs.getD i 0 % 128 + 128 * v) % 128 + 128 = zs.getD i 0 := by omega
          have hd : (zs.getD i 0 % 128 + 128 * v) / 128 = v := by omega
          have e : lebA (f + 1) (zs.getD i 0 % 128 + 128 * v) = zs.getD i 0 :: lebA f v := by rw [lebA, if_neg (by omega), hm, hd]
          refine ⟨zs.getD i 0 % 128 + 128 * v, ?_, ?_, ?_, ?_, ?_, ?_⟩
          · rw [k1, show 7 * (i + 1) = 7 + 7 * i from by omega, Nat.pow_add, Nat.add_mul, Nat.mul_comm 128 v, Nat.mul_assoc v 128, show (2 : Nat) ^ 7 = 128 from rfl]
            omega
          · rw [Nat.pow_succ]; omega
          · rw [e, k3, List.length_cons]; omega
          · rw [e, List.length_cons]; omega
          · omega
          · intro j hj
            rw [e] at hj ⊢
            cases j with
            | zero => simp
            | succ j => rw [getD_cons_succ, ← k6 j (by simpa using hj)]; congr 1; omega
/-- what is cut off within a leb -/
theorem leb_cut (zs : List Nat) : ∀ f i v a, i + f = 4 → v < 16 * 128 ^ f → (0 < i → v ≠ 0) → i ≤ zs.length → zs.length < i + (lebA f v).length → (∀ j, i + j < zs.length → zs.getD (i + j) 0 = (lebA f v).getD j 0) →
    rLebFrom zs 0 0 (f + 1) i a = (0, 3, 0) := by
  intro f
  induction f with
  | zero =>
    intro i v a hi hv h0 hl hz he
    simp [lebA] at hz
    rw [rLebFrom, Nat.zero_add, if_pos (by omega)]
  | succ f ih =>
    intro i v a hi hv h0 hl hz he
    rw [rLebFrom, Nat.zero_add]
    by_cases hil : zs.length ≤ i
    · rw [if_pos hil]
    · rw [if_neg hil]
      rw [lebA] at hz he
      by_cases h1 : v < 128
      · rw [if_pos h1] at hz; simp at hz; omega
      · rw [if_neg h1] at hz he
        have e0 := he 0 (by omega)
        simp at e0 hz
        rw [List.getD_eq_getElem?_getD, e0, if_neg (by omega), if_neg (by omega)]
        have hp : v / 128 < 16 * 128 ^ f := by rw [Nat.pow_succ] at hv; omega
        exact ih (i + 1) (v / 128) _ (by omega) hp (by omega) (by omega) (by omega) (fun j hj => by
          have := he (j + 1) (by omega)
          rw [getD_cons_succ] at this
          rw [show i + 1 + j = i + (j + 1) from by omega]; exact this)
theorem getD_app_l (A B : List Nat) (j : Nat) (h : j < A.length) : (A ++ B).getD j 0 = A.getD j 0 := by
  rw [List.getD_eq_getElem?_getD, List.getD_eq_getElem?_getD, List.getElem?_append_left h]
theorem leb_read (v : Nat) (hv : v < 4294967296) (R : List Nat) : rLeb ((lebB v ++ R).take 5) 0 = (v, 0, 8 * (lebB v).length) := by
  have hl := lebB_len v
  have := leb_there ((lebB v ++ R).take 5) 4 0 v 0 rfl (by omega) (by omega) (by rw [List.length_take, List.length_append, Nat.zero_add]; show (lebB v).length ≤ _; omega) (fun j hj => by
    have hj' : j < (lebB v).length := hj
    rw [Nat.zero_add, getD_take _ _ _ (by omega), getD_app_l _ _ _ hj']; rfl)
  rw [rLeb, if_pos (by omega), this]
  simp [lebB]
theorem leb_trunc (v : Nat) (hv : v < 4294967296) (k : Nat) (hk : k < (lebB v).length) : rLeb (((lebB v).take k).take 5) 0 = (0, 3, 0) := by
  have hl := lebB_len v
  have hlen : (((lebB v).take k).take 5).length = k := by rw [List.length_take, List.length_take]; omega
  have := leb_cut (((lebB v).take k).take 5) 4 0 v 0 rfl (by omega) (by omega) (by omega) (by rw [hlen, Nat.zero_add]; exact hk) (fun j hj => by
    rw [hlen] at hj
    rw [getD_take _ _ _ (by omega), getD_take _ _ _ (by omega), Nat.zero_add]; rfl)
  rw [rLeb, if_pos (by omega), this]
theorem leb_is {zs : List Nat} (hz : ∀ i, zs.getD i 0 < 256) {v p : Nat} (h : rLeb zs 0 = (v, 0, p)) : v < 4294967296 ∧ p = 8 * (lebB v).length ∧ (lebB v).length ≤ zs.length ∧ zs.take (lebB v).length = lebB v := by
  rw [rLeb, if_pos (by omega)] at h
  obtain ⟨u, k1, k2, k3, k4, _, k6⟩ := leb_back hz 4 0 0 v p h rfl
  obtain rfl : v = u := by simpa using k1
  refine ⟨by omega, by rw [k3, Nat.zero_add]; rfl, by rw [Nat.zero_add] at k4; exact k4, ?_⟩
  have hl : (zs.take (lebB v).length).length = (lebB v).length := by rw [List.length_take]; rw [Nat.zero_add] at k4; exact Nat.min_eq_left k4
  refine list_eq_of_getD hl fun j hj => ?_
  rw [hl] at hj
  rw [getD_take _ _ _ hj]
  have := k6 j hj
  rw [Nat.zero_add] at this
  exact this

/-! ### pieces -/
/-- is there a piece at the front? (error, bytes ahead of the body, bytes of the body) -/
def pick (b : List Nat) : Nat × Nat × Nat :=
  if ¬ (b.getD 0 0 = 16 ∨ b.getD 0 0 = 32 ∨ b.getD 0 0 = 48) then (4, 0, 0)
  else if (rLeb ((b.drop 1).take 5) 0).2.1 ≠ 0 then ((rLeb ((b.drop 1).take 5) 0).2.1, 0, 0)
  else if 16777216 < (rLeb ((b.drop 1).take 5) 0).1 then (5, 0, 0)
  else if b.length - (1 + (rLeb ((b.drop 1).take 5) 0).2.2 / 8) < (rLeb ((b.drop 1).take 5) 0).1 then (3, 0, 0)
  else (0, 1 + (rLeb ((b.drop 1).take 5) 0).2.2 / 8, (rLeb ((b.drop 1).take 5) 0).1)
def pc (b : List Nat) (m s : Nat) : Pc := ((b.getD 0 0 / 16 : Nat), (b.drop m).take s)
/-- the pieces of bytes, the place behind them, the error -/
def cutS : Nat → List Nat → Nat → List Pc × Nat × Nat
  | 0, _, q => ([], q, 0)
  | f + 1, b, q =>
    if b = [] then ([], q, 0)
    else if (pick b).1 ≠ 0 then ([], q, (pick b).1)
    else (pc b (pick b).2.1 (pick b).2.2 :: (cutS f (b.drop ((pick b).2.1 + (pick b).2.2)) (q + (pick b).2.1 + (pick b).2.2)).1, (cutS f (b.drop ((pick b).2.1 + (pick b).2.2)) (q + (pick b).2.1 + (pick b).2.2)).2)
def splitP (b : List Nat) : List Pc × Nat × Nat := cutS b.length b 0
/-- a piece's bytes -/
def pcB (p : Pc) : List Nat := (16 * p.1).toNat :: (lebB p.2.length ++ p.2)
def tyB (t : Int) : Bool := decide (t = 1 ∨ t = 2 ∨ t = 3)
def okP (p : Pc) : Prop := tyB p.1 = true ∧ p.2.length ≤ 16777216
/-- the pieces put together: bytes, error -/
def joinP : List Pc → List Nat → List Nat × Nat
  | [], acc => (acc, 0)
  | p :: P, acc => if tyB p.1 = false then ([], 2) else if 16777216 < p.2.length then ([], 5) else joinP P (acc ++ pcB p)
theorem rLebFrom_zero (zs : List Nat) : ∀ f i a, (rLebFrom zs 0 0 f i a).2.1 ≠ 0 → (rLebFrom zs 0 0 f i a).1 = 0 ∧ (rLebFrom zs 0 0 f i a).2.2 = 0 ∧ ((rLebFrom zs 0 0 f i a).2.1 = 3 ∨ (rLebFrom zs 0 0 f i a).2.1 = 4) := by
  intro f
  induction f with
  | zero => intro i a _; simp [rLebFrom]
  | succ f ih =>
    intro i a
    rw [rLebFrom]
    split
    · intro _; simp
    · split
      · intro _; simp
      · split
        · intro h; simp at h
        · exact ih _ _
theorem rLeb_zero (zs : List Nat) (h : (rLeb zs 0).2.1 ≠ 0) : (rLeb zs 0).1 = 0 ∧ (rLeb zs 0).2.2 = 0 ∧ ((rLeb zs 0).2.1 = 3 ∨ (rLeb zs 0).2.1 = 4) := by
  have e : rLeb zs 0 = rLebFrom zs 0 0 5 0 0 := by rw [rLeb, if_pos (by omega)]
  rw [e] at h ⊢
  exact rLebFrom_zero zs 5 0 0 h
theorem trip {x : Nat × Nat × Nat} (h : x.2.1 = 0) : x = (x.1, 0, x.2.2) := by obtain ⟨a, b, c⟩ := x; simp only at h; rw [h]
theorem tyB_iff (t : Int) : tyB t = true ↔ t = 1 ∨ t = 2 ∨ t = 3 := decide_eq_true_iff
/-- of the number of a body's bytes -/
theorem rLeb_says {zs : List Nat} (hz : ∀ i, zs.getD i 0 < 256) : (rLeb zs 0).1 < 4294967296 ∧ (rLeb zs 0).2.2 % 8 = 0 ∧ (rLeb zs 0).2.2 / 8 ≤ zs.length ∧ (rLeb zs 0).2.1 ≤ 4 := by
  by_cases h : (rLeb zs 0).2.1 = 0
  · have := leb_is hz (v := (rLeb zs 0).1) (p := (rLeb zs 0).2.2) (trip h)
    obtain ⟨h1, h2, h3, _⟩ := this
    rw [h2, h]
    exact ⟨h1, by omega, by omega, by omega⟩
  · obtain ⟨h1, h2, h3⟩ := rLeb_zero zs h
    rw [h1, h2]
    exact ⟨by omega, by omega, by omega, by omega⟩
theorem pick_ok {b : List Nat} (h0 : b ≠ []) (hz : ∀ i, b.getD i 0 < 256) (h : (pick b).1 = 0) :
    ∃ n, (b.getD 0 0 = 16 ∨ b.getD 0 0 = 32 ∨ b.getD 0 0 = 48) ∧ n ≤ 16777216 ∧ pick b = (0, 1 + (lebB n).length, n) ∧ 1 + (lebB n).length + n ≤ b.length ∧ (b.drop 1).take (lebB n).length = lebB n := by
  unfold pick at h ⊢
  split at h
  · simp at h
  · rename_i h1
    split at h
    · rename_i h2; exact absurd h h2
    · rename_i h2
      split at h
      · simp at h
      · rename_i h3
        split at h
        · simp at h
        · rename_i h4
          rw [if_neg h1, if_neg h2, if_neg h3, if_neg h4]
          simp only [ne_eq, Classical.not_not] at h2
          have hz' : ∀ i, ((b.drop 1).take 5).getD i 0 < 256 := by
            intro i
            by_cases hi : i < 5
            · rw [getD_take _ _ _ hi, getD_drop]; exact hz _
            · rw [List.getD_eq_getElem?_getD, List.getElem?_eq_none (by rw [List.length_take]; omega)]; simp
          obtain ⟨k1, k2, k3, k4⟩ := leb_is hz' (v := (rLeb ((b.drop 1).take 5) 0).1) (p := (rLeb ((b.drop 1).take 5) 0).2.2) (trip h2)
          generalize (rLeb ((b.drop 1).take 5) 0).1 = n at *
          generalize (rLeb ((b.drop 1).take 5) 0).2.2 = p at *
          have hl := lebB_len n
          rw [List.length_take, List.length_drop] at k3
          have hp8 : p / 8 = (lebB n).length := by omega
          have hbl : 0 < b.length := List.length_pos_iff.2 h0
          refine ⟨n, Classical.not_not.1 h1, by omega, by rw [hp8], by rw [hp8] at h4; omega, ?_⟩
          rw [List.take_take, Nat.min_eq_left (by omega)] at k4
          exact k4
/-- a piece at the front is as it would be written -/
theorem pick_front {b : List Nat} (h0 : b ≠ []) (hz : ∀ i, b.getD i 0 < 256) (h : (pick b).1 = 0) :
    okP (pc b (pick b).2.1 (pick b).2.2) ∧ b.take ((pick b).2.1 + (pick b).2.2) = pcB (pc b (pick b).2.1 (pick b).2.2) ∧ 2 ≤ (pick b).2.1 ∧ (pick b).2.1 + (pick b).2.2 ≤ b.length ∧ (pc b (pick b).2.1 (pick b).2.2).2.length = (pick b).2.2 := by
  obtain ⟨n, h1, h2, h3, h4, h5⟩ := pick_ok h0 hz h
  rw [h3]
  have hl := lebB_len n
  have hlen : ((b.drop (1 + (lebB n).length)).take n).length = n := by rw [List.length_take, List.length_drop]; omega
  refine ⟨⟨?_, ?_⟩, ?_, ?_, ?_, ?_⟩
  · refine (tyB_iff _).2 ?_
    simp only [pc]
    omega
  · simp only [pc]; rw [hlen]; exact h2
  · simp only [pc, pcB]
    rw [hlen]
    cases b with
    | nil => exact absurd rfl h0
    | cons x t =>
      have e1 : (16 * (((x :: t).getD 0 0 / 16 : Nat) : Int)).toNat = x := by
        rcases h1 with e | e | e <;> (rw [show (x :: t).getD 0 0 = x from rfl] at e ⊢; subst e; rfl)
      rw [e1]
      simp only [List.drop_succ_cons, List.drop_zero] at h5
      rw [show 1 + (lebB n).length + n = (lebB n).length + n + 1 from by omega, List.take_succ_cons, show 1 + (lebB n).length = (lebB n).length + 1 from by omega, List.drop_succ_cons, List.take_add, h5]
  · show 2 ≤ 1 + (lebB n).length
    omega
  · show 1 + (lebB n).length + n ≤ b.length
    omega
  · simp only [pc]; exact hlen
/-- what was written stands at the front -/
theorem pick_pcB {p : Pc} (hp : okP p) (R : List Nat) : pick (pcB p ++ R) = (0, 1 + (lebB p.2.length).length, p.2.length) ∧ pc (pcB p ++ R) (1 + (lebB p.2.length).length) p.2.length = p ∧ (pcB p).length = 1 + (lebB p.2.length).length + p.2.length := by
  obtain ⟨h1, h2⟩ := hp
  obtain ⟨t, C⟩ := p
  simp only at h1 h2
  have ht : t = 1 ∨ t = 2 ∨ t = 3 := (tyB_iff t).1 h1
  have e0 : (pcB (t, C) ++ R).getD 0 0 = (16 * t).toNat := by simp [pcB]
  have e1 : (pcB (t, C) ++ R).drop 1 = lebB C.length ++ (C ++ R) := by simp [pcB]
  have e2 : rLeb (((pcB (t, C) ++ R).drop 1).take 5) 0 = (C.length, 0, 8 * (lebB C.length).length) := by rw [e1]; exact leb_read C.length (by omega) _
  have e3 : (pcB (t, C)).length = 1 + (lebB C.length).length + C.length := by simp [pcB]; omega
  refine ⟨?_, ?_, e3⟩
  · unfold pick
    rw [e2, e0, if_neg (by rcases ht with rfl | rfl | rfl <;> simp), if_neg (by simp), if_neg (by simp; omega), if_neg (by
      simp only [List.length_append, e3]
      omega)]
    simp only [Prod.mk.injEq, true_and, and_true]
    omega
  · unfold pc
    rw [e0]
    have e4 : (pcB (t, C) ++ R).drop (1 + (lebB C.length).length) = C ++ R := by
      rw [← List.drop_drop, e1, List.drop_left]
    rw [e4, List.take_left]
    rcases ht with rfl | rfl | rfl <;> rfl
end Go.Proofs.Ytkippnfijjhobab
