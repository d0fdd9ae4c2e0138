/- DERIVED. cover. -/
import Derived.Test.YtjijgeeejhijhaaBb
import Derived.Test.YtjijgeeejhijhaaEa
import Derived.Test.YtjijgeeejhijhaaEb
import Derived.Deep.MidRow
namespace Go.Proofs.Ytjijgeeejhijhaa
open Go.RowKit

/-- 64 numbers by a function -/
def tf (f : Nat → Int) : List Int := (List.range 64).map f
theorem tf_len (f : Nat → Int) : (tf f).length = 64 := by simp [tf]
theorem tf_get (f : Nat → Int) {j : Nat} (h : j < 64) : (tf f).getD j 0 = f j := by
  rw [List.getD_eq_getElem?_getD]
  simp [tf, h]
theorem tf_eq {f g : Nat → Int} (h : ∀ j, j < 64 → f j = g j) : tf f = tf g := ext_getD (by rw [tf_len, tf_len]) fun j hj => by
  rw [tf_len] at hj
  rw [tf_get _ hj, tf_get _ hj, h j hj]
theorem tf_set {f g : Nat → Int} {k : Nat} (hk : k < 64) {v : Int} (hv : g k = v) (h : ∀ j, j < 64 → j ≠ k → g j = f j) : (tf f).set k v = tf g := ext_getD (by rw [List.length_set, tf_len, tf_len]) fun j hj => by
  rw [List.length_set, tf_len] at hj
  rw [getD_set _ _ _ _ (by rw [tf_len]; exact hk), tf_get _ hj]
  by_cases e : k = j
  · subst e; rw [if_pos rfl, tf_get _ hk, hv]
  · rw [if_neg e, tf_get _ hj, h j hj (fun q => e q.symm)]
/-- how often each cell is covered -/
def cvF (M : List Rc) (X Y : Int) (j : Nat) : Int := (cnt M (X + 8 * ((j % 8 : Nat) : Int)) (Y + 8 * ((j / 8 : Nat) : Int)) : Int)
def bx (c c' d d' : Nat) (j : Nat) : Int := if c ≤ j / 8 ∧ j / 8 < c' ∧ d ≤ j % 8 ∧ j % 8 < d' then 1 else 0
theorem cvF_cons {M : List Rc} {X Y px py pw ph : Int} {c ch d dw : Nat} (h1 : py - Y = 8 * (c : Int)) (h2 : ph = 8 * (ch : Int)) (h3 : px - X = 8 * (d : Int)) (h4 : pw = 8 * (dw : Int)) (j : Nat) :
    cvF (M ++ [(px, py, pw, ph)]) X Y j = cvF M X Y j + bx c (c + ch) d (d + dw) j := by
  unfold cvF
  rw [cnt_app, cnt_cons, cnt_nil, Nat.add_zero, Int.natCast_add]
  congr 1
  unfold inn bx
  simp only
  by_cases h : c ≤ j / 8 ∧ j / 8 < c + ch ∧ d ≤ j % 8 ∧ j % 8 < d + dw
  · rw [if_pos h, if_pos (by omega)]; rfl
  · rw [if_neg h, if_neg (by omega)]; rfl
theorem bx_none (c d d' : Nat) (j : Nat) : bx c c d d' j = 0 := by unfold bx; rw [if_neg (by omega)]
theorem bx_row (c k d d' : Nat) (hk : c ≤ k) (j : Nat) : bx c k d d' j + bx k (k + 1) d d' j = bx c (k + 1) d d' j := by
  unfold bx
  by_cases h1 : c ≤ j / 8 ∧ j / 8 < k ∧ d ≤ j % 8 ∧ j % 8 < d'
  · rw [if_pos h1, if_neg (by omega), if_pos (by omega)]; rfl
  · by_cases h2 : k ≤ j / 8 ∧ j / 8 < k + 1 ∧ d ≤ j % 8 ∧ j % 8 < d'
    · rw [if_neg h1, if_pos h2, if_pos (by omega)]; rfl
    · rw [if_neg h1, if_neg h2, if_neg (by omega)]; rfl
theorem bx_cell {k m d : Nat} (hd : d ≤ m) (hm : m < 8) (j : Nat) : bx k (k + 1) d (m + 1) j = if j = k * 8 + m then 1 else bx k (k + 1) d m j := by
  unfold bx
  by_cases e : j = k * 8 + m
  · rw [if_pos e, if_pos (by omega)]
  · rw [if_neg e]
    by_cases h2 : k ≤ j / 8 ∧ j / 8 < k + 1 ∧ d ≤ j % 8 ∧ j % 8 < m
    · rw [if_pos h2, if_pos (by omega)]
    · rw [if_neg h2, if_neg (by omega)]
theorem bx_col0 (k d : Nat) (j : Nat) : bx k (k + 1) d d j = 0 := by unfold bx; rw [if_neg (by omega)]
theorem bx_at {k m d : Nat} : bx k (k + 1) d m (k * 8 + m) = 0 := by unfold bx; rw [if_neg (by omega)]

theorem heap_alloc_at {w : World} {o : Obj} {g : Nat} (h : w.heap.size = g) : (w.alloc o).heap[g]? = some o := by subst h; exact heap_alloc_new w o
theorem Try.alloc41 (u : World) : (Instr.alloc 41 true (.tuple #[])).run Try.prog u = .ok (.pointer (some ⟨u.heap.size, 0, none⟩)) (u.alloc (.cells (is (List.replicate 64 0)).toArray 41)) := by kernel_rfl
theorem Try.info41 : (Try.prog.info? 41).map (·.size) = some 64 := by kernel_rfl
theorem ri_range {t : Nat} {w : World} {g : Nat} {C : List Int} (h : Ri t w g C) : w.rangeAt g 0 (is C) := fun j v hv => by
  have hj : j < C.length := by have := List.getElem?_eq_some_iff.1 hv; obtain ⟨h1, _⟩ := this; rw [is_length] at h1; exact h1
  rw [is_get C j hj] at hv
  rw [Nat.zero_add, ← hv]
  exact h.cell j hj
theorem ri_there {t : Nat} {w : World} {g : Nat} {C : List Int} (h : Ri t w g C) : w.there g 0 C.length := fun j hj => by
  rw [Nat.zero_add]
  exact ⟨by rw [h.cell j hj]; rfl, h.thaw j⟩
/-- a row of 64 that is read -/
theorem load41 {w : World} {g : Nat} {C : List Int} (h : Ri 41 w g C) (hl : C.length = 64) : (Instr.loadAt 41 (.pointer (some ⟨g, 0, none⟩))).run Try.prog w = .ok (.agg (is C).toArray) w :=
  run_loadAt_mid w g 0 41 (is C) _ (ri_range h) Try.underlying41 rfl (by rw [Try.info41, is_length, hl])
theorem loadv41 {w : World} {g : Nat} {C : List Int} (h : Ri 41 w g C) (hl : C.length = 64) : (loadVar 41 ⟨g, 0, none⟩).run Try.prog w = .ok (.agg (is C).toArray) w :=
  run_loadVar_mid w g 0 41 (is C) _ (ri_range h) Try.underlying41 rfl (by rw [Try.info41, is_length, hl])
theorem setCells_is {t : Nat} (g : Nat) : ∀ (D C : List Int) (o : Nat) (w : World), Ri t w g C → o + D.length ≤ C.length → Ri t (w.setCells g o (is D)) g (C.take o ++ D ++ C.drop (o + D.length)) ∧ (∀ i, i ≠ g → (w.setCells g o (is D)).heap[i]? = w.heap[i]?) ∧ (w.setCells g o (is D)).os = w.os ∧ (w.setCells g o (is D)).tape = w.tape ∧ (w.setCells g o (is D)).output = w.output ∧ (w.setCells g o (is D)).heap.size = w.heap.size
  | [], C, o, w, h, _ => by
    refine ⟨?_, fun i _ => rfl, rfl, rfl, rfl, rfl⟩
    simpa [World.setCells, is] using h
  | x :: D, C, o, w, h, hl => by
    have h1 := h.set o x
    obtain ⟨a, b, c, d, e, f⟩ := setCells_is g D (C.set o x) (o + 1) _ h1 (by simp only [List.length_set, List.length_cons] at *; omega)
    have e0 : w.setCells g o (is (x :: D)) = (w.setCell ⟨g, o, none⟩ (.int .i64 x)).setCells g (o + 1) (is D) := rfl
    rw [e0]
    refine ⟨?_, fun i hi => ?_, ?_, ?_, ?_, ?_⟩
    · have : (C.set o x).take (o + 1) ++ D ++ (C.set o x).drop (o + 1 + D.length) = C.take o ++ (x :: D) ++ C.drop (o + (x :: D).length) := by
        have ho : o < C.length := by simp only [List.length_cons] at hl; omega
        rw [List.take_succ_eq_append_getElem (by simpa using ho), List.getElem_set_self]
        rw [List.take_set_of_le (Nat.le_refl _), List.drop_set_of_lt (by omega)]
        simp [List.append_assoc, Nat.add_assoc, Nat.add_comm 1]
      rw [← this]; exact a
    · rw [b i hi]; exact Below.heap_setCell _ _ _ _ (fun q => hi q)
    · rw [c]; simp [World.setCell]
    · rw [d]; simp [World.setCell]
    · rw [e]; simp [World.setCell]
    · rw [f]; simp
/-- a row of 64 that is written whole -/
theorem store41 {w : World} {g : Nat} {C D : List Int} (h : Ri 41 w g C) (hc : C.length = 64) (hd : D.length = 64) : ∃ w', (Instr.storeAt 41 (.pointer (some ⟨g, 0, none⟩)) (.agg (is D).toArray)).run Try.prog w = .ok () w' ∧ Ri 41 w' g D ∧ (∀ i, i ≠ g → w'.heap[i]? = w.heap[i]?) ∧ w'.os = w.os ∧ w'.tape = w.tape ∧ w'.output = w.output ∧ w'.heap.size = w.heap.size := by
  have hs : (is D).toArray.size = 64 := by simp [is_length, hd]
  have hr := run_storeAt_mid (P := Try.prog) w g 0 41 (is D).toArray (by rw [hs, ← hc]; exact ri_there h) (by rw [Try.info41, hs]) (all_oneCell_toArray (is_one D))
  obtain ⟨a, b, c, d, e, f⟩ := setCells_is g D C 0 w h (by omega)
  refine ⟨_, hr, ?_, b, c, d, e, f⟩
  have : C.take 0 ++ D ++ C.drop (0 + D.length) = D := by rw [List.drop_eq_nil_of_le (by omega)]; simp
  rw [this] at a
  exact a
end Go.Proofs.Ytjijgeeejhijhaa
