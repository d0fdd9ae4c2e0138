/- DERIVED. Rows of rectangles in memory. -/
import Derived.Test.YtjijgeeejhijhaaGc
import Derived.Test.YtjijgeeejhijhaaBa
namespace Go.Proofs.Ytjijgeeejhijhaa
open Go.RowKit

def rz : Rc := (0, 0, 0, 0)
/-- a number of a rectangle -/
def cp : Nat → Rc → Int
  | 0, r => r.1
  | 1, r => r.2.1
  | 2, r => r.2.2.1
  | _, r => r.2.2.2
/-- rectangles, as cells -/
def rs (L : List Rc) : List Value := (List.range (L.length * 4)).map fun j => .int .i64 (cp (j % 4) (L.getD (j / 4) rz))
theorem rs_length (L : List Rc) : (rs L).length = L.length * 4 := by simp [rs]
theorem rs_at (L : List Rc) (j : Nat) (h : j < L.length * 4) : (rs L)[j]? = some (.int .i64 (cp (j % 4) (L.getD (j / 4) rz))) := by simp [rs, h]
theorem rs_one (L : List Rc) : ∀ u ∈ rs L, u.oneCell' = true := by
  intro u hu
  obtain ⟨z, _, rfl⟩ := List.mem_map.1 hu
  rfl
theorem getD_app_l {A B : List Rc} {j : Nat} (h : j < A.length) : (A ++ B).getD j rz = A.getD j rz := by
  rw [List.getD_eq_getElem?_getD, List.getD_eq_getElem?_getD, List.getElem?_append_left h]
theorem getD_app_r {A B : List Rc} {j : Nat} (h : A.length ≤ j) : (A ++ B).getD j rz = B.getD (j - A.length) rz := by
  rw [List.getD_eq_getElem?_getD, List.getD_eq_getElem?_getD, List.getElem?_append_right h]
theorem rs_append (A B : List Rc) : rs (A ++ B) = rs A ++ rs B := by
  refine List.ext_getElem? fun j => ?_
  by_cases h : j < (A.length + B.length) * 4
  · rw [rs_at _ _ (by simpa using h)]
    by_cases h1 : j < A.length * 4
    · rw [List.getElem?_append_left (by rw [rs_length]; exact h1), rs_at _ _ h1, getD_app_l (by omega)]
    · rw [List.getElem?_append_right (by rw [rs_length]; omega), rs_length, rs_at _ _ (by omega), getD_app_r (by omega)]
      rw [show (j - A.length * 4) % 4 = j % 4 from by omega, show (j - A.length * 4) / 4 = j / 4 - A.length from by omega]
  · rw [List.getElem?_eq_none (by rw [rs_length]; simp; omega), List.getElem?_eq_none (by simp [rs_length]; omega)]
theorem ext_rc {C D : List Rc} (hl : C.length = D.length) (h : ∀ j, j < C.length → C.getD j rz = D.getD j rz) : C = D := by
  refine List.ext_getElem hl fun j h1 h2 => ?_
  have := h j h1
  simpa [List.getD_eq_getElem?_getD, List.getElem?_eq_getElem h1, List.getElem?_eq_getElem h2] using this
/-- a row of rectangles, alone in its block -/
structure Hr (w : World) (g : Nat) (C : List Rc) : Prop where
  heap : w.heap[g]? = some (.cells (rs C).toArray 23 (0, 0))
theorem Hr.lt {w : World} {g : Nat} {C : List Rc} (h : Hr w g C) : g < w.heap.size := (Array.getElem?_eq_some_iff.1 h.heap).1
theorem Hr.cell {w : World} {g : Nat} {C : List Rc} (h : Hr w g C) (j : Nat) (hj : j < C.length * 4) : w.cell? ⟨g, j, none⟩ = some (.int .i64 (cp (j % 4) (C.getD (j / 4) rz))) := by
  simp only [World.cell?, h.heap]
  have := rs_at C j hj
  simpa using this
theorem Hr.thaw {w : World} {g : Nat} {C : List Rc} (h : Hr w g C) (j : Nat) : w.frozen? ⟨g, j, none⟩ = false := by simp [World.frozen?, h.heap]
theorem Hr.carry {w w' : World} {g : Nat} {C : List Rc} (h : Hr w g C) (hb : w'.heap[g]? = w.heap[g]?) : Hr w' g C := ⟨by rw [hb]; exact h.heap⟩
theorem Hr.below {w w' : World} {g B : Nat} {C : List Rc} (h : Hr w g C) (hb : Below B w w') (hg : g < B) : Hr w' g C := h.carry (hb.block g hg)
theorem Hr.to {w w' : World} {g : Nat} {C : List Rc} (h : Hr w g C) (hb : Below w.heap.size w w') : Hr w' g C := h.below hb h.lt
theorem Hr.drew {w : World} {g : Nat} {C : List Rc} (h : Hr w g C) : Hr w.drew g C := ⟨h.heap⟩
theorem Hr.far {w : World} {g : Nat} {C : List Rc} (h : Hr w g C) {a : Addr} (ha : g ≠ a.block) (u : Value) : Hr (w.setCell a u) g C := h.carry (Below.heap_setCell _ _ _ _ (fun e => ha (by rw [e])))
theorem heap_set {w : World} {g t : Nat} {xs : List Value} (h : w.heap[g]? = some (.cells xs.toArray t (0, 0))) (k : Nat) (v : Value) : (w.setCell ⟨g, k, none⟩ v).heap[g]? = some (.cells (xs.set k v).toArray t (0, 0)) := by
  rw [setCell_eq_setRow w g k _ _ _ _ h, setRow_heap w g _ _ _ _ h]
  simp
theorem rs_set (C : List Rc) (k : Nat) (r : Rc) : rs (C.set k r) = ((((rs C).set (k * 4) (.int .i64 r.1)).set (k * 4 + 1) (.int .i64 r.2.1)).set (k * 4 + 2) (.int .i64 r.2.2.1)).set (k * 4 + 3) (.int .i64 r.2.2.2) := by
  refine List.ext_getElem? fun j => ?_
  by_cases h : j < C.length * 4
  · rw [rs_at _ _ (by simpa using h)]
    simp only [List.getElem?_set, List.length_set, rs_length]
    have hd : (C.set k r).getD (j / 4) rz = if k = j / 4 then r else C.getD (j / 4) rz := by
      rw [List.getD_eq_getElem?_getD, List.getD_eq_getElem?_getD, List.getElem?_set]
      by_cases e : k = j / 4
      · rw [if_pos e, if_pos e, if_pos (by omega)]; rfl
      · rw [if_neg e, if_neg e]
    rw [hd]
    by_cases e : k = j / 4
    · rw [if_pos e]
      have h4 : j % 4 = 0 ∨ j % 4 = 1 ∨ j % 4 = 2 ∨ j % 4 = 3 := by omega
      rcases h4 with e4 | e4 | e4 | e4
      · rw [if_neg (by omega), if_neg (by omega), if_neg (by omega), if_pos (by omega), if_pos (by omega), e4]; rfl
      · rw [if_neg (by omega), if_neg (by omega), if_pos (by omega), if_pos (by omega), e4]; rfl
      · rw [if_neg (by omega), if_pos (by omega), if_pos (by omega), e4]; rfl
      · rw [if_pos (by omega), if_pos (by omega), e4]; rfl
    · rw [if_neg e, if_neg (by omega), if_neg (by omega), if_neg (by omega), if_neg (by omega), rs_at _ _ h]
  · rw [List.getElem?_eq_none (by rw [rs_length]; simp; omega), List.getElem?_eq_none (by simp [rs_length]; omega)]
theorem Hr.set {w : World} {g : Nat} {C : List Rc} (h : Hr w g C) (k : Nat) (r : Rc) : Hr ((((w.setCell ⟨g, k * 4, none⟩ (.int .i64 r.1)).setCell ⟨g, k * 4 + 1, none⟩ (.int .i64 r.2.1)).setCell ⟨g, k * 4 + 2, none⟩ (.int .i64 r.2.2.1)).setCell ⟨g, k * 4 + 3, none⟩ (.int .i64 r.2.2.2)) g (C.set k r) :=
  ⟨by rw [rs_set]; exact heap_set (heap_set (heap_set (heap_set h.heap _ _) _ _) _ _) _ _⟩
theorem Hr.lit (w : World) (C : List Rc) {g : Nat} {cs : Array Value} (hg : w.heap.size = g) (h : cs = (rs C).toArray) : Hr (w.alloc (.cells cs 23)) g C := by subst hg h; exact ⟨heap_alloc_new w _⟩
/-- the cells of one of a row's rectangles -/
structure Cl4 (w : World) (b o : Nat) (r : Rc) : Prop where
  c0 : w.cell? ⟨b, o, none⟩ = some (.int .i64 r.1)
  c1 : w.cell? ⟨b, o + 1, none⟩ = some (.int .i64 r.2.1)
  c2 : w.cell? ⟨b, o + 2, none⟩ = some (.int .i64 r.2.2.1)
  c3 : w.cell? ⟨b, o + 3, none⟩ = some (.int .i64 r.2.2.2)
theorem Cl4.below {w w' : World} {b o B : Nat} {r : Rc} (h : Cl4 w b o r) (hb : Below B w w') (hB : b < B) : Cl4 w' b o r :=
  ⟨by rw [newCell hb _ _ hB]; exact h.c0, by rw [newCell hb _ _ hB]; exact h.c1, by rw [newCell hb _ _ hB]; exact h.c2, by rw [newCell hb _ _ hB]; exact h.c3⟩
theorem Cl4.drew {w : World} {b o : Nat} {r : Rc} (h : Cl4 w b o r) : Cl4 w.drew b o r := ⟨h.c0, h.c1, h.c2, h.c3⟩
/-- a slice from address a holds the rectangles C -/
def Sr (w : World) (a : Option Addr) (C : List Rc) : Prop :=
  C = [] ∨ ∃ b o, a = some ⟨b, o, none⟩ ∧ b < w.heap.size ∧ ∀ j, j < C.length * 4 → w.cell? ⟨b, o + j, none⟩ = some (.int .i64 (cp (j % 4) (C.getD (j / 4) rz)))
theorem Sr.nil (w : World) (a : Option Addr) : Sr w a [] := Or.inl rfl
theorem Sr.below {w w' : World} {a : Option Addr} {C : List Rc} (h : Sr w a C) {B : Nat} (hb : Below B w w') (hB : w.heap.size ≤ B) : Sr w' a C := by
  rcases h with h | ⟨b, o, h1, h2, h3⟩
  · exact Or.inl h
  · exact Or.inr ⟨b, o, h1, Nat.lt_of_lt_of_le h2 hb.size, fun j hj => by rw [newCell hb b _ (by omega)]; exact h3 j hj⟩
theorem Sr.to {w w' : World} {a : Option Addr} {C : List Rc} (h : Sr w a C) (hb : Below w.heap.size w w') : Sr w' a C := h.below hb (Nat.le_refl _)
theorem Sr.drew {w : World} {a : Option Addr} {C : List Rc} (h : Sr w a C) : Sr w.drew a C := h.below (B := w.heap.size) (below_drew (Below.refl _ _)) (Nat.le_refl _)
theorem Sr.form {w : World} {a : Option Addr} {C : List Rc} (h : Sr w a C) (h0 : 0 < C.length) : ∃ b o, a = some ⟨b, o, none⟩ ∧ b < w.heap.size ∧ ∀ j, j < C.length → Cl4 w b (o + j * 4) (C.getD j rz) := by
  rcases h with rfl | ⟨b, o, h1, h2, h3⟩
  · simp at h0
  · refine ⟨b, o, h1, h2, fun j hj => ⟨?_, ?_, ?_, ?_⟩⟩
    · rw [h3 (j * 4) (by omega), show j * 4 % 4 = 0 from by omega, show j * 4 / 4 = j from by omega]; rfl
    · rw [Nat.add_assoc, h3 (j * 4 + 1) (by omega), show (j * 4 + 1) % 4 = 1 from by omega, show (j * 4 + 1) / 4 = j from by omega]; rfl
    · rw [Nat.add_assoc, h3 (j * 4 + 2) (by omega), show (j * 4 + 2) % 4 = 2 from by omega, show (j * 4 + 2) / 4 = j from by omega]; rfl
    · rw [Nat.add_assoc, h3 (j * 4 + 3) (by omega), show (j * 4 + 3) % 4 = 3 from by omega, show (j * 4 + 3) / 4 = j from by omega]; rfl
theorem Hr.sr {w : World} {g : Nat} {C : List Rc} (h : Hr w g C) : Sr w (some ⟨g, 0, none⟩) C := Or.inr ⟨g, 0, rfl, h.lt, fun j hj => by rw [Nat.zero_add]; exact h.cell j hj⟩
theorem Hr.cl {w : World} {g : Nat} {C : List Rc} (h : Hr w g C) {j : Nat} (hj : j < C.length) : Cl4 w g (j * 4) (C.getD j rz) := by
  refine ⟨?_, ?_, ?_, ?_⟩
  · rw [h.cell (j * 4) (by omega), show j * 4 % 4 = 0 from by omega, show j * 4 / 4 = j from by omega]; rfl
  · rw [h.cell (j * 4 + 1) (by omega), show (j * 4 + 1) % 4 = 1 from by omega, show (j * 4 + 1) / 4 = j from by omega]; rfl
  · rw [h.cell (j * 4 + 2) (by omega), show (j * 4 + 2) % 4 = 2 from by omega, show (j * 4 + 2) / 4 = j from by omega]; rfl
  · rw [h.cell (j * 4 + 3) (by omega), show (j * 4 + 3) % 4 = 3 from by omega, show (j * 4 + 3) / 4 = j from by omega]; rfl
/-- a row of rectangles that the call itself made -/
structure Or4 (w : World) (B : Nat) (v : Value) (C : List Rc) : Prop where
  own : w.ownsRow B 23 4 v C.length (rs C)
theorem Or4.nil (w : World) (B : Nat) : Or4 w B (.slice none 0 0) [] := ⟨World.ownsRow_nil _ _ _ _⟩
theorem Or4.to {w w' : World} {B : Nat} {v : Value} {C : List Rc} (h : Or4 w B v C) (hb : Below w.heap.size w w') : Or4 w' B v C := ⟨own_below h.own hb⟩
theorem Or4.carry {w w' : World} {B : Nat} {v : Value} {C : List Rc} (h : Or4 w B v C) (hb : ∀ g, v.ownBlock = some g → w'.heap[g]? = w.heap[g]?) : Or4 w' B v C := ⟨own_carry h.own hb⟩
theorem Or4.form {w : World} {B : Nat} {v : Value} {C : List Rc} (h : Or4 w B v C) : ∃ a c, v = .slice a C.length c ∧ C.length ≤ c ∧ Sr w a C ∧ (∀ j b o, a = some ⟨b, o, none⟩ → w.frozen? ⟨b, j, none⟩ = false) ∧ (∀ b o s, a = some ⟨b, o, s⟩ → B ≤ b ∧ b < w.heap.size ∧ o = 0 ∧ s = none ∧ v.ownBlock = some b) := by
  obtain ⟨hl, hv⟩ := h.own
  rcases hv with ⟨rfl, hn⟩ | ⟨g, cap, cur, rfl, h2, h3, h4, h5, h6, h7⟩
  · obtain rfl : C = [] := List.eq_nil_of_length_eq_zero hn
    exact ⟨none, 0, rfl, Nat.le_refl _, Or.inl rfl, fun j b o e => (by cases e), fun b o s e => (by cases e)⟩
  · have hlt : g < w.heap.size := (Array.getElem?_eq_some_iff.1 h3).1
    refine ⟨some ⟨g, 0, none⟩, cap, rfl, h4, Or.inr ⟨g, 0, rfl, hlt, fun j hj => ?_⟩, fun j b o e => ?_, fun b o s e => ?_⟩
    · rw [Nat.zero_add, h.own.cellAt j (by omega)]; exact rs_at _ _ hj
    · simp only [Option.some.injEq, Addr.mk.injEq] at e; rw [← e.1]; exact own_thaw h.own j
    · simp only [Option.some.injEq, Addr.mk.injEq] at e; obtain ⟨rfl, rfl, rfl⟩ := e; exact ⟨h2, hlt, rfl, rfl, rfl⟩
end Go.Proofs.Ytjijgeeejhijhaa
