/- DERIVED. Pieces in memory. -/
import Derived.Test.YtkippnfijjhobabMd
import Derived.Handy
import Derived.WalkMore
import Derived.Deep.OwnRows
namespace Go.Proofs.Ytkippnfijjhobab
open Go.RowKit

/-- a fact that no step of a walk may unfold -/
structure Bx (p : Prop) : Prop where
  out : p
theorem ret_three {k k' k'' : IntKind} {a b c d x y : Int} (h : a = c) (h' : b = d) (h'' : x = y) : Ending.returned (.tuple #[.int k a, .int k' b, .int k'' x]) = .returned (.tuple #[.int k c, .int k' d, .int k'' y]) := by rw [h, h', h'']
theorem below_alloc {B : Nat} {w u : World} (h : Below B w u) (hs : B ≤ w.heap.size) (o : Obj) : Below B w (u.alloc o) := h.alloc (Nat.le_trans hs h.size) o
theorem below_set {B : Nat} {w u : World} (h : Below B w u) {a : Addr} (ha : B ≤ a.block) (v : Value) : Below B w (u.setCell a v) := h.setCell ha v
theorem below_to {w u v : World} (h : Below w.heap.size w u) (k : Below u.heap.size u v) : Below w.heap.size w v := h.trans (k.mono h.size)
theorem below_drew {B : Nat} {w u : World} (h : Below B w u) : Below B w u.drew := ⟨h.os, h.tape, h.output, h.size, h.block⟩
theorem newCell {B : Nat} {u u' : World} (h : Below B u u') (i o : Nat) (hs : i < B) : u'.cell? ⟨i, o, none⟩ = u.cell? ⟨i, o, none⟩ := World.cell?_of_block (w := u) (a := ⟨i, o, none⟩) (h.block i hs)
theorem newFrozen {B : Nat} {u u' : World} (h : Below B u u') (i o : Nat) (hs : i < B) : u'.frozen? ⟨i, o, none⟩ = u.frozen? ⟨i, o, none⟩ := World.frozen?_of_block (w := u) (a := ⟨i, o, none⟩) (h.block i hs)
theorem from_alloc (w : World) (o : Obj) : Below w.heap.size w (w.alloc o) := (Below.refl _ _).alloc (Nat.le_refl _) _
theorem to_alloc {w u : World} (h : Below w.heap.size w u) (o : Obj) : Below w.heap.size w (u.alloc o) := below_alloc h (Nat.le_refl _) o
theorem own_carry {w w' : World} {B e size n : Nat} {v : Value} {xs : List Value} (h : w.ownsRow B e size v n xs) (hb : ∀ g, v.ownBlock = some g → w'.heap[g]? = w.heap[g]?) : w'.ownsRow B e size v n xs := by
  refine ⟨h.1, ?_⟩
  rcases h.2 with h1 | ⟨g, cap, cur, rfl, h2, h3, h4⟩
  · exact Or.inl h1
  · exact Or.inr ⟨g, cap, cur, rfl, h2, by rw [hb g rfl]; exact h3, h4⟩
theorem own_below {w w' : World} {B e size n : Nat} {v : Value} {xs : List Value} (h : w.ownsRow B e size v n xs) (hb : Below w.heap.size w w') : w'.ownsRow B e size v n xs := own_carry h fun g hg => hb.block g (h.lt g hg).2
theorem own_thaw {w : World} {B e size n g c : Nat} {xs : List Value} (h : w.ownsRow B e size (.slice (some ⟨g, 0, none⟩) n c) n xs) (j : Nat) : w.frozen? ⟨g, j, none⟩ = false := by
  rcases h.2 with ⟨h1, _⟩ | ⟨g', cap, cur, h1, _, h3, _⟩
  · cases h1
  · simp only [Value.slice.injEq, Option.some.injEq, Addr.mk.injEq] at h1
    obtain ⟨⟨rfl, _⟩, _⟩ := h1
    simp [World.frozen?, h3]
/-- of an owned row: nil, or a block of its own -/
theorem own_form {w : World} {B e size n c : Nat} {a : Option Addr} {xs : List Value} (h : w.ownsRow B e size (.slice a n c) n xs) : n ≤ c ∧ c ≤ maxLen ∧ ((a = none ∧ n = 0 ∧ c = 0) ∨ ∃ g, a = some ⟨g, 0, none⟩ ∧ B ≤ g ∧ g < w.heap.size) := by
  rcases h.2 with ⟨h1, h2⟩ | ⟨g', cap, cur, h1, h2, h3, h4, h5, _⟩
  · simp only [Value.slice.injEq] at h1
    obtain ⟨rfl, rfl, rfl⟩ := h1
    exact ⟨Nat.le_refl _, Nat.zero_le _, Or.inl ⟨rfl, rfl, rfl⟩⟩
  · simp only [Value.slice.injEq] at h1
    obtain ⟨rfl, _, rfl⟩ := h1
    exact ⟨h4, h5, Or.inr ⟨g', rfl, h2, (Array.getElem?_eq_some_iff.1 h3).1⟩⟩
/-- rows of unlike types lie in unlike blocks -/
theorem own_apart {w : World} {B B' e e' s s' n n' : Nat} {v v' : Value} {xs ys : List Value} (h : w.ownsRow B e s v n xs) (h' : w.ownsRow B' e' s' v' n' ys) (he : e ≠ e') : ∀ g, v.ownBlock = some g → v'.ownBlock ≠ some g := by
  intro g hg hg'
  rcases h.2 with ⟨rfl, _⟩ | ⟨g1, cap, cur, rfl, _, h3, _⟩
  · simp [Value.ownBlock] at hg
  · rcases h'.2 with ⟨rfl, _⟩ | ⟨g2, cap', cur', rfl, _, h3', _⟩
    · simp [Value.ownBlock] at hg'
    · simp [Value.ownBlock] at hg hg'
      subst hg hg'
      rw [h3] at h3'
      simp at h3'
      exact he h3'.2
theorem grown_trans {a b c : World} {r r' : Option Nat} (h : a.grownBy b r) (k : b.grownBy c r') (hr : ∀ g, r' = some g → r = some g ∨ a.heap.size ≤ g) : a.grownBy c r :=
  ⟨k.os.trans h.os, k.tape.trans h.tape, k.output.trans h.output, Nat.le_trans h.size k.size, fun i hi hne => by
    rw [k.block i (Nat.lt_of_lt_of_le hi h.size) (fun e => by rcases hr i e.symm with h1 | h1; exact hne h1.symm; omega)]
    exact h.block i hi hne⟩
theorem grown_below {B : Nat} {a b : World} {r : Option Nat} (h : a.grownBy b r) (hB : B ≤ a.heap.size) (hr : ∀ g, r = some g → B ≤ g) : Below B a b :=
  ⟨h.os, h.tape, h.output, h.size, fun i hi => h.block i (by omega) (fun e => by have := hr i e.symm; omega)⟩
theorem below_grown {a b : World} (h : Below a.heap.size a b) (r : Option Nat) : a.grownBy b r := ⟨h.os, h.tape, h.output, h.size, fun i hi _ => h.block i hi⟩

/-- bytes that can be read from an address on; they lie below N -/
def Sb (w : World) (N : Nat) (a : Option Addr) (C : List Nat) : Prop :=
  C = [] ∨ ∃ b o, a = some ⟨b, o, none⟩ ∧ b < N ∧ ∀ j, j < C.length → w.cell? ⟨b, o + j, none⟩ = some (.int .u8 (C.getD j 0 : Nat))
theorem Sb.below {w w' : World} {N B : Nat} {a : Option Addr} {C : List Nat} (h : Sb w N a C) (hb : Below B w w') (hN : N ≤ B) : Sb w' N a C := by
  rcases h with h | ⟨b, o, h1, h2, h3⟩
  · exact Or.inl h
  · exact Or.inr ⟨b, o, h1, h2, fun j hj => by rw [newCell hb b _ (by omega)]; exact h3 j hj⟩
theorem Sb.mono {w : World} {N M : Nat} {a : Option Addr} {C : List Nat} (h : Sb w N a C) (hN : N ≤ M) : Sb w M a C := by
  rcases h with h | ⟨b, o, h1, h2, h3⟩
  · exact Or.inl h
  · exact Or.inr ⟨b, o, h1, by omega, h3⟩
theorem Sb.heap {w w' : World} {N : Nat} {a : Option Addr} {C : List Nat} (h : Sb w N a C) (e : w'.heap = w.heap) : Sb w' N a C := by
  rcases h with h | ⟨b, o, h1, h2, h3⟩
  · exact Or.inl h
  · exact Or.inr ⟨b, o, h1, h2, fun j hj => by rw [World.cell?_of_block (w := w) (by rw [e])]; exact h3 j hj⟩
theorem getD_take (zs : List Nat) (k j : Nat) (h : j < k) : (zs.take k).getD j 0 = zs.getD j 0 := by
  simp [List.getD_eq_getElem?_getD, h]
theorem Sb.take {w : World} {N : Nat} {a : Option Addr} {C : List Nat} (h : Sb w N a C) (k : Nat) : Sb w N a (C.take k) := by
  rcases h with rfl | ⟨b, o, h1, h2, h3⟩
  · exact Or.inl (by simp)
  · exact Or.inr ⟨b, o, h1, h2, fun j hj => by
      rw [List.length_take] at hj
      rw [getD_take _ _ _ (by omega)]
      exact h3 j (by omega)⟩
theorem Sb.ofOwn {w : World} {B n c : Nat} {a : Option Addr} {C : List Nat} (hn : n = C.length) (h : w.ownsRow B 5 1 (.slice a n c) n (bs C)) : Sb w w.heap.size a C := by
  subst hn
  obtain ⟨h1, h2, h3⟩ := own_form h
  rcases h3 with ⟨_, h0, _⟩ | ⟨g, rfl, h4, h5⟩
  · exact Or.inl (List.eq_nil_of_length_eq_zero h0)
  · exact Or.inr ⟨g, 0, rfl, h5, fun j hj => by rw [Nat.zero_add, h.cellAt j (by omega)]; exact bs_get C j hj⟩
/-- a byte slice that can be read -/
structure By (w : World) (N : Nat) (v : Value) (C : List Nat) : Prop where
  ex : ∃ a c, v = .slice a C.length c ∧ C.length ≤ c ∧ (a = none → c = 0) ∧ Sb w N a C
  byt : ∀ i, C.getD i 0 < 256
  len : C.length ≤ 140737488355328
theorem By.below {w w' : World} {N B : Nat} {v : Value} {C : List Nat} (h : By w N v C) (hb : Below B w w') (hN : N ≤ B) : By w' N v C := by
  obtain ⟨a, c, h1, h2, h3, h4⟩ := h.ex
  exact ⟨⟨a, c, h1, h2, h3, h4.below hb hN⟩, h.byt, h.len⟩
theorem By.mono {w : World} {N M : Nat} {v : Value} {C : List Nat} (h : By w N v C) (hN : N ≤ M) : By w M v C := by
  obtain ⟨a, c, h1, h2, h3, h4⟩ := h.ex
  exact ⟨⟨a, c, h1, h2, h3, h4.mono hN⟩, h.byt, h.len⟩
theorem By.to {w w' : World} {N : Nat} {v : Value} {C : List Nat} (h : By w N v C) (hN : N ≤ w.heap.size) (hb : Below w.heap.size w w') : By w' N v C := h.below hb hN
theorem By.src {w : World} {N : Nat} {v : Value} {C : List Nat} (h : By w N v C) : SrcOf w v C := by
  obtain ⟨a, c, h1, h2, h3, h4⟩ := h.ex
  rcases h4 with rfl | ⟨b, o, rfl, _, h5⟩
  · cases a with
    | none =>
      obtain rfl := h3 rfl
      exact Or.inl ⟨rfl, h1⟩
    | some ad => exact Or.inr ⟨ad, c, h1, fun j hj => by simp at hj⟩
  · exact Or.inr ⟨⟨b, o, none⟩, c, h1, fun j hj => by rw [addr_add]; exact h5 j hj⟩
theorem By.ofOwn {w : World} {B n c : Nat} {a : Option Addr} {C : List Nat} (hn : n = C.length) (h : w.ownsRow B 5 1 (.slice a n c) n (bs C)) (hb : ∀ i, C.getD i 0 < 256) (hl : C.length ≤ 140737488355328) : By w w.heap.size (.slice a n c) C := by
  obtain ⟨h1, h2, h3⟩ := own_form h
  subst hn
  have hz : a = none → c = 0 := by
    intro e
    rcases h3 with ⟨_, _, h⟩ | ⟨g, h, _⟩
    · exact h
    · rw [e] at h; cases h
  exact ⟨⟨a, c, rfl, h1, hz, Sb.ofOwn rfl h⟩, hb, hl⟩

/-! ### pieces -/
abbrev Pc := Int × List Nat
def p0 : Pc := (0, [])
/-- a piece as it lies in a list: its type, where its bytes begin, how many, with what room -/
abbrev Oh := Int × Option Addr × Nat × Nat
def oh0 : Oh := (0, none, 0, 0)
def Oh.body (h : Oh) : Value := .slice h.2.1 h.2.2.1 h.2.2.2
def oc1 (h : Oh) : List Value := [.int .i64 h.1, h.body]
def oc (L : List Oh) : List Value := L.flatMap oc1
theorem oc_append (A B : List Oh) : oc (A ++ B) = oc A ++ oc B := by simp [oc]
theorem oc_length (L : List Oh) : (oc L).length = L.length * 2 := by
  induction L with
  | nil => rfl
  | cons h t ih => simp only [oc, List.flatMap_cons, List.length_append, List.length_cons] at *; rw [ih]; simp [oc1]; omega
theorem oc_at (L : List Oh) : ∀ j, j < L.length → (oc L)[j * 2]? = some (.int .i64 (L.getD j oh0).1) ∧ (oc L)[j * 2 + 1]? = some (L.getD j oh0).body := by
  induction L with
  | nil => intro j hj; simp at hj
  | cons h t ih =>
    intro j hj
    have e : oc (h :: t) = .int .i64 h.1 :: h.body :: oc t := rfl
    rw [e]
    cases j with
    | zero => exact ⟨rfl, rfl⟩
    | succ j =>
      obtain ⟨h1, h2⟩ := ih j (by simpa using hj)
      rw [show (j + 1) * 2 = j * 2 + 1 + 1 from by omega]
      exact ⟨by simpa using h1, by simpa using h2⟩
theorem oc_one (L : List Oh) : ∀ u ∈ oc L, u.oneCell' = true := by
  intro u hu
  obtain ⟨h, _, h2⟩ := List.mem_flatMap.1 hu
  rcases List.mem_cons.1 h2 with rfl | h3
  · rfl
  · simp at h3; subst h3; rfl
/-- what the head of a piece says of it -/
structure Hd1 (w : World) (N : Nat) (h : Oh) (p : Pc) : Prop where
  ty : h.1 = p.1
  by' : By w N h.body p.2
theorem Hd1.ln {w : World} {N : Nat} {h : Oh} {p : Pc} (k : Hd1 w N h p) : h.2.2.1 = p.2.length := by
  obtain ⟨a, c, h1, _⟩ := k.by'.ex
  simp only [Oh.body, Value.slice.injEq] at h1
  exact h1.2.1
structure Hs (w : World) (N : Nat) (L : List Oh) (P : List Pc) : Prop where
  len : L.length = P.length
  at' : ∀ j, j < P.length → Hd1 w N (L.getD j oh0) (P.getD j p0)
theorem Hs.below {w w' : World} {N B : Nat} {L : List Oh} {P : List Pc} (h : Hs w N L P) (hb : Below B w w') (hN : N ≤ B) : Hs w' N L P := ⟨h.len, fun j hj => ⟨(h.at' j hj).ty, (h.at' j hj).by'.below hb hN⟩⟩
theorem Hs.mono {w : World} {N M : Nat} {L : List Oh} {P : List Pc} (h : Hs w N L P) (hN : N ≤ M) : Hs w M L P := ⟨h.len, fun j hj => ⟨(h.at' j hj).ty, (h.at' j hj).by'.mono hN⟩⟩
/-- pieces' heads from an address on -/
def So (w : World) (N : Nat) (a : Option Addr) (L : List Oh) : Prop :=
  L = [] ∨ ∃ b o, a = some ⟨b, o, none⟩ ∧ b < N ∧ ∀ j, j < L.length → w.cell? ⟨b, o + j * 2, none⟩ = some (.int .i64 (L.getD j oh0).1) ∧ w.cell? ⟨b, o + j * 2 + 1, none⟩ = some (L.getD j oh0).body
/-- a list of pieces that can be read; all of it lies below N -/
structure Ob (w : World) (N : Nat) (v : Value) (P : List Pc) : Prop where
  ex : ∃ a c L, v = .slice a P.length c ∧ P.length ≤ c ∧ So w N a L ∧ Hs w N L P
theorem So.below {w w' : World} {N B : Nat} {a : Option Addr} {L : List Oh} (h : So w N a L) (hb : Below B w w') (hN : N ≤ B) : So w' N a L := by
  rcases h with h | ⟨b, o, h1, h2, h3⟩
  · exact Or.inl h
  · exact Or.inr ⟨b, o, h1, h2, fun j hj => by rw [newCell hb b _ (by omega), newCell hb b _ (by omega)]; exact h3 j hj⟩
theorem So.mono {w : World} {N M : Nat} {a : Option Addr} {L : List Oh} (h : So w N a L) (hN : N ≤ M) : So w M a L := by
  rcases h with h | ⟨b, o, h1, h2, h3⟩
  · exact Or.inl h
  · exact Or.inr ⟨b, o, h1, by omega, h3⟩
theorem Ob.below {w w' : World} {N B : Nat} {v : Value} {P : List Pc} (h : Ob w N v P) (hb : Below B w w') (hN : N ≤ B) : Ob w' N v P := by
  obtain ⟨a, c, L, h1, h2, h3, h4⟩ := h.ex
  exact ⟨a, c, L, h1, h2, h3.below hb hN, h4.below hb hN⟩
theorem Ob.mono {w : World} {N M : Nat} {v : Value} {P : List Pc} (h : Ob w N v P) (hN : N ≤ M) : Ob w M v P := by
  obtain ⟨a, c, L, h1, h2, h3, h4⟩ := h.ex
  exact ⟨a, c, L, h1, h2, h3.mono hN, h4.mono hN⟩
theorem Ob.sl {w : World} {N : Nat} {v : Value} {P : List Pc} (h : Ob w N v P) : ∃ a c, v = .slice a P.length c ∧ P.length ≤ c := by
  obtain ⟨a, c, L, h1, h2, _⟩ := h.ex
  exact ⟨a, c, h1, h2⟩
theorem getD_dropO (L : List Oh) (k j : Nat) : (L.drop k).getD j oh0 = L.getD (k + j) oh0 := by simp [List.getD_eq_getElem?_getD, List.getElem?_drop]
theorem getD_dropP (L : List Pc) (k j : Nat) : (L.drop k).getD j p0 = L.getD (k + j) p0 := by simp [List.getD_eq_getElem?_getD, List.getElem?_drop]
theorem getD_takeO (L : List Oh) (k j : Nat) (h : j < k) : (L.take k).getD j oh0 = L.getD j oh0 := by simp [List.getD_eq_getElem?_getD, h]
theorem getD_takeP (L : List Pc) (k j : Nat) (h : j < k) : (L.take k).getD j p0 = L.getD j p0 := by simp [List.getD_eq_getElem?_getD, h]
theorem Hs.take {w : World} {N : Nat} {L : List Oh} {P : List Pc} (h : Hs w N L P) (k : Nat) : Hs w N (L.take k) (P.take k) :=
  ⟨by simp [h.len], fun j hj => by
    rw [List.length_take] at hj
    rw [getD_takeO _ _ _ (by omega), getD_takeP _ _ _ (by omega)]
    exact h.at' j (by omega)⟩
theorem Hs.drop {w : World} {N : Nat} {L : List Oh} {P : List Pc} (h : Hs w N L P) (k : Nat) : Hs w N (L.drop k) (P.drop k) :=
  ⟨by simp [h.len], fun j hj => by
    rw [List.length_drop] at hj
    rw [getD_dropO, getD_dropP]
    exact h.at' (k + j) (by omega)⟩
theorem So.take {w : World} {N : Nat} {a : Option Addr} {L : List Oh} (h : So w N a L) (k : Nat) : So w N a (L.take k) := by
  rcases h with rfl | ⟨b, o, h1, h2, h3⟩
  · exact Or.inl (by simp)
  · exact Or.inr ⟨b, o, h1, h2, fun j hj => by
      rw [List.length_take] at hj
      rw [getD_takeO _ _ _ (by omega)]
      exact h3 j (by omega)⟩
theorem So.drop {w : World} {N b o : Nat} {L : List Oh} (h : So w N (some ⟨b, o, none⟩) L) (k : Nat) : So w N (some ⟨b, o + k * 2, none⟩) (L.drop k) := by
  rcases h with rfl | ⟨b', o', h1, h2, h3⟩
  · exact Or.inl (by simp)
  · simp only [Option.some.injEq, Addr.mk.injEq] at h1
    obtain ⟨rfl, rfl, _⟩ := h1
    exact Or.inr ⟨b, o + k * 2, rfl, h2, fun j hj => by
      rw [List.length_drop] at hj
      rw [getD_dropO]
      have := h3 (k + j) (by omega)
      rw [show o + (k + j) * 2 = o + k * 2 + j * 2 from by omega] at this
      exact this⟩
/-- a list's heads in a row that a call made -/
structure Ow (w : World) (B : Nat) (v : Value) (L : List Oh) : Prop where
  own : w.ownsRow B 29 2 v L.length (oc L)
theorem Ow.nil (w : World) (B : Nat) : Ow w B (.slice none 0 0) [] := ⟨World.ownsRow_nil _ _ _ _⟩
theorem Ow.sl {w : World} {B : Nat} {v : Value} {L : List Oh} (h : Ow w B v L) : ∃ a c, v = .slice a L.length c ∧ L.length ≤ c := by
  obtain ⟨a, c, rfl⟩ := own_slice h.own
  exact ⟨a, c, rfl, (own_form h.own).1⟩
theorem Ow.so {w : World} {B c : Nat} {a : Option Addr} {L : List Oh} (h : Ow w B (.slice a L.length c) L) : So w w.heap.size a L := by
  obtain ⟨h1, h2, h3⟩ := own_form h.own
  rcases h3 with ⟨_, h0, _⟩ | ⟨g, rfl, h4, h5⟩
  · exact Or.inl (List.eq_nil_of_length_eq_zero h0)
  · refine Or.inr ⟨g, 0, rfl, h5, fun j hj => ?_⟩
    obtain ⟨e1, e2⟩ := oc_at L j hj
    rw [Nat.zero_add, h.own.cellAt _ (by omega), h.own.cellAt _ (by omega)]
    exact ⟨e1, e2⟩
theorem Ow.ob {w : World} {B : Nat} {v : Value} {L : List Oh} {P : List Pc} (h : Ow w B v L) (hs : Hs w w.heap.size L P) : Ob w w.heap.size v P := by
  obtain ⟨a, c, rfl, hc⟩ := h.sl
  exact ⟨a, c, L, by rw [hs.len], by rw [← hs.len]; exact hc, h.so, hs⟩
theorem Ow.to {w w' : World} {B : Nat} {v : Value} {L : List Oh} (h : Ow w B v L) (hb : Below w.heap.size w w') : Ow w' B v L := ⟨own_below h.own hb⟩
/-- the bodies lie in rows that calls made -/
structure Bo (w : World) (B : Nat) (L : List Oh) (P : List Pc) : Prop where
  len : L.length = P.length
  at' : ∀ j, j < P.length → (L.getD j oh0).1 = (P.getD j p0).1 ∧ (L.getD j oh0).2.2.1 = (P.getD j p0).2.length ∧ w.ownsRow B 5 1 (L.getD j oh0).body (P.getD j p0).2.length (bs (P.getD j p0).2) ∧ (∀ i, (P.getD j p0).2.getD i 0 < 256) ∧ (P.getD j p0).2.length ≤ 140737488355328
theorem Bo.nil (w : World) (B : Nat) : Bo w B [] [] := ⟨rfl, fun j hj => by simp at hj⟩
theorem Bo.hs {w : World} {B : Nat} {L : List Oh} {P : List Pc} (h : Bo w B L P) : Hs w w.heap.size L P :=
  ⟨h.len, fun j hj => by
    obtain ⟨h1, h2, h3, h4, h5⟩ := h.at' j hj
    refine ⟨h1, ?_⟩
    unfold Oh.body at *
    rw [h2] at h3 ⊢
    exact By.ofOwn rfl h3 h4 h5⟩
theorem Bo.to {w w' : World} {B : Nat} {L : List Oh} {P : List Pc} (h : Bo w B L P) (hb : Below w.heap.size w w') : Bo w' B L P :=
  ⟨h.len, fun j hj => by
    obtain ⟨h1, h2, h3, h4⟩ := h.at' j hj
    exact ⟨h1, h2, own_below h3 hb, h4⟩⟩
/-- the bodies stay where a row of heads has grown -/
theorem Bo.grown {w w' : World} {B B' n : Nat} {v : Value} {xs : List Value} {L : List Oh} {P : List Pc} (h : Bo w B L P) (hv : w.ownsRow B' 29 2 v n xs) (hg : w.grownBy w' v.ownBlock) : Bo w' B L P :=
  ⟨h.len, fun j hj => by
    obtain ⟨h1, h2, h3, h4⟩ := h.at' j hj
    exact ⟨h1, h2, own_carry h3 fun g hg' => hg.block g (h3.lt g hg').2 (fun e => own_apart h3 hv (by decide) g hg' e.symm), h4⟩⟩
theorem Bo.mono {w : World} {B B' : Nat} {L : List Oh} {P : List Pc} (h : Bo w B L P) (hb : B' ≤ B) : Bo w B' L P :=
  ⟨h.len, fun j hj => by
    obtain ⟨h1, h2, h3, h4⟩ := h.at' j hj
    exact ⟨h1, h2, own_mono h3 hb, h4⟩⟩
theorem getD_snocO (L : List Oh) (x : Oh) (j : Nat) (h : j < (L ++ [x]).length) : (L ++ [x]).getD j oh0 = if j < L.length then L.getD j oh0 else x := by
  simp only [List.getD_eq_getElem?_getD]
  by_cases hj : j < L.length
  · rw [if_pos hj, List.getElem?_append_left hj]
  · rw [if_neg hj, List.getElem?_append_right (by omega)]
    simp at h
    rw [show j - L.length = 0 from by omega]
    rfl
theorem getD_snocP (L : List Pc) (x : Pc) (j : Nat) (h : j < (L ++ [x]).length) : (L ++ [x]).getD j p0 = if j < L.length then L.getD j p0 else x := by
  simp only [List.getD_eq_getElem?_getD]
  by_cases hj : j < L.length
  · rw [if_pos hj, List.getElem?_append_left hj]
  · rw [if_neg hj, List.getElem?_append_right (by omega)]
    simp at h
    rw [show j - L.length = 0 from by omega]
    rfl
theorem Bo.snoc {w : World} {B n c : Nat} {a : Option Addr} {L : List Oh} {P : List Pc} {t : Int} {C : List Nat} (h : Bo w B L P) (hn : n = C.length) (hw : w.ownsRow B 5 1 (.slice a n c) n (bs C)) (hb : ∀ i, C.getD i 0 < 256) (hl : C.length ≤ 140737488355328) : Bo w B (L ++ [(t, a, n, c)]) (P ++ [(t, C)]) := by
  subst hn
  refine ⟨by simp [h.len], fun j hj => ?_⟩
  have hl' := h.len
  rw [getD_snocO _ _ _ (by simp at hj ⊢; omega), getD_snocP _ _ _ hj, hl']
  by_cases e : j < P.length
  · rw [if_pos e, if_pos e]; exact h.at' j e
  · rw [if_neg e, if_neg e]; exact ⟨rfl, rfl, hw, hb, hl⟩
theorem Hs.snoc {w : World} {N : Nat} {L : List Oh} {P : List Pc} {h : Oh} {p : Pc} (hs : Hs w N L P) (k : Hd1 w N h p) : Hs w N (L ++ [h]) (P ++ [p]) := by
  refine ⟨by simp [hs.len], fun j hj => ?_⟩
  have hl' := hs.len
  rw [getD_snocO _ _ _ (by simp at hj ⊢; omega), getD_snocP _ _ _ hj, hl']
  by_cases e : j < P.length
  · rw [if_pos e, if_pos e]; exact hs.at' j e
  · rw [if_neg e, if_neg e]; exact k
/-- a list of pieces that a call made -/
def Ol (w : World) (B : Nat) (v : Value) (P : List Pc) : Prop := ∃ L, Ow w B v L ∧ Bo w B L P
theorem Ol.nil (w : World) (B : Nat) : Ol w B (.slice none 0 0) [] := ⟨[], Ow.nil _ _, Bo.nil _ _⟩
theorem Ol.ob {w : World} {B : Nat} {v : Value} {P : List Pc} (h : Ol w B v P) : Ob w w.heap.size v P := by
  obtain ⟨L, h1, h2⟩ := h
  exact h1.ob h2.hs
theorem Ol.to {w w' : World} {B : Nat} {v : Value} {P : List Pc} (h : Ol w B v P) (hb : Below w.heap.size w w') : Ol w' B v P := by
  obtain ⟨L, h1, h2⟩ := h
  exact ⟨L, h1.to hb, h2.to hb⟩
theorem Ol.mono {w : World} {B B' : Nat} {v : Value} {P : List Pc} (h : Ol w B v P) (hb : B' ≤ B) : Ol w B' v P := by
  obtain ⟨L, h1, h2⟩ := h
  exact ⟨L, ⟨own_mono h1.own hb⟩, h2.mono hb⟩
theorem Ol.sl {w : World} {B : Nat} {v : Value} {P : List Pc} (h : Ol w B v P) : ∃ a c, v = .slice a P.length c ∧ P.length ≤ c := h.ob.sl
theorem Ob.len {w : World} {N n c : Nat} {a : Option Addr} {P : List Pc} (h : Ob w N (.slice a n c) P) : n = P.length := by
  obtain ⟨a', c', L, h1, _⟩ := h.ex
  simp only [Value.slice.injEq] at h1
  exact h1.2.1
/-- the head of a list's piece, as it lies -/
theorem Ob.form {w : World} {N n c : Nat} {a : Option Addr} {P : List Pc} (h : Ob w N (.slice a n c) P) (h0 : 0 < P.length) : ∃ b o, a = some ⟨b, o, none⟩ ∧ b < N ∧ ∀ j, j < P.length → ∃ ad m c', w.cell? ⟨b, o + j * 2, none⟩ = some (.int .i64 (P.getD j p0).1) ∧ w.cell? ⟨b, o + j * 2 + 1, none⟩ = some (.slice ad m c') ∧ m = (P.getD j p0).2.length ∧ By w N (.slice ad m c') (P.getD j p0).2 := by
  obtain ⟨a', c', L, h1, _, h3, h4⟩ := h.ex
  simp only [Value.slice.injEq] at h1
  obtain ⟨rfl, _, rfl⟩ := h1
  rcases h3 with rfl | ⟨b, o, h5, h6, h7⟩
  · have := h4.len; simp at this; omega
  · refine ⟨b, o, h5, h6, fun j hj => ?_⟩
    obtain ⟨e1, e2⟩ := h7 j (by rw [h4.len]; exact hj)
    have k := h4.at' j hj
    exact ⟨_, _, _, by rw [e1, k.ty], e2, k.ln, k.by'⟩
end Go.Proofs.Ytkippnfijjhobab
