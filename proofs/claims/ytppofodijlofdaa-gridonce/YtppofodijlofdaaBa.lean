/- DERIVED. Blocks of a tile, as plain numbers, and in memory. -/
import Derived.Test.YtppofodijlofdaaGb
import Derived.Deep.MidRow
namespace Go.Proofs.Ytppofodijlofdaa
open Go.RowKit

/-- a block -/
structure Bl where
  x : Int
  y : Int
  w : Int
  h : Int
  sk : Bool
  it : Bool
  a0 : Int
  a1 : Int
  a2 : Int
  a3 : Int
  a4 : Int
  a5 : Int
  a6 : Int
  cp : Bool
  r0 : Int
  r1 : Int
  mm : Int
  u0 : Int
  u1 : Int
  u2 : Int
  u3 : Int
  fl : Int
  ob : Bool
/-- its cells -/
def Bl.cs (b : Bl) : List Value := [.int .i64 b.x, .int .i64 b.y, .int .i64 b.w, .int .i64 b.h, .bool b.sk, .bool b.it, .int .i64 b.a0, .int .i64 b.a1, .int .i64 b.a2, .int .i64 b.a3, .int .i64 b.a4, .int .i64 b.a5, .int .i64 b.a6, .bool b.cp, .int .i64 b.r0, .int .i64 b.r1, .int .i64 b.mm, .int .i64 b.u0, .int .i64 b.u1, .int .i64 b.u2, .int .i64 b.u3, .int .i64 b.fl, .bool b.ob]
theorem Bl.cs_length (b : Bl) : b.cs.length = 23 := rfl
theorem Bl.cs_one (b : Bl) : ∀ u ∈ b.cs, u.oneCell' = true := List.all_eq_true.1 (by rfl)
theorem Bl.cs_inj {a b : Bl} (h : a.cs = b.cs) : a = b := by
  cases a; cases b
  simpa [Bl.cs] using h
noncomputable instance : DecidableEq Bl := fun _ _ => Classical.propDecidable _
/-- the zero block -/
def bz : Bl := ⟨0, 0, 0, 0, false, false, 0, 0, 0, 0, 0, 0, 0, false, 0, 0, 0, 0, 0, 0, 0, 0, false⟩
/-- blocks, as cells -/
def bs (L : List Bl) : List Value := L.flatMap Bl.cs
theorem bs_nil : bs [] = [] := rfl
theorem bs_cons (b : Bl) (L : List Bl) : bs (b :: L) = b.cs ++ bs L := rfl
theorem bs_append (A B : List Bl) : bs (A ++ B) = bs A ++ bs B := by simp [bs]
theorem bs_length : ∀ L : List Bl, (bs L).length = L.length * 23
  | [] => rfl
  | b :: L => by rw [bs_cons, List.length_append, bs_length L, Bl.cs_length, List.length_cons]; omega
theorem bs_one (L : List Bl) : ∀ u ∈ bs L, u.oneCell' = true := by
  intro u hu
  obtain ⟨b, _, h⟩ := List.mem_flatMap.1 hu
  exact b.cs_one u h
theorem bs_at : ∀ (L : List Bl) (k i : Nat), i < 23 → k < L.length → (bs L)[k * 23 + i]? = (L.getD k bz).cs[i]?
  | [], k, i, _, hk => by simp at hk
  | b :: L, 0, i, hi, _ => by
    rw [bs_cons, Nat.zero_mul, Nat.zero_add, List.getElem?_append_left (by rw [Bl.cs_length]; exact hi)]; rfl
  | b :: L, k + 1, i, hi, hk => by
    rw [bs_cons, List.getElem?_append_right (by rw [Bl.cs_length]; omega), Bl.cs_length, show (k + 1) * 23 + i - 23 = k * 23 + i from by omega, bs_at L k i hi (by simpa using hk)]
    rfl
theorem ext_bl {C D : List Bl} (hl : C.length = D.length) (h : ∀ j, j < C.length → C.getD j bz = D.getD j bz) : C = D := by
  refine List.ext_getElem hl fun j h1 h2 => ?_
  have := h j h1
  simpa [List.getD_eq_getElem?_getD, List.getElem?_eq_getElem h1, List.getElem?_eq_getElem h2] using this
/-- the cells of one block -/
structure Bc (w : World) (b o : Nat) (l : Bl) : Prop where
  rng : w.rangeAt b o l.cs
theorem Bc.at {w : World} {b o : Nat} {l : Bl} (h : Bc w b o l) (j : Nat) (v : Value) (hv : l.cs[j]? = some v) : w.cell? ⟨b, o + j, none⟩ = some v := h.rng j v hv
theorem Bc.below {w w' : World} {b o B : Nat} {l : Bl} (h : Bc w b o l) (hb : Below B w w') (hB : b < B) : Bc w' b o l := ⟨fun j v hv => by rw [newCell hb _ _ hB]; exact h.rng j v hv⟩
theorem Bc.lt {w : World} {b o : Nat} {l : Bl} (h : Bc w b o l) : b < w.heap.size := World.block_lt_of_cell? w _ (h.at 0 _ rfl)
theorem Bc.to {w w' : World} {b o : Nat} {l : Bl} (h : Bc w b o l) (hb : Below w.heap.size w w') : Bc w' b o l := h.below hb h.lt
theorem Bc.carry {w w' : World} {b o : Nat} {l : Bl} (h : Bc w b o l) (hb : w'.heap[b]? = w.heap[b]?) : Bc w' b o l := ⟨fun j v hv => by rw [World.cell?_of_block (w := w) (a := ⟨b, o + j, none⟩) hb]; exact h.rng j v hv⟩
/-- a block alone in its block of memory -/
structure Ob (w : World) (g : Nat) (l : Bl) : Prop where
  heap : w.heap[g]? = some (.cells l.cs.toArray 40 (0, 0))
theorem Ob.lt {w : World} {g : Nat} {l : Bl} (h : Ob w g l) : g < w.heap.size := (Array.getElem?_eq_some_iff.1 h.heap).1
theorem Ob.bc {w : World} {g : Nat} {l : Bl} (h : Ob w g l) : Bc w g 0 l := ⟨fun j v hv => by
  rw [Nat.zero_add]
  simp only [World.cell?, h.heap]
  simpa using hv⟩
theorem Ob.thaw {w : World} {g : Nat} {l : Bl} (h : Ob w g l) (j : Nat) : w.frozen? ⟨g, j, none⟩ = false := by simp [World.frozen?, h.heap]
theorem Ob.carry {w w' : World} {g : Nat} {l : Bl} (h : Ob w g l) (hb : w'.heap[g]? = w.heap[g]?) : Ob w' g l := ⟨by rw [hb]; exact h.heap⟩
theorem Ob.to {w w' : World} {g : Nat} {l : Bl} (h : Ob w g l) (hb : Below w.heap.size w w') : Ob w' g l := h.carry (hb.block g h.lt)
theorem Ob.new (w : World) (l : Bl) {g : Nat} (hg : w.heap.size = g) : Ob (w.alloc (.cells l.cs.toArray 40)) g l := by subst hg; exact ⟨heap_alloc_new w _⟩
/-- a slice from address a holds the blocks L -/
def Sb (w : World) (a : Option Addr) (L : List Bl) : Prop :=
  L = [] ∨ ∃ b o, a = some ⟨b, o, none⟩ ∧ b < w.heap.size ∧ ∀ k, k < L.length → Bc w b (o + k * 23) (L.getD k bz)
theorem Sb.below {w w' : World} {a : Option Addr} {L : List Bl} (h : Sb w a L) {B : Nat} (hb : Below B w w') (hB : w.heap.size ≤ B) : Sb w' a L := by
  rcases h with h | ⟨b, o, h1, h2, h3⟩
  · exact Or.inl h
  · exact Or.inr ⟨b, o, h1, Nat.lt_of_lt_of_le h2 hb.size, fun j hj => (h3 j hj).below hb (by omega)⟩
theorem Sb.to {w w' : World} {a : Option Addr} {L : List Bl} (h : Sb w a L) (hb : Below w.heap.size w w') : Sb w' a L := h.below hb (Nat.le_refl _)
theorem Sb.drew {w : World} {a : Option Addr} {L : List Bl} (h : Sb w a L) : Sb w.drew a L := h.to (below_drew (Below.refl _ _))
theorem Sb.form {w : World} {a : Option Addr} {L : List Bl} (h : Sb w a L) (h0 : 0 < L.length) : ∃ b o, a = some ⟨b, o, none⟩ ∧ b < w.heap.size ∧ ∀ k, k < L.length → Bc w b (o + k * 23) (L.getD k bz) := by
  rcases h with rfl | h
  · simp at h0
  · exact h
/-- a row of blocks that the call itself made -/
structure Or (w : World) (B : Nat) (v : Value) (L : List Bl) : Prop where
  own : w.ownsRow B 40 23 v L.length (bs L)
theorem Or.nil (w : World) (B : Nat) : Or w B (.slice none 0 0) [] := ⟨World.ownsRow_nil _ _ _ _⟩
theorem Or.carry {w w' : World} {B : Nat} {v : Value} {L : List Bl} (h : Or w B v L) (hb : ∀ g, v.ownBlock = some g → w'.heap[g]? = w.heap[g]?) : Or w' B v L := ⟨own_carry h.own hb⟩
theorem Or.to {w w' : World} {B : Nat} {v : Value} {L : List Bl} (h : Or w B v L) (hb : Below w.heap.size w w') : Or w' B v L := ⟨own_below h.own hb⟩
theorem Or.lt {w : World} {B : Nat} {v : Value} {L : List Bl} (h : Or w B v L) {g : Nat} (hg : v.ownBlock = some g) : B ≤ g ∧ g < w.heap.size := h.own.lt g hg
theorem Or.form {w : World} {B : Nat} {v : Value} {L : List Bl} (h : Or w B v L) : ∃ a c, v = .slice a L.length c ∧ L.length ≤ c ∧ Sb w a L ∧ ∀ b o s, a = some ⟨b, o, s⟩ → v.ownBlock = some b := by
  obtain ⟨hl, hv⟩ := h.own
  rcases hv with ⟨rfl, hn⟩ | ⟨g, cap, cur, rfl, h2, h3, h4, h5, h6, h7⟩
  · obtain rfl : L = [] := List.eq_nil_of_length_eq_zero hn
    exact ⟨none, 0, rfl, Nat.le_refl _, Or.inl rfl, fun b o s e => (by cases e)⟩
  · have hlt : g < w.heap.size := (Array.getElem?_eq_some_iff.1 h3).1
    refine ⟨some ⟨g, 0, none⟩, cap, rfl, h4, Or.inr ⟨g, 0, rfl, hlt, fun k hk => ⟨fun j v hv => ?_⟩⟩, fun b o s e => ?_⟩
    · have hj : j < 23 := by have := (List.getElem?_eq_some_iff.1 hv).1; rwa [Bl.cs_length] at this
      rw [Nat.zero_add, h.own.cellAt (k * 23 + j) (by omega), bs_at L k j hj hk]; exact hv
    · simp only [Option.some.injEq, Addr.mk.injEq] at e; obtain ⟨rfl, rfl, rfl⟩ := e; rfl
end Go.Proofs.Ytppofodijlofdaa
