/- DERIVED. A coder in memory, apart from what drives it; the walks of none, Writes, Count. -/
import Derived.Test.YtppanogpeengnabGreatDoorSf
namespace Go.Proofs.YtppanogpeengnabGreatDoor
open Go.RowKit L3
variable {Z : Nat → Option Obj}

/-- the blocks of a set -/
def Bs (bt : Nat) (K : List (Nat × List Tb)) (b : Nat) : Prop := b = bt ∨ ∃ p ∈ K, b = p.1 ∨ ∃ t ∈ p.2, t.C ≠ [] ∧ ∃ o, t.a = some ⟨b, o, none⟩
theorem St.low {w : World} {lo bt : Nat} {K : List (Nat × List Tb)} (h : St w lo bt K) {b : Nat} (hb : Bs bt K b) : b < w.heap.size := by
  rcases hb with rfl | ⟨p, hp, rfl | ⟨t, ht, hC, o, ha⟩⟩
  · exact h.blt
  · exact (h.lie p hp).2.1
  · rcases h.sl p hp t ht with e | ⟨b', o', h1, h2, _⟩
    · exact absurd e hC
    · rw [ha] at h1; simp only [Option.some.injEq, Addr.mk.injEq, and_true] at h1; omega
/-- of the blocks of w those of P alone may have turned -/
structure Ke (P : Nat → Prop) (w w' : World) : Prop where
  os : w'.os = w.os
  tape : w'.tape = w.tape
  output : w'.output = w.output
  size : w.heap.size ≤ w'.heap.size
  block : ∀ k, k < w.heap.size → ¬ P k → w'.heap[k]? = w.heap[k]?
theorem Ke.refl (P : Nat → Prop) (w : World) : Ke P w w := ⟨rfl, rfl, rfl, Nat.le_refl _, fun _ _ _ => rfl⟩
theorem Ke.of {P : Nat → Prop} {w w' : World} (h : Below w.heap.size w w') : Ke P w w' := ⟨h.os, h.tape, h.output, h.size, fun k hk _ => h.block k hk⟩
theorem Ke.trans {P Q R : Nat → Prop} {a b c : World} (h : Ke P a b) (k : Ke Q b c) (h1 : ∀ i, P i → R i) (h2 : ∀ i, i < a.heap.size → Q i → R i) : Ke R a c :=
  ⟨k.os.trans h.os, k.tape.trans h.tape, k.output.trans h.output, Nat.le_trans h.size k.size, fun i hi hR => (k.block i (Nat.lt_of_lt_of_le hi h.size) (fun e => hR (h2 i hi e))).trans (h.block i hi (fun e => hR (h1 i e)))⟩
theorem Ke.cell {P : Nat → Prop} {w w' : World} (h : Ke P w w') (k j : Nat) (hk : k < w.heap.size) (hP : ¬ P k) : w'.cell? ⟨k, j, none⟩ = w.cell? ⟨k, j, none⟩ := World.cell?_of_block (w := w) (a := ⟨k, j, none⟩) (h.block k hk hP)
theorem Ke.frozen {P : Nat → Prop} {w w' : World} (h : Ke P w w') (k j : Nat) (hk : k < w.heap.size) (hP : ¬ P k) : w'.frozen? ⟨k, j, none⟩ = w.frozen? ⟨k, j, none⟩ := World.frozen?_of_block (w := w) (a := ⟨k, j, none⟩) (h.block k hk hP)
theorem Ke.below {P : Nat → Prop} {B : Nat} {w w' : World} (h : Ke P w w') (hP : ∀ k, P k → B ≤ k) (hs : B ≤ w.heap.size) : Below B w w' := ⟨h.os, h.tape, h.output, h.size, fun k hk => h.block k (by omega) (fun e => by have := hP k e; omega)⟩
theorem Ke.set (P : Nat → Prop) (w : World) (a : Addr) (v : Value) (h : P a.block) : Ke P w (w.setCell a v) := ⟨rfl, rfl, rfl, by rw [setCell_size]; exact Nat.le_refl _, fun k _ hk => Below.heap_setCell _ _ _ _ (fun e => hk (by rw [e]; exact h))⟩
theorem Ke.sl {P : Nat → Prop} {w w' : World} (h : Ke P w w') {a : Option Addr} {C : List Nat} (hs : Sl w .u16 a C) (hP : ∀ b o, a = some ⟨b, o, none⟩ → C ≠ [] → ¬ P b) : Sl w' .u16 a C := by
  by_cases e : C = []
  · exact Or.inl e
  · rcases hs with e2 | ⟨b, o, h1, h2, h3⟩
    · exact absurd e2 e
    · exact Or.inr ⟨b, o, h1, Nat.lt_of_lt_of_le h2 h.size, fun j hj => by rw [h.cell b _ h2 (hP b o h1 e)]; exact h3 j hj⟩
/-- a set stays where other blocks turn -/
theorem St.ke {P : Nat → Prop} {w w' : World} {lo bt : Nat} {K : List (Nat × List Tb)} (h : St w lo bt K) (hk : Ke P w w') (hP : ∀ b, P b → ¬ Bs bt K b) : St w' lo bt K := by
  have n0 : ¬ P bt := fun e => hP bt e (Or.inl rfl)
  have n1 : ∀ p ∈ K, ¬ P p.1 := fun p hp e => hP p.1 e (Or.inr ⟨p, hp, Or.inl rfl⟩)
  have n2 : ∀ p ∈ K, ∀ t ∈ p.2, ∀ b o, t.a = some ⟨b, o, none⟩ → t.C ≠ [] → ¬ P b := fun p hp t ht b o h1 h2 e => hP b e (Or.inr ⟨p, hp, Or.inr ⟨t, ht, h2, o, h1⟩⟩)
  exact ⟨h.blo, Nat.lt_of_lt_of_le h.blt hk.size, fun j => by rw [hk.frozen _ _ h.blt n0]; exact h.bth j, fun k h1 h2 => by rw [hk.cell _ _ h.blt n0]; exact h.tl k h1 h2, fun k p hp => by rw [hk.cell _ _ h.blt n0]; exact h.hd k p hp,
    fun p hp => ⟨(h.lie p hp).1, Nat.lt_of_lt_of_le (h.lie p hp).2.1 hk.size, (h.lie p hp).2.2⟩, h.inj, fun p hp j => by rw [hk.frozen _ _ (h.lie p hp).2.1 (n1 p hp)]; exact h.th p hp j,
    fun p hp c t ht => by rw [hk.cell _ _ (h.lie p hp).2.1 (n1 p hp)]; exact h.c0 p hp c t ht, fun p hp c t ht => by rw [hk.cell _ _ (h.lie p hp).2.1 (n1 p hp)]; exact h.c1 p hp c t ht, fun p hp t ht => hk.sl (h.sl p hp t ht) (n2 p hp t ht), h.ap⟩

/-- a coder in block x: what drives it (po, pi) lies in the blocks of E -/
structure Co (Z : Nat → Option Obj) (w : World) (lo x : Nat) (po pi : Value) (bt : Nat) (K : List (Nat × List Tb)) (ad : Bool) (n : Int) (E : Nat → Prop) : Prop where
  o : w.cell? ⟨x, 0, none⟩ = some po
  i : w.cell? ⟨x, 1, none⟩ = some pi
  t : w.cell? ⟨x, 2, none⟩ = some (.slice (some ⟨bt, 0, none⟩) 32 32)
  a : w.cell? ⟨x, 3, none⟩ = some (.bool ad)
  c : w.cell? ⟨x, 4, none⟩ = some (.int .i64 n)
  th : w.frozen? ⟨x, 4, none⟩ = false
  low : x < w.heap.size
  xlo : lo ≤ x
  st : St w lo bt K
  ok : Okk K
  bx : ¬ Bs bt K x
  ex : ¬ E x
  eb : ∀ b, E b → ¬ Bs bt K b
  dk : Dk lo K
  fr : ∀ y o, Z y = some o → w.heap[y]? = some o ∧ y ≠ x ∧ ¬ E y ∧ ¬ Bs bt K y
/-- nothing else is watched -/
def zn : Nat → Option Obj := fun _ => none
theorem Co.ke {P : Nat → Prop} {w w' : World} {lo x bt : Nat} {po pi : Value} {K : List (Nat × List Tb)} {ad : Bool} {n : Int} {E E' : Nat → Prop} (h : Co Z w lo x po pi bt K ad n E) (hk : Ke P w w') (hP : ∀ b, P b → E b) (hE : ∀ b, E' b → E b ∨ w.heap.size ≤ b) : Co Z w' lo x po pi bt K ad n E' := by
  have nx : ¬ P x := fun e => h.ex (hP x e)
  refine ⟨by rw [hk.cell _ _ h.low nx]; exact h.o, by rw [hk.cell _ _ h.low nx]; exact h.i, by rw [hk.cell _ _ h.low nx]; exact h.t, by rw [hk.cell _ _ h.low nx]; exact h.a, by rw [hk.cell _ _ h.low nx]; exact h.c, by rw [hk.frozen _ _ h.low nx]; exact h.th, Nat.lt_of_lt_of_le h.low hk.size, h.xlo, h.st.ke hk (fun b hb => h.eb b (hP b hb)), h.ok, h.bx, fun e => ?_, fun b hb => ?_, h.dk, fun y o hy => ?_⟩
  · rcases hE x e with e2 | e2
    · exact h.ex e2
    · have := h.low; omega
  · rcases hE b hb with e2 | e2
    · exact h.eb b e2
    · intro e3; have := h.st.low e3; omega
  · obtain ⟨f1, f2, f3, f4⟩ := h.fr y o hy
    have hl : y < w.heap.size := (Array.getElem?_eq_some_iff.1 f1).1
    refine ⟨by rw [hk.block y hl (fun e => f3 (hP y e))]; exact f1, f2, fun e => ?_, f4⟩
    rcases hE y e with e2 | e2
    · exact f3 e2
    · omega
theorem Co.to {w w' : World} {lo x bt : Nat} {po pi : Value} {K : List (Nat × List Tb)} {ad : Bool} {n : Int} {E : Nat → Prop} (h : Co Z w lo x po pi bt K ad n E) (hb : Below w.heap.size w w') : Co Z w' lo x po pi bt K ad n E :=
  h.ke (P := fun _ => False) (Ke.of hb) (fun _ e => e.elim) (fun _ e => Or.inl e)
/-- the count goes on -/
theorem Co.count {w : World} {lo x bt : Nat} {po pi : Value} {K : List (Nat × List Tb)} {ad : Bool} {n m : Int} {E : Nat → Prop} (h : Co Z w lo x po pi bt K ad n E) : Co Z (w.setCell ⟨x, 4, none⟩ (.int .i64 m)) lo x po pi bt K ad m E := by
  have oth : ∀ j, j ≠ 4 → (w.setCell ⟨x, 4, none⟩ (.int .i64 m)).cell? ⟨x, j, none⟩ = w.cell? ⟨x, j, none⟩ := fun j hj => World.cell?_setCell_other _ _ _ _ (fun e => hj (by simp only [Addr.mk.injEq, true_and, and_true] at e; exact e.symm))
  refine ⟨by rw [oth 0 (by omega)]; exact h.o, by rw [oth 1 (by omega)]; exact h.i, by rw [oth 2 (by omega)]; exact h.t, by rw [oth 3 (by omega)]; exact h.a, World.cell?_setCell_same _ _ _ h.c, by simpa using h.th, by rw [setCell_size]; exact h.low, h.xlo, h.st.ke (P := fun b => b = x) (Ke.set _ _ _ _ rfl) (fun b e => by subst e; exact h.bx), h.ok, h.bx, h.ex, h.eb, h.dk, fun y o hy => by
    obtain ⟨f1, f2, f3, f4⟩ := h.fr y o hy
    exact ⟨by rw [Below.heap_setCell _ _ _ _ f2]; exact f1, f2, f3, f4⟩⟩

/-- a coder that writes, or reads -/
def ptr (x : Nat) : Value := .pointer (some ⟨x, 0, none⟩)
set_option maxHeartbeats 1000000 in
theorem none_w {w : World} {x : Nat} {po : Nat} (h : w.cell? ⟨x, 0, none⟩ = some (.pointer (some ⟨po, 0, none⟩))) : Calls Tryz.prog 19 #[.pointer (some ⟨x, 0, none⟩)] w fun e w' => e = .returned (.bool false) ∧ w' = w := by
  go_enter Tryz.func19, Tryz.ntmps19
  go_wp2_with fail
  go_ret
  exact ⟨rfl, rfl⟩
set_option maxHeartbeats 1000000 in
theorem none_r {w : World} {x : Nat} {pi : Nat} (h : w.cell? ⟨x, 0, none⟩ = some (.pointer none)) (h1 : w.cell? ⟨x, 1, none⟩ = some (.pointer (some ⟨pi, 0, none⟩))) : Calls Tryz.prog 19 #[.pointer (some ⟨x, 0, none⟩)] w fun e w' => e = .returned (.bool false) ∧ w' = w := by
  go_enter Tryz.func19, Tryz.ntmps19
  go_wp2_with fail
  go_ret
  exact ⟨rfl, rfl⟩
set_option maxHeartbeats 1000000 in
theorem writes_w {w : World} {x : Nat} {po : Nat} (h : w.cell? ⟨x, 0, none⟩ = some (.pointer (some ⟨po, 0, none⟩))) : Calls Tryz.prog 8 #[.pointer (some ⟨x, 0, none⟩)] w fun e w' => e = .returned (.bool true) ∧ w' = w := by
  go_enter Tryz.func8, Tryz.ntmps8
  go_wp2_with fail
  refine (none_w h).mono ?_
  rintro e w1 ⟨rfl, rfl⟩
  go_wp2_with fail
  go_ret
  exact ⟨rfl, rfl⟩
set_option maxHeartbeats 1000000 in
theorem writes_r {w : World} {x : Nat} {pi : Nat} (h : w.cell? ⟨x, 0, none⟩ = some (.pointer none)) (h1 : w.cell? ⟨x, 1, none⟩ = some (.pointer (some ⟨pi, 0, none⟩))) : Calls Tryz.prog 8 #[.pointer (some ⟨x, 0, none⟩)] w fun e w' => e = .returned (.bool false) ∧ w' = w := by
  go_enter Tryz.func8, Tryz.ntmps8
  go_wp2_with fail
  refine (none_r h h1).mono ?_
  rintro e w1 ⟨rfl, rfl⟩
  go_wp2_with fail
  go_ret
  exact ⟨rfl, rfl⟩

end Go.Proofs.YtppanogpeengnabGreatDoor
