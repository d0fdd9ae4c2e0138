/- DERIVED. A plane in a variable of its own; told, and what stays; Pad, both ways. -/
import Derived.Test.YtlgfkkegehpllaaRh
namespace Go.Proofs.Ytlgfkkegehpllaa
open Go.RowKit

theorem Rn.far {u w : World} {a : Option Addr} {L : List Nat} (h : Rn u w a L) {b o : Nat} (hb : ∀ g, a = some ⟨g, 0, none⟩ → g ≠ b) (v : Value) : Rn u (w.setCell ⟨b, o, none⟩ v) a L := by
  rcases h with h | ⟨g, h1, h2, h3⟩
  · exact Or.inl h
  · exact Or.inr ⟨g, h1, h2, h3.far (by simpa using hb g h1) v⟩
theorem Rn.mono {u u' w : World} {a : Option Addr} {L : List Nat} (h : Rn u w a L) (hu : u'.heap.size ≤ u.heap.size) : Rn u' w a L := by
  rcases h with h | ⟨g, h1, h2, h3⟩
  · exact Or.inl h
  · exact Or.inr ⟨g, h1, Nat.le_trans hu h2, h3⟩
theorem Rn.lt {u w : World} {a : Option Addr} {L : List Nat} (h : Rn u w a L) (g : Nat) (e : a = some ⟨g, 0, none⟩) : u.heap.size ≤ g ∧ g < w.heap.size := by
  rcases h with ⟨_, h⟩ | ⟨g', h1, h2, h3⟩
  · rw [h] at e; cases e
  · rw [h1] at e
    simp only [Option.some.injEq, Addr.mk.injEq] at e
    obtain ⟨rfl, _⟩ := e
    exact ⟨h2, h3.lt⟩
/-- of the blocks of v only the one of a has turned -/
structure Ka (a : Option Addr) (v w : World) : Prop where
  os : w.os = v.os
  tape : w.tape = v.tape
  output : w.output = v.output
  size : v.heap.size ≤ w.heap.size
  block : ∀ i, i < v.heap.size → (∀ g, a = some ⟨g, 0, none⟩ → i ≠ g) → w.heap[i]? = v.heap[i]?
theorem Ka.below {a : Option Addr} {B : Nat} {v w : World} (h : Ka a v w) (h1 : ∀ g, a = some ⟨g, 0, none⟩ → B ≤ g) (h2 : B ≤ v.heap.size) : Below B v w := ⟨h.os, h.tape, h.output, h.size, fun i hi => h.block i (by omega) (fun g e => by have := h1 g e; omega)⟩
theorem Ka.cell {a : Option Addr} {v w : World} (h : Ka a v w) (i o : Nat) (hi : i < v.heap.size) (hg : ∀ g, a = some ⟨g, 0, none⟩ → i ≠ g) : w.cell? ⟨i, o, none⟩ = v.cell? ⟨i, o, none⟩ := World.cell?_of_block (w := v) (a := ⟨i, o, none⟩) (h.block i hi hg)
theorem Rn.ka {u v w : World} {a b : Option Addr} {L : List Nat} (h : Rn u v b L) (k : Ka a v w) (hne : ∀ g g', a = some ⟨g, 0, none⟩ → b = some ⟨g', 0, none⟩ → g' ≠ g) : Rn u w b L := by
  rcases h with h | ⟨g, h1, h2, h3⟩
  · exact Or.inl h
  · exact Or.inr ⟨g, h1, h2, h3.carry (k.block g h3.lt (fun g' e => hne g' g e h1))⟩
theorem told_far {u0 u : World} {a b : Option Addr} {c d : Nat} {C : List Nat} {W H e : Int} (h : Rn u0 u a C) (h2 : Sl u .u8 b C) (hl : C.length ≤ 140737488355328) :
    Calls Try.prog 20 #[.agg #[.int .i64 W, .int .i64 H, .slice a C.length c], .int .i64 e, .agg #[.int .i64 W, .int .i64 H, .slice b C.length d], .int .i64 e] u fun r w' => r = .returned (.bool true) ∧ Ka a u w' := by
  rcases h with ⟨rfl, rfl⟩ | ⟨g, rfl, hg, hr⟩
  · exact told_nil.mono (by rintro r w' ⟨rfl, hb⟩; exact ⟨rfl, hb.os, hb.tape, hb.output, hb.size, fun i hi _ => hb.block i hi⟩)
  · exact (told_rw hr h2 hl).mono (by rintro r w' ⟨rfl, hb⟩; exact ⟨rfl, hb.os, hb.tape, hb.output, hb.size, fun i hi k => hb.block i hi (k g rfl)⟩)

/-- a plane in a variable of its own, behind V -/
structure Od (V T : World) (y : Nat) (a : Option Addr) (c : Nat) (W H : Int) (L : List Nat) : Prop where
  c0 : T.cell? ⟨y, 0, none⟩ = some (.int .i64 W)
  c1 : T.cell? ⟨y, 1, none⟩ = some (.int .i64 H)
  c2 : T.cell? ⟨y, 2, none⟩ = some (.slice a L.length c)
  rn : Rn V T a L
  ly : y < T.heap.size
  ny : V.heap.size ≤ y
  ne : ∀ g, a = some ⟨g, 0, none⟩ → y ≠ g
  bel : Below V.heap.size V T
theorem Od.to {V T T' : World} {y c : Nat} {a : Option Addr} {W H : Int} {L : List Nat} (h : Od V T y a c W H L) (hb : Below T.heap.size T T') : Od V T' y a c W H L :=
  ⟨by rw [newCell hb _ _ h.ly]; exact h.c0, by rw [newCell hb _ _ h.ly]; exact h.c1, by rw [newCell hb _ _ h.ly]; exact h.c2, h.rn.to hb, Nat.lt_of_lt_of_le h.ly hb.size, h.ny, h.ne, below_to h.bel hb⟩
theorem Od.ka {V T T' : World} {y c : Nat} {a b : Option Addr} {W H : Int} {L : List Nat} (h : Od V T y a c W H L) (hb : Ka b T T') (h1 : ∀ g, b = some ⟨g, 0, none⟩ → V.heap.size ≤ g ∧ y ≠ g ∧ ∀ g', a = some ⟨g', 0, none⟩ → g' ≠ g) : Od V T' y a c W H L :=
  ⟨by rw [hb.cell _ _ h.ly (fun g e => (h1 g e).2.1)]; exact h.c0, by rw [hb.cell _ _ h.ly (fun g e => (h1 g e).2.1)]; exact h.c1, by rw [hb.cell _ _ h.ly (fun g e => (h1 g e).2.1)]; exact h.c2, h.rn.ka hb (fun g g' e e' => (h1 g e).2.2 g' e'), Nat.lt_of_lt_of_le h.ly hb.size, h.ny, h.ne, h.bel.trans (hb.below (fun g e => (h1 g e).1) h.bel.size)⟩
theorem od_a {V u w : World} {a : Option Addr} {c : Nat} {W H : Int} {L : List Nat} (hr : Rn u w a L) (hu : V.heap.size ≤ u.heap.size) (hb : Below V.heap.size V w) : Od V (w.alloc (.cells #[.int .i64 W, .int .i64 H, .slice a L.length c] 24)) w.heap.size a c W H L :=
  ⟨by simp, by simp, by simp, (hr.mono hu).to (from_alloc _ _), by simp, hb.size, fun g e => by have := (hr.lt g e).2; omega, to_alloc hb _⟩
theorem od_b {V u w : World} {a : Option Addr} {c : Nat} {W H : Int} {L : List Nat} (hr : Rn u w a L) (hu : V.heap.size + 1 ≤ u.heap.size) (hb : Below V.heap.size V w) (k0 : w.cell? ⟨V.heap.size, 0, none⟩ = some (.int .i64 0)) (k1 : w.cell? ⟨V.heap.size, 1, none⟩ = some (.int .i64 0)) (k2 : w.cell? ⟨V.heap.size, 2, none⟩ = some (.slice none 0 0)) :
    Od V (((w.setCell ⟨V.heap.size, 0, none⟩ (.int .i64 W)).setCell ⟨V.heap.size, 1, none⟩ (.int .i64 H)).setCell ⟨V.heap.size, 2, none⟩ (.slice a L.length c)) V.heap.size a c W H L := by
  have ne : ∀ g, a = some ⟨g, 0, none⟩ → g ≠ V.heap.size := fun g e => by have := (hr.lt g e).1; omega
  have hlt := World.block_lt_of_cell? w _ k0
  refine ⟨?_, ?_, ?_, ?_, by simpa using hlt, Nat.le_refl _, fun g e => fun e' => ne g e e'.symm, below_set (below_set (below_set hb (Nat.le_refl _) _) (Nat.le_refl _) _) (Nat.le_refl _) _⟩
  · rw [World.cell?_setCell_other _ _ _ _ (by simp), World.cell?_setCell_other _ _ _ _ (by simp)]; exact World.cell?_setCell_same _ _ _ k0
  · rw [World.cell?_setCell_other _ _ _ _ (by simp)]; exact World.cell?_setCell_same _ _ _ (by rw [World.cell?_setCell_other _ _ _ _ (by simp)]; exact k1)
  · exact World.cell?_setCell_same _ _ _ (by rw [World.cell?_setCell_other _ _ _ _ (by simp), World.cell?_setCell_other _ _ _ _ (by simp)]; exact k2)
  · exact (((hr.far ne _).far ne _).far ne _).mono (by omega)

theorem pad_two (W H : Int) (C : List Nat) (w h : Int) : ∃ (W' H' : Int) (L : List Nat) (er : Int), L.length ≤ 262144 ∧
    (∀ (u : World) (a : Option Addr) (c : Nat), Sl u .u8 a C → C.length ≤ c → Calls Try.prog 28 #[.agg #[.int .i64 W, .int .i64 H, .slice a C.length c], .int .i64 w, .int .i64 h] u fun e w' => ∃ a', e = .returned (.tuple #[.agg #[.int .i64 W', .int .i64 H', .slice a' L.length L.length], .int .i64 er]) ∧ Rn u w' a' L ∧ Below u.heap.size u w') ∧
    (∀ (u : World) (a : Option Addr) (c : Nat), Sl u .u8 a C → Calls Try.prog 29 #[.agg #[.int .i64 W, .int .i64 H, .slice a C.length c], .int .i64 w, .int .i64 h] u fun e w' => ∃ a' c', e = .returned (.tuple #[.agg #[.int .i64 W', .int .i64 H', .slice a' L.length c'], .int .i64 er]) ∧ Rn u w' a' L ∧ Below u.heap.size u w') := by
  by_cases hp : POk W H C
  · by_cases hk : W ≤ w ∧ w ≤ 512 ∧ H ≤ h ∧ h ≤ 512
    · obtain ⟨x, y, rfl, rfl, q1, q2, q3, q4, q5⟩ := hp.nat
      obtain ⟨k1, k2, k3, k4⟩ := hk
      obtain ⟨w', rfl⟩ : ∃ n : Nat, w = (n : Int) := ⟨w.toNat, by omega⟩
      obtain ⟨h', rfl⟩ : ∃ n : Nat, h = (n : Int) := ⟨h.toNat, by omega⟩
      refine ⟨w', h', padL x y C w' h', 0, by unfold padL; rw [tab_len]; exact prod_le (by omega) (by omega), fun u a c hs hc => ?_, fun u a c hs => ?_⟩
      · exact (pad_ok hs q1 q2 q3 q4 q5 hc (by omega) (by omega) (by omega) (by omega)).mono (by rintro e v ⟨g, rfl, hg, hr, hb⟩; exact ⟨_, rfl, Or.inr ⟨g, rfl, hg, hr⟩, hb⟩)
      · exact (rpad_ok hs q1 q2 q3 q4 q5 (by omega) (by omega) (by omega) (by omega)).mono (by rintro e v ⟨g, rfl, hg, hr, hb⟩; exact ⟨_, _, rfl, Or.inr ⟨g, rfl, hg, hr⟩, hb⟩)
    · refine ⟨0, 0, [], 2, by simp, fun u a c hs hc => ?_, fun u a c hs => ?_⟩
      · exact (pad_out hp hk).mono (by rintro e v ⟨rfl, hb⟩; exact ⟨none, rfl, Or.inl ⟨rfl, rfl⟩, hb⟩)
      · exact (rpad_out hp hk).mono (by rintro e v ⟨rfl, hb⟩; exact ⟨none, 0, rfl, Or.inl ⟨rfl, rfl⟩, hb⟩)
  · refine ⟨0, 0, [], 2, by simp, fun u a c hs hc => ?_, fun u a c hs => ?_⟩
    · exact (pad_bad hp).mono (by rintro e v ⟨rfl, hb⟩; exact ⟨none, rfl, Or.inl ⟨rfl, rfl⟩, hb⟩)
    · exact (rpad_bad hp).mono (by rintro e v ⟨rfl, hb⟩; exact ⟨none, 0, rfl, Or.inl ⟨rfl, rfl⟩, hb⟩)

theorem xor_nat (v : Nat) : ∃ z : Nat, bits .xor .u8 (v : Int) 255 = (z : Int) := by
  have h : 0 ≤ bits .xor .u8 (v : Int) 255 := by
    unfold bits
    simp only []
    rw [IntKind.wrap_u8']
    omega
  exact ⟨(bits .xor .u8 (v : Int) 255).toNat, by omega⟩

end Go.Proofs.Ytlgfkkegehpllaa
