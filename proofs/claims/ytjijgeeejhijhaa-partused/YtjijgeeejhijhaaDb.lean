/- DERIVED. What the document's Cuts refuses; the state of the document's tree. -/
import Derived.Test.YtjijgeeejhijhaaDa
import Derived.Test.YtjijgeeejhijhaaEg
namespace Go.Proofs.Ytjijgeeejhijhaa
open Go.RowKit

set_option maxRecDepth 100000 in
set_option maxHeartbeats 2000000 in
theorem rcuts_no {w : World} {x y a b c : Int} (h : ¬ (rgn x y a b = true ∧ 0 ≤ c ∧ c < tyN a)) : Calls Try.prog 12 #[.agg #[.int .i64 x, .int .i64 y, .int .i64 a, .int .i64 b], .int .i64 c] w fun e w' => Cn w w' e := by
  have HIR : Hid (∀ u, Calls Try.prog 26 #[.agg #[.int .i64 x, .int .i64 y, .int .i64 a, .int .i64 b]] u fun e w' => e = .returned (.bool (rgn x y a b)) ∧ Below u.heap.size u w') := fun u => region_any
  have HTy : Hid (∀ u, Calls Try.prog 10 #[.int .i64 a] u fun e w' => e = .returned (.tuple #[.int .i64 (tyN a), .int .i64 (erS a)]) ∧ u = w') := fun u => rtypes_any
  have HB0 : Hid (Below w.heap.size w (w.alloc (.cells #[.int .i64 x, .int .i64 y, .int .i64 a, .int .i64 b] 23))) := from_alloc _ _
  generalize rgn x y a b = q at *
  generalize tyN a = tn at *
  generalize erS a = er at *
  unfold Cn
  have hq : q = false ∨ (q = true ∧ c < 0) ∨ (q = true ∧ 0 ≤ c ∧ tn ≤ c) := by
    cases q
    · exact Or.inl rfl
    · by_cases h0 : c < 0
      · exact Or.inr (Or.inl ⟨rfl, h0⟩)
      · exact Or.inr (Or.inr ⟨rfl, by omega, by
          refine Int.not_lt.1 fun hh => h ⟨rfl, by omega, hh⟩⟩)
  clear h
  rcases hq with rfl | ⟨rfl, h0⟩ | ⟨rfl, h0, h1⟩
  all_goals
    go_enter Try.func12, Try.ntmps12
    go_wp2_with fail
    refine (HTy.out _).mono ?_
    rintro e w5 ⟨rfl, rfl⟩
    go_wp2_with fail
    refine (HIR.out _).mono ?_
    rintro e w1 ⟨rfl, hb⟩
    have HB1 : Hid (Below w.heap.size w w1) := below_to HB0.out hb
    clear hb HB0 HIR HTy
    go_wp2_with fail
    go_ret2
    exact ⟨rfl, HB1.out⟩

/-- where the document's tree lies -/
structure Td where
  pt : Nat
  ca : Option Addr
  cc : Nat
  ar : Rc
  C : List Int
structure Tz (A : Td) (Z : Nat → Prop) : Prop where
  zd : ∀ b o s, A.C ≠ [] → A.ca = some ⟨b, o, s⟩ → Z b
  np : ¬ Z A.pt
structure Ts (A : Td) (Z : Nat → Prop) (w : World) (L : List Rc) (u : Nat) : Prop where
  zlt : ∀ i, Z i → i < w.heap.size
  area : Fr w A.pt A.ar.1 A.ar.2.1 A.ar.2.2.1 A.ar.2.2.2
  ch : w.cell? ⟨A.pt, 4, none⟩ = some (.slice A.ca A.C.length A.cc)
  used : w.cell? ⟨A.pt, 5, none⟩ = some (.int .i64 (u : Int))
  leaf : ∃ v, w.cell? ⟨A.pt, 6, none⟩ = some v ∧ Or4 w 0 v L ∧ ∀ g, v.ownBlock = some g → ¬ Z g ∧ g ≠ A.pt
  fz : ∀ o, w.frozen? ⟨A.pt, o, none⟩ = false
  si : Si w A.ca A.C
  lt : A.pt < w.heap.size
  le : u ≤ A.C.length
theorem si_tz {A : Td} {Z : Nat → Prop} (hz : Tz A Z) {w w' : World} (h : Si w A.ca A.C) (hk : Kz Z w w') : Si w' A.ca A.C := by
  rcases h with h | ⟨b, o, h1, h2, h3⟩
  · exact Or.inl h
  · by_cases hC : A.C = []
    · exact Or.inl hC
    · exact Or.inr ⟨b, o, h1, Nat.lt_of_lt_of_le h2 hk.size, fun j hj => by rw [hk.cell (hz.zd b o none hC h1)]; exact h3 j hj⟩
theorem Fr.below {w w' : World} {b B : Nat} {x y a c : Int} (h : Fr w b x y a c) (hb : Below B w w') (hB : b < B) : Fr w' b x y a c := ⟨by rw [newCell hb _ _ hB]; exact h.r0, by rw [newCell hb _ _ hB]; exact h.r1, by rw [newCell hb _ _ hB]; exact h.r2, by rw [newCell hb _ _ hB]; exact h.r3⟩
theorem Ts.to {A : Td} {Z : Nat → Prop} {w w' : World} {L : List Rc} {u : Nat} (hz : Tz A Z) (h : Ts A Z w L u) (hb : Below w.heap.size w w') : Ts A Z w' L u := by
  obtain ⟨v, h1, h2, h3⟩ := h.leaf
  have hk := Kz.ofBelow h.zlt hb
  exact ⟨fun i hi => Nat.lt_of_lt_of_le (h.zlt i hi) hb.size, h.area.below hb h.lt, by rw [newCell hb _ _ h.lt]; exact h.ch, by rw [newCell hb _ _ h.lt]; exact h.used, ⟨v, by rw [newCell hb _ _ h.lt]; exact h1, h2.to hb, h3⟩, fun o => by rw [newFrozen hb _ _ h.lt]; exact h.fz o, si_tz hz h.si hk, Nat.lt_of_lt_of_le h.lt hb.size, h.le⟩
theorem Ts.more {A : Td} {Z : Nat → Prop} {w w' : World} {L : List Rc} {u b : Nat} (hz : Tz A Z) (h : Ts A Z w L u) (hb : Below w.heap.size w w') (h1 : w.heap.size ≤ b) (h2 : b < w'.heap.size) : Tz A (Za Z b) ∧ Ts A (Za Z b) w' L u := by
  have hs := h.to hz hb
  obtain ⟨v, l1, l2, l3⟩ := h.leaf
  have hl := h.lt
  refine ⟨⟨fun c o s e1 e2 => Or.inl (hz.zd c o s e1 e2), fun q => ?_⟩, ⟨fun i hi => ?_, hs.area, hs.ch, hs.used, ⟨v, by rw [newCell hb _ _ h.lt]; exact l1, l2.to hb, fun g hg => ⟨fun q => ?_, (l3 g hg).2⟩⟩, hs.fz, hs.si, hs.lt, hs.le⟩⟩
  · rcases q with q | q
    · exact hz.np q
    · omega
  · rcases hi with hi | hi
    · exact hs.zlt i hi
    · omega
  · rcases q with q | q
    · exact (l3 g hg).1 q
    · have := l2.lt hg; omega
theorem Ts.sub {A : Td} {Z Z' : Nat → Prop} {w : World} {L : List Rc} {u : Nat} (h : Ts A Z' w L u) (hz : ∀ i, Z i → Z' i) : Ts A Z w L u := by
  obtain ⟨v, h1, h2, h3⟩ := h.leaf
  exact ⟨fun i hi => h.zlt i (hz i hi), h.area, h.ch, h.used, ⟨v, h1, h2, fun g hg => ⟨fun q => (h3 g hg).1 (hz g q), (h3 g hg).2⟩⟩, h.fz, h.si, h.lt, h.le⟩
theorem cell_off {w : World} {p o o' : Nat} (h : o ≠ o') (v : Value) : (w.setCell ⟨p, o, none⟩ v).cell? ⟨p, o', none⟩ = w.cell? ⟨p, o', none⟩ := World.cell?_setCell_other _ _ _ _ (fun e => h (by simpa using congrArg Addr.off e))
theorem Ts.use {A : Td} {Z : Nat → Prop} {w : World} {L : List Rc} {u u' : Nat} (hz : Tz A Z) (h : Ts A Z w L u) (hu : u' ≤ A.C.length) : Ts A Z (w.setCell ⟨A.pt, 5, none⟩ (.int .i64 (u' : Int))) L u' := by
  obtain ⟨v, h1, h2, h3⟩ := h.leaf
  have hk := Kz.set (Z := Z) w A.pt 5 hz.np (.int .i64 (u' : Int))
  exact ⟨fun i hi => by simpa using h.zlt i hi, ⟨by rw [cell_off (by omega)]; exact h.area.r0, by rw [cell_off (by omega)]; exact h.area.r1, by rw [cell_off (by omega)]; exact h.area.r2, by rw [cell_off (by omega)]; exact h.area.r3⟩, by rw [cell_off (by omega)]; exact h.ch, World.cell?_setCell_same _ _ _ h.used,
    ⟨v, by rw [cell_off (by omega)]; exact h1, h2.carry (fun g hg => Below.heap_setCell _ _ _ _ (fun e => (h3 g hg).2 e)), h3⟩, fun o => by rw [World.frozen?_setCell]; exact h.fz o, si_tz hz h.si hk, by simpa using h.lt, hu⟩
theorem Ts.grown {A : Td} {Z : Nat → Prop} {w w' : World} {L M : List Rc} {u g n cap : Nat} {v : Value} (hz : Tz A Z) (h : Ts A Z w L u) (hv : w.cell? ⟨A.pt, 6, none⟩ = some v) (_hown : Or4 w 0 v L)
    (hn : Or4 w' 0 (.slice (some ⟨g, 0, none⟩) n cap) M) (hg : w.grownBy w' v.ownBlock) (he : v.ownBlock = some g ∨ g = w.heap.size) (_hl : g < w'.heap.size) :
    (Ts A Z (w'.setCell ⟨A.pt, 6, none⟩ (.slice (some ⟨g, 0, none⟩) n cap)) M u ∧ Kz Z w (w'.setCell ⟨A.pt, 6, none⟩ (.slice (some ⟨g, 0, none⟩) n cap))) ∧ w'.cell? ⟨A.pt, 6, none⟩ = some v ∧ w'.frozen? ⟨A.pt, 6, none⟩ = false := by
  obtain ⟨v', h1, h2, h3⟩ := h.leaf
  rw [hv] at h1
  obtain rfl := Option.some.inj h1
  have hgz : ¬ Z g ∧ g ≠ A.pt := by
    rcases he with he | he
    · exact h3 g he
    · subst he
      refine ⟨fun q => absurd (h.zlt _ q) (by omega), fun e => absurd h.lt (by omega)⟩
  have hk0 : Kz Z w w' := ⟨hg.os, hg.tape, hg.output, hg.size, fun i hi => hg.block i (h.zlt i hi) (fun e => (h3 i e.symm).1 hi)⟩
  have hk := hk0.trans (Kz.set (Z := Z) w' A.pt 6 hz.np (.slice (some ⟨g, 0, none⟩) n cap))
  have bl : w'.heap[A.pt]? = w.heap[A.pt]? := hg.block _ h.lt (fun e => (h3 _ e.symm).2 rfl)
  have ce : ∀ o, w'.cell? ⟨A.pt, o, none⟩ = w.cell? ⟨A.pt, o, none⟩ := fun o => World.cell?_of_block (by exact bl)
  have fe : ∀ o, w'.frozen? ⟨A.pt, o, none⟩ = w.frozen? ⟨A.pt, o, none⟩ := fun o => World.frozen?_of_block (by exact bl)
  have cl : w'.cell? ⟨A.pt, 6, none⟩ = some v := by rw [ce]; exact hv
  refine ⟨⟨⟨fun i hi => Nat.lt_of_lt_of_le (h.zlt i hi) hk.size, ⟨?_, ?_, ?_, ?_⟩, ?_, ?_, ⟨_, World.cell?_setCell_same _ _ _ cl, hn.carry (fun i hi => Below.heap_setCell _ _ _ _ (fun e => ?_)), fun i hi => ?_⟩, fun o => ?_, si_tz hz h.si hk, Nat.lt_of_lt_of_le h.lt hk.size, h.le⟩, hk⟩, cl, by rw [fe]; exact h.fz 6⟩
  · rw [cell_off (by omega), ce]; exact h.area.r0
  · rw [cell_off (by omega), ce]; exact h.area.r1
  · rw [cell_off (by omega), ce]; exact h.area.r2
  · rw [cell_off (by omega), ce]; exact h.area.r3
  · rw [cell_off (by omega), ce]; exact h.ch
  · rw [cell_off (by omega), ce]; exact h.used
  · simp only [Value.ownBlock, Option.some.injEq] at hi
    exact hgz.2 (by rw [hi]; exact e)
  · simp only [Value.ownBlock, Option.some.injEq] at hi
    rw [← hi]; exact hgz
  · rw [World.frozen?_setCell, fe]; exact h.fz o
end Go.Proofs.Ytjijgeeejhijhaa
