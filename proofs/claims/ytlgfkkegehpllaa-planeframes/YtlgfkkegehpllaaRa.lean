/- DERIVED. The walk of PlaneTells. -/
import Derived.Test.YtlgfkkegehpllaaQd
import Derived.Test.YtlgfkkegehpllaaPt
import Derived.Deep.DeepCutAuto
import Derived.Deep.Light
namespace Go.Proofs.Ytlgfkkegehpllaa
open Go.RowKit

theorem far_set {w : World} {g b k : Nat} {v : Value} (o : Nat) (h : g ≠ b) : (w.setCell ⟨b, k, none⟩ v).cell? ⟨g, o, none⟩ = w.cell? ⟨g, o, none⟩ := World.cell?_setCell_other _ _ _ _ (fun e => h (by simpa using (congrArg Addr.block e).symm))
theorem far_alloc {w : World} {g : Nat} {ob : Obj} (o : Nat) (h : g < w.heap.size) : (w.alloc ob).cell? ⟨g, o, none⟩ = w.cell? ⟨g, o, none⟩ := newCell (from_alloc w ob) g o h
theorem Sl.keep {w T : World} {k : IntKind} {a : Option Addr} {C : List Nat} (h : Sl w k a C) (hz : w.heap.size ≤ T.heap.size) (hT : ∀ g o s, a = some ⟨g, o, s⟩ → g < w.heap.size → ∀ o, T.cell? ⟨g, o, none⟩ = w.cell? ⟨g, o, none⟩) : Sl T k a C := by
  rcases h with h | ⟨b, o, h1, h2, h3⟩
  · exact Or.inl h
  · exact Or.inr ⟨b, o, h1, Nat.lt_of_lt_of_le h2 hz, fun j hj => by rw [hT b o none h1 h2]; exact h3 j hj⟩
/-- two planes in variables of their own -/
structure Two (V T : World) (x y : Nat) (W H : Int) (a : Option Addr) (c : Nat) (C : List Nat) (W' H' : Int) (b : Option Addr) (d : Nat) (D : List Nat) : Prop where
  a0 : T.cell? ⟨x, 0, none⟩ = some (.int .i64 W)
  a1 : T.cell? ⟨x, 1, none⟩ = some (.int .i64 H)
  a2 : T.cell? ⟨x, 2, none⟩ = some (.slice a C.length c)
  b0 : T.cell? ⟨y, 0, none⟩ = some (.int .i64 W')
  b1 : T.cell? ⟨y, 1, none⟩ = some (.int .i64 H')
  b2 : T.cell? ⟨y, 2, none⟩ = some (.slice b D.length d)
  sa : Sl T .u8 a C
  sb : Sl T .u8 b D
  lx : x < T.heap.size
  ly : y < T.heap.size
  bel : Below V.heap.size V T
theorem newLt {B : Nat} {u u' : World} (h : Below B u u') (i : Nat) (hi : i < u.heap.size) : i < u'.heap.size := Nat.lt_of_lt_of_le hi h.size
theorem newNe {B : Nat} {u u' : World} (h : Below B u u') (i : Nat) (hi : i < u.heap.size) : ¬ i = u'.heap.size := Nat.ne_of_lt (newLt h i hi)
theorem newNe' {B : Nat} {u u' : World} (h : Below B u u') (i : Nat) (hi : i < u.heap.size) : ¬ u'.heap.size = i := fun e => newNe h i hi e.symm
set_option maxRecDepth 100000 in
set_option maxHeartbeats 4000000 in
theorem tells_walk {u : World} {a b : Option Addr} {c d : Nat} {C D : List Nat} {W H W' H' A0 A1 : Int} (hs : Sl u .u8 a C) (hs2 : Sl u .u8 b D) (hC : Byt C) (hD : Byt D) (hl : C.length ≤ 140737488355328) (hl2 : D.length ≤ 140737488355328) :
    Calls Try.prog 3 #[.agg #[.int .i64 W, .int .i64 H, .slice a C.length c], .agg #[.int .i64 W', .int .i64 H', .slice b D.length d], .agg #[.int .i64 A0, .int .i64 A1]] u fun e w' => e = .returned (.bool true) ∧ Below u.heap.size u w' := by
  have HB0 : Hid (Below u.heap.size u (((u.alloc (.cells #[.int .i64 W, .int .i64 H, .slice a C.length c] 24)).alloc (.cells #[.int .i64 W', .int .i64 H', .slice b D.length d] 24)).alloc (.cells #[.int .i64 A0, .int .i64 A1] 25))) := to_alloc (to_alloc (from_alloc _ _) _) _
  have c0 : (((u.alloc (.cells #[.int .i64 W, .int .i64 H, .slice a C.length c] 24)).alloc (.cells #[.int .i64 W', .int .i64 H', .slice b D.length d] 24)).alloc (.cells #[.int .i64 A0, .int .i64 A1] 25)).cell? ⟨u.heap.size, 0, none⟩ = some (.int .i64 W) := by simp [go_sem]
  have c1 : (((u.alloc (.cells #[.int .i64 W, .int .i64 H, .slice a C.length c] 24)).alloc (.cells #[.int .i64 W', .int .i64 H', .slice b D.length d] 24)).alloc (.cells #[.int .i64 A0, .int .i64 A1] 25)).cell? ⟨u.heap.size, 1, none⟩ = some (.int .i64 H) := by simp [go_sem]
  have c2 : (((u.alloc (.cells #[.int .i64 W, .int .i64 H, .slice a C.length c] 24)).alloc (.cells #[.int .i64 W', .int .i64 H', .slice b D.length d] 24)).alloc (.cells #[.int .i64 A0, .int .i64 A1] 25)).cell? ⟨u.heap.size, 2, none⟩ = some (.slice a C.length c) := by simp [go_sem]
  have c3 : (((u.alloc (.cells #[.int .i64 W, .int .i64 H, .slice a C.length c] 24)).alloc (.cells #[.int .i64 W', .int .i64 H', .slice b D.length d] 24)).alloc (.cells #[.int .i64 A0, .int .i64 A1] 25)).cell? ⟨u.heap.size + 1, 0, none⟩ = some (.int .i64 W') := by simp [go_sem]
  have c4 : (((u.alloc (.cells #[.int .i64 W, .int .i64 H, .slice a C.length c] 24)).alloc (.cells #[.int .i64 W', .int .i64 H', .slice b D.length d] 24)).alloc (.cells #[.int .i64 A0, .int .i64 A1] 25)).cell? ⟨u.heap.size + 1, 1, none⟩ = some (.int .i64 H') := by simp [go_sem]
  have c5 : (((u.alloc (.cells #[.int .i64 W, .int .i64 H, .slice a C.length c] 24)).alloc (.cells #[.int .i64 W', .int .i64 H', .slice b D.length d] 24)).alloc (.cells #[.int .i64 A0, .int .i64 A1] 25)).cell? ⟨u.heap.size + 1, 2, none⟩ = some (.slice b D.length d) := by simp [go_sem]
  have c6 : (((u.alloc (.cells #[.int .i64 W, .int .i64 H, .slice a C.length c] 24)).alloc (.cells #[.int .i64 W', .int .i64 H', .slice b D.length d] 24)).alloc (.cells #[.int .i64 A0, .int .i64 A1] 25)).cell? ⟨u.heap.size + 1 + 1, 0, none⟩ = some (.int .i64 A0) := by simp [go_sem]
  have c7 : (((u.alloc (.cells #[.int .i64 W, .int .i64 H, .slice a C.length c] 24)).alloc (.cells #[.int .i64 W', .int .i64 H', .slice b D.length d] 24)).alloc (.cells #[.int .i64 A0, .int .i64 A1] 25)).cell? ⟨u.heap.size + 1 + 1, 1, none⟩ = some (.int .i64 A1) := by simp [go_sem]
  have hz : (((u.alloc (.cells #[.int .i64 W, .int .i64 H, .slice a C.length c] 24)).alloc (.cells #[.int .i64 W', .int .i64 H', .slice b D.length d] 24)).alloc (.cells #[.int .i64 A0, .int .i64 A1] 25)).heap.size = u.heap.size + 3 := by simp
  have S1 : Hid (Sl (((u.alloc (.cells #[.int .i64 W, .int .i64 H, .slice a C.length c] 24)).alloc (.cells #[.int .i64 W', .int .i64 H', .slice b D.length d] 24)).alloc (.cells #[.int .i64 A0, .int .i64 A1] 25)) .u8 a C) := hs.to HB0.out
  have S2 : Hid (Sl (((u.alloc (.cells #[.int .i64 W, .int .i64 H, .slice a C.length c] 24)).alloc (.cells #[.int .i64 W', .int .i64 H', .slice b D.length d] 24)).alloc (.cells #[.int .i64 A0, .int .i64 A1] 25)) .u8 b D) := hs2.to HB0.out
  have HZ : Hid _ := hz
  clear hs hs2 hz
  go_enter Try.func3, Try.ntmps3
  go_wp2_with fail
  generalize (((u.alloc (.cells #[.int .i64 W, .int .i64 H, .slice a C.length c] 24)).alloc (.cells #[.int .i64 W', .int .i64 H', .slice b D.length d] 24)).alloc (.cells #[.int .i64 A0, .int .i64 A1] 25)) = V at *
  have hz := HZ.out
  have HK : Hid (∀ t : World, Below V.heap.size V t → (t.cell? ⟨u.heap.size, 0, none⟩ = some (.int .i64 W) ∧ t.cell? ⟨u.heap.size, 1, none⟩ = some (.int .i64 H) ∧ t.cell? ⟨u.heap.size, 2, none⟩ = some (.slice a C.length c) ∧ t.cell? ⟨u.heap.size + 1, 0, none⟩ = some (.int .i64 W') ∧ t.cell? ⟨u.heap.size + 1, 1, none⟩ = some (.int .i64 H') ∧ t.cell? ⟨u.heap.size + 1, 2, none⟩ = some (.slice b D.length d) ∧ Below V.heap.size V t)) := fun t ht => ⟨by rw [newCell ht _ _ (by omega)]; exact c0, by rw [newCell ht _ _ (by omega)]; exact c1, by rw [newCell ht _ _ (by omega)]; exact c2, by rw [newCell ht _ _ (by omega)]; exact c3, by rw [newCell ht _ _ (by omega)]; exact c4, by rw [newCell ht _ _ (by omega)]; exact c5, ht⟩
  have K1 : Hid (∀ t : World, Below V.heap.size V t → Calls Try.prog 9 #[.agg #[.int .i64 W, .int .i64 H, .slice a C.length c]] t fun e w' => ∃ a' c', e = .returned (.agg #[.int .i64 W, .int .i64 H, .slice a' C.length c']) ∧ Nw t w' a' c' C ∧ Below V.heap.size V w' ∧ Below t.heap.size t w') := fun t ht => (copyPlane_any (S1.out.to ht) hl).mono (by rintro e w' ⟨a', c', rfl, hn, hb⟩; exact ⟨a', c', rfl, hn, below_to ht hb, hb⟩)
  have K2 : Hid (∀ t : World, Below V.heap.size V t → Calls Try.prog 9 #[.agg #[.int .i64 W', .int .i64 H', .slice b D.length d]] t fun e w' => ∃ a' c', e = .returned (.agg #[.int .i64 W', .int .i64 H', .slice a' D.length c']) ∧ Nw t w' a' c' D ∧ Below V.heap.size V w' ∧ Below t.heap.size t w') := fun t ht => (copyPlane_any (S2.out.to ht) hl2).mono (by rintro e w' ⟨a', c', rfl, hn, hb⟩; exact ⟨a', c', rfl, hn, below_to ht hb, hb⟩)
  have hbd : Below V.heap.size V V.drew := below_drew (Below.refl _ _)
  have C6 : Hid _ := c6
  have C7 : Hid _ := c7
  clear c0 c1 c2 c3 c4 c5 c6 c7 hz
  have l2 : ∀ n : Nat, n < n + 1 + 1 := fun n => by omega
  go_cut [7, 8] (fun s5 s6 T => ∃ x y aA cA aB cB, s5 = .pointer (some ⟨x, 0, none⟩) ∧ s6 = .pointer (some ⟨y, 0, none⟩) ∧ Two V T x y W H aA cA C W' H' aB cB D)
  case rest =>
    obtain ⟨x, y, aA, cA, aB, cB, rfl, rfl, hT⟩ := hcut
    generalize wc = w0 at *
    have T0 : Hid (Two V w0 x y W H aA cA C W' H' aB cB D) := hT
    have hVz : V.heap.size = u.heap.size + 3 := HZ.out
    have hwz : V.heap.size ≤ w0.heap.size := hT.bel.size
    have q6 : w0.cell? ⟨u.heap.size + 1 + 1, 0, none⟩ = some (.int .i64 A0) := by rw [newCell hT.bel _ _ (by omega)]; exact C6.out
    have q7 : w0.cell? ⟨u.heap.size + 1 + 1, 1, none⟩ = some (.int .i64 A1) := by rw [newCell hT.bel _ _ (by omega)]; exact C7.out
    have HK2 : Hid (∀ t : World, Below w0.heap.size w0 t → (t.cell? ⟨u.heap.size, 0, none⟩ = some (.int .i64 W) ∧ t.cell? ⟨u.heap.size, 1, none⟩ = some (.int .i64 H) ∧ t.cell? ⟨u.heap.size, 2, none⟩ = some (.slice a C.length c) ∧ t.cell? ⟨u.heap.size + 1, 0, none⟩ = some (.int .i64 W') ∧ t.cell? ⟨u.heap.size + 1, 1, none⟩ = some (.int .i64 H') ∧ t.cell? ⟨u.heap.size + 1, 2, none⟩ = some (.slice b D.length d) ∧ t.cell? ⟨u.heap.size + 1 + 1, 0, none⟩ = some (.int .i64 A0) ∧ t.cell? ⟨u.heap.size + 1 + 1, 1, none⟩ = some (.int .i64 A1) ∧ t.cell? ⟨x, 0, none⟩ = some (.int .i64 W) ∧ t.cell? ⟨x, 1, none⟩ = some (.int .i64 H) ∧ t.cell? ⟨x, 2, none⟩ = some (.slice aA C.length cA) ∧ t.cell? ⟨y, 0, none⟩ = some (.int .i64 W') ∧ t.cell? ⟨y, 1, none⟩ = some (.int .i64 H') ∧ t.cell? ⟨y, 2, none⟩ = some (.slice aB D.length cB) ∧ Below w0.heap.size w0 t)) := fun t ht => by
      obtain ⟨p0, p1, p2, p3, p4, p5, _⟩ := HK.out w0 T0.out.bel
      exact ⟨by rw [newCell ht _ _ (by omega)]; exact p0, by rw [newCell ht _ _ (by omega)]; exact p1, by rw [newCell ht _ _ (by omega)]; exact p2, by rw [newCell ht _ _ (by omega)]; exact p3, by rw [newCell ht _ _ (by omega)]; exact p4, by rw [newCell ht _ _ (by omega)]; exact p5, by rw [newCell ht _ _ (by omega)]; exact q6, by rw [newCell ht _ _ (by omega)]; exact q7, by rw [newCell ht _ _ T0.out.lx]; exact T0.out.a0, by rw [newCell ht _ _ T0.out.lx]; exact T0.out.a1, by rw [newCell ht _ _ T0.out.lx]; exact T0.out.a2, by rw [newCell ht _ _ T0.out.ly]; exact T0.out.b0, by rw [newCell ht _ _ T0.out.ly]; exact T0.out.b1, by rw [newCell ht _ _ T0.out.ly]; exact T0.out.b2, ht⟩
    have N1 : Hid (∀ t : World, Below w0.heap.size w0 t → Calls Try.prog 10 #[.agg #[.int .i64 W, .int .i64 H, .slice aA C.length cA]] t fun e w' => e = .returned (.int .i64 (ck W H C)) ∧ Below w0.heap.size w0 w') := fun t ht => (check_any).mono (by rintro e w' ⟨rfl, hb⟩; exact ⟨rfl, below_to ht hb⟩)
    have N2 : Hid (∀ t : World, Below w0.heap.size w0 t → Calls Try.prog 11 #[.agg #[.int .i64 W, .int .i64 H, .slice a C.length c]] t fun e w' => e = .returned (.int .i64 (ck W H C)) ∧ Below w0.heap.size w0 w') := fun t ht => (rcheck_any).mono (by rintro e w' ⟨rfl, hb⟩; exact ⟨rfl, below_to ht hb⟩)
    have N3 : Hid (∀ t : World, Below w0.heap.size w0 t → Calls Try.prog 12 #[.agg #[.int .i64 W, .int .i64 H, .slice aA C.length cA], .agg #[.int .i64 W', .int .i64 H', .slice aB D.length cB]] t fun e w' => e = .returned (.bool (smB W H C W' H' D)) ∧ Below w0.heap.size w0 w') := fun t ht => (same_any (T0.out.sa.to ht) (T0.out.sb.to ht) (Or.inr ⟨hC, hD⟩)).mono (by rintro e w' ⟨rfl, hb⟩; exact ⟨rfl, below_to ht hb⟩)
    have N4 : Hid (∀ t : World, Below w0.heap.size w0 t → Calls Try.prog 13 #[.agg #[.int .i64 W, .int .i64 H, .slice a C.length c], .agg #[.int .i64 W', .int .i64 H', .slice b D.length d]] t fun e w' => e = .returned (.bool (smB W H C W' H' D)) ∧ Below w0.heap.size w0 w') := fun t ht => (rsame_any ((S1.out.to T0.out.bel).to ht) ((S2.out.to T0.out.bel).to ht) hl hl2).mono (by rintro e w' ⟨rfl, hb⟩; exact ⟨rfl, below_to ht hb⟩)
    have N5 : Hid (∀ t : World, Below w0.heap.size w0 t → Calls Try.prog 9 #[.agg #[.int .i64 W, .int .i64 H, .slice a C.length c]] t fun e w' => ∃ a' c', e = .returned (.agg #[.int .i64 W, .int .i64 H, .slice a' C.length c']) ∧ Sl w' .u8 a' C ∧ Below w0.heap.size w0 w') := fun t ht => (copyPlane_any ((S1.out.to T0.out.bel).to ht) hl).mono (by rintro e w' ⟨a', c', rfl, hn, hb⟩; exact ⟨a', c', rfl, hn.sl, below_to ht hb⟩)
    have N6 : Hid (∀ (t : World) (a' : Option Addr) (c' : Nat), Sl t .u8 a' C → Below w0.heap.size w0 t → Calls Try.prog 12 #[.agg #[.int .i64 W, .int .i64 H, .slice aA C.length cA], .agg #[.int .i64 W, .int .i64 H, .slice a' C.length c']] t fun e w' => e = .returned (.bool true) ∧ Below w0.heap.size w0 w') := fun t a' c' hs' ht => (same_any (T0.out.sa.to ht) hs' (Or.inl rfl)).mono (by rintro e w' ⟨rfl, hb⟩; exact ⟨by rw [smB_yes ⟨rfl, rfl, rfl⟩], below_to ht hb⟩)
    have N7 : Hid (∀ t : World, Below w0.heap.size w0 t → ∀ i j : Int, Calls Try.prog 14 #[.agg #[.int .i64 W, .int .i64 H, .slice aA C.length cA], .int .i64 i, .int .i64 j] t fun e w' => e = .returned (.int .u8 (atV W H C i j : Nat)) ∧ Below w0.heap.size w0 w') := fun t ht i j => (at_any (T0.out.sa.to ht)).mono (by rintro e w' ⟨rfl, hb⟩; exact ⟨rfl, below_to ht hb⟩)
    have N8 : Hid (∀ t : World, Below w0.heap.size w0 t → ∀ i j : Int, Calls Try.prog 15 #[.agg #[.int .i64 W, .int .i64 H, .slice a C.length c], .int .i64 i, .int .i64 j] t fun e w' => e = .returned (.int .u8 (atV W H C i j : Nat)) ∧ Below w0.heap.size w0 w') := fun t ht i j => (rat_any ((S1.out.to T0.out.bel).to ht)).mono (by rintro e w' ⟨rfl, hb⟩; exact ⟨rfl, below_to ht hb⟩)
    have N9 : Hid (∀ t : World, Below w0.heap.size w0 t → Calls Try.prog 16 #[.agg #[.int .i64 W, .int .i64 H, .slice aA C.length cA], .agg #[.int .i64 W', .int .i64 H', .slice aB D.length cB]] t fun e w' => e = .returned (.tuple #[.int .u64 (apN W H C W' H' D : Nat), .int .i64 (apE W H C W' H' D)]) ∧ Below w0.heap.size w0 w') := fun t ht => (apart_any (T0.out.sa.to ht) (T0.out.sb.to ht) hC hD).mono (by rintro e w' ⟨rfl, hb⟩; exact ⟨rfl, below_to ht hb⟩)
    have N10 : Hid (∀ t : World, Below w0.heap.size w0 t → Calls Try.prog 17 #[.agg #[.int .i64 W, .int .i64 H, .slice a C.length c], .agg #[.int .i64 W', .int .i64 H', .slice b D.length d]] t fun e w' => e = .returned (.tuple #[.int .u64 (apN W H C W' H' D : Nat), .int .i64 (apE W H C W' H' D)]) ∧ Below w0.heap.size w0 w') := fun t ht => (rapart_any ((S1.out.to T0.out.bel).to ht) ((S2.out.to T0.out.bel).to ht) hC hD).mono (by rintro e w' ⟨rfl, hb⟩; exact ⟨rfl, below_to ht hb⟩)
    have N11 : Hid (∀ t : World, Below w0.heap.size w0 t → Calls Try.prog 13 #[.agg #[.int .i64 W, .int .i64 H, .slice aA C.length cA], .agg #[.int .i64 W, .int .i64 H, .slice a C.length c]] t fun e w' => e = .returned (.bool (smB W H C W H C)) ∧ Below w0.heap.size w0 w') := fun t ht => (rsame_any (T0.out.sa.to ht) ((S1.out.to T0.out.bel).to ht) hl hl).mono (by rintro e w' ⟨rfl, hb⟩; exact ⟨rfl, below_to ht hb⟩)
    have N12 : Hid (∀ t : World, Below w0.heap.size w0 t → Calls Try.prog 13 #[.agg #[.int .i64 W', .int .i64 H', .slice aB D.length cB], .agg #[.int .i64 W', .int .i64 H', .slice b D.length d]] t fun e w' => e = .returned (.bool (smB W' H' D W' H' D)) ∧ Below w0.heap.size w0 w') := fun t ht => (rsame_any (T0.out.sb.to ht) ((S2.out.to T0.out.bel).to ht) hl2 hl2).mono (by rintro e w' ⟨rfl, hb⟩; exact ⟨rfl, below_to ht hb⟩)
    have hbd2 : Below w0.heap.size w0 w0.drew := below_drew (Below.refl _ _)
    have HBU : Hid (Below u.heap.size u w0) := below_to HB0.out T0.out.bel
    clear hT hVz hwz q6 q7 hl hl2 hC hD K1 K2 HK hbd l2
    generalize apN W H C W' H' D = ap at *
    generalize apE W H C W' H' D = ae at *
    generalize ck W H C = kk at *
    generalize smB W H C W' H' D = sm at *
    have k1 : (kk != kk) = false := by simp
    have k2 : (sm != sm) = false := by simp
    go_wp2_with fail
    go_cut [42] (fun s42 T => s42 = .bool false ∧ Below w0.heap.size w0 T)
    case first =>
      go_region_held3 (fun t => t.cell? ⟨u.heap.size, 0, none⟩ = some (.int .i64 W) ∧ t.cell? ⟨u.heap.size, 1, none⟩ = some (.int .i64 H) ∧ t.cell? ⟨u.heap.size, 2, none⟩ = some (.slice a C.length c) ∧ t.cell? ⟨u.heap.size + 1, 0, none⟩ = some (.int .i64 W') ∧ t.cell? ⟨u.heap.size + 1, 1, none⟩ = some (.int .i64 H') ∧ t.cell? ⟨u.heap.size + 1, 2, none⟩ = some (.slice b D.length d) ∧ t.cell? ⟨u.heap.size + 1 + 1, 0, none⟩ = some (.int .i64 A0) ∧ t.cell? ⟨u.heap.size + 1 + 1, 1, none⟩ = some (.int .i64 A1) ∧ t.cell? ⟨x, 0, none⟩ = some (.int .i64 W) ∧ t.cell? ⟨x, 1, none⟩ = some (.int .i64 H) ∧ t.cell? ⟨x, 2, none⟩ = some (.slice aA C.length cA) ∧ t.cell? ⟨y, 0, none⟩ = some (.int .i64 W') ∧ t.cell? ⟨y, 1, none⟩ = some (.int .i64 H') ∧ t.cell? ⟨y, 2, none⟩ = some (.slice aB D.length cB) ∧ Below w0.heap.size w0 t)
        ((exact HK2.out _ (by with_reducible assumption)))
        ((first
          | (go_at_call 10; with_reducible refine (N1.out _ ?_).mono ?_; (focus (with_reducible assumption)); rintro e w1 ⟨rfl, hb1⟩)
          | (go_at_call 11; with_reducible refine (N2.out _ ?_).mono ?_; (focus (with_reducible assumption)); rintro e w2 ⟨rfl, hb2⟩)
          | (go_at_call 12; with_reducible refine (N3.out _ ?_).mono ?_; (focus (with_reducible assumption)); rintro e w3 ⟨rfl, hb3⟩)
          | (go_at_call 13; with_reducible refine (N4.out _ ?_).mono ?_; (focus (with_reducible assumption)); rintro e w4 ⟨rfl, hb4⟩)
          | (go_at_call 9; with_reducible refine (N5.out _ ?_).mono ?_; (focus (with_reducible assumption)); rintro e w5 ⟨a5, c5, rfl, hs5, hb5⟩)
          | (go_at_call 12; with_reducible refine (N6.out _ _ _ ?_ ?_).mono ?_; (focus (with_reducible assumption)); (focus (with_reducible assumption)); rintro e w6 ⟨rfl, hb6⟩)))
      all_goals
        go_wp2_with fail
        go_meet
        exact ⟨rfl, hb6⟩
    obtain ⟨rfl, hbc⟩ := hcut
    generalize wc = y0 at *
    have Y0 : Hid (Below w0.heap.size w0 y0) := hbc
    clear hbc hbd2
    go_wp2_with fail
    go_loopw [9] (fun iv wr => ∃ k : Nat, k ≤ 22 ∧ iv = .int .i64 ((k : Int) - 2) ∧ Below w0.heap.size w0 wr) (fun iv _ => (20 - intOf iv).toNat)
    case atStart => exact ⟨0, by omega, rfl, Y0.out⟩
    case round =>
      obtain ⟨k, hk, rfl, hbw⟩ := hrel
      obtain ⟨i, hi⟩ : ∃ i : Int, i = (k : Int) - 2 := ⟨_, rfl⟩
      rw [← hi]
      have i0 : -2 ≤ i := by omega
      have i1 : i ≤ 20 := by omega
      have HBW : Hid (Below w0.heap.size w0 wr) := hbw
      by_cases hlt : i < 20
      · have hbd3 : Below w0.heap.size w0 wr.drew := below_drew hbw
        have HI : Hid (i = (k : Int) - 2) := hi
        obtain ⟨p0, p1, p2, p3, p4, p5, p6, p7, p8, p9, p10, p11, p12, p13, _⟩ := HK2.out wr hbw
        clear hi
        go_wp2_with fail
        go_region_held3 (fun t => t.cell? ⟨u.heap.size, 0, none⟩ = some (.int .i64 W) ∧ t.cell? ⟨u.heap.size, 1, none⟩ = some (.int .i64 H) ∧ t.cell? ⟨u.heap.size, 2, none⟩ = some (.slice a C.length c) ∧ t.cell? ⟨u.heap.size + 1, 0, none⟩ = some (.int .i64 W') ∧ t.cell? ⟨u.heap.size + 1, 1, none⟩ = some (.int .i64 H') ∧ t.cell? ⟨u.heap.size + 1, 2, none⟩ = some (.slice b D.length d) ∧ t.cell? ⟨u.heap.size + 1 + 1, 0, none⟩ = some (.int .i64 A0) ∧ t.cell? ⟨u.heap.size + 1 + 1, 1, none⟩ = some (.int .i64 A1) ∧ t.cell? ⟨x, 0, none⟩ = some (.int .i64 W) ∧ t.cell? ⟨x, 1, none⟩ = some (.int .i64 H) ∧ t.cell? ⟨x, 2, none⟩ = some (.slice aA C.length cA) ∧ t.cell? ⟨y, 0, none⟩ = some (.int .i64 W') ∧ t.cell? ⟨y, 1, none⟩ = some (.int .i64 H') ∧ t.cell? ⟨y, 2, none⟩ = some (.slice aB D.length cB) ∧ Below w0.heap.size w0 t)
          ((exact HK2.out _ (by with_reducible assumption)))
          ((first
            | (go_at_call 14; with_reducible refine (N7.out _ ?_ _ _).mono ?_; (focus (with_reducible assumption)); rintro e w7 ⟨rfl, hb7⟩)
            | (go_at_call 15; with_reducible refine (N8.out _ ?_ _ _).mono ?_; (focus (with_reducible assumption)); rintro e w8 ⟨rfl, hb8⟩)))
        clear hbw hbd3 p0 p1 p2 p3 p4 p5 p6 p7 p8 p9 p10 p11 p12 p13
        go_wp2_with fail
        go_roundw
        case rel => exact ⟨k + 1, by have := HI.out; omega, by rw [HI.out]; go_num, hb8⟩
        case measure => simp [intOf]; omega
      · have i2 : ¬ i < 20 := hlt
        obtain ⟨p0, p1, p2, p3, p4, p5, p6, p7, p8, p9, p10, p11, p12, p13, _⟩ := HK2.out wr hbw
        clear hi hbw
        go_wp2_with fail
        refine (N9.out _ HBW.out).mono ?_
        rintro e r1 ⟨rfl, hb⟩
        have Z1 : Hid (Below w0.heap.size w0 r1) := hb
        clear hb
        clear p0 p1 p2 p3 p4 p5 p6 p7 p8 p9 p10 p11 p12 p13
        obtain ⟨p0, p1, p2, p3, p4, p5, p6, p7, p8, p9, p10, p11, p12, p13, _⟩ := HK2.out r1 Z1.out
        go_wp2_with fail
        refine (N10.out _ Z1.out).mono ?_
        rintro e r2 ⟨rfl, hb⟩
        have Z2 : Hid (Below w0.heap.size w0 r2) := hb
        clear hb
        clear p0 p1 p2 p3 p4 p5 p6 p7 p8 p9 p10 p11 p12 p13
        obtain ⟨p0, p1, p2, p3, p4, p5, p6, p7, p8, p9, p10, p11, p12, p13, _⟩ := HK2.out r2 Z2.out
        have a1 : ((ap : Int) == (ap : Int)) = true := by simp
        have a2 : (ae == ae) = true := by simp
        go_wp2_with fail
        by_cases hv : 1 ≤ A0 ∧ A0 ≤ 512 ∧ 1 ≤ A1 ∧ A1 ≤ 512
        · obtain ⟨v1, v2, v3, v4⟩ := hv
          obtain ⟨X, rfl⟩ : ∃ X : Nat, A0 = (X : Int) := ⟨A0.toNat, by omega⟩
          obtain ⟨Y, rfl⟩ : ∃ Y : Nat, A1 = (Y : Int) := ⟨A1.toNat, by omega⟩
          have hE : (List.replicate (X * Y) 77).length ≤ 140737488355328 := by rw [List.length_replicate]; have := prod_le (x := X) (y := Y) (by omega) (by omega); omega
          have KN1 : Hid (∀ t : World, Calls Try.prog 18 #[.int .i64 (X : Int), .int .i64 (Y : Int), .int .u8 77] t fun e w' => Pn t w' e X Y (List.replicate (X * Y) 77)) := fun t => new_ok (v := 77) (by omega) (by omega) (by omega) (by omega)
          have KN2 : Hid (∀ t : World, Calls Try.prog 19 #[.int .i64 (X : Int), .int .i64 (Y : Int), .int .u8 77] t fun e w' => Pn t w' e X Y (List.replicate (X * Y) 77)) := fun t => rnew_ok (v := 77) (by omega) (by omega) (by omega) (by omega)
          generalize List.replicate (X * Y) 77 = Q at *
          clear v1 v2 v3 v4
          refine (KN1.out _).mono ?_
          rintro e r3 ⟨g, rfl, hg, hr, hb⟩
          have h3 : Below w0.heap.size w0 r3 := below_to Z2.out hb
          have Z3 : Hid (Below w0.heap.size w0 (r3.alloc (.cells #[.int .i64 (X : Int), .int .i64 (Y : Int), .slice (some ⟨g, 0, none⟩) Q.length Q.length] 24))) := to_alloc h3 _
          have HRW : Hid (Rw (r3.alloc (.cells #[.int .i64 (X : Int), .int .i64 (Y : Int), .slice (some ⟨g, 0, none⟩) Q.length Q.length] 24)) g Q) := hr.to (from_alloc _ _)
          have HN : Hid (∀ t : World, Below (r3.alloc (.cells #[.int .i64 (X : Int), .int .i64 (Y : Int), .slice (some ⟨g, 0, none⟩) Q.length Q.length] 24)).heap.size (r3.alloc (.cells #[.int .i64 (X : Int), .int .i64 (Y : Int), .slice (some ⟨g, 0, none⟩) Q.length Q.length] 24)) t → t.cell? ⟨r3.heap.size, 0, none⟩ = some (.int .i64 (X : Int)) ∧ t.cell? ⟨r3.heap.size, 1, none⟩ = some (.int .i64 (Y : Int)) ∧ t.cell? ⟨r3.heap.size, 2, none⟩ = some (.slice (some ⟨g, 0, none⟩) Q.length Q.length)) := fun t ht => ⟨by rw [newCell ht _ _ (by simp)]; simp, by rw [newCell ht _ _ (by simp)]; simp, by rw [newCell ht _ _ (by simp)]; simp⟩
          have hg0 : w0.heap.size ≤ g := Nat.le_trans Z2.out.size hg
          clear hb hr h3 hg p0 p1 p2 p3 p4 p5 p6 p7 p8 p9 p10 p11 p12 p13
          have hp3 := HK2.out (r3.alloc (.cells #[.int .i64 (X : Int), .int .i64 (Y : Int), .slice (some ⟨g, 0, none⟩) Q.length Q.length] 24)) Z3.out
          obtain ⟨p0, p1, p2, p3, p4, p5, p6, p7, p8, p9, p10, p11, p12, p13, _⟩ := hp3
          go_wp2_with fail
          generalize r3.alloc (.cells #[.int .i64 (X : Int), .int .i64 (Y : Int), .slice (some ⟨g, 0, none⟩) Q.length Q.length] 24) = r4 at *
          generalize r3.heap.size = z14 at *
          clear p0 p1 p2 p3 p4 p5 p6 p7 p8 p9 p10 p11 p12 p13
          refine (KN2.out _).mono ?_
          rintro e r5 ⟨g', rfl, hg', hr', hb'⟩
          have hb5 : Below r4.heap.size r4 (r5.alloc (.cells #[.int .i64 (X : Int), .int .i64 (Y : Int), .slice (some ⟨g', 0, none⟩) Q.length Q.length] 24)) := to_alloc hb' _
          obtain ⟨z0, z1, z2⟩ := HN.out _ hb5
          have Z5 : Hid (Below w0.heap.size w0 (r5.alloc (.cells #[.int .i64 (X : Int), .int .i64 (Y : Int), .slice (some ⟨g', 0, none⟩) Q.length Q.length] 24))) := below_to Z3.out hb5
          have HR5 : Hid (Rw (r5.alloc (.cells #[.int .i64 (X : Int), .int .i64 (Y : Int), .slice (some ⟨g', 0, none⟩) Q.length Q.length] 24)) g Q) := HRW.out.to hb5
          have HS5 : Hid (Sl (r5.alloc (.cells #[.int .i64 (X : Int), .int .i64 (Y : Int), .slice (some ⟨g', 0, none⟩) Q.length Q.length] 24)) .u8 (some ⟨g', 0, none⟩) Q) := (hr'.to (from_alloc _ _)).sl
          have e0 : ((0 : Int) == 0) = true := rfl
          clear hb' hr' hg' hb5 HN HRW
          go_wp2_with fail
          refine (told_rw HR5.out HS5.out hE).mono ?_
          rintro e r6 ⟨rfl, hkf⟩
          have hz6 : Below w0.heap.size w0 r6 := ⟨hkf.os.trans Z5.out.os, hkf.tape.trans Z5.out.tape, hkf.output.trans Z5.out.output, Nat.le_trans Z5.out.size hkf.size, fun i hi => (hkf.block i (Nat.lt_of_lt_of_le hi Z5.out.size) (by omega)).trans (Z5.out.block i hi)⟩
          clear hkf z0 z1 z2
          have Z6 : Hid (Below w0.heap.size w0 r6) := hz6
          clear hz6
          obtain ⟨p0, p1, p2, p3, p4, p5, p6, p7, p8, p9, p10, p11, p12, p13, _⟩ := HK2.out r6 Z6.out
          go_wp2_with fail
          refine (N11.out _ Z6.out).mono ?_
          rintro e r7 ⟨rfl, hb⟩
          rw [smB_yes ⟨rfl, rfl, rfl⟩]
          have Z7 : Hid (Below w0.heap.size w0 r7) := hb
          clear hb p0 p1 p2 p3 p4 p5 p6 p7 p8 p9 p10 p11 p12 p13
          obtain ⟨p0, p1, p2, p3, p4, p5, p6, p7, p8, p9, p10, p11, p12, p13, _⟩ := HK2.out r7 Z7.out
          go_wp2_with fail
          refine (N12.out _ Z7.out).mono ?_
          rintro e r8 ⟨rfl, hb⟩
          rw [smB_yes ⟨rfl, rfl, rfl⟩]
          have Z8 : Hid (Below w0.heap.size w0 r8) := hb
          clear hb p0 p1 p2 p3 p4 p5 p6 p7 p8 p9 p10 p11 p12 p13
          go_wp2_with fail
          refine works_true.mono ?_
          rintro e r9 ⟨rfl, hb⟩
          go_wp2_with fail
          go_ret
          exact ⟨rfl, below_to (below_to HBU.out Z8.out) hb⟩
        · have KN1 : Hid (∀ t : World, Calls Try.prog 18 #[.int .i64 A0, .int .i64 A1, .int .u8 77] t fun e w' => Pz t w' e) := fun t => new_no (v := 77) hv
          have KN2 : Hid (∀ t : World, Calls Try.prog 19 #[.int .i64 A0, .int .i64 A1, .int .u8 77] t fun e w' => Pz t w' e) := fun t => rnew_no (v := 77) hv
          clear hv
          refine (KN1.out _).mono ?_
          rintro e r3 ⟨rfl, hb⟩
          have Z3 : Hid (Below w0.heap.size w0 (r3.alloc (.cells #[.int .i64 0, .int .i64 0, .slice none 0 0] 24))) := to_alloc (below_to Z2.out hb) _
          have HN : Hid (∀ t : World, Below (r3.alloc (.cells #[.int .i64 0, .int .i64 0, .slice none 0 0] 24)).heap.size (r3.alloc (.cells #[.int .i64 0, .int .i64 0, .slice none 0 0] 24)) t → t.cell? ⟨r3.heap.size, 0, none⟩ = some (.int .i64 0) ∧ t.cell? ⟨r3.heap.size, 1, none⟩ = some (.int .i64 0) ∧ t.cell? ⟨r3.heap.size, 2, none⟩ = some (.slice none 0 0)) := fun t ht => ⟨by rw [newCell ht _ _ (by simp)]; simp, by rw [newCell ht _ _ (by simp)]; simp, by rw [newCell ht _ _ (by simp)]; simp⟩
          clear hb p0 p1 p2 p3 p4 p5 p6 p7 p8 p9 p10 p11 p12 p13
          have hp3 := HK2.out (r3.alloc (.cells #[.int .i64 0, .int .i64 0, .slice none 0 0] 24)) Z3.out
          obtain ⟨p0, p1, p2, p3, p4, p5, p6, p7, p8, p9, p10, p11, p12, p13, _⟩ := hp3
          go_wp2_with fail
          generalize r3.alloc (.cells #[.int .i64 0, .int .i64 0, .slice none 0 0] 24) = r4 at *
          generalize r3.heap.size = z14 at *
          clear p0 p1 p2 p3 p4 p5 p6 p7 p8 p9 p10 p11 p12 p13
          refine (KN2.out _).mono ?_
          rintro e r5 ⟨rfl, hb'⟩
          have hb5 : Below r4.heap.size r4 (r5.alloc (.cells #[.int .i64 0, .int .i64 0, .slice none 0 0] 24)) := to_alloc hb' _
          obtain ⟨z0, z1, z2⟩ := HN.out _ hb5
          have Z5 : Hid (Below w0.heap.size w0 (r5.alloc (.cells #[.int .i64 0, .int .i64 0, .slice none 0 0] 24))) := below_to Z3.out hb5
          clear hb' hb5 HN
          go_wp2_with fail
          refine told_nil.mono ?_
          rintro e r6 ⟨rfl, hkb⟩
          have hz6 : Below w0.heap.size w0 r6 := below_to Z5.out hkb
          clear hkb z0 z1 z2
          have Z6 : Hid (Below w0.heap.size w0 r6) := hz6
          clear hz6
          obtain ⟨p0, p1, p2, p3, p4, p5, p6, p7, p8, p9, p10, p11, p12, p13, _⟩ := HK2.out r6 Z6.out
          go_wp2_with fail
          refine (N11.out _ Z6.out).mono ?_
          rintro e r7 ⟨rfl, hb⟩
          rw [smB_yes ⟨rfl, rfl, rfl⟩]
          have Z7 : Hid (Below w0.heap.size w0 r7) := hb
          clear hb p0 p1 p2 p3 p4 p5 p6 p7 p8 p9 p10 p11 p12 p13
          obtain ⟨p0, p1, p2, p3, p4, p5, p6, p7, p8, p9, p10, p11, p12, p13, _⟩ := HK2.out r7 Z7.out
          go_wp2_with fail
          refine (N12.out _ Z7.out).mono ?_
          rintro e r8 ⟨rfl, hb⟩
          rw [smB_yes ⟨rfl, rfl, rfl⟩]
          have Z8 : Hid (Below w0.heap.size w0 r8) := hb
          clear hb p0 p1 p2 p3 p4 p5 p6 p7 p8 p9 p10 p11 p12 p13
          go_wp2_with fail
          refine works_true.mono ?_
          rintro e r9 ⟨rfl, hb⟩
          go_wp2_with fail
          go_ret
          exact ⟨rfl, below_to (below_to HBU.out Z8.out) hb⟩
  go_region_held3 (fun t => t.cell? ⟨u.heap.size, 0, none⟩ = some (.int .i64 W) ∧ t.cell? ⟨u.heap.size, 1, none⟩ = some (.int .i64 H) ∧ t.cell? ⟨u.heap.size, 2, none⟩ = some (.slice a C.length c) ∧ t.cell? ⟨u.heap.size + 1, 0, none⟩ = some (.int .i64 W') ∧ t.cell? ⟨u.heap.size + 1, 1, none⟩ = some (.int .i64 H') ∧ t.cell? ⟨u.heap.size + 1, 2, none⟩ = some (.slice b D.length d) ∧ Below V.heap.size V t)
    ((exact HK.out _ (by solve | (repeat (first | with_reducible assumption | with_reducible refine to_alloc ?_ _ | with_reducible refine below_set ?_ ?_ _ | with_reducible refine below_drew ?_ | with_reducible exact Below.refl _ _)) | (repeat (first | with_reducible assumption | with_reducible refine to_alloc ?_ _ | with_reducible refine below_set ?_ ?_ _ | with_reducible refine below_drew ?_ | with_reducible exact Below.refl _ _ | (dsimp only; omega))))))
    ((first | (go_at_call 9; with_reducible refine (K1.out _ ?_).mono ?_; (solve | (repeat (first | with_reducible assumption | with_reducible refine to_alloc ?_ _ | with_reducible refine below_drew ?_ | with_reducible exact Below.refl _ _))); rintro e wA ⟨aA, cA, rfl, hnA, hbA, hcA⟩; have hsA := hbA.size; have hkA := newCell hcA; have hfA := newFrozen hcA; have hqA := newNe hcA; have hrA := newNe' hcA; have hzA := newLt hcA; have hyA : V.heap.size < _ → V.heap.size < wA.heap.size := newLt hcA _; try simp [l2] at hyA; have hxA : V.heap.size + 1 < _ → V.heap.size + 1 < wA.heap.size := newLt hcA _; try simp at hxA; try (have hyA' := Nat.ne_of_lt hyA); try (have hxA' := Nat.ne_of_lt hxA)) | (go_at_call 9; with_reducible refine (K2.out _ ?_).mono ?_; (solve | (repeat (first | with_reducible assumption | with_reducible refine to_alloc ?_ _ | with_reducible refine below_drew ?_ | with_reducible exact Below.refl _ _))); rintro e wB ⟨aB, cB, rfl, hnB, hbB, hcB⟩; have hsB := hbB.size; have hkB := newCell hcB; have hfB := newFrozen hcB; have hqB := newNe hcB; have hrB := newNe' hcB; have hzB := newLt hcB; have hwB := hcB.size; try simp at hwB; try (have hyB := Nat.lt_of_lt_of_le hyA hwB); try (have hyB := Nat.lt_trans hyA hwB); try (have hyB := Nat.lt_trans hyA (Nat.lt_of_succ_lt hwB)); try (have hxB := Nat.lt_of_lt_of_le hxA hwB); try (have hxB := Nat.lt_trans hxA hwB); try (have hvB : wA.heap.size < wB.heap.size := hwB); try (have hvB : wA.heap.size < wB.heap.size := Nat.lt_of_succ_lt hwB); try (have huB : wA.heap.size + 1 < wB.heap.size := hwB); try (have hyB' := Nat.ne_of_lt hyB); try (have hxB' := Nat.ne_of_lt hxB); try (have hvB' := Nat.ne_of_lt hvB); try (have huB' := Nat.ne_of_lt huB))))
  all_goals
    go_wp2_with fail
    go_meet
    go_light
    refine ⟨_, _, aA, cA, aB, cB, rfl, rfl, ?_⟩
    have hzAB : wA.heap.size ≤ wB.heap.size := by have := hcB.size; first | exact this | (simp at this; omega)
    have hbT := hbB
    refine ⟨?_, ?_, ?_, ?_, ?_, ?_, ?_, ?_, ?_, ?_, ?_⟩
    all_goals first
      | (simp [go_sem]; done)
      | (simp [go_sem, *]; done)
      | (simp; omega)
      | ((repeat rw [far_set _ (by omega)]); simp [go_sem, *]; done)
      | (have hyA2 : V.heap.size < wA.heap.size + 1 := (by omega)
         have hyA4 : ¬ wA.heap.size = V.heap.size := (by omega)
         (repeat rw [far_set _ (by omega)])
         simp [go_sem, *]
         done)
      | (solve | (repeat (first | with_reducible assumption | with_reducible refine to_alloc ?_ _ | with_reducible refine below_set ?_ ?_ _ | with_reducible refine below_drew ?_ | (dsimp only; omega))))
      | skip
    all_goals try (refine Sl.keep hnA.sl ?_ ?_)
    all_goals try (refine Sl.keep hnB.sl ?_ ?_)
    all_goals try (simp only [World.size_alloc, World.size_setCell]; omega)
    all_goals
      intro g o s e hlt o'
      first | have hg := hnA.new g o s e | have hg := hnB.new g o s e
      try simp only [World.size_alloc, World.size_drew] at hg
      repeat rw [far_set _ (by omega)]
      repeat (first | rw [far_alloc _ (by simp only [World.size_alloc, World.size_setCell]; omega)] | rw [far_set _ (by omega)])
      try rw [newCell hcB g o' (by first | exact hlt | (simp only [World.size_alloc]; omega))]
      try (first | rw [far_alloc _ (by simp only [World.size_alloc]; omega), far_alloc _ (by omega)] | rw [far_alloc _ (by omega)])
    all_goals exact newCell hcB g o' hlt

end Go.Proofs.Ytlgfkkegehpllaa
