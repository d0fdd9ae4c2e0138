/- DERIVED. The walk of ScoreRatios. -/
import Derived.Test.YtdiphgkgehpgiaaFk
import Derived.Deep.DeepCutAuto
import Derived.Deep.Light
namespace Go.Proofs.Ytdiphgkgehpgiaa
open Go.RowKit Ieee

theorem far_set {w : World} {g b k : Nat} {v : Value} (o : Nat) (h : g ≠ b) : (w.setCell ⟨b, k, none⟩ v).cell? ⟨g, o, none⟩ = w.cell? ⟨g, o, none⟩ := World.cell?_setCell_other _ _ _ _ (fun e => h (by simpa using (congrArg Addr.block e).symm))
theorem far_alloc {w : World} {g : Nat} {ob : Obj} (o : Nat) (h : g < w.heap.size) : (w.alloc ob).cell? ⟨g, o, none⟩ = w.cell? ⟨g, o, none⟩ := newCell (from_alloc w ob) g o h
theorem Sl.keep {w T : World} {k : IntKind} {a : Option Addr} {C : List Nat} (h : Sl w k a C) (hz : w.heap.size ≤ T.heap.size) (hT : ∀ g o s, a = some ⟨g, o, s⟩ → g < w.heap.size → ∀ o, T.cell? ⟨g, o, none⟩ = w.cell? ⟨g, o, none⟩) : Sl T k a C := by
  rcases h with h | ⟨b, o, h1, h2, h3⟩
  · exact Or.inl h
  · exact Or.inr ⟨b, o, h1, Nat.lt_of_lt_of_le h2 hz, fun j hj => by rw [hT b o none h1 h2]; exact h3 j hj⟩
/-- two planes in variables of their own -/
structure Two (V T : World) (x y : Nat) (W H : Int) (a : Option Addr) (c : Nat) (C : List Nat) (W' H' : Int) (b : Option Addr) (d : Nat) (D : List Nat) : Prop where
  a0 : T.cell? ⟨x, 0, none⟩ = some (.int .i64 W)
  a1 : T.cell? ⟨x, 1, none⟩ = some (.int .i64 H)
  a2 : T.cell? ⟨x, 2, none⟩ = some (.slice a C.length c)
  b0 : T.cell? ⟨y, 0, none⟩ = some (.int .i64 W')
  b1 : T.cell? ⟨y, 1, none⟩ = some (.int .i64 H')
  b2 : T.cell? ⟨y, 2, none⟩ = some (.slice b D.length d)
  sa : Sl T .u8 a C
  sb : Sl T .u8 b D
  lx : x < T.heap.size
  ly : y < T.heap.size
  bel : Below V.heap.size V T
theorem newLt {B : Nat} {u u' : World} (h : Below B u u') (i : Nat) (hi : i < u.heap.size) : i < u'.heap.size := Nat.lt_of_lt_of_le hi h.size
theorem newNe {B : Nat} {u u' : World} (h : Below B u u') (i : Nat) (hi : i < u.heap.size) : ¬ i = u'.heap.size := Nat.ne_of_lt (newLt h i hi)
theorem newNe' {B : Nat} {u u' : World} (h : Below B u u') (i : Nat) (hi : i < u.heap.size) : ¬ u'.heap.size = i := fun e => newNe h i hi e.symm
set_option maxRecDepth 100000 in
set_option maxHeartbeats 4000000 in
theorem ratios_walk {u : World} {a b : Option Addr} {c d : Nat} {C D : List Nat} {W H W' H' : Int} (hs : Sl u .u8 a C) (hs2 : Sl u .u8 b D) (hC : Byt C) (hD : Byt D) (hl : C.length ≤ 140737488355328) (hl2 : D.length ≤ 140737488355328) :
    Calls Try.prog 3 #[.agg #[.int .i64 W, .int .i64 H, .slice a C.length c], .agg #[.int .i64 W', .int .i64 H', .slice b D.length d]] u fun e w' => e = .returned (.bool true) ∧ Below u.heap.size u w' := by
  have HB0 : Hid (Below u.heap.size u ((u.alloc (.cells #[.int .i64 W, .int .i64 H, .slice a C.length c] 24)).alloc (.cells #[.int .i64 W', .int .i64 H', .slice b D.length d] 24))) := to_alloc (from_alloc _ _) _
  have c0 : ((u.alloc (.cells #[.int .i64 W, .int .i64 H, .slice a C.length c] 24)).alloc (.cells #[.int .i64 W', .int .i64 H', .slice b D.length d] 24)).cell? ⟨u.heap.size, 0, none⟩ = some (.int .i64 W) := by simp [go_sem]
  have c1 : ((u.alloc (.cells #[.int .i64 W, .int .i64 H, .slice a C.length c] 24)).alloc (.cells #[.int .i64 W', .int .i64 H', .slice b D.length d] 24)).cell? ⟨u.heap.size, 1, none⟩ = some (.int .i64 H) := by simp [go_sem]
  have c2 : ((u.alloc (.cells #[.int .i64 W, .int .i64 H, .slice a C.length c] 24)).alloc (.cells #[.int .i64 W', .int .i64 H', .slice b D.length d] 24)).cell? ⟨u.heap.size, 2, none⟩ = some (.slice a C.length c) := by simp [go_sem]
  have c3 : ((u.alloc (.cells #[.int .i64 W, .int .i64 H, .slice a C.length c] 24)).alloc (.cells #[.int .i64 W', .int .i64 H', .slice b D.length d] 24)).cell? ⟨u.heap.size + 1, 0, none⟩ = some (.int .i64 W') := by simp [go_sem]
  have c4 : ((u.alloc (.cells #[.int .i64 W, .int .i64 H, .slice a C.length c] 24)).alloc (.cells #[.int .i64 W', .int .i64 H', .slice b D.length d] 24)).cell? ⟨u.heap.size + 1, 1, none⟩ = some (.int .i64 H') := by simp [go_sem]
  have c5 : ((u.alloc (.cells #[.int .i64 W, .int .i64 H, .slice a C.length c] 24)).alloc (.cells #[.int .i64 W', .int .i64 H', .slice b D.length d] 24)).cell? ⟨u.heap.size + 1, 2, none⟩ = some (.slice b D.length d) := by simp [go_sem]
  have hz : ((u.alloc (.cells #[.int .i64 W, .int .i64 H, .slice a C.length c] 24)).alloc (.cells #[.int .i64 W', .int .i64 H', .slice b D.length d] 24)).heap.size = u.heap.size + 2 := by simp
  have S1 : Hid (Sl ((u.alloc (.cells #[.int .i64 W, .int .i64 H, .slice a C.length c] 24)).alloc (.cells #[.int .i64 W', .int .i64 H', .slice b D.length d] 24)) .u8 a C) := hs.to HB0.out
  have S2 : Hid (Sl ((u.alloc (.cells #[.int .i64 W, .int .i64 H, .slice a C.length c] 24)).alloc (.cells #[.int .i64 W', .int .i64 H', .slice b D.length d] 24)) .u8 b D) := hs2.to HB0.out
  have HZ : Hid _ := hz
  clear hs hs2 hz
  go_enter Try.func3, Try.ntmps3
  go_wp2_with fail
  generalize ((u.alloc (.cells #[.int .i64 W, .int .i64 H, .slice a C.length c] 24)).alloc (.cells #[.int .i64 W', .int .i64 H', .slice b D.length d] 24)) = V at *
  have hz := HZ.out
  have HK : Hid (∀ t : World, Below V.heap.size V t → (t.cell? ⟨u.heap.size, 0, none⟩ = some (.int .i64 W) ∧ t.cell? ⟨u.heap.size, 1, none⟩ = some (.int .i64 H) ∧ t.cell? ⟨u.heap.size, 2, none⟩ = some (.slice a C.length c) ∧ t.cell? ⟨u.heap.size + 1, 0, none⟩ = some (.int .i64 W') ∧ t.cell? ⟨u.heap.size + 1, 1, none⟩ = some (.int .i64 H') ∧ t.cell? ⟨u.heap.size + 1, 2, none⟩ = some (.slice b D.length d) ∧ Below V.heap.size V t)) := fun t ht => ⟨by rw [newCell ht _ _ (by omega)]; exact c0, by rw [newCell ht _ _ (by omega)]; exact c1, by rw [newCell ht _ _ (by omega)]; exact c2, by rw [newCell ht _ _ (by omega)]; exact c3, by rw [newCell ht _ _ (by omega)]; exact c4, by rw [newCell ht _ _ (by omega)]; exact c5, ht⟩
  have K1 : Hid (∀ t : World, Below V.heap.size V t → Calls Try.prog 9 #[.agg #[.int .i64 W, .int .i64 H, .slice a C.length c]] t fun e w' => ∃ a' c', e = .returned (.agg #[.int .i64 W, .int .i64 H, .slice a' C.length c']) ∧ Nw t w' a' c' C ∧ Below V.heap.size V w' ∧ Below t.heap.size t w') := fun t ht => (copyPlane_any (S1.out.to ht) hl).mono (by rintro e w' ⟨a', c', rfl, hn, hb⟩; exact ⟨a', c', rfl, hn, below_to ht hb, hb⟩)
  have K2 : Hid (∀ t : World, Below V.heap.size V t → Calls Try.prog 9 #[.agg #[.int .i64 W', .int .i64 H', .slice b D.length d]] t fun e w' => ∃ a' c', e = .returned (.agg #[.int .i64 W', .int .i64 H', .slice a' D.length c']) ∧ Nw t w' a' c' D ∧ Below V.heap.size V w' ∧ Below t.heap.size t w') := fun t ht => (copyPlane_any (S2.out.to ht) hl2).mono (by rintro e w' ⟨a', c', rfl, hn, hb⟩; exact ⟨a', c', rfl, hn, below_to ht hb, hb⟩)
  have hbd : Below V.heap.size V V.drew := below_drew (Below.refl _ _)
  clear c0 c1 c2 c3 c4 c5 hz
  have l2 : ∀ n : Nat, n < n + 1 + 1 := fun n => by omega
  go_cut [5, 6] (fun s5 s6 T => ∃ x y aA cA aB cB, s5 = .pointer (some ⟨x, 0, none⟩) ∧ s6 = .pointer (some ⟨y, 0, none⟩) ∧ Two V T x y W H aA cA C W' H' aB cB D)
  case rest =>
    obtain ⟨x, y, aA, cA, aB, cB, rfl, rfl, hT⟩ := hcut
    have T0 : Hid (Two V wc x y W H aA cA C W' H' aB cB D) := hT
    have hVz : V.heap.size = u.heap.size + 2 := HZ.out
    have hwz : V.heap.size ≤ wc.heap.size := hT.bel.size
    have HK2 : Hid (∀ t : World, Below wc.heap.size wc t → (t.cell? ⟨u.heap.size, 0, none⟩ = some (.int .i64 W) ∧ t.cell? ⟨u.heap.size, 1, none⟩ = some (.int .i64 H) ∧ t.cell? ⟨u.heap.size, 2, none⟩ = some (.slice a C.length c) ∧ t.cell? ⟨u.heap.size + 1, 0, none⟩ = some (.int .i64 W') ∧ t.cell? ⟨u.heap.size + 1, 1, none⟩ = some (.int .i64 H') ∧ t.cell? ⟨u.heap.size + 1, 2, none⟩ = some (.slice b D.length d) ∧ t.cell? ⟨x, 0, none⟩ = some (.int .i64 W) ∧ t.cell? ⟨x, 1, none⟩ = some (.int .i64 H) ∧ t.cell? ⟨x, 2, none⟩ = some (.slice aA C.length cA) ∧ t.cell? ⟨y, 0, none⟩ = some (.int .i64 W') ∧ t.cell? ⟨y, 1, none⟩ = some (.int .i64 H') ∧ t.cell? ⟨y, 2, none⟩ = some (.slice aB D.length cB) ∧ Below wc.heap.size wc t)) := fun t ht => by
      obtain ⟨p0, p1, p2, p3, p4, p5, _⟩ := HK.out wc T0.out.bel
      exact ⟨by rw [newCell ht _ _ (by omega)]; exact p0, by rw [newCell ht _ _ (by omega)]; exact p1, by rw [newCell ht _ _ (by omega)]; exact p2, by rw [newCell ht _ _ (by omega)]; exact p3, by rw [newCell ht _ _ (by omega)]; exact p4, by rw [newCell ht _ _ (by omega)]; exact p5, by rw [newCell ht _ _ T0.out.lx]; exact T0.out.a0, by rw [newCell ht _ _ T0.out.lx]; exact T0.out.a1, by rw [newCell ht _ _ T0.out.lx]; exact T0.out.a2, by rw [newCell ht _ _ T0.out.ly]; exact T0.out.b0, by rw [newCell ht _ _ T0.out.ly]; exact T0.out.b1, by rw [newCell ht _ _ T0.out.ly]; exact T0.out.b2, ht⟩
    have M1 : Hid (∀ t : World, Below wc.heap.size wc t → Calls Try.prog 11 #[.agg #[.int .i64 W, .int .i64 H, .slice aA C.length cA], .agg #[.int .i64 W', .int .i64 H', .slice aB D.length cB]] t fun e w' => ∃ r : Nat, e = .returned (.float .f64 r) ∧ Is (ratO W H C W' H' D) r ∧ Below wc.heap.size wc w') := fun t ht => (ratio_any (T0.out.sa.to ht) (T0.out.sb.to ht) hC hD).mono (by rintro e w' ⟨r, rfl, hr, hb⟩; exact ⟨r, rfl, hr, below_to ht hb⟩)
    have M2 : Hid (∀ t : World, Below wc.heap.size wc t → Calls Try.prog 12 #[.agg #[.int .i64 W, .int .i64 H, .slice a C.length c], .agg #[.int .i64 W', .int .i64 H', .slice b D.length d]] t fun e w' => ∃ r : Nat, e = .returned (.float .f64 r) ∧ Is (ratO W H C W' H' D) r ∧ Below wc.heap.size wc w') := fun t ht => (rratio_any ((S1.out.to T0.out.bel).to ht) ((S2.out.to T0.out.bel).to ht) hC hD).mono (by rintro e w' ⟨r, rfl, hr, hb⟩; exact ⟨r, rfl, hr, below_to ht hb⟩)
    have M3 : Hid (∀ t : World, Below wc.heap.size wc t → Calls Try.prog 11 #[.agg #[.int .i64 W, .int .i64 H, .slice aA C.length cA], .agg #[.int .i64 W, .int .i64 H, .slice aA C.length cA]] t fun e w' => ∃ r : Nat, e = .returned (.float .f64 r) ∧ Is (ratO W H C W H C) r ∧ Below wc.heap.size wc w') := fun t ht => (ratio_any (T0.out.sa.to ht) (T0.out.sa.to ht) hC hC).mono (by rintro e w' ⟨r, rfl, hr, hb⟩; exact ⟨r, rfl, hr, below_to ht hb⟩)
    have M4 : Hid (∀ t : World, Below wc.heap.size wc t → Calls Try.prog 12 #[.agg #[.int .i64 W, .int .i64 H, .slice a C.length c], .agg #[.int .i64 W, .int .i64 H, .slice a C.length c]] t fun e w' => ∃ r : Nat, e = .returned (.float .f64 r) ∧ Is (ratO W H C W H C) r ∧ Below wc.heap.size wc w') := fun t ht => (rratio_any ((S1.out.to T0.out.bel).to ht) ((S1.out.to T0.out.bel).to ht) hC hC).mono (by rintro e w' ⟨r, rfl, hr, hb⟩; exact ⟨r, rfl, hr, below_to ht hb⟩)
    have M5 : Hid (∀ t : World, Below wc.heap.size wc t → Calls Try.prog 13 #[.agg #[.int .i64 W, .int .i64 H, .slice aA C.length cA], .agg #[.int .i64 W, .int .i64 H, .slice a C.length c]] t fun e w' => e = .returned (.bool true) ∧ Below wc.heap.size wc w') := fun t ht => (rsame_any (T0.out.sa.to ht) ((S1.out.to T0.out.bel).to ht) hl hl).mono (by rintro e w' ⟨rfl, hb⟩; exact ⟨by rw [smB_yes ⟨rfl, rfl, rfl⟩], below_to ht hb⟩)
    have M6 : Hid (∀ t : World, Below wc.heap.size wc t → Calls Try.prog 13 #[.agg #[.int .i64 W', .int .i64 H', .slice aB D.length cB], .agg #[.int .i64 W', .int .i64 H', .slice b D.length d]] t fun e w' => e = .returned (.bool true) ∧ Below wc.heap.size wc w') := fun t ht => (rsame_any (T0.out.sb.to ht) ((S2.out.to T0.out.bel).to ht) hl2 hl2).mono (by rintro e w' ⟨rfl, hb⟩; exact ⟨by rw [smB_yes ⟨rfl, rfl, rfl⟩], below_to ht hb⟩)
    have hbd2 : Below wc.heap.size wc wc.drew := below_drew (Below.refl _ _)
    have HBU : Hid (Below u.heap.size u wc) := below_to HB0.out T0.out.bel
    clear hT hVz hwz hl hl2 hC hD K1 K2 HK hbd l2
    go_wp2_with fail
    go_region_held3 (fun t => t.cell? ⟨u.heap.size, 0, none⟩ = some (.int .i64 W) ∧ t.cell? ⟨u.heap.size, 1, none⟩ = some (.int .i64 H) ∧ t.cell? ⟨u.heap.size, 2, none⟩ = some (.slice a C.length c) ∧ t.cell? ⟨u.heap.size + 1, 0, none⟩ = some (.int .i64 W') ∧ t.cell? ⟨u.heap.size + 1, 1, none⟩ = some (.int .i64 H') ∧ t.cell? ⟨u.heap.size + 1, 2, none⟩ = some (.slice b D.length d) ∧ t.cell? ⟨x, 0, none⟩ = some (.int .i64 W) ∧ t.cell? ⟨x, 1, none⟩ = some (.int .i64 H) ∧ t.cell? ⟨x, 2, none⟩ = some (.slice aA C.length cA) ∧ t.cell? ⟨y, 0, none⟩ = some (.int .i64 W') ∧ t.cell? ⟨y, 1, none⟩ = some (.int .i64 H') ∧ t.cell? ⟨y, 2, none⟩ = some (.slice aB D.length cB) ∧ Below wc.heap.size wc t)
      ((exact HK2.out _ (by with_reducible assumption)))
      ((first
        | (go_at_call 11; with_reducible refine (M1.out _ ?_).mono ?_; (with_reducible assumption); rintro e wE ⟨rE, rfl, hE, hbE⟩)
        | (go_at_call 12; with_reducible refine (M2.out _ ?_).mono ?_; (with_reducible assumption); rintro e wF ⟨rF, rfl, hF, hbF⟩)
        | (go_at_call 11; with_reducible refine (M3.out _ ?_).mono ?_; (with_reducible assumption); rintro e wG ⟨rG, rfl, hG, hbG⟩)
        | (go_at_call 12; with_reducible refine (M4.out _ ?_).mono ?_; (with_reducible assumption); rintro e wH ⟨rH, rfl, hH, hbH⟩)
        | (go_at_call 10; refine (same_is (by assumption) (by assumption) _).mono ?_; rintro e wI ⟨rfl, rfl⟩)))
    clear hE hF hG hH hbE hbF hbG
    obtain ⟨p0, p1, p2, p3, p4, p5, p6, p7, p8, p9, p10, p11, _⟩ := HK2.out wI hbH
    have HBH : Hid (Below wc.heap.size wc wI) := hbH
    go_wp2_with fail
    refine (M5.out _ HBH.out).mono ?_
    rintro e v1 ⟨rfl, hb1⟩
    have B1 : Hid (Below wc.heap.size wc v1) := hb1
    clear p0 p1 p2 p3 p4 p5 p6 p7 p8 p9 p10 p11 hb1 hbH
    obtain ⟨p0, p1, p2, p3, p4, p5, p6, p7, p8, p9, p10, p11, _⟩ := HK2.out v1 B1.out
    go_wp2_with fail
    refine (M6.out _ B1.out).mono ?_
    rintro e v2 ⟨rfl, hb2⟩
    have B2 : Hid (Below wc.heap.size wc v2) := hb2
    clear p0 p1 p2 p3 p4 p5 p6 p7 p8 p9 p10 p11 hb2
    go_wp2_with fail
    refine (works_true _).mono ?_
    rintro e v3 ⟨rfl, hb3⟩
    go_wp2_with fail
    go_ret
    exact ⟨rfl, below_to (below_to HBU.out B2.out) hb3⟩
  go_region_held3 (fun t => t.cell? ⟨u.heap.size, 0, none⟩ = some (.int .i64 W) ∧ t.cell? ⟨u.heap.size, 1, none⟩ = some (.int .i64 H) ∧ t.cell? ⟨u.heap.size, 2, none⟩ = some (.slice a C.length c) ∧ t.cell? ⟨u.heap.size + 1, 0, none⟩ = some (.int .i64 W') ∧ t.cell? ⟨u.heap.size + 1, 1, none⟩ = some (.int .i64 H') ∧ t.cell? ⟨u.heap.size + 1, 2, none⟩ = some (.slice b D.length d) ∧ Below V.heap.size V t)
    ((exact HK.out _ (by solve | (repeat (first | with_reducible assumption | with_reducible refine to_alloc ?_ _ | with_reducible refine below_set ?_ ?_ _ | with_reducible refine below_drew ?_ | with_reducible exact Below.refl _ _)) | (repeat (first | with_reducible assumption | with_reducible refine to_alloc ?_ _ | with_reducible refine below_set ?_ ?_ _ | with_reducible refine below_drew ?_ | with_reducible exact Below.refl _ _ | (dsimp only; omega))))))
    ((first | (go_at_call 9; with_reducible refine (K1.out _ ?_).mono ?_; (solve | (repeat (first | with_reducible assumption | with_reducible refine to_alloc ?_ _ | with_reducible refine below_drew ?_ | with_reducible exact Below.refl _ _))); rintro e wA ⟨aA, cA, rfl, hnA, hbA, hcA⟩; have hsA := hbA.size; have hkA := newCell hcA; have hfA := newFrozen hcA; have hqA := newNe hcA; have hrA := newNe' hcA; have hzA := newLt hcA; have hyA : V.heap.size < _ → V.heap.size < wA.heap.size := newLt hcA _; try simp [l2] at hyA; have hxA : V.heap.size + 1 < _ → V.heap.size + 1 < wA.heap.size := newLt hcA _; try simp at hxA; try (have hyA' := Nat.ne_of_lt hyA); try (have hxA' := Nat.ne_of_lt hxA)) | (go_at_call 9; with_reducible refine (K2.out _ ?_).mono ?_; (solve | (repeat (first | with_reducible assumption | with_reducible refine to_alloc ?_ _ | with_reducible refine below_drew ?_ | with_reducible exact Below.refl _ _))); rintro e wB ⟨aB, cB, rfl, hnB, hbB, hcB⟩; have hsB := hbB.size; have hkB := newCell hcB; have hfB := newFrozen hcB; have hqB := newNe hcB; have hrB := newNe' hcB; have hzB := newLt hcB; have hwB := hcB.size; try simp at hwB; try (have hyB := Nat.lt_of_lt_of_le hyA hwB); try (have hyB := Nat.lt_trans hyA hwB); try (have hyB := Nat.lt_trans hyA (Nat.lt_of_succ_lt hwB)); try (have hxB := Nat.lt_of_lt_of_le hxA hwB); try (have hxB := Nat.lt_trans hxA hwB); try (have hvB : wA.heap.size < wB.heap.size := hwB); try (have hvB : wA.heap.size < wB.heap.size := Nat.lt_of_succ_lt hwB); try (have huB : wA.heap.size + 1 < wB.heap.size := hwB); try (have hyB' := Nat.ne_of_lt hyB); try (have hxB' := Nat.ne_of_lt hxB); try (have hvB' := Nat.ne_of_lt hvB); try (have huB' := Nat.ne_of_lt huB))))
  all_goals
    go_wp2_with fail
    go_meet
    go_light
    refine ⟨_, _, aA, cA, aB, cB, rfl, rfl, ?_⟩
    have hzAB : wA.heap.size ≤ wB.heap.size := by have := hcB.size; first | exact this | (simp at this; omega)
    have hbT := hbB
    refine ⟨?_, ?_, ?_, ?_, ?_, ?_, ?_, ?_, ?_, ?_, ?_⟩
    all_goals first
      | (simp [go_sem]; done)
      | (simp [go_sem, *]; done)
      | (simp; omega)
      | ((repeat rw [far_set _ (by omega)]); simp [go_sem, *]; done)
      | (have hyA2 : V.heap.size < wA.heap.size + 1 := (by omega)
         have hyA4 : ¬ wA.heap.size = V.heap.size := (by omega)
         (repeat rw [far_set _ (by omega)])
         simp [go_sem, *]
         done)
      | (solve | (repeat (first | with_reducible assumption | with_reducible refine to_alloc ?_ _ | with_reducible refine below_set ?_ ?_ _ | with_reducible refine below_drew ?_ | (dsimp only; omega))))
      | skip
    all_goals try (refine Sl.keep hnA.sl ?_ ?_)
    all_goals try (refine Sl.keep hnB.sl ?_ ?_)
    all_goals try (simp only [World.size_alloc, World.size_setCell]; omega)
    all_goals
      intro g o s e hlt o'
      first | have hg := hnA.new g o s e | have hg := hnB.new g o s e
      try simp only [World.size_alloc, World.size_drew] at hg
      repeat rw [far_set _ (by omega)]
      repeat (first | rw [far_alloc _ (by simp only [World.size_alloc, World.size_setCell]; omega)] | rw [far_set _ (by omega)])
      try rw [newCell hcB g o' (by first | exact hlt | (simp only [World.size_alloc]; omega))]
      try (first | rw [far_alloc _ (by simp only [World.size_alloc]; omega), far_alloc _ (by omega)] | rw [far_alloc _ (by omega)])
    all_goals exact newCell hcB g o' hlt

end Go.Proofs.Ytdiphgkgehpgiaa
