/- DERIVED. The document's Single. -/
import Derived.Test.YtpideemiijhkgaaDoorWa
import Derived.Test.YtpideemiijhkgaaDoorMf
import Derived.Test.YtpideemiijhkgaaDoorDe
namespace Go.Proofs.YtpideemiijhkgaaDoor
open Go.RowKit

/-- samples and an error are answered, wherever they lie -/
def Rr (u w' : World) (e : Ending) (L : List Nat) (er : Int) : Prop := ∃ a c, e = .returned (.tuple #[.slice a L.length c, .int .i64 er]) ∧ Sl w' .u8 a L ∧ Below u.heap.size u w'
theorem Fr.rr {u w' : World} {e : Ending} {L : List Nat} (h : Fr u w' e L) : Rr u w' e L 0 := by
  obtain ⟨a, c, rfl, hs, hb⟩ := h
  exact ⟨a, c, rfl, hs, hb⟩
theorem rr_no {u w' : World} {e : Ending} (h : e = .returned (.tuple #[.slice none 0 0, .int .i64 2]) ∧ Below u.heap.size u w') : Rr u w' e [] 2 := by
  obtain ⟨rfl, hb⟩ := h
  exact ⟨none, 0, rfl, Or.inl rfl, hb⟩
set_option maxRecDepth 100000 in
set_option maxHeartbeats 1000000 in
theorem qpart_any {w : World} {z : Int} : Calls Tryd.prog 37 #[.int .i64 z] w fun e w' => e = .returned (.bool (decide (-4095 ≤ z ∧ z ≤ 4095))) ∧ w = w' := by
  by_cases h0 : -4095 ≤ z
  · by_cases h1 : z ≤ 4095
    · rw [decide_eq_true (show -4095 ≤ z ∧ z ≤ 4095 from ⟨h0, h1⟩)]
      go_enter Tryd.func37, Tryd.ntmps37
      go_wp2
      go_ret
      exact ⟨rfl, rfl⟩
    · rw [decide_eq_false (show ¬ (-4095 ≤ z ∧ z ≤ 4095) from fun k => h1 k.2)]
      go_enter Tryd.func37, Tryd.ntmps37
      go_wp2
      go_ret
      exact ⟨rfl, rfl⟩
  · rw [decide_eq_false (show ¬ (-4095 ≤ z ∧ z ≤ 4095) from fun k => h0 k.1)]
    go_enter Tryd.func37, Tryd.ntmps37
    go_wp2
    go_ret
    exact ⟨rfl, rfl⟩

/-- sides of a block -/
structure SdOk (pw ph : Int) : Prop where
  w : 4 ≤ pw ∧ pw ≤ 64
  h : 4 ≤ ph ∧ ph ≤ 64

set_option maxRecDepth 100000 in
set_option maxHeartbeats 2000000 in
theorem qsingle_0 {u : World} {W0 H0 W1 H1 W2 H2 : Int} {a0 a1 a2 : Option Addr} {c0 c1 c2 : Nat} {C0 C1 C2 : List Nat} {X Y pw ph vx vy pk er : Int} {L : List Nat} (hf : FrOk ⟨W0, H0, a0, c0, C0⟩ ⟨W1, H1, a1, c1, C1⟩ ⟨W2, H2, a2, c2, C2⟩) (hm : MvOk 0 X Y vx vy) (hs : SdOk pw ph)
    (hF : ∀ t : World, Below u.heap.size u t → Calls Tryd.prog 38 #[.agg #[.int .i64 W0, .int .i64 H0, .slice a0 C0.length c0], .int .i64 (16 * X + 2 * vx), .int .i64 (16 * Y + 2 * vy), .int .i64 pw, .int .i64 ph, .int .i64 pk] t fun e w' => Rr t w' e L er) :
    Calls Tryd.prog 11 #[.agg #[.int .i64 W0, .int .i64 H0, .slice a0 C0.length c0, .int .i64 W1, .int .i64 H1, .slice a1 C1.length c1, .int .i64 W2, .int .i64 H2, .slice a2 C2.length c2], .int .i64 0, .agg #[.int .i64 X, .int .i64 Y, .int .i64 pw, .int .i64 ph], .agg #[.int .i64 vx, .int .i64 vy], .int .i64 pk] u fun e w' => Rr u w' e L er := by
  have HWh : Hid (∀ t : World, Calls Tryd.prog 36 #[.agg #[.int .i64 W0, .int .i64 H0, .slice a0 C0.length c0, .int .i64 W1, .int .i64 H1, .slice a1 C1.length c1, .int .i64 W2, .int .i64 H2, .slice a2 C2.length c2]] t fun e w' => e = .returned (.int .i64 0) ∧ Below t.heap.size t w') := fun t => by
    have := rwhole_any (u := t) (W0 := W0) (H0 := H0) (W1 := W1) (H1 := H1) (W2 := W2) (H2 := H2) (a0 := a0) (a1 := a1) (a2 := a2) (c0 := c0) (c1 := c1) (c2 := c2) (C0 := C0) (C1 := C1) (C2 := C2)
    rwa [fk_ok hf] at this
  have HVx : Hid (∀ t : World, Calls Tryd.prog 37 #[.int .i64 vx] t fun e w' => e = .returned (.bool true) ∧ t = w') := fun t => by
    have := qpart_any (w := t) (z := vx)
    rwa [decide_eq_true hm.vx] at this
  have HVy : Hid (∀ t : World, Calls Tryd.prog 37 #[.int .i64 vy] t fun e w' => e = .returned (.bool true) ∧ t = w') := fun t => by
    have := qpart_any (w := t) (z := vy)
    rwa [decide_eq_true hm.vy] at this
  have x0 := hm.x.1
  have x1 := hm.x.2
  have y0 := hm.y.1
  have y1 := hm.y.2
  have v0 := hm.vx.1
  have v1 := hm.vx.2
  have z0 := hm.vy.1
  have z1 := hm.vy.2
  have s0 := hs.w.1
  have s1 := hs.w.2
  have s2 := hs.h.1
  have s3 := hs.h.2
  have HF : Hid _ := hF
  clear hf hm hF hs
  have HA : Hid (Below u.heap.size u (((u.alloc (.cells #[.int .i64 W0, .int .i64 H0, .slice a0 C0.length c0, .int .i64 W1, .int .i64 H1, .slice a1 C1.length c1, .int .i64 W2, .int .i64 H2, .slice a2 C2.length c2] 27)).alloc (.cells #[.int .i64 X, .int .i64 Y, .int .i64 pw, .int .i64 ph] 29)).alloc (.cells #[.int .i64 vx, .int .i64 vy] 31))) := to_alloc (to_alloc (from_alloc _ _) _) _
  go_enter Tryd.func11, Tryd.ntmps11
  go_wp2_with fail
  refine (HWh.out _).mono ?_
  rintro e v ⟨rfl, hb⟩
  have HB : Hid (Below u.heap.size u v) := below_to HA.out hb
  have p0 : v.cell? ⟨u.heap.size, 0, none⟩ = some (.int .i64 W0) := by rw [newCell hb _ _ (by simp <;> omega)]; simp [go_sem]
  have p1 : v.cell? ⟨u.heap.size, 1, none⟩ = some (.int .i64 H0) := by rw [newCell hb _ _ (by simp <;> omega)]; simp [go_sem]
  have p2 : v.cell? ⟨u.heap.size, 2, none⟩ = some (.slice a0 C0.length c0) := by rw [newCell hb _ _ (by simp <;> omega)]; simp [go_sem]
  have r0 : v.cell? ⟨u.heap.size + 1, 0, none⟩ = some (.int .i64 X) := by rw [newCell hb _ _ (by simp)]; simp [go_sem]
  have r1 : v.cell? ⟨u.heap.size + 1, 1, none⟩ = some (.int .i64 Y) := by rw [newCell hb _ _ (by simp)]; simp [go_sem]
  have r2 : v.cell? ⟨u.heap.size + 1, 2, none⟩ = some (.int .i64 pw) := by rw [newCell hb _ _ (by simp)]; simp [go_sem]
  have r3 : v.cell? ⟨u.heap.size + 1, 3, none⟩ = some (.int .i64 ph) := by rw [newCell hb _ _ (by simp)]; simp [go_sem]
  have q0 : v.cell? ⟨u.heap.size + 1 + 1, 0, none⟩ = some (.int .i64 vx) := by rw [newCell hb _ _ (by simp)]; simp [go_sem]
  have q1 : v.cell? ⟨u.heap.size + 1 + 1, 1, none⟩ = some (.int .i64 vy) := by rw [newCell hb _ _ (by simp)]; simp [go_sem]
  have hz : u.heap.size + 1 + 1 < v.heap.size := Nat.lt_of_lt_of_le (by simp) hb.size
  clear hb HWh HA
  have HS : Hid (∀ t : World, Below v.drew.heap.size v.drew t → (t.cell? ⟨u.heap.size, 0, none⟩ = some (.int .i64 W0) ∧ t.cell? ⟨u.heap.size, 1, none⟩ = some (.int .i64 H0) ∧ t.cell? ⟨u.heap.size, 2, none⟩ = some (.slice a0 C0.length c0) ∧ t.cell? ⟨u.heap.size + 1, 0, none⟩ = some (.int .i64 X) ∧ t.cell? ⟨u.heap.size + 1, 1, none⟩ = some (.int .i64 Y) ∧ t.cell? ⟨u.heap.size + 1, 2, none⟩ = some (.int .i64 pw) ∧ t.cell? ⟨u.heap.size + 1, 3, none⟩ = some (.int .i64 ph) ∧ t.cell? ⟨u.heap.size + 1 + 1, 0, none⟩ = some (.int .i64 vx) ∧ t.cell? ⟨u.heap.size + 1 + 1, 1, none⟩ = some (.int .i64 vy) ∧ Below u.heap.size u t)) := fun t ht => by
    have ht2 : Below v.heap.size v t := Below.trans (below_drew (Below.refl _ _)) ht
    refine ⟨?_, ?_, ?_, ?_, ?_, ?_, ?_, ?_, ?_, below_to HB.out ht2⟩ <;> rw [newCell ht2 _ _ (by omega)]
    · exact p0
    · exact p1
    · exact p2
    · exact r0
    · exact r1
    · exact r2
    · exact r3
    · exact q0
    · exact q1
  have w1 : IntKind.i64.wrap (16 * X) = 16 * X := by rw [IntKind.wrap_i64]; omega
  have w2 : IntKind.i64.wrap (16 * Y) = 16 * Y := by rw [IntKind.wrap_i64]; omega
  have w3 : IntKind.i64.wrap (2 * vx) = 2 * vx := by rw [IntKind.wrap_i64]; omega
  have w4 : IntKind.i64.wrap (2 * vy) = 2 * vy := by rw [IntKind.wrap_i64]; omega
  have w5 : IntKind.i64.wrap (16 * X + 2 * vx) = 16 * X + 2 * vx := by rw [IntKind.wrap_i64]; omega
  have w6 : IntKind.i64.wrap (16 * Y + 2 * vy) = 16 * Y + 2 * vy := by rw [IntKind.wrap_i64]; omega
  go_wp2_with (first | (go_at_call 37; with_reducible refine (HVx.out _).mono ?_; rintro e w' ⟨rfl, rfl⟩) | (go_at_call 37; with_reducible refine (HVy.out _).mono ?_; rintro e w' ⟨rfl, rfl⟩) | fail)
  go_region_held3 (fun t => t.cell? ⟨u.heap.size, 0, none⟩ = some (.int .i64 W0) ∧ t.cell? ⟨u.heap.size, 1, none⟩ = some (.int .i64 H0) ∧ t.cell? ⟨u.heap.size, 2, none⟩ = some (.slice a0 C0.length c0) ∧ t.cell? ⟨u.heap.size + 1, 0, none⟩ = some (.int .i64 X) ∧ t.cell? ⟨u.heap.size + 1, 1, none⟩ = some (.int .i64 Y) ∧ t.cell? ⟨u.heap.size + 1, 2, none⟩ = some (.int .i64 pw) ∧ t.cell? ⟨u.heap.size + 1, 3, none⟩ = some (.int .i64 ph) ∧ t.cell? ⟨u.heap.size + 1 + 1, 0, none⟩ = some (.int .i64 vx) ∧ t.cell? ⟨u.heap.size + 1 + 1, 1, none⟩ = some (.int .i64 vy) ∧ Below u.heap.size u t)
    ((exact HS.out _ (by first | exact Below.refl _ _ | assumption)))
    ((go_at_call 38; refine (HF.out _ (below_drew HB.out)).mono ?_; rintro e w7 ⟨a', c', rfl, haw, hb7⟩))
  go_wp2_with fail
  go_ret2
  exact ⟨a', c', rfl, haw, (below_drew HB.out).trans (hb7.mono (below_drew HB.out).size)⟩

set_option maxRecDepth 100000 in
set_option maxHeartbeats 2000000 in
theorem qsingle_1 {u : World} {W0 H0 W1 H1 W2 H2 : Int} {a0 a1 a2 : Option Addr} {c0 c1 c2 : Nat} {C0 C1 C2 : List Nat} {X Y pw ph vx vy pk er : Int} {L : List Nat} (hf : FrOk ⟨W0, H0, a0, c0, C0⟩ ⟨W1, H1, a1, c1, C1⟩ ⟨W2, H2, a2, c2, C2⟩) (hm : MvOk 1 X Y vx vy) (hs : SdOk pw ph)
    (hF : ∀ t : World, Below u.heap.size u t → Calls Tryd.prog 38 #[.agg #[.int .i64 W1, .int .i64 H1, .slice a1 C1.length c1], .int .i64 (16 * X + vx), .int .i64 (16 * Y + vy), .int .i64 pw, .int .i64 ph, .int .i64 pk] t fun e w' => Rr t w' e L er) :
    Calls Tryd.prog 11 #[.agg #[.int .i64 W0, .int .i64 H0, .slice a0 C0.length c0, .int .i64 W1, .int .i64 H1, .slice a1 C1.length c1, .int .i64 W2, .int .i64 H2, .slice a2 C2.length c2], .int .i64 1, .agg #[.int .i64 X, .int .i64 Y, .int .i64 pw, .int .i64 ph], .agg #[.int .i64 vx, .int .i64 vy], .int .i64 pk] u fun e w' => Rr u w' e L er := by
  have HWh : Hid (∀ t : World, Calls Tryd.prog 36 #[.agg #[.int .i64 W0, .int .i64 H0, .slice a0 C0.length c0, .int .i64 W1, .int .i64 H1, .slice a1 C1.length c1, .int .i64 W2, .int .i64 H2, .slice a2 C2.length c2]] t fun e w' => e = .returned (.int .i64 0) ∧ Below t.heap.size t w') := fun t => by
    have := rwhole_any (u := t) (W0 := W0) (H0 := H0) (W1 := W1) (H1 := H1) (W2 := W2) (H2 := H2) (a0 := a0) (a1 := a1) (a2 := a2) (c0 := c0) (c1 := c1) (c2 := c2) (C0 := C0) (C1 := C1) (C2 := C2)
    rwa [fk_ok hf] at this
  have HVx : Hid (∀ t : World, Calls Tryd.prog 37 #[.int .i64 vx] t fun e w' => e = .returned (.bool true) ∧ t = w') := fun t => by
    have := qpart_any (w := t) (z := vx)
    rwa [decide_eq_true hm.vx] at this
  have HVy : Hid (∀ t : World, Calls Tryd.prog 37 #[.int .i64 vy] t fun e w' => e = .returned (.bool true) ∧ t = w') := fun t => by
    have := qpart_any (w := t) (z := vy)
    rwa [decide_eq_true hm.vy] at this
  have x0 := hm.x.1
  have x1 := hm.x.2
  have y0 := hm.y.1
  have y1 := hm.y.2
  have v0 := hm.vx.1
  have v1 := hm.vx.2
  have z0 := hm.vy.1
  have z1 := hm.vy.2
  have s0 := hs.w.1
  have s1 := hs.w.2
  have s2 := hs.h.1
  have s3 := hs.h.2
  have HF : Hid _ := hF
  clear hf hm hF hs
  have HA : Hid (Below u.heap.size u (((u.alloc (.cells #[.int .i64 W0, .int .i64 H0, .slice a0 C0.length c0, .int .i64 W1, .int .i64 H1, .slice a1 C1.length c1, .int .i64 W2, .int .i64 H2, .slice a2 C2.length c2] 27)).alloc (.cells #[.int .i64 X, .int .i64 Y, .int .i64 pw, .int .i64 ph] 29)).alloc (.cells #[.int .i64 vx, .int .i64 vy] 31))) := to_alloc (to_alloc (from_alloc _ _) _) _
  go_enter Tryd.func11, Tryd.ntmps11
  go_wp2_with fail
  refine (HWh.out _).mono ?_
  rintro e v ⟨rfl, hb⟩
  have HB : Hid (Below u.heap.size u v) := below_to HA.out hb
  have p0 : v.cell? ⟨u.heap.size, 3, none⟩ = some (.int .i64 W1) := by rw [newCell hb _ _ (by simp <;> omega)]; simp [go_sem]
  have p1 : v.cell? ⟨u.heap.size, 4, none⟩ = some (.int .i64 H1) := by rw [newCell hb _ _ (by simp <;> omega)]; simp [go_sem]
  have p2 : v.cell? ⟨u.heap.size, 5, none⟩ = some (.slice a1 C1.length c1) := by rw [newCell hb _ _ (by simp <;> omega)]; simp [go_sem]
  have r0 : v.cell? ⟨u.heap.size + 1, 0, none⟩ = some (.int .i64 X) := by rw [newCell hb _ _ (by simp)]; simp [go_sem]
  have r1 : v.cell? ⟨u.heap.size + 1, 1, none⟩ = some (.int .i64 Y) := by rw [newCell hb _ _ (by simp)]; simp [go_sem]
  have r2 : v.cell? ⟨u.heap.size + 1, 2, none⟩ = some (.int .i64 pw) := by rw [newCell hb _ _ (by simp)]; simp [go_sem]
  have r3 : v.cell? ⟨u.heap.size + 1, 3, none⟩ = some (.int .i64 ph) := by rw [newCell hb _ _ (by simp)]; simp [go_sem]
  have q0 : v.cell? ⟨u.heap.size + 1 + 1, 0, none⟩ = some (.int .i64 vx) := by rw [newCell hb _ _ (by simp)]; simp [go_sem]
  have q1 : v.cell? ⟨u.heap.size + 1 + 1, 1, none⟩ = some (.int .i64 vy) := by rw [newCell hb _ _ (by simp)]; simp [go_sem]
  have hz : u.heap.size + 1 + 1 < v.heap.size := Nat.lt_of_lt_of_le (by simp) hb.size
  clear hb HWh HA
  have HS : Hid (∀ t : World, Below v.drew.heap.size v.drew t → (t.cell? ⟨u.heap.size, 3, none⟩ = some (.int .i64 W1) ∧ t.cell? ⟨u.heap.size, 4, none⟩ = some (.int .i64 H1) ∧ t.cell? ⟨u.heap.size, 5, none⟩ = some (.slice a1 C1.length c1) ∧ t.cell? ⟨u.heap.size + 1, 0, none⟩ = some (.int .i64 X) ∧ t.cell? ⟨u.heap.size + 1, 1, none⟩ = some (.int .i64 Y) ∧ t.cell? ⟨u.heap.size + 1, 2, none⟩ = some (.int .i64 pw) ∧ t.cell? ⟨u.heap.size + 1, 3, none⟩ = some (.int .i64 ph) ∧ t.cell? ⟨u.heap.size + 1 + 1, 0, none⟩ = some (.int .i64 vx) ∧ t.cell? ⟨u.heap.size + 1 + 1, 1, none⟩ = some (.int .i64 vy) ∧ Below u.heap.size u t)) := fun t ht => by
    have ht2 : Below v.heap.size v t := Below.trans (below_drew (Below.refl _ _)) ht
    refine ⟨?_, ?_, ?_, ?_, ?_, ?_, ?_, ?_, ?_, below_to HB.out ht2⟩ <;> rw [newCell ht2 _ _ (by omega)]
    · exact p0
    · exact p1
    · exact p2
    · exact r0
    · exact r1
    · exact r2
    · exact r3
    · exact q0
    · exact q1
  have w1 : IntKind.i64.wrap (16 * X) = 16 * X := by rw [IntKind.wrap_i64]; omega
  have w2 : IntKind.i64.wrap (16 * Y) = 16 * Y := by rw [IntKind.wrap_i64]; omega
  have w3 : IntKind.i64.wrap (vx) = vx := by rw [IntKind.wrap_i64]; omega
  have w4 : IntKind.i64.wrap (vy) = vy := by rw [IntKind.wrap_i64]; omega
  have w5 : IntKind.i64.wrap (16 * X + vx) = 16 * X + vx := by rw [IntKind.wrap_i64]; omega
  have w6 : IntKind.i64.wrap (16 * Y + vy) = 16 * Y + vy := by rw [IntKind.wrap_i64]; omega
  go_wp2_with (first | (go_at_call 37; with_reducible refine (HVx.out _).mono ?_; rintro e w' ⟨rfl, rfl⟩) | (go_at_call 37; with_reducible refine (HVy.out _).mono ?_; rintro e w' ⟨rfl, rfl⟩) | fail)
  go_region_held3 (fun t => t.cell? ⟨u.heap.size, 3, none⟩ = some (.int .i64 W1) ∧ t.cell? ⟨u.heap.size, 4, none⟩ = some (.int .i64 H1) ∧ t.cell? ⟨u.heap.size, 5, none⟩ = some (.slice a1 C1.length c1) ∧ t.cell? ⟨u.heap.size + 1, 0, none⟩ = some (.int .i64 X) ∧ t.cell? ⟨u.heap.size + 1, 1, none⟩ = some (.int .i64 Y) ∧ t.cell? ⟨u.heap.size + 1, 2, none⟩ = some (.int .i64 pw) ∧ t.cell? ⟨u.heap.size + 1, 3, none⟩ = some (.int .i64 ph) ∧ t.cell? ⟨u.heap.size + 1 + 1, 0, none⟩ = some (.int .i64 vx) ∧ t.cell? ⟨u.heap.size + 1 + 1, 1, none⟩ = some (.int .i64 vy) ∧ Below u.heap.size u t)
    ((exact HS.out _ (by first | exact Below.refl _ _ | assumption)))
    ((go_at_call 38; refine (HF.out _ (below_drew HB.out)).mono ?_; rintro e w7 ⟨a', c', rfl, haw, hb7⟩))
  go_wp2_with fail
  go_ret2
  exact ⟨a', c', rfl, haw, (below_drew HB.out).trans (hb7.mono (below_drew HB.out).size)⟩

set_option maxRecDepth 100000 in
set_option maxHeartbeats 2000000 in
theorem qsingle_2 {u : World} {W0 H0 W1 H1 W2 H2 : Int} {a0 a1 a2 : Option Addr} {c0 c1 c2 : Nat} {C0 C1 C2 : List Nat} {X Y pw ph vx vy pk er : Int} {L : List Nat} (hf : FrOk ⟨W0, H0, a0, c0, C0⟩ ⟨W1, H1, a1, c1, C1⟩ ⟨W2, H2, a2, c2, C2⟩) (hm : MvOk 2 X Y vx vy) (hs : SdOk pw ph)
    (hF : ∀ t : World, Below u.heap.size u t → Calls Tryd.prog 38 #[.agg #[.int .i64 W2, .int .i64 H2, .slice a2 C2.length c2], .int .i64 (16 * X + vx), .int .i64 (16 * Y + vy), .int .i64 pw, .int .i64 ph, .int .i64 pk] t fun e w' => Rr t w' e L er) :
    Calls Tryd.prog 11 #[.agg #[.int .i64 W0, .int .i64 H0, .slice a0 C0.length c0, .int .i64 W1, .int .i64 H1, .slice a1 C1.length c1, .int .i64 W2, .int .i64 H2, .slice a2 C2.length c2], .int .i64 2, .agg #[.int .i64 X, .int .i64 Y, .int .i64 pw, .int .i64 ph], .agg #[.int .i64 vx, .int .i64 vy], .int .i64 pk] u fun e w' => Rr u w' e L er := by
  have HWh : Hid (∀ t : World, Calls Tryd.prog 36 #[.agg #[.int .i64 W0, .int .i64 H0, .slice a0 C0.length c0, .int .i64 W1, .int .i64 H1, .slice a1 C1.length c1, .int .i64 W2, .int .i64 H2, .slice a2 C2.length c2]] t fun e w' => e = .returned (.int .i64 0) ∧ Below t.heap.size t w') := fun t => by
    have := rwhole_any (u := t) (W0 := W0) (H0 := H0) (W1 := W1) (H1 := H1) (W2 := W2) (H2 := H2) (a0 := a0) (a1 := a1) (a2 := a2) (c0 := c0) (c1 := c1) (c2 := c2) (C0 := C0) (C1 := C1) (C2 := C2)
    rwa [fk_ok hf] at this
  have HVx : Hid (∀ t : World, Calls Tryd.prog 37 #[.int .i64 vx] t fun e w' => e = .returned (.bool true) ∧ t = w') := fun t => by
    have := qpart_any (w := t) (z := vx)
    rwa [decide_eq_true hm.vx] at this
  have HVy : Hid (∀ t : World, Calls Tryd.prog 37 #[.int .i64 vy] t fun e w' => e = .returned (.bool true) ∧ t = w') := fun t => by
    have := qpart_any (w := t) (z := vy)
    rwa [decide_eq_true hm.vy] at this
  have x0 := hm.x.1
  have x1 := hm.x.2
  have y0 := hm.y.1
  have y1 := hm.y.2
  have v0 := hm.vx.1
  have v1 := hm.vx.2
  have z0 := hm.vy.1
  have z1 := hm.vy.2
  have s0 := hs.w.1
  have s1 := hs.w.2
  have s2 := hs.h.1
  have s3 := hs.h.2
  have HF : Hid _ := hF
  clear hf hm hF hs
  have HA : Hid (Below u.heap.size u (((u.alloc (.cells #[.int .i64 W0, .int .i64 H0, .slice a0 C0.length c0, .int .i64 W1, .int .i64 H1, .slice a1 C1.length c1, .int .i64 W2, .int .i64 H2, .slice a2 C2.length c2] 27)).alloc (.cells #[.int .i64 X, .int .i64 Y, .int .i64 pw, .int .i64 ph] 29)).alloc (.cells #[.int .i64 vx, .int .i64 vy] 31))) := to_alloc (to_alloc (from_alloc _ _) _) _
  go_enter Tryd.func11, Tryd.ntmps11
  go_wp2_with fail
  refine (HWh.out _).mono ?_
  rintro e v ⟨rfl, hb⟩
  have HB : Hid (Below u.heap.size u v) := below_to HA.out hb
  have p0 : v.cell? ⟨u.heap.size, 6, none⟩ = some (.int .i64 W2) := by rw [newCell hb _ _ (by simp <;> omega)]; simp [go_sem]
  have p1 : v.cell? ⟨u.heap.size, 7, none⟩ = some (.int .i64 H2) := by rw [newCell hb _ _ (by simp <;> omega)]; simp [go_sem]
  have p2 : v.cell? ⟨u.heap.size, 8, none⟩ = some (.slice a2 C2.length c2) := by rw [newCell hb _ _ (by simp <;> omega)]; simp [go_sem]
  have r0 : v.cell? ⟨u.heap.size + 1, 0, none⟩ = some (.int .i64 X) := by rw [newCell hb _ _ (by simp)]; simp [go_sem]
  have r1 : v.cell? ⟨u.heap.size + 1, 1, none⟩ = some (.int .i64 Y) := by rw [newCell hb _ _ (by simp)]; simp [go_sem]
  have r2 : v.cell? ⟨u.heap.size + 1, 2, none⟩ = some (.int .i64 pw) := by rw [newCell hb _ _ (by simp)]; simp [go_sem]
  have r3 : v.cell? ⟨u.heap.size + 1, 3, none⟩ = some (.int .i64 ph) := by rw [newCell hb _ _ (by simp)]; simp [go_sem]
  have q0 : v.cell? ⟨u.heap.size + 1 + 1, 0, none⟩ = some (.int .i64 vx) := by rw [newCell hb _ _ (by simp)]; simp [go_sem]
  have q1 : v.cell? ⟨u.heap.size + 1 + 1, 1, none⟩ = some (.int .i64 vy) := by rw [newCell hb _ _ (by simp)]; simp [go_sem]
  have hz : u.heap.size + 1 + 1 < v.heap.size := Nat.lt_of_lt_of_le (by simp) hb.size
  clear hb HWh HA
  have HS : Hid (∀ t : World, Below v.drew.heap.size v.drew t → (t.cell? ⟨u.heap.size, 6, none⟩ = some (.int .i64 W2) ∧ t.cell? ⟨u.heap.size, 7, none⟩ = some (.int .i64 H2) ∧ t.cell? ⟨u.heap.size, 8, none⟩ = some (.slice a2 C2.length c2) ∧ t.cell? ⟨u.heap.size + 1, 0, none⟩ = some (.int .i64 X) ∧ t.cell? ⟨u.heap.size + 1, 1, none⟩ = some (.int .i64 Y) ∧ t.cell? ⟨u.heap.size + 1, 2, none⟩ = some (.int .i64 pw) ∧ t.cell? ⟨u.heap.size + 1, 3, none⟩ = some (.int .i64 ph) ∧ t.cell? ⟨u.heap.size + 1 + 1, 0, none⟩ = some (.int .i64 vx) ∧ t.cell? ⟨u.heap.size + 1 + 1, 1, none⟩ = some (.int .i64 vy) ∧ Below u.heap.size u t)) := fun t ht => by
    have ht2 : Below v.heap.size v t := Below.trans (below_drew (Below.refl _ _)) ht
    refine ⟨?_, ?_, ?_, ?_, ?_, ?_, ?_, ?_, ?_, below_to HB.out ht2⟩ <;> rw [newCell ht2 _ _ (by omega)]
    · exact p0
    · exact p1
    · exact p2
    · exact r0
    · exact r1
    · exact r2
    · exact r3
    · exact q0
    · exact q1
  have w1 : IntKind.i64.wrap (16 * X) = 16 * X := by rw [IntKind.wrap_i64]; omega
  have w2 : IntKind.i64.wrap (16 * Y) = 16 * Y := by rw [IntKind.wrap_i64]; omega
  have w3 : IntKind.i64.wrap (vx) = vx := by rw [IntKind.wrap_i64]; omega
  have w4 : IntKind.i64.wrap (vy) = vy := by rw [IntKind.wrap_i64]; omega
  have w5 : IntKind.i64.wrap (16 * X + vx) = 16 * X + vx := by rw [IntKind.wrap_i64]; omega
  have w6 : IntKind.i64.wrap (16 * Y + vy) = 16 * Y + vy := by rw [IntKind.wrap_i64]; omega
  go_wp2_with (first | (go_at_call 37; with_reducible refine (HVx.out _).mono ?_; rintro e w' ⟨rfl, rfl⟩) | (go_at_call 37; with_reducible refine (HVy.out _).mono ?_; rintro e w' ⟨rfl, rfl⟩) | fail)
  go_region_held3 (fun t => t.cell? ⟨u.heap.size, 6, none⟩ = some (.int .i64 W2) ∧ t.cell? ⟨u.heap.size, 7, none⟩ = some (.int .i64 H2) ∧ t.cell? ⟨u.heap.size, 8, none⟩ = some (.slice a2 C2.length c2) ∧ t.cell? ⟨u.heap.size + 1, 0, none⟩ = some (.int .i64 X) ∧ t.cell? ⟨u.heap.size + 1, 1, none⟩ = some (.int .i64 Y) ∧ t.cell? ⟨u.heap.size + 1, 2, none⟩ = some (.int .i64 pw) ∧ t.cell? ⟨u.heap.size + 1, 3, none⟩ = some (.int .i64 ph) ∧ t.cell? ⟨u.heap.size + 1 + 1, 0, none⟩ = some (.int .i64 vx) ∧ t.cell? ⟨u.heap.size + 1 + 1, 1, none⟩ = some (.int .i64 vy) ∧ Below u.heap.size u t)
    ((exact HS.out _ (by first | exact Below.refl _ _ | assumption)))
    ((go_at_call 38; refine (HF.out _ (below_drew HB.out)).mono ?_; rintro e w7 ⟨a', c', rfl, haw, hb7⟩))
  go_wp2_with fail
  go_ret2
  exact ⟨a', c', rfl, haw, (below_drew HB.out).trans (hb7.mono (below_drew HB.out).size)⟩

set_option maxRecDepth 100000 in
set_option maxHeartbeats 2000000 in
theorem qsingle_no {u : World} {W0 H0 W1 H1 W2 H2 : Int} {a0 a1 a2 : Option Addr} {c0 c1 c2 : Nat} {C0 C1 C2 : List Nat} {n X Y pw ph vx vy pk : Int} (hn : ¬ (FrOk ⟨W0, H0, a0, c0, C0⟩ ⟨W1, H1, a1, c1, C1⟩ ⟨W2, H2, a2, c2, C2⟩ ∧ MvOk n X Y vx vy ∧ SdOk pw ph)) :
    Calls Tryd.prog 11 #[.agg #[.int .i64 W0, .int .i64 H0, .slice a0 C0.length c0, .int .i64 W1, .int .i64 H1, .slice a1 C1.length c1, .int .i64 W2, .int .i64 H2, .slice a2 C2.length c2], .int .i64 n, .agg #[.int .i64 X, .int .i64 Y, .int .i64 pw, .int .i64 ph], .agg #[.int .i64 vx, .int .i64 vy], .int .i64 pk] u fun e w' => e = .returned (.tuple #[.slice none 0 0, .int .i64 2]) ∧ Below u.heap.size u w' := by
  have HWh : Hid (∀ t : World, Calls Tryd.prog 36 #[.agg #[.int .i64 W0, .int .i64 H0, .slice a0 C0.length c0, .int .i64 W1, .int .i64 H1, .slice a1 C1.length c1, .int .i64 W2, .int .i64 H2, .slice a2 C2.length c2]] t fun e w' => e = .returned (.int .i64 (fk ⟨W0, H0, a0, c0, C0⟩ ⟨W1, H1, a1, c1, C1⟩ ⟨W2, H2, a2, c2, C2⟩)) ∧ Below t.heap.size t w') := fun t => rwhole_any
  have HA : Hid (Below u.heap.size u (((u.alloc (.cells #[.int .i64 W0, .int .i64 H0, .slice a0 C0.length c0, .int .i64 W1, .int .i64 H1, .slice a1 C1.length c1, .int .i64 W2, .int .i64 H2, .slice a2 C2.length c2] 27)).alloc (.cells #[.int .i64 X, .int .i64 Y, .int .i64 pw, .int .i64 ph] 29)).alloc (.cells #[.int .i64 vx, .int .i64 vy] 31))) := to_alloc (to_alloc (from_alloc _ _) _) _
  have HVx : Hid (∀ t : World, Calls Tryd.prog 37 #[.int .i64 vx] t fun e w' => e = .returned (.bool (decide (-4095 ≤ vx ∧ vx ≤ 4095))) ∧ t = w') := fun t => qpart_any
  have HVy : Hid (∀ t : World, Calls Tryd.prog 37 #[.int .i64 vy] t fun e w' => e = .returned (.bool (decide (-4095 ≤ vy ∧ vy ≤ 4095))) ∧ t = w') := fun t => qpart_any
  by_cases hf : ¬ FrOk ⟨W0, H0, a0, c0, C0⟩ ⟨W1, H1, a1, c1, C1⟩ ⟨W2, H2, a2, c2, C2⟩
  · rw [fk_no hf] at HWh
    clear hf hn
    go_enter Tryd.func11, Tryd.ntmps11
    go_wp2_with fail
    refine (HWh.out _).mono ?_
    rintro e v ⟨rfl, hb⟩
    have HB : Hid (Below u.heap.size u v) := below_to HA.out hb
    have r0 : v.cell? ⟨u.heap.size + 1, 0, none⟩ = some (.int .i64 X) := by rw [newCell hb _ _ (by simp)]; simp [go_sem]
    have r1 : v.cell? ⟨u.heap.size + 1, 1, none⟩ = some (.int .i64 Y) := by rw [newCell hb _ _ (by simp)]; simp [go_sem]
    have r2 : v.cell? ⟨u.heap.size + 1, 2, none⟩ = some (.int .i64 pw) := by rw [newCell hb _ _ (by simp)]; simp [go_sem]
    have r3 : v.cell? ⟨u.heap.size + 1, 3, none⟩ = some (.int .i64 ph) := by rw [newCell hb _ _ (by simp)]; simp [go_sem]
    have q0 : v.cell? ⟨u.heap.size + 1 + 1, 0, none⟩ = some (.int .i64 vx) := by rw [newCell hb _ _ (by simp)]; simp [go_sem]
    have q1 : v.cell? ⟨u.heap.size + 1 + 1, 1, none⟩ = some (.int .i64 vy) := by rw [newCell hb _ _ (by simp)]; simp [go_sem]
    clear hb HWh HA
    go_wp2_with (first | (go_at_call 37; with_reducible refine (HVx.out _).mono ?_; rintro e w' ⟨rfl, rfl⟩) | (go_at_call 37; with_reducible refine (HVy.out _).mono ?_; rintro e w' ⟨rfl, rfl⟩) | fail)
    go_ret2
    exact ⟨rfl, HB.out⟩
  replace hf := Classical.not_not.1 hf
  have hm : ¬ (MvOk n X Y vx vy ∧ SdOk pw ph) := fun k => hn ⟨hf, k⟩
  rw [fk_ok hf] at HWh
  clear hf hn
  by_cases k0 : n < 0
  · clear hm
    go_enter Tryd.func11, Tryd.ntmps11
    go_wp2_with fail
    refine (HWh.out _).mono ?_
    rintro e v ⟨rfl, hb⟩
    have HB : Hid (Below u.heap.size u v) := below_to HA.out hb
    have r0 : v.cell? ⟨u.heap.size + 1, 0, none⟩ = some (.int .i64 X) := by rw [newCell hb _ _ (by simp)]; simp [go_sem]
    have r1 : v.cell? ⟨u.heap.size + 1, 1, none⟩ = some (.int .i64 Y) := by rw [newCell hb _ _ (by simp)]; simp [go_sem]
    have r2 : v.cell? ⟨u.heap.size + 1, 2, none⟩ = some (.int .i64 pw) := by rw [newCell hb _ _ (by simp)]; simp [go_sem]
    have r3 : v.cell? ⟨u.heap.size + 1, 3, none⟩ = some (.int .i64 ph) := by rw [newCell hb _ _ (by simp)]; simp [go_sem]
    have q0 : v.cell? ⟨u.heap.size + 1 + 1, 0, none⟩ = some (.int .i64 vx) := by rw [newCell hb _ _ (by simp)]; simp [go_sem]
    have q1 : v.cell? ⟨u.heap.size + 1 + 1, 1, none⟩ = some (.int .i64 vy) := by rw [newCell hb _ _ (by simp)]; simp [go_sem]
    clear hb HWh HA
    go_wp2_with (first | (go_at_call 37; with_reducible refine (HVx.out _).mono ?_; rintro e w' ⟨rfl, rfl⟩) | (go_at_call 37; with_reducible refine (HVy.out _).mono ?_; rintro e w' ⟨rfl, rfl⟩) | fail)
    go_ret2
    exact ⟨rfl, HB.out⟩
  by_cases k1 : 2 < n
  · clear hm
    go_enter Tryd.func11, Tryd.ntmps11
    go_wp2_with fail
    refine (HWh.out _).mono ?_
    rintro e v ⟨rfl, hb⟩
    have HB : Hid (Below u.heap.size u v) := below_to HA.out hb
    have r0 : v.cell? ⟨u.heap.size + 1, 0, none⟩ = some (.int .i64 X) := by rw [newCell hb _ _ (by simp)]; simp [go_sem]
    have r1 : v.cell? ⟨u.heap.size + 1, 1, none⟩ = some (.int .i64 Y) := by rw [newCell hb _ _ (by simp)]; simp [go_sem]
    have r2 : v.cell? ⟨u.heap.size + 1, 2, none⟩ = some (.int .i64 pw) := by rw [newCell hb _ _ (by simp)]; simp [go_sem]
    have r3 : v.cell? ⟨u.heap.size + 1, 3, none⟩ = some (.int .i64 ph) := by rw [newCell hb _ _ (by simp)]; simp [go_sem]
    have q0 : v.cell? ⟨u.heap.size + 1 + 1, 0, none⟩ = some (.int .i64 vx) := by rw [newCell hb _ _ (by simp)]; simp [go_sem]
    have q1 : v.cell? ⟨u.heap.size + 1 + 1, 1, none⟩ = some (.int .i64 vy) := by rw [newCell hb _ _ (by simp)]; simp [go_sem]
    clear hb HWh HA
    go_wp2_with (first | (go_at_call 37; with_reducible refine (HVx.out _).mono ?_; rintro e w' ⟨rfl, rfl⟩) | (go_at_call 37; with_reducible refine (HVy.out _).mono ?_; rintro e w' ⟨rfl, rfl⟩) | fail)
    go_ret2
    exact ⟨rfl, HB.out⟩
  by_cases k2 : X < 0
  · clear hm
    go_enter Tryd.func11, Tryd.ntmps11
    go_wp2_with fail
    refine (HWh.out _).mono ?_
    rintro e v ⟨rfl, hb⟩
    have HB : Hid (Below u.heap.size u v) := below_to HA.out hb
    have r0 : v.cell? ⟨u.heap.size + 1, 0, none⟩ = some (.int .i64 X) := by rw [newCell hb _ _ (by simp)]; simp [go_sem]
    have r1 : v.cell? ⟨u.heap.size + 1, 1, none⟩ = some (.int .i64 Y) := by rw [newCell hb _ _ (by simp)]; simp [go_sem]
    have r2 : v.cell? ⟨u.heap.size + 1, 2, none⟩ = some (.int .i64 pw) := by rw [newCell hb _ _ (by simp)]; simp [go_sem]
    have r3 : v.cell? ⟨u.heap.size + 1, 3, none⟩ = some (.int .i64 ph) := by rw [newCell hb _ _ (by simp)]; simp [go_sem]
    have q0 : v.cell? ⟨u.heap.size + 1 + 1, 0, none⟩ = some (.int .i64 vx) := by rw [newCell hb _ _ (by simp)]; simp [go_sem]
    have q1 : v.cell? ⟨u.heap.size + 1 + 1, 1, none⟩ = some (.int .i64 vy) := by rw [newCell hb _ _ (by simp)]; simp [go_sem]
    clear hb HWh HA
    go_wp2_with (first | (go_at_call 37; with_reducible refine (HVx.out _).mono ?_; rintro e w' ⟨rfl, rfl⟩) | (go_at_call 37; with_reducible refine (HVy.out _).mono ?_; rintro e w' ⟨rfl, rfl⟩) | fail)
    go_ret2
    exact ⟨rfl, HB.out⟩
  by_cases k3 : 1024 < X
  · clear hm
    go_enter Tryd.func11, Tryd.ntmps11
    go_wp2_with fail
    refine (HWh.out _).mono ?_
    rintro e v ⟨rfl, hb⟩
    have HB : Hid (Below u.heap.size u v) := below_to HA.out hb
    have r0 : v.cell? ⟨u.heap.size + 1, 0, none⟩ = some (.int .i64 X) := by rw [newCell hb _ _ (by simp)]; simp [go_sem]
    have r1 : v.cell? ⟨u.heap.size + 1, 1, none⟩ = some (.int .i64 Y) := by rw [newCell hb _ _ (by simp)]; simp [go_sem]
    have r2 : v.cell? ⟨u.heap.size + 1, 2, none⟩ = some (.int .i64 pw) := by rw [newCell hb _ _ (by simp)]; simp [go_sem]
    have r3 : v.cell? ⟨u.heap.size + 1, 3, none⟩ = some (.int .i64 ph) := by rw [newCell hb _ _ (by simp)]; simp [go_sem]
    have q0 : v.cell? ⟨u.heap.size + 1 + 1, 0, none⟩ = some (.int .i64 vx) := by rw [newCell hb _ _ (by simp)]; simp [go_sem]
    have q1 : v.cell? ⟨u.heap.size + 1 + 1, 1, none⟩ = some (.int .i64 vy) := by rw [newCell hb _ _ (by simp)]; simp [go_sem]
    clear hb HWh HA
    go_wp2_with (first | (go_at_call 37; with_reducible refine (HVx.out _).mono ?_; rintro e w' ⟨rfl, rfl⟩) | (go_at_call 37; with_reducible refine (HVy.out _).mono ?_; rintro e w' ⟨rfl, rfl⟩) | fail)
    go_ret2
    exact ⟨rfl, HB.out⟩
  by_cases k4 : Y < 0
  · clear hm
    go_enter Tryd.func11, Tryd.ntmps11
    go_wp2_with fail
    refine (HWh.out _).mono ?_
    rintro e v ⟨rfl, hb⟩
    have HB : Hid (Below u.heap.size u v) := below_to HA.out hb
    have r0 : v.cell? ⟨u.heap.size + 1, 0, none⟩ = some (.int .i64 X) := by rw [newCell hb _ _ (by simp)]; simp [go_sem]
    have r1 : v.cell? ⟨u.heap.size + 1, 1, none⟩ = some (.int .i64 Y) := by rw [newCell hb _ _ (by simp)]; simp [go_sem]
    have r2 : v.cell? ⟨u.heap.size + 1, 2, none⟩ = some (.int .i64 pw) := by rw [newCell hb _ _ (by simp)]; simp [go_sem]
    have r3 : v.cell? ⟨u.heap.size + 1, 3, none⟩ = some (.int .i64 ph) := by rw [newCell hb _ _ (by simp)]; simp [go_sem]
    have q0 : v.cell? ⟨u.heap.size + 1 + 1, 0, none⟩ = some (.int .i64 vx) := by rw [newCell hb _ _ (by simp)]; simp [go_sem]
    have q1 : v.cell? ⟨u.heap.size + 1 + 1, 1, none⟩ = some (.int .i64 vy) := by rw [newCell hb _ _ (by simp)]; simp [go_sem]
    clear hb HWh HA
    go_wp2_with (first | (go_at_call 37; with_reducible refine (HVx.out _).mono ?_; rintro e w' ⟨rfl, rfl⟩) | (go_at_call 37; with_reducible refine (HVy.out _).mono ?_; rintro e w' ⟨rfl, rfl⟩) | fail)
    go_ret2
    exact ⟨rfl, HB.out⟩
  by_cases k5 : 1024 < Y
  · clear hm
    go_enter Tryd.func11, Tryd.ntmps11
    go_wp2_with fail
    refine (HWh.out _).mono ?_
    rintro e v ⟨rfl, hb⟩
    have HB : Hid (Below u.heap.size u v) := below_to HA.out hb
    have r0 : v.cell? ⟨u.heap.size + 1, 0, none⟩ = some (.int .i64 X) := by rw [newCell hb _ _ (by simp)]; simp [go_sem]
    have r1 : v.cell? ⟨u.heap.size + 1, 1, none⟩ = some (.int .i64 Y) := by rw [newCell hb _ _ (by simp)]; simp [go_sem]
    have r2 : v.cell? ⟨u.heap.size + 1, 2, none⟩ = some (.int .i64 pw) := by rw [newCell hb _ _ (by simp)]; simp [go_sem]
    have r3 : v.cell? ⟨u.heap.size + 1, 3, none⟩ = some (.int .i64 ph) := by rw [newCell hb _ _ (by simp)]; simp [go_sem]
    have q0 : v.cell? ⟨u.heap.size + 1 + 1, 0, none⟩ = some (.int .i64 vx) := by rw [newCell hb _ _ (by simp)]; simp [go_sem]
    have q1 : v.cell? ⟨u.heap.size + 1 + 1, 1, none⟩ = some (.int .i64 vy) := by rw [newCell hb _ _ (by simp)]; simp [go_sem]
    clear hb HWh HA
    go_wp2_with (first | (go_at_call 37; with_reducible refine (HVx.out _).mono ?_; rintro e w' ⟨rfl, rfl⟩) | (go_at_call 37; with_reducible refine (HVy.out _).mono ?_; rintro e w' ⟨rfl, rfl⟩) | fail)
    go_ret2
    exact ⟨rfl, HB.out⟩
  by_cases k6 : pw < 4
  · clear hm
    go_enter Tryd.func11, Tryd.ntmps11
    go_wp2_with fail
    refine (HWh.out _).mono ?_
    rintro e v ⟨rfl, hb⟩
    have HB : Hid (Below u.heap.size u v) := below_to HA.out hb
    have r0 : v.cell? ⟨u.heap.size + 1, 0, none⟩ = some (.int .i64 X) := by rw [newCell hb _ _ (by simp)]; simp [go_sem]
    have r1 : v.cell? ⟨u.heap.size + 1, 1, none⟩ = some (.int .i64 Y) := by rw [newCell hb _ _ (by simp)]; simp [go_sem]
    have r2 : v.cell? ⟨u.heap.size + 1, 2, none⟩ = some (.int .i64 pw) := by rw [newCell hb _ _ (by simp)]; simp [go_sem]
    have r3 : v.cell? ⟨u.heap.size + 1, 3, none⟩ = some (.int .i64 ph) := by rw [newCell hb _ _ (by simp)]; simp [go_sem]
    have q0 : v.cell? ⟨u.heap.size + 1 + 1, 0, none⟩ = some (.int .i64 vx) := by rw [newCell hb _ _ (by simp)]; simp [go_sem]
    have q1 : v.cell? ⟨u.heap.size + 1 + 1, 1, none⟩ = some (.int .i64 vy) := by rw [newCell hb _ _ (by simp)]; simp [go_sem]
    clear hb HWh HA
    go_wp2_with (first | (go_at_call 37; with_reducible refine (HVx.out _).mono ?_; rintro e w' ⟨rfl, rfl⟩) | (go_at_call 37; with_reducible refine (HVy.out _).mono ?_; rintro e w' ⟨rfl, rfl⟩) | fail)
    go_ret2
    exact ⟨rfl, HB.out⟩
  by_cases k7 : 64 < pw
  · clear hm
    go_enter Tryd.func11, Tryd.ntmps11
    go_wp2_with fail
    refine (HWh.out _).mono ?_
    rintro e v ⟨rfl, hb⟩
    have HB : Hid (Below u.heap.size u v) := below_to HA.out hb
    have r0 : v.cell? ⟨u.heap.size + 1, 0, none⟩ = some (.int .i64 X) := by rw [newCell hb _ _ (by simp)]; simp [go_sem]
    have r1 : v.cell? ⟨u.heap.size + 1, 1, none⟩ = some (.int .i64 Y) := by rw [newCell hb _ _ (by simp)]; simp [go_sem]
    have r2 : v.cell? ⟨u.heap.size + 1, 2, none⟩ = some (.int .i64 pw) := by rw [newCell hb _ _ (by simp)]; simp [go_sem]
    have r3 : v.cell? ⟨u.heap.size + 1, 3, none⟩ = some (.int .i64 ph) := by rw [newCell hb _ _ (by simp)]; simp [go_sem]
    have q0 : v.cell? ⟨u.heap.size + 1 + 1, 0, none⟩ = some (.int .i64 vx) := by rw [newCell hb _ _ (by simp)]; simp [go_sem]
    have q1 : v.cell? ⟨u.heap.size + 1 + 1, 1, none⟩ = some (.int .i64 vy) := by rw [newCell hb _ _ (by simp)]; simp [go_sem]
    clear hb HWh HA
    go_wp2_with (first | (go_at_call 37; with_reducible refine (HVx.out _).mono ?_; rintro e w' ⟨rfl, rfl⟩) | (go_at_call 37; with_reducible refine (HVy.out _).mono ?_; rintro e w' ⟨rfl, rfl⟩) | fail)
    go_ret2
    exact ⟨rfl, HB.out⟩
  by_cases k8 : ph < 4
  · clear hm
    go_enter Tryd.func11, Tryd.ntmps11
    go_wp2_with fail
    refine (HWh.out _).mono ?_
    rintro e v ⟨rfl, hb⟩
    have HB : Hid (Below u.heap.size u v) := below_to HA.out hb
    have r0 : v.cell? ⟨u.heap.size + 1, 0, none⟩ = some (.int .i64 X) := by rw [newCell hb _ _ (by simp)]; simp [go_sem]
    have r1 : v.cell? ⟨u.heap.size + 1, 1, none⟩ = some (.int .i64 Y) := by rw [newCell hb _ _ (by simp)]; simp [go_sem]
    have r2 : v.cell? ⟨u.heap.size + 1, 2, none⟩ = some (.int .i64 pw) := by rw [newCell hb _ _ (by simp)]; simp [go_sem]
    have r3 : v.cell? ⟨u.heap.size + 1, 3, none⟩ = some (.int .i64 ph) := by rw [newCell hb _ _ (by simp)]; simp [go_sem]
    have q0 : v.cell? ⟨u.heap.size + 1 + 1, 0, none⟩ = some (.int .i64 vx) := by rw [newCell hb _ _ (by simp)]; simp [go_sem]
    have q1 : v.cell? ⟨u.heap.size + 1 + 1, 1, none⟩ = some (.int .i64 vy) := by rw [newCell hb _ _ (by simp)]; simp [go_sem]
    clear hb HWh HA
    go_wp2_with (first | (go_at_call 37; with_reducible refine (HVx.out _).mono ?_; rintro e w' ⟨rfl, rfl⟩) | (go_at_call 37; with_reducible refine (HVy.out _).mono ?_; rintro e w' ⟨rfl, rfl⟩) | fail)
    go_ret2
    exact ⟨rfl, HB.out⟩
  by_cases k9 : 64 < ph
  · clear hm
    go_enter Tryd.func11, Tryd.ntmps11
    go_wp2_with fail
    refine (HWh.out _).mono ?_
    rintro e v ⟨rfl, hb⟩
    have HB : Hid (Below u.heap.size u v) := below_to HA.out hb
    have r0 : v.cell? ⟨u.heap.size + 1, 0, none⟩ = some (.int .i64 X) := by rw [newCell hb _ _ (by simp)]; simp [go_sem]
    have r1 : v.cell? ⟨u.heap.size + 1, 1, none⟩ = some (.int .i64 Y) := by rw [newCell hb _ _ (by simp)]; simp [go_sem]
    have r2 : v.cell? ⟨u.heap.size + 1, 2, none⟩ = some (.int .i64 pw) := by rw [newCell hb _ _ (by simp)]; simp [go_sem]
    have r3 : v.cell? ⟨u.heap.size + 1, 3, none⟩ = some (.int .i64 ph) := by rw [newCell hb _ _ (by simp)]; simp [go_sem]
    have q0 : v.cell? ⟨u.heap.size + 1 + 1, 0, none⟩ = some (.int .i64 vx) := by rw [newCell hb _ _ (by simp)]; simp [go_sem]
    have q1 : v.cell? ⟨u.heap.size + 1 + 1, 1, none⟩ = some (.int .i64 vy) := by rw [newCell hb _ _ (by simp)]; simp [go_sem]
    clear hb HWh HA
    go_wp2_with (first | (go_at_call 37; with_reducible refine (HVx.out _).mono ?_; rintro e w' ⟨rfl, rfl⟩) | (go_at_call 37; with_reducible refine (HVy.out _).mono ?_; rintro e w' ⟨rfl, rfl⟩) | fail)
    go_ret2
    exact ⟨rfl, HB.out⟩
  by_cases hv : ¬ (-4095 ≤ vx ∧ vx ≤ 4095)
  · rw [decide_eq_false hv] at HVx
    clear hm hv
    go_enter Tryd.func11, Tryd.ntmps11
    go_wp2_with fail
    refine (HWh.out _).mono ?_
    rintro e v ⟨rfl, hb⟩
    have HB : Hid (Below u.heap.size u v) := below_to HA.out hb
    have r0 : v.cell? ⟨u.heap.size + 1, 0, none⟩ = some (.int .i64 X) := by rw [newCell hb _ _ (by simp)]; simp [go_sem]
    have r1 : v.cell? ⟨u.heap.size + 1, 1, none⟩ = some (.int .i64 Y) := by rw [newCell hb _ _ (by simp)]; simp [go_sem]
    have r2 : v.cell? ⟨u.heap.size + 1, 2, none⟩ = some (.int .i64 pw) := by rw [newCell hb _ _ (by simp)]; simp [go_sem]
    have r3 : v.cell? ⟨u.heap.size + 1, 3, none⟩ = some (.int .i64 ph) := by rw [newCell hb _ _ (by simp)]; simp [go_sem]
    have q0 : v.cell? ⟨u.heap.size + 1 + 1, 0, none⟩ = some (.int .i64 vx) := by rw [newCell hb _ _ (by simp)]; simp [go_sem]
    have q1 : v.cell? ⟨u.heap.size + 1 + 1, 1, none⟩ = some (.int .i64 vy) := by rw [newCell hb _ _ (by simp)]; simp [go_sem]
    clear hb HWh HA
    go_wp2_with (first | (go_at_call 37; with_reducible refine (HVx.out _).mono ?_; rintro e w' ⟨rfl, rfl⟩) | (go_at_call 37; with_reducible refine (HVy.out _).mono ?_; rintro e w' ⟨rfl, rfl⟩) | fail)
    go_ret2
    exact ⟨rfl, HB.out⟩
  replace hv := Decidable.of_not_not hv
  rw [decide_eq_true hv] at HVx
  by_cases hw : -4095 ≤ vy ∧ vy ≤ 4095
  · exact absurd ⟨⟨by omega, by omega, by omega, by omega, hv, hw⟩, ⟨by omega, by omega⟩⟩ hm
  · rw [decide_eq_false hw] at HVy
    clear hm hv hw
    go_enter Tryd.func11, Tryd.ntmps11
    go_wp2_with fail
    refine (HWh.out _).mono ?_
    rintro e v ⟨rfl, hb⟩
    have HB : Hid (Below u.heap.size u v) := below_to HA.out hb
    have r0 : v.cell? ⟨u.heap.size + 1, 0, none⟩ = some (.int .i64 X) := by rw [newCell hb _ _ (by simp)]; simp [go_sem]
    have r1 : v.cell? ⟨u.heap.size + 1, 1, none⟩ = some (.int .i64 Y) := by rw [newCell hb _ _ (by simp)]; simp [go_sem]
    have r2 : v.cell? ⟨u.heap.size + 1, 2, none⟩ = some (.int .i64 pw) := by rw [newCell hb _ _ (by simp)]; simp [go_sem]
    have r3 : v.cell? ⟨u.heap.size + 1, 3, none⟩ = some (.int .i64 ph) := by rw [newCell hb _ _ (by simp)]; simp [go_sem]
    have q0 : v.cell? ⟨u.heap.size + 1 + 1, 0, none⟩ = some (.int .i64 vx) := by rw [newCell hb _ _ (by simp)]; simp [go_sem]
    have q1 : v.cell? ⟨u.heap.size + 1 + 1, 1, none⟩ = some (.int .i64 vy) := by rw [newCell hb _ _ (by simp)]; simp [go_sem]
    clear hb HWh HA
    go_wp2_with (first | (go_at_call 37; with_reducible refine (HVx.out _).mono ?_; rintro e w' ⟨rfl, rfl⟩) | (go_at_call 37; with_reducible refine (HVy.out _).mono ?_; rintro e w' ⟨rfl, rfl⟩) | fail)
    go_ret2
    exact ⟨rfl, HB.out⟩

end Go.Proofs.YtpideemiijhkgaaDoor
