/- DERIVED. Single. -/
import Derived.Test.YtpideemiijhkgabDoorVc
import Derived.Test.YtpideemiijhkgabDoorCe
namespace Go.Proofs.YtpideemiijhkgabDoor
open Go.RowKit

/-- a list in new memory, or none -/
def Aw (u w' : World) (a : Option Addr) (L : List Nat) : Prop := (L = [] ∧ a = none) ∨ ∃ g, a = some ⟨g, 0, none⟩ ∧ Rw w' g L ∧ u.heap.size ≤ g
theorem Aw.sl {u w' : World} {a : Option Addr} {L : List Nat} (h : Aw u w' a L) : Sl w' .u8 a L := by
  rcases h with ⟨rfl, _⟩ | ⟨g, rfl, hr, _⟩
  · exact Or.inl rfl
  · exact hr.sl
theorem Aw.to {u w w' : World} {a : Option Addr} {L : List Nat} (h : Aw u w a L) (hb : Below w.heap.size w w') : Aw u w' a L := by
  rcases h with h | ⟨g, e, hr, hg⟩
  · exact Or.inl h
  · exact Or.inr ⟨g, e, hr.to hb, hg⟩
theorem Aw.mono {u v w : World} {a : Option Addr} {L : List Nat} (h : Aw v w a L) (hb : u.heap.size ≤ v.heap.size) : Aw u w a L := by
  rcases h with h | ⟨g, e, hr, hg⟩
  · exact Or.inl h
  · exact Or.inr ⟨g, e, hr, Nat.le_trans hb hg⟩
/-- samples and an error are answered -/
def Rs (u w' : World) (e : Ending) (L : List Nat) (er : Int) : Prop := ∃ a, e = .returned (.tuple #[.slice a L.length L.length, .int .i64 er]) ∧ Aw u w' a L ∧ Below u.heap.size u w'
theorem Fd.rs {u w' : World} {e : Ending} {L : List Nat} (h : Fd u w' e L) : Rs u w' e L 0 := by
  obtain ⟨g, rfl, hr, hg, hb⟩ := h
  exact ⟨_, rfl, Or.inr ⟨g, rfl, hr, hg⟩, hb⟩
theorem rs_no {u w' : World} {e : Ending} (h : e = .returned (.tuple #[.slice none 0 0, .int .i64 2]) ∧ Below u.heap.size u w') : Rs u w' e [] 2 := by
  obtain ⟨rfl, hb⟩ := h
  exact ⟨none, rfl, Or.inl ⟨rfl, rfl⟩, hb⟩

set_option maxRecDepth 100000 in
set_option maxHeartbeats 1000000 in
theorem isPl_any {w : World} {z : Int} : Calls Tryd.prog 23 #[.int .i64 z] w fun e w' => e = .returned (.bool (decide (0 ≤ z ∧ z ≤ 1024))) ∧ w = w' := by
  by_cases h0 : 0 ≤ z
  · by_cases h1 : z ≤ 1024
    · rw [decide_eq_true (show 0 ≤ z ∧ z ≤ 1024 from ⟨h0, h1⟩)]
      go_enter Tryd.func23, Tryd.ntmps23
      go_wp2
      go_ret
      exact ⟨rfl, rfl⟩
    · rw [decide_eq_false (show ¬ (0 ≤ z ∧ z ≤ 1024) from fun k => h1 k.2)]
      go_enter Tryd.func23, Tryd.ntmps23
      go_wp2
      go_ret
      exact ⟨rfl, rfl⟩
  · rw [decide_eq_false (show ¬ (0 ≤ z ∧ z ≤ 1024) from fun k => h0 k.1)]
    go_enter Tryd.func23, Tryd.ntmps23
    go_wp2
    go_ret
    exact ⟨rfl, rfl⟩

set_option maxRecDepth 100000 in
set_option maxHeartbeats 1000000 in
theorem isMv_any {w : World} {z : Int} : Calls Tryd.prog 24 #[.int .i64 z] w fun e w' => e = .returned (.bool (decide (-4095 ≤ z ∧ z ≤ 4095))) ∧ w = w' := by
  by_cases h0 : -4095 ≤ z
  · by_cases h1 : z ≤ 4095
    · rw [decide_eq_true (show -4095 ≤ z ∧ z ≤ 4095 from ⟨h0, h1⟩)]
      go_enter Tryd.func24, Tryd.ntmps24
      go_wp2
      go_ret
      exact ⟨rfl, rfl⟩
    · rw [decide_eq_false (show ¬ (-4095 ≤ z ∧ z ≤ 4095) from fun k => h1 k.2)]
      go_enter Tryd.func24, Tryd.ntmps24
      go_wp2
      go_ret
      exact ⟨rfl, rfl⟩
  · rw [decide_eq_false (show ¬ (-4095 ≤ z ∧ z ≤ 4095) from fun k => h0 k.1)]
    go_enter Tryd.func24, Tryd.ntmps24
    go_wp2
    go_ret
    exact ⟨rfl, rfl⟩

theorem moved0 {w : World} : Calls Tryd.prog 25 #[.int .i64 0] w fun e w' => e = .returned (.int .i64 2) ∧ w = w' := by
  go_enter Tryd.func25, Tryd.ntmps25
  go_wp2
  go_ret
  exact ⟨rfl, rfl⟩
theorem moved1 {w : World} : Calls Tryd.prog 25 #[.int .i64 1] w fun e w' => e = .returned (.int .i64 1) ∧ w = w' := by
  go_enter Tryd.func25, Tryd.ntmps25
  go_wp2
  go_ret
  exact ⟨rfl, rfl⟩
theorem moved2 {w : World} : Calls Tryd.prog 25 #[.int .i64 2] w fun e w' => e = .returned (.int .i64 1) ∧ w = w' := by
  go_enter Tryd.func25, Tryd.ntmps25
  go_wp2
  go_ret
  exact ⟨rfl, rfl⟩

/-- what is asked of a block that is moved, ahead of Fetch -/
structure MvOk (n X Y vx vy : Int) : Prop where
  n0 : 0 ≤ n
  n1 : n ≤ 2
  x : 0 ≤ X ∧ X ≤ 1024
  y : 0 ≤ Y ∧ Y ≤ 1024
  vx : -4095 ≤ vx ∧ vx ≤ 4095
  vy : -4095 ≤ vy ∧ vy ≤ 4095

set_option maxRecDepth 100000 in
set_option maxHeartbeats 2000000 in
theorem single_0 {u : World} {W0 H0 W1 H1 W2 H2 : Int} {a0 a1 a2 : Option Addr} {c0 c1 c2 : Nat} {C0 C1 C2 : List Nat} {X Y pw ph vx vy pk er : Int} {L : List Nat} (hf : FrOk ⟨W0, H0, a0, c0, C0⟩ ⟨W1, H1, a1, c1, C1⟩ ⟨W2, H2, a2, c2, C2⟩) (hm : MvOk 0 X Y vx vy)
    (hF : ∀ t : World, Below u.heap.size u t → Calls Tryd.prog 26 #[.agg #[.int .i64 W0, .int .i64 H0, .slice a0 C0.length c0], .int .i64 (16 * X + 2 * vx), .int .i64 (16 * Y + 2 * vy), .int .i64 pw, .int .i64 ph, .int .i64 pk] t fun e w' => Rs t w' e L er) :
    Calls Tryd.prog 13 #[.agg #[.int .i64 W0, .int .i64 H0, .slice a0 C0.length c0, .int .i64 W1, .int .i64 H1, .slice a1 C1.length c1, .int .i64 W2, .int .i64 H2, .slice a2 C2.length c2], .int .i64 0, .agg #[.int .i64 X, .int .i64 Y, .int .i64 pw, .int .i64 ph], .agg #[.int .i64 vx, .int .i64 vy], .int .i64 pk] u fun e w' => Rs u w' e L er := by
  have HWh : Hid (∀ t : World, Calls Tryd.prog 22 #[.agg #[.int .i64 W0, .int .i64 H0, .slice a0 C0.length c0, .int .i64 W1, .int .i64 H1, .slice a1 C1.length c1, .int .i64 W2, .int .i64 H2, .slice a2 C2.length c2]] t fun e w' => e = .returned (.int .i64 0) ∧ Below t.heap.size t w') := fun t => by
    have := whole_any (u := t) (W0 := W0) (H0 := H0) (W1 := W1) (H1 := H1) (W2 := W2) (H2 := H2) (a0 := a0) (a1 := a1) (a2 := a2) (c0 := c0) (c1 := c1) (c2 := c2) (C0 := C0) (C1 := C1) (C2 := C2)
    rwa [fk_ok hf] at this
  have HX : Hid (∀ t : World, Calls Tryd.prog 23 #[.int .i64 X] t fun e w' => e = .returned (.bool true) ∧ t = w') := fun t => by
    have := isPl_any (w := t) (z := X)
    rwa [decide_eq_true hm.x] at this
  have HY : Hid (∀ t : World, Calls Tryd.prog 23 #[.int .i64 Y] t fun e w' => e = .returned (.bool true) ∧ t = w') := fun t => by
    have := isPl_any (w := t) (z := Y)
    rwa [decide_eq_true hm.y] at this
  have HVx : Hid (∀ t : World, Calls Tryd.prog 24 #[.int .i64 vx] t fun e w' => e = .returned (.bool true) ∧ t = w') := fun t => by
    have := isMv_any (w := t) (z := vx)
    rwa [decide_eq_true hm.vx] at this
  have HVy : Hid (∀ t : World, Calls Tryd.prog 24 #[.int .i64 vy] t fun e w' => e = .returned (.bool true) ∧ t = w') := fun t => by
    have := isMv_any (w := t) (z := vy)
    rwa [decide_eq_true hm.vy] at this
  have x0 := hm.x.1
  have x1 := hm.x.2
  have y0 := hm.y.1
  have y1 := hm.y.2
  have v0 := hm.vx.1
  have v1 := hm.vx.2
  have z0 := hm.vy.1
  have z1 := hm.vy.2
  have HF : Hid _ := hF
  clear hf hm hF
  have HA : Hid (Below u.heap.size u (((u.alloc (.cells #[.int .i64 W0, .int .i64 H0, .slice a0 C0.length c0, .int .i64 W1, .int .i64 H1, .slice a1 C1.length c1, .int .i64 W2, .int .i64 H2, .slice a2 C2.length c2] 42)).alloc (.cells #[.int .i64 X, .int .i64 Y, .int .i64 pw, .int .i64 ph] 24)).alloc (.cells #[.int .i64 vx, .int .i64 vy] 46))) := to_alloc (to_alloc (from_alloc _ _) _) _
  go_enter Tryd.func13, Tryd.ntmps13
  go_wp2_with fail
  refine (HWh.out _).mono ?_
  rintro e v ⟨rfl, hb⟩
  have HB : Hid (Below u.heap.size u v) := below_to HA.out hb
  have p0 : v.cell? ⟨u.heap.size, 0, none⟩ = some (.int .i64 W0) := by rw [newCell hb _ _ (by simp <;> omega)]; simp [go_sem]
  have p1 : v.cell? ⟨u.heap.size, 1, none⟩ = some (.int .i64 H0) := by rw [newCell hb _ _ (by simp <;> omega)]; simp [go_sem]
  have p2 : v.cell? ⟨u.heap.size, 2, none⟩ = some (.slice a0 C0.length c0) := by rw [newCell hb _ _ (by simp <;> omega)]; simp [go_sem]
  have r0 : v.cell? ⟨u.heap.size + 1, 0, none⟩ = some (.int .i64 X) := by rw [newCell hb _ _ (by simp)]; simp [go_sem]
  have r1 : v.cell? ⟨u.heap.size + 1, 1, none⟩ = some (.int .i64 Y) := by rw [newCell hb _ _ (by simp)]; simp [go_sem]
  have r2 : v.cell? ⟨u.heap.size + 1, 2, none⟩ = some (.int .i64 pw) := by rw [newCell hb _ _ (by simp)]; simp [go_sem]
  have r3 : v.cell? ⟨u.heap.size + 1, 3, none⟩ = some (.int .i64 ph) := by rw [newCell hb _ _ (by simp)]; simp [go_sem]
  have q0 : v.cell? ⟨u.heap.size + 1 + 1, 0, none⟩ = some (.int .i64 vx) := by rw [newCell hb _ _ (by simp)]; simp [go_sem]
  have q1 : v.cell? ⟨u.heap.size + 1 + 1, 1, none⟩ = some (.int .i64 vy) := by rw [newCell hb _ _ (by simp)]; simp [go_sem]
  have hz : u.heap.size + 1 + 1 < v.heap.size := Nat.lt_of_lt_of_le (by simp) hb.size
  clear hb HWh HA
  have HS : Hid (∀ t : World, Below v.drew.heap.size v.drew t → (t.cell? ⟨u.heap.size, 0, none⟩ = some (.int .i64 W0) ∧ t.cell? ⟨u.heap.size, 1, none⟩ = some (.int .i64 H0) ∧ t.cell? ⟨u.heap.size, 2, none⟩ = some (.slice a0 C0.length c0) ∧ t.cell? ⟨u.heap.size + 1, 0, none⟩ = some (.int .i64 X) ∧ t.cell? ⟨u.heap.size + 1, 1, none⟩ = some (.int .i64 Y) ∧ t.cell? ⟨u.heap.size + 1, 2, none⟩ = some (.int .i64 pw) ∧ t.cell? ⟨u.heap.size + 1, 3, none⟩ = some (.int .i64 ph) ∧ t.cell? ⟨u.heap.size + 1 + 1, 0, none⟩ = some (.int .i64 vx) ∧ t.cell? ⟨u.heap.size + 1 + 1, 1, none⟩ = some (.int .i64 vy) ∧ Below u.heap.size u t)) := fun t ht => by
    have ht2 : Below v.heap.size v t := Below.trans (below_drew (Below.refl _ _)) ht
    refine ⟨?_, ?_, ?_, ?_, ?_, ?_, ?_, ?_, ?_, below_to HB.out ht2⟩ <;> rw [newCell ht2 _ _ (by omega)]
    · exact p0
    · exact p1
    · exact p2
    · exact r0
    · exact r1
    · exact r2
    · exact r3
    · exact q0
    · exact q1
  have w1 : IntKind.i64.wrap (16 * X) = 16 * X := by rw [IntKind.wrap_i64]; omega
  have w2 : IntKind.i64.wrap (16 * Y) = 16 * Y := by rw [IntKind.wrap_i64]; omega
  have w3 : IntKind.i64.wrap (2 * vx) = 2 * vx := by rw [IntKind.wrap_i64]; omega
  have w4 : IntKind.i64.wrap (2 * vy) = 2 * vy := by rw [IntKind.wrap_i64]; omega
  have w5 : IntKind.i64.wrap (16 * X + 2 * vx) = 16 * X + 2 * vx := by rw [IntKind.wrap_i64]; omega
  have w6 : IntKind.i64.wrap (16 * Y + 2 * vy) = 16 * Y + 2 * vy := by rw [IntKind.wrap_i64]; omega
  go_wp2_with (first | (go_at_call 23; with_reducible refine (HX.out _).mono ?_; rintro e w' ⟨rfl, rfl⟩) | (go_at_call 23; with_reducible refine (HY.out _).mono ?_; rintro e w' ⟨rfl, rfl⟩) | (go_at_call 24; with_reducible refine (HVx.out _).mono ?_; rintro e w' ⟨rfl, rfl⟩) | (go_at_call 24; with_reducible refine (HVy.out _).mono ?_; rintro e w' ⟨rfl, rfl⟩) | (go_at_call 25; refine moved0.mono ?_; rintro e w' ⟨rfl, rfl⟩) | fail)
  go_region_held3 (fun t => t.cell? ⟨u.heap.size, 0, none⟩ = some (.int .i64 W0) ∧ t.cell? ⟨u.heap.size, 1, none⟩ = some (.int .i64 H0) ∧ t.cell? ⟨u.heap.size, 2, none⟩ = some (.slice a0 C0.length c0) ∧ t.cell? ⟨u.heap.size + 1, 0, none⟩ = some (.int .i64 X) ∧ t.cell? ⟨u.heap.size + 1, 1, none⟩ = some (.int .i64 Y) ∧ t.cell? ⟨u.heap.size + 1, 2, none⟩ = some (.int .i64 pw) ∧ t.cell? ⟨u.heap.size + 1, 3, none⟩ = some (.int .i64 ph) ∧ t.cell? ⟨u.heap.size + 1 + 1, 0, none⟩ = some (.int .i64 vx) ∧ t.cell? ⟨u.heap.size + 1 + 1, 1, none⟩ = some (.int .i64 vy) ∧ Below u.heap.size u t)
    ((exact HS.out _ (by first | exact Below.refl _ _ | assumption)))
    ((go_at_call 26; refine (HF.out _ (below_drew HB.out)).mono ?_; rintro e w7 ⟨a', rfl, haw, hb7⟩))
  go_wp2_with fail
  go_ret2
  exact ⟨a', rfl, haw.mono (below_drew HB.out).size, (below_drew HB.out).trans (hb7.mono (below_drew HB.out).size)⟩

set_option maxRecDepth 100000 in
set_option maxHeartbeats 2000000 in
theorem single_1 {u : World} {W0 H0 W1 H1 W2 H2 : Int} {a0 a1 a2 : Option Addr} {c0 c1 c2 : Nat} {C0 C1 C2 : List Nat} {X Y pw ph vx vy pk er : Int} {L : List Nat} (hf : FrOk ⟨W0, H0, a0, c0, C0⟩ ⟨W1, H1, a1, c1, C1⟩ ⟨W2, H2, a2, c2, C2⟩) (hm : MvOk 1 X Y vx vy)
    (hF : ∀ t : World, Below u.heap.size u t → Calls Tryd.prog 26 #[.agg #[.int .i64 W1, .int .i64 H1, .slice a1 C1.length c1], .int .i64 (16 * X + vx), .int .i64 (16 * Y + vy), .int .i64 pw, .int .i64 ph, .int .i64 pk] t fun e w' => Rs t w' e L er) :
    Calls Tryd.prog 13 #[.agg #[.int .i64 W0, .int .i64 H0, .slice a0 C0.length c0, .int .i64 W1, .int .i64 H1, .slice a1 C1.length c1, .int .i64 W2, .int .i64 H2, .slice a2 C2.length c2], .int .i64 1, .agg #[.int .i64 X, .int .i64 Y, .int .i64 pw, .int .i64 ph], .agg #[.int .i64 vx, .int .i64 vy], .int .i64 pk] u fun e w' => Rs u w' e L er := by
  have HWh : Hid (∀ t : World, Calls Tryd.prog 22 #[.agg #[.int .i64 W0, .int .i64 H0, .slice a0 C0.length c0, .int .i64 W1, .int .i64 H1, .slice a1 C1.length c1, .int .i64 W2, .int .i64 H2, .slice a2 C2.length c2]] t fun e w' => e = .returned (.int .i64 0) ∧ Below t.heap.size t w') := fun t => by
    have := whole_any (u := t) (W0 := W0) (H0 := H0) (W1 := W1) (H1 := H1) (W2 := W2) (H2 := H2) (a0 := a0) (a1 := a1) (a2 := a2) (c0 := c0) (c1 := c1) (c2 := c2) (C0 := C0) (C1 := C1) (C2 := C2)
    rwa [fk_ok hf] at this
  have HX : Hid (∀ t : World, Calls Tryd.prog 23 #[.int .i64 X] t fun e w' => e = .returned (.bool true) ∧ t = w') := fun t => by
    have := isPl_any (w := t) (z := X)
    rwa [decide_eq_true hm.x] at this
  have HY : Hid (∀ t : World, Calls Tryd.prog 23 #[.int .i64 Y] t fun e w' => e = .returned (.bool true) ∧ t = w') := fun t => by
    have := isPl_any (w := t) (z := Y)
    rwa [decide_eq_true hm.y] at this
  have HVx : Hid (∀ t : World, Calls Tryd.prog 24 #[.int .i64 vx] t fun e w' => e = .returned (.bool true) ∧ t = w') := fun t => by
    have := isMv_any (w := t) (z := vx)
    rwa [decide_eq_true hm.vx] at this
  have HVy : Hid (∀ t : World, Calls Tryd.prog 24 #[.int .i64 vy] t fun e w' => e = .returned (.bool true) ∧ t = w') := fun t => by
    have := isMv_any (w := t) (z := vy)
    rwa [decide_eq_true hm.vy] at this
  have x0 := hm.x.1
  have x1 := hm.x.2
  have y0 := hm.y.1
  have y1 := hm.y.2
  have v0 := hm.vx.1
  have v1 := hm.vx.2
  have z0 := hm.vy.1
  have z1 := hm.vy.2
  have HF : Hid _ := hF
  clear hf hm hF
  have HA : Hid (Below u.heap.size u (((u.alloc (.cells #[.int .i64 W0, .int .i64 H0, .slice a0 C0.length c0, .int .i64 W1, .int .i64 H1, .slice a1 C1.length c1, .int .i64 W2, .int .i64 H2, .slice a2 C2.length c2] 42)).alloc (.cells #[.int .i64 X, .int .i64 Y, .int .i64 pw, .int .i64 ph] 24)).alloc (.cells #[.int .i64 vx, .int .i64 vy] 46))) := to_alloc (to_alloc (from_alloc _ _) _) _
  go_enter Tryd.func13, Tryd.ntmps13
  go_wp2_with fail
  refine (HWh.out _).mono ?_
  rintro e v ⟨rfl, hb⟩
  have HB : Hid (Below u.heap.size u v) := below_to HA.out hb
  have p0 : v.cell? ⟨u.heap.size, 3, none⟩ = some (.int .i64 W1) := by rw [newCell hb _ _ (by simp <;> omega)]; simp [go_sem]
  have p1 : v.cell? ⟨u.heap.size, 4, none⟩ = some (.int .i64 H1) := by rw [newCell hb _ _ (by simp <;> omega)]; simp [go_sem]
  have p2 : v.cell? ⟨u.heap.size, 5, none⟩ = some (.slice a1 C1.length c1) := by rw [newCell hb _ _ (by simp <;> omega)]; simp [go_sem]
  have r0 : v.cell? ⟨u.heap.size + 1, 0, none⟩ = some (.int .i64 X) := by rw [newCell hb _ _ (by simp)]; simp [go_sem]
  have r1 : v.cell? ⟨u.heap.size + 1, 1, none⟩ = some (.int .i64 Y) := by rw [newCell hb _ _ (by simp)]; simp [go_sem]
  have r2 : v.cell? ⟨u.heap.size + 1, 2, none⟩ = some (.int .i64 pw) := by rw [newCell hb _ _ (by simp)]; simp [go_sem]
  have r3 : v.cell? ⟨u.heap.size + 1, 3, none⟩ = some (.int .i64 ph) := by rw [newCell hb _ _ (by simp)]; simp [go_sem]
  have q0 : v.cell? ⟨u.heap.size + 1 + 1, 0, none⟩ = some (.int .i64 vx) := by rw [newCell hb _ _ (by simp)]; simp [go_sem]
  have q1 : v.cell? ⟨u.heap.size + 1 + 1, 1, none⟩ = some (.int .i64 vy) := by rw [newCell hb _ _ (by simp)]; simp [go_sem]
  have hz : u.heap.size + 1 + 1 < v.heap.size := Nat.lt_of_lt_of_le (by simp) hb.size
  clear hb HWh HA
  have HS : Hid (∀ t : World, Below v.drew.heap.size v.drew t → (t.cell? ⟨u.heap.size, 3, none⟩ = some (.int .i64 W1) ∧ t.cell? ⟨u.heap.size, 4, none⟩ = some (.int .i64 H1) ∧ t.cell? ⟨u.heap.size, 5, none⟩ = some (.slice a1 C1.length c1) ∧ t.cell? ⟨u.heap.size + 1, 0, none⟩ = some (.int .i64 X) ∧ t.cell? ⟨u.heap.size + 1, 1, none⟩ = some (.int .i64 Y) ∧ t.cell? ⟨u.heap.size + 1, 2, none⟩ = some (.int .i64 pw) ∧ t.cell? ⟨u.heap.size + 1, 3, none⟩ = some (.int .i64 ph) ∧ t.cell? ⟨u.heap.size + 1 + 1, 0, none⟩ = some (.int .i64 vx) ∧ t.cell? ⟨u.heap.size + 1 + 1, 1, none⟩ = some (.int .i64 vy) ∧ Below u.heap.size u t)) := fun t ht => by
    have ht2 : Below v.heap.size v t := Below.trans (below_drew (Below.refl _ _)) ht
    refine ⟨?_, ?_, ?_, ?_, ?_, ?_, ?_, ?_, ?_, below_to HB.out ht2⟩ <;> rw [newCell ht2 _ _ (by omega)]
    · exact p0
    · exact p1
    · exact p2
    · exact r0
    · exact r1
    · exact r2
    · exact r3
    · exact q0
    · exact q1
  have w1 : IntKind.i64.wrap (16 * X) = 16 * X := by rw [IntKind.wrap_i64]; omega
  have w2 : IntKind.i64.wrap (16 * Y) = 16 * Y := by rw [IntKind.wrap_i64]; omega
  have w3 : IntKind.i64.wrap (vx) = vx := by rw [IntKind.wrap_i64]; omega
  have w4 : IntKind.i64.wrap (vy) = vy := by rw [IntKind.wrap_i64]; omega
  have w5 : IntKind.i64.wrap (16 * X + vx) = 16 * X + vx := by rw [IntKind.wrap_i64]; omega
  have w6 : IntKind.i64.wrap (16 * Y + vy) = 16 * Y + vy := by rw [IntKind.wrap_i64]; omega
  go_wp2_with (first | (go_at_call 23; with_reducible refine (HX.out _).mono ?_; rintro e w' ⟨rfl, rfl⟩) | (go_at_call 23; with_reducible refine (HY.out _).mono ?_; rintro e w' ⟨rfl, rfl⟩) | (go_at_call 24; with_reducible refine (HVx.out _).mono ?_; rintro e w' ⟨rfl, rfl⟩) | (go_at_call 24; with_reducible refine (HVy.out _).mono ?_; rintro e w' ⟨rfl, rfl⟩) | (go_at_call 25; refine moved1.mono ?_; rintro e w' ⟨rfl, rfl⟩) | fail)
  go_region_held3 (fun t => t.cell? ⟨u.heap.size, 3, none⟩ = some (.int .i64 W1) ∧ t.cell? ⟨u.heap.size, 4, none⟩ = some (.int .i64 H1) ∧ t.cell? ⟨u.heap.size, 5, none⟩ = some (.slice a1 C1.length c1) ∧ t.cell? ⟨u.heap.size + 1, 0, none⟩ = some (.int .i64 X) ∧ t.cell? ⟨u.heap.size + 1, 1, none⟩ = some (.int .i64 Y) ∧ t.cell? ⟨u.heap.size + 1, 2, none⟩ = some (.int .i64 pw) ∧ t.cell? ⟨u.heap.size + 1, 3, none⟩ = some (.int .i64 ph) ∧ t.cell? ⟨u.heap.size + 1 + 1, 0, none⟩ = some (.int .i64 vx) ∧ t.cell? ⟨u.heap.size + 1 + 1, 1, none⟩ = some (.int .i64 vy) ∧ Below u.heap.size u t)
    ((exact HS.out _ (by first | exact Below.refl _ _ | assumption)))
    ((go_at_call 26; refine (HF.out _ (below_drew HB.out)).mono ?_; rintro e w7 ⟨a', rfl, haw, hb7⟩))
  go_wp2_with fail
  go_ret2
  exact ⟨a', rfl, haw.mono (below_drew HB.out).size, (below_drew HB.out).trans (hb7.mono (below_drew HB.out).size)⟩

set_option maxRecDepth 100000 in
set_option maxHeartbeats 2000000 in
theorem single_2 {u : World} {W0 H0 W1 H1 W2 H2 : Int} {a0 a1 a2 : Option Addr} {c0 c1 c2 : Nat} {C0 C1 C2 : List Nat} {X Y pw ph vx vy pk er : Int} {L : List Nat} (hf : FrOk ⟨W0, H0, a0, c0, C0⟩ ⟨W1, H1, a1, c1, C1⟩ ⟨W2, H2, a2, c2, C2⟩) (hm : MvOk 2 X Y vx vy)
    (hF : ∀ t : World, Below u.heap.size u t → Calls Tryd.prog 26 #[.agg #[.int .i64 W2, .int .i64 H2, .slice a2 C2.length c2], .int .i64 (16 * X + vx), .int .i64 (16 * Y + vy), .int .i64 pw, .int .i64 ph, .int .i64 pk] t fun e w' => Rs t w' e L er) :
    Calls Tryd.prog 13 #[.agg #[.int .i64 W0, .int .i64 H0, .slice a0 C0.length c0, .int .i64 W1, .int .i64 H1, .slice a1 C1.length c1, .int .i64 W2, .int .i64 H2, .slice a2 C2.length c2], .int .i64 2, .agg #[.int .i64 X, .int .i64 Y, .int .i64 pw, .int .i64 ph], .agg #[.int .i64 vx, .int .i64 vy], .int .i64 pk] u fun e w' => Rs u w' e L er := by
  have HWh : Hid (∀ t : World, Calls Tryd.prog 22 #[.agg #[.int .i64 W0, .int .i64 H0, .slice a0 C0.length c0, .int .i64 W1, .int .i64 H1, .slice a1 C1.length c1, .int .i64 W2, .int .i64 H2, .slice a2 C2.length c2]] t fun e w' => e = .returned (.int .i64 0) ∧ Below t.heap.size t w') := fun t => by
    have := whole_any (u := t) (W0 := W0) (H0 := H0) (W1 := W1) (H1 := H1) (W2 := W2) (H2 := H2) (a0 := a0) (a1 := a1) (a2 := a2) (c0 := c0) (c1 := c1) (c2 := c2) (C0 := C0) (C1 := C1) (C2 := C2)
    rwa [fk_ok hf] at this
  have HX : Hid (∀ t : World, Calls Tryd.prog 23 #[.int .i64 X] t fun e w' => e = .returned (.bool true) ∧ t = w') := fun t => by
    have := isPl_any (w := t) (z := X)
    rwa [decide_eq_true hm.x] at this
  have HY : Hid (∀ t : World, Calls Tryd.prog 23 #[.int .i64 Y] t fun e w' => e = .returned (.bool true) ∧ t = w') := fun t => by
    have := isPl_any (w := t) (z := Y)
    rwa [decide_eq_true hm.y] at this
  have HVx : Hid (∀ t : World, Calls Tryd.prog 24 #[.int .i64 vx] t fun e w' => e = .returned (.bool true) ∧ t = w') := fun t => by
    have := isMv_any (w := t) (z := vx)
    rwa [decide_eq_true hm.vx] at this
  have HVy : Hid (∀ t : World, Calls Tryd.prog 24 #[.int .i64 vy] t fun e w' => e = .returned (.bool true) ∧ t = w') := fun t => by
    have := isMv_any (w := t) (z := vy)
    rwa [decide_eq_true hm.vy] at this
  have x0 := hm.x.1
  have x1 := hm.x.2
  have y0 := hm.y.1
  have y1 := hm.y.2
  have v0 := hm.vx.1
  have v1 := hm.vx.2
  have z0 := hm.vy.1
  have z1 := hm.vy.2
  have HF : Hid _ := hF
  clear hf hm hF
  have HA : Hid (Below u.heap.size u (((u.alloc (.cells #[.int .i64 W0, .int .i64 H0, .slice a0 C0.length c0, .int .i64 W1, .int .i64 H1, .slice a1 C1.length c1, .int .i64 W2, .int .i64 H2, .slice a2 C2.length c2] 42)).alloc (.cells #[.int .i64 X, .int .i64 Y, .int .i64 pw, .int .i64 ph] 24)).alloc (.cells #[.int .i64 vx, .int .i64 vy] 46))) := to_alloc (to_alloc (from_alloc _ _) _) _
  go_enter Tryd.func13, Tryd.ntmps13
  go_wp2_with fail
  refine (HWh.out _).mono ?_
  rintro e v ⟨rfl, hb⟩
  have HB : Hid (Below u.heap.size u v) := below_to HA.out hb
  have p0 : v.cell? ⟨u.heap.size, 6, none⟩ = some (.int .i64 W2) := by rw [newCell hb _ _ (by simp <;> omega)]; simp [go_sem]
  have p1 : v.cell? ⟨u.heap.size, 7, none⟩ = some (.int .i64 H2) := by rw [newCell hb _ _ (by simp <;> omega)]; simp [go_sem]
  have p2 : v.cell? ⟨u.heap.size, 8, none⟩ = some (.slice a2 C2.length c2) := by rw [newCell hb _ _ (by simp <;> omega)]; simp [go_sem]
  have r0 : v.cell? ⟨u.heap.size + 1, 0, none⟩ = some (.int .i64 X) := by rw [newCell hb _ _ (by simp)]; simp [go_sem]
  have r1 : v.cell? ⟨u.heap.size + 1, 1, none⟩ = some (.int .i64 Y) := by rw [newCell hb _ _ (by simp)]; simp [go_sem]
  have r2 : v.cell? ⟨u.heap.size + 1, 2, none⟩ = some (.int .i64 pw) := by rw [newCell hb _ _ (by simp)]; simp [go_sem]
  have r3 : v.cell? ⟨u.heap.size + 1, 3, none⟩ = some (.int .i64 ph) := by rw [newCell hb _ _ (by simp)]; simp [go_sem]
  have q0 : v.cell? ⟨u.heap.size + 1 + 1, 0, none⟩ = some (.int .i64 vx) := by rw [newCell hb _ _ (by simp)]; simp [go_sem]
  have q1 : v.cell? ⟨u.heap.size + 1 + 1, 1, none⟩ = some (.int .i64 vy) := by rw [newCell hb _ _ (by simp)]; simp [go_sem]
  have hz : u.heap.size + 1 + 1 < v.heap.size := Nat.lt_of_lt_of_le (by simp) hb.size
  clear hb HWh HA
  have HS : Hid (∀ t : World, Below v.drew.heap.size v.drew t → (t.cell? ⟨u.heap.size, 6, none⟩ = some (.int .i64 W2) ∧ t.cell? ⟨u.heap.size, 7, none⟩ = some (.int .i64 H2) ∧ t.cell? ⟨u.heap.size, 8, none⟩ = some (.slice a2 C2.length c2) ∧ t.cell? ⟨u.heap.size + 1, 0, none⟩ = some (.int .i64 X) ∧ t.cell? ⟨u.heap.size + 1, 1, none⟩ = some (.int .i64 Y) ∧ t.cell? ⟨u.heap.size + 1, 2, none⟩ = some (.int .i64 pw) ∧ t.cell? ⟨u.heap.size + 1, 3, none⟩ = some (.int .i64 ph) ∧ t.cell? ⟨u.heap.size + 1 + 1, 0, none⟩ = some (.int .i64 vx) ∧ t.cell? ⟨u.heap.size + 1 + 1, 1, none⟩ = some (.int .i64 vy) ∧ Below u.heap.size u t)) := fun t ht => by
    have ht2 : Below v.heap.size v t := Below.trans (below_drew (Below.refl _ _)) ht
    refine ⟨?_, ?_, ?_, ?_, ?_, ?_, ?_, ?_, ?_, below_to HB.out ht2⟩ <;> rw [newCell ht2 _ _ (by omega)]
    · exact p0
    · exact p1
    · exact p2
    · exact r0
    · exact r1
    · exact r2
    · exact r3
    · exact q0
    · exact q1
  have w1 : IntKind.i64.wrap (16 * X) = 16 * X := by rw [IntKind.wrap_i64]; omega
  have w2 : IntKind.i64.wrap (16 * Y) = 16 * Y := by rw [IntKind.wrap_i64]; omega
  have w3 : IntKind.i64.wrap (vx) = vx := by rw [IntKind.wrap_i64]; omega
  have w4 : IntKind.i64.wrap (vy) = vy := by rw [IntKind.wrap_i64]; omega
  have w5 : IntKind.i64.wrap (16 * X + vx) = 16 * X + vx := by rw [IntKind.wrap_i64]; omega
  have w6 : IntKind.i64.wrap (16 * Y + vy) = 16 * Y + vy := by rw [IntKind.wrap_i64]; omega
  go_wp2_with (first | (go_at_call 23; with_reducible refine (HX.out _).mono ?_; rintro e w' ⟨rfl, rfl⟩) | (go_at_call 23; with_reducible refine (HY.out _).mono ?_; rintro e w' ⟨rfl, rfl⟩) | (go_at_call 24; with_reducible refine (HVx.out _).mono ?_; rintro e w' ⟨rfl, rfl⟩) | (go_at_call 24; with_reducible refine (HVy.out _).mono ?_; rintro e w' ⟨rfl, rfl⟩) | (go_at_call 25; refine moved2.mono ?_; rintro e w' ⟨rfl, rfl⟩) | fail)
  go_region_held3 (fun t => t.cell? ⟨u.heap.size, 6, none⟩ = some (.int .i64 W2) ∧ t.cell? ⟨u.heap.size, 7, none⟩ = some (.int .i64 H2) ∧ t.cell? ⟨u.heap.size, 8, none⟩ = some (.slice a2 C2.length c2) ∧ t.cell? ⟨u.heap.size + 1, 0, none⟩ = some (.int .i64 X) ∧ t.cell? ⟨u.heap.size + 1, 1, none⟩ = some (.int .i64 Y) ∧ t.cell? ⟨u.heap.size + 1, 2, none⟩ = some (.int .i64 pw) ∧ t.cell? ⟨u.heap.size + 1, 3, none⟩ = some (.int .i64 ph) ∧ t.cell? ⟨u.heap.size + 1 + 1, 0, none⟩ = some (.int .i64 vx) ∧ t.cell? ⟨u.heap.size + 1 + 1, 1, none⟩ = some (.int .i64 vy) ∧ Below u.heap.size u t)
    ((exact HS.out _ (by first | exact Below.refl _ _ | assumption)))
    ((go_at_call 26; refine (HF.out _ (below_drew HB.out)).mono ?_; rintro e w7 ⟨a', rfl, haw, hb7⟩))
  go_wp2_with fail
  go_ret2
  exact ⟨a', rfl, haw.mono (below_drew HB.out).size, (below_drew HB.out).trans (hb7.mono (below_drew HB.out).size)⟩

end Go.Proofs.YtpideemiijhkgabDoor
