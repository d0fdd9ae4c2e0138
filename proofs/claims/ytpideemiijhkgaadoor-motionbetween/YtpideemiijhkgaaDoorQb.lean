/- DERIVED. The document's within, blend; blends place by place. -/
import Derived.Test.YtpideemiijhkgaaDoorWc
import Derived.Test.YtpideemiijhkgaaDoorMb
import Derived.Test.YtpideemiijhkgaaDoorQa
namespace Go.Proofs.YtpideemiijhkgaaDoor
open Go.RowKit

/-- own samples in rows, and a rectangle in them -/
def InOk (C : List Nat) (w X Y rw rh : Int) : Prop := 1 ≤ w ∧ w ≤ 64 ∧ ∃ h : Int, 1 ≤ h ∧ h ≤ 64 ∧ (C.length : Int) = w * h ∧ Win w h X Y rw rh
theorem BOk.iff {C : List Nat} {w X Y rw rh : Int} {D : List Nat} : BOk C w X Y rw rh D ↔ InOk C w X Y rw rh ∧ (D.length : Int) = rw * rh := ⟨fun h => ⟨⟨h.w0, h.w1, h.hw⟩, h.l⟩, fun h => ⟨h.1.1, h.1.2.1, h.1.2.2, h.2⟩⟩

set_option maxRecDepth 100000 in
set_option maxHeartbeats 1000000 in
theorem qwithin_yes {u : World} {a : Option Addr} {c : Nat} {C : List Nat} {w X Y rw rh : Int} (hi : InOk C w X Y rw rh) :
    Calls Tryd.prog 44 #[.slice a C.length c, .int .i64 w, .agg #[.int .i64 X, .int .i64 Y, .int .i64 rw, .int .i64 rh]] u fun e w' => e = .returned (.bool true) ∧ Below u.heap.size u w' := by
  obtain ⟨w0, w1, h, h0, h1, hl, hw⟩ := hi
  obtain ⟨x, rfl⟩ : ∃ n : Nat, w = (n : Int) := ⟨w.toNat, by omega⟩
  obtain ⟨y, rfl⟩ : ∃ n : Nat, h = (n : Int) := ⟨h.toNat, by omega⟩
  have e1 : (C.length : Int) % (x : Int) = 0 := by rw [hl]; exact Int.mul_emod_right _ _
  have e2 : (C.length : Int).tmod (x : Int) = 0 := by rw [Int.tmod_eq_emod_of_nonneg (by omega)]; exact e1
  have e3 : (C.length : Int) / (x : Int) = (y : Int) := by rw [hl]; exact Int.mul_ediv_cancel_left _ (by omega)
  have e4 : (C.length : Int).tdiv (x : Int) = (y : Int) := by rw [Int.tdiv_eq_ediv_of_nonneg (by omega)]; exact e3
  have pos : 0 < (x : Int) * (y : Int) := Int.mul_pos (by omega) (by omega)
  have l0 : ((C.length : Int) == 0) = false := by rw [beq_eq_false_iff_ne]; omega
  have l1 : ¬ (C.length : Int) = 0 := by omega
  have l2 : ¬ C.length = 0 := by omega
  have x0 : ¬ (x : Int) = 0 := by omega
  have x1 : ¬ x = 0 := by omega
  have ew : IntKind.i64.wrap (y : Int) = (y : Int) := by rw [IntKind.wrap_i64]; omega
  have HW : Hid (∀ t : World, Calls Tryd.prog 65 #[.agg #[.int .i64 (x : Int), .int .i64 (y : Int), .slice none 0 0], .agg #[.int .i64 X, .int .i64 Y, .int .i64 rw, .int .i64 rh]] t fun e w' => e = .returned (.bool true) ∧ Below t.heap.size t w') := fun t => rwithin_yes hw (by omega) (by omega)
  clear hl hw pos
  go_enter Tryd.func44, Tryd.ntmps44
  go_wp2_with fail
  have c0 : (u.alloc (.cells #[.int .i64 X, .int .i64 Y, .int .i64 rw, .int .i64 rh] 29)).cell? ⟨u.heap.size, 0, none⟩ = some (.int .i64 X) := by simp [go_sem]
  have c1 : (u.alloc (.cells #[.int .i64 X, .int .i64 Y, .int .i64 rw, .int .i64 rh] 29)).cell? ⟨u.heap.size, 1, none⟩ = some (.int .i64 Y) := by simp [go_sem]
  have c2 : (u.alloc (.cells #[.int .i64 X, .int .i64 Y, .int .i64 rw, .int .i64 rh] 29)).cell? ⟨u.heap.size, 2, none⟩ = some (.int .i64 rw) := by simp [go_sem]
  have c3 : (u.alloc (.cells #[.int .i64 X, .int .i64 Y, .int .i64 rw, .int .i64 rh] 29)).cell? ⟨u.heap.size, 3, none⟩ = some (.int .i64 rh) := by simp [go_sem]
  have HA : Hid (Below u.heap.size u (u.alloc (.cells #[.int .i64 X, .int .i64 Y, .int .i64 rw, .int .i64 rh] 29))) := from_alloc _ _
  have hz : u.heap.size < (u.alloc (.cells #[.int .i64 X, .int .i64 Y, .int .i64 rw, .int .i64 rh] 29)).heap.size := by simp
  generalize u.alloc (.cells #[.int .i64 X, .int .i64 Y, .int .i64 rw, .int .i64 rh] 29) = v at *
  have HK : Hid (∀ t : World, Below v.heap.size v t → t.cell? ⟨u.heap.size, 0, none⟩ = some (.int .i64 X) ∧ t.cell? ⟨u.heap.size, 1, none⟩ = some (.int .i64 Y) ∧ t.cell? ⟨u.heap.size, 2, none⟩ = some (.int .i64 rw) ∧ t.cell? ⟨u.heap.size, 3, none⟩ = some (.int .i64 rh)) := fun t ht => by
    refine ⟨?_, ?_, ?_, ?_⟩ <;> rw [newCell ht _ _ hz]
    · exact c0
    · exact c1
    · exact c2
    · exact c3
  go_region_held3 (fun t => t.cell? ⟨u.heap.size, 0, none⟩ = some (.int .i64 X) ∧ t.cell? ⟨u.heap.size, 1, none⟩ = some (.int .i64 Y) ∧ t.cell? ⟨u.heap.size, 2, none⟩ = some (.int .i64 rw) ∧ t.cell? ⟨u.heap.size, 3, none⟩ = some (.int .i64 rh))
    ((exact HK.out _ (by first | exact below_drew (Below.refl _ _) | exact below_to (below_drew (Below.refl _ _)) (by assumption))))
    ((go_at_call 65; refine (HW.out _).mono ?_; rintro e w5 ⟨rfl, hb5⟩))
  go_wp2_with fail
  go_ret
  exact ⟨rfl, below_to HA.out (below_to (below_drew (Below.refl _ _)) hb5)⟩

set_option maxRecDepth 100000 in
set_option maxHeartbeats 2000000 in
theorem qwithin_no {u : World} {a : Option Addr} {c : Nat} {C : List Nat} {w X Y rw rh : Int} (hi : ¬ InOk C w X Y rw rh) (hCl : C.length ≤ 140737488355328) :
    Calls Tryd.prog 44 #[.slice a C.length c, .int .i64 w, .agg #[.int .i64 X, .int .i64 Y, .int .i64 rw, .int .i64 rh]] u fun e w' => e = .returned (.bool false) ∧ Below u.heap.size u w' := by
  by_cases w0 : w < 1
  · clear hi
    go_enter Tryd.func44, Tryd.ntmps44
    go_wp2_with fail
    go_ret
    exact ⟨rfl, from_alloc _ _⟩
  by_cases w1 : 64 < w
  · clear hi
    go_enter Tryd.func44, Tryd.ntmps44
    go_wp2_with fail
    go_ret
    exact ⟨rfl, from_alloc _ _⟩
  obtain ⟨x, rfl⟩ : ∃ n : Nat, w = (n : Int) := ⟨w.toNat, by omega⟩
  have x0 : ¬ (x : Int) = 0 := by omega
  have x1 : ¬ x = 0 := by omega
  have i0 : (1 : Int) ≤ (x : Int) := by omega
  have i1 : (x : Int) ≤ 64 := by omega
  clear w0 w1
  by_cases hz : C.length = 0
  · have l0 : ((C.length : Int) == 0) = true := by simp [hz]
    clear hi hz
    go_enter Tryd.func44, Tryd.ntmps44
    go_wp2_with fail
    go_ret
    exact ⟨rfl, from_alloc _ _⟩
  have l0 : ((C.length : Int) == 0) = false := by rw [beq_eq_false_iff_ne]; omega
  obtain ⟨r, hr⟩ : ∃ r, r = C.length % x := ⟨_, rfl⟩
  obtain ⟨y, hy⟩ : ∃ y, y = C.length / x := ⟨_, rfl⟩
  have e1 : (C.length : Int) % (x : Int) = (r : Int) := by rw [hr, Int.natCast_emod]
  have e2 : (C.length : Int).tmod (x : Int) = (r : Int) := by rw [Int.tmod_eq_emod_of_nonneg (by omega)]; exact e1
  have e3 : (C.length : Int) / (x : Int) = (y : Int) := by rw [hy, Int.natCast_ediv]
  have e4 : (C.length : Int).tdiv (x : Int) = (y : Int) := by rw [Int.tdiv_eq_ediv_of_nonneg (by omega)]; exact e3
  have HY : Hid (y ≤ C.length) := by show _ ≤ _; rw [hy]; exact Nat.div_le_self _ _
  have HD : Hid (C.length = x * y + r) := by show _ = _; rw [hy, hr]; exact (Nat.div_add_mod _ _).symm
  have l1 : ¬ (C.length : Int) = 0 := by omega
  clear hr hy
  by_cases hr0 : r = 0
  · subst hr0
    have rr : (((0 : Nat) : Int) != 0) = false := by simp
    by_cases hy1 : 64 < y
    · have y1 : (64 : Int) < (y : Int) := by omega
      have y2 : (y : Int) ≤ 140737488355328 := by have := HY.out; omega
      clear hi hy1
      go_enter Tryd.func44, Tryd.ntmps44
      go_wp2_with fail
      go_ret
      exact ⟨rfl, from_alloc _ _⟩
    · have y1 : (y : Int) ≤ 64 := by omega
      have hw : ¬ Win (x : Int) (y : Int) X Y rw rh := fun k => by
        refine hi ⟨i0, i1, (y : Int), ?_, y1, ?_, k⟩
        · have := HD.out
          by_cases h0 : y = 0
          · exact absurd (by rw [this, h0]; simp) hz
          · omega
        · have := HD.out
          rw [this]; simp
      have ew : IntKind.i64.wrap (y : Int) = (y : Int) := by rw [IntKind.wrap_i64]; omega
      have HW : Hid (∀ t : World, Calls Tryd.prog 65 #[.agg #[.int .i64 (x : Int), .int .i64 (y : Int), .slice none 0 0], .agg #[.int .i64 X, .int .i64 Y, .int .i64 rw, .int .i64 rh]] t fun e w' => e = .returned (.bool false) ∧ Below t.heap.size t w') := fun t => rwithin_no hw (by omega) (by omega)
      clear hi hy1 hw
      go_enter Tryd.func44, Tryd.ntmps44
      go_wp2_with fail
      have c0 : (u.alloc (.cells #[.int .i64 X, .int .i64 Y, .int .i64 rw, .int .i64 rh] 29)).cell? ⟨u.heap.size, 0, none⟩ = some (.int .i64 X) := by simp [go_sem]
      have c1 : (u.alloc (.cells #[.int .i64 X, .int .i64 Y, .int .i64 rw, .int .i64 rh] 29)).cell? ⟨u.heap.size, 1, none⟩ = some (.int .i64 Y) := by simp [go_sem]
      have c2 : (u.alloc (.cells #[.int .i64 X, .int .i64 Y, .int .i64 rw, .int .i64 rh] 29)).cell? ⟨u.heap.size, 2, none⟩ = some (.int .i64 rw) := by simp [go_sem]
      have c3 : (u.alloc (.cells #[.int .i64 X, .int .i64 Y, .int .i64 rw, .int .i64 rh] 29)).cell? ⟨u.heap.size, 3, none⟩ = some (.int .i64 rh) := by simp [go_sem]
      have HA : Hid (Below u.heap.size u (u.alloc (.cells #[.int .i64 X, .int .i64 Y, .int .i64 rw, .int .i64 rh] 29))) := from_alloc _ _
      have hz : u.heap.size < (u.alloc (.cells #[.int .i64 X, .int .i64 Y, .int .i64 rw, .int .i64 rh] 29)).heap.size := by simp
      generalize u.alloc (.cells #[.int .i64 X, .int .i64 Y, .int .i64 rw, .int .i64 rh] 29) = v at *
      have HK : Hid (∀ t : World, Below v.heap.size v t → t.cell? ⟨u.heap.size, 0, none⟩ = some (.int .i64 X) ∧ t.cell? ⟨u.heap.size, 1, none⟩ = some (.int .i64 Y) ∧ t.cell? ⟨u.heap.size, 2, none⟩ = some (.int .i64 rw) ∧ t.cell? ⟨u.heap.size, 3, none⟩ = some (.int .i64 rh)) := fun t ht => by
        refine ⟨?_, ?_, ?_, ?_⟩ <;> rw [newCell ht _ _ hz]
        · exact c0
        · exact c1
        · exact c2
        · exact c3
      go_region_held3 (fun t => t.cell? ⟨u.heap.size, 0, none⟩ = some (.int .i64 X) ∧ t.cell? ⟨u.heap.size, 1, none⟩ = some (.int .i64 Y) ∧ t.cell? ⟨u.heap.size, 2, none⟩ = some (.int .i64 rw) ∧ t.cell? ⟨u.heap.size, 3, none⟩ = some (.int .i64 rh))
        ((exact HK.out _ (by first | exact below_drew (Below.refl _ _) | exact below_to (below_drew (Below.refl _ _)) (by assumption))))
        ((go_at_call 65; refine (HW.out _).mono ?_; rintro e w5 ⟨rfl, hb5⟩))
      go_wp2_with fail
      go_ret
      exact ⟨rfl, below_to HA.out (below_to (below_drew (Below.refl _ _)) hb5)⟩
  · have rr : ((r : Int) != 0) = true := by rw [bne_iff_ne]; omega
    clear hi hr0
    go_enter Tryd.func44, Tryd.ntmps44
    go_wp2_with fail
    go_ret
    exact ⟨rfl, from_alloc _ _⟩

set_option maxRecDepth 100000 in
set_option maxHeartbeats 1000000 in
theorem qblend_any {w : World} {g n c p k o : Nat} {C : List Nat} (h : Wp w g C) (hn : C.length = n) (hp : p < n) (hn2 : n ≤ 4096) (hC : C.getD p 0 < 256) (hk : k ≤ 64) (ho : o < 256) :
    Calls Tryd.prog 45 #[.slice (some ⟨g, 0, none⟩) n c, .int .i64 (p : Int), .int .i64 (k : Int), .int .u8 (o : Int)] w fun e w' => e = .returned (.tuple #[]) ∧ Wp w' g (C.set p (bl k (C.getD p 0) o)) ∧ Kb g w w' := by
  have c0 := h.cell p (by omega)
  have c1 := h.th p
  have HW : Hid (∀ z, z = ((bl k (C.getD p 0) o : Nat) : Int) → Wp (w.setCell ⟨g, p, none⟩ (.int .u8 z)) g (C.set p (bl k (C.getD p 0) o))) := by
    rintro z rfl
    exact h.set (by omega) _
  generalize C.getD p 0 = s at *
  obtain ⟨p1, hp1⟩ : ∃ p1, p1 = k * s := ⟨_, rfl⟩
  obtain ⟨p2, hp2⟩ : ∃ p2, p2 = (64 - k) * o := ⟨_, rfl⟩
  have p1b : p1 ≤ 64 * 255 := by rw [hp1]; exact Nat.mul_le_mul hk (by omega)
  have p2b : p2 ≤ 64 * 255 := by rw [hp2]; exact Nat.mul_le_mul (by omega) (by omega)
  have e1 : (k : Int) * (s : Int) = (p1 : Int) := by rw [hp1, Int.natCast_mul]
  have e2 : (64 - (k : Int)) * (o : Int) = (p2 : Int) := by rw [hp2, Int.natCast_mul]; congr 1; omega
  have HBl : Hid (bl k s o = (p1 + p2 + 32) / 64) := by show _ = _; rw [hp1, hp2]; rfl
  have bb : (p1 + p2 + 32) / 64 < 256 := by rw [← HBl.out]; exact bl_lt hk hC ho
  have k0 : (0 : Int) ≤ (p : Int) := by omega
  have k1 : (p : Int) < (n : Int) := by omega
  have k2 : (n : Int) ≤ 4096 := by omega
  have kk1 : (k : Int) ≤ 64 := by omega
  have p1c : (p1 : Int) ≤ 16320 := by omega
  have p2c : (p2 : Int) ≤ 16320 := by omega
  have bc : ((p1 : Int) + (p2 : Int) + 32) / 64 < 256 := by omega
  clear h hp1 hp2 hk
  go_enter Tryd.func45, Tryd.ntmps45
  go_wp2_with fail
  go_end0
  exact ⟨rfl, HW.out _ (by rw [HBl.out]; omega), Kb.setCell _ _ _ _⟩

/-- own samples, m of the rectangle's places blended -/
def baF (w : Nat) (C : List Nat) (X Y rw rh : Nat) (kf : Nat → Nat → Nat) (D : List Nat) (m p : Nat) : Nat := if X ≤ p % w ∧ p % w < X + rw ∧ Y ≤ p / w ∧ p / w < Y + rh ∧ (p / w - Y) * rw + (p % w - X) < m then bl (kf (p % w - X) (p / w - Y)) (C.getD p 0) (D.getD ((p / w - Y) * rw + (p % w - X)) 0) else C.getD p 0
def baL (w : Nat) (C : List Nat) (X Y rw rh : Nat) (kf : Nat → Nat → Nat) (D : List Nat) (m : Nat) : List Nat := tab C.length (baF w C X Y rw rh kf D m)
theorem baL_len (w : Nat) (C : List Nat) (X Y rw rh : Nat) (kf : Nat → Nat → Nat) (D : List Nat) (m : Nat) : (baL w C X Y rw rh kf D m).length = C.length := tab_len _ _
theorem baL_zero (w : Nat) (C : List Nat) (X Y rw rh : Nat) (kf : Nat → Nat → Nat) (D : List Nat) : baL w C X Y rw rh kf D 0 = C := by
  unfold baL
  exact (eq_tab rfl fun j _ => by unfold baF; rw [if_neg (by omega)]).symm
theorem ix_parts {rw y x : Nat} (hx : x < rw) : (y * rw + x) % rw = x ∧ (y * rw + x) / rw = y := ⟨(dm_of hx).2, (dm_of hx).1⟩
theorem baL_all {w h : Nat} {C : List Nat} {X Y rw rh : Nat} (kf : Nat → Nat → Nat) (D : List Nat) (w0 : 1 ≤ w) (_ : C.length = w * h) (_ : Y + rh ≤ h) : baL w C X Y rw rh kf D (rw * rh) = mbL w C X Y rw rh kf D := tab_eq fun p hp => by
  unfold baF layF
  obtain ⟨p1, p2⟩ := parts p w w0
  by_cases h1 : X ≤ p % w ∧ p % w < X + rw ∧ Y ≤ p / w ∧ p / w < Y + rh
  · have hx : p % w - X < rw := by omega
    have hy : p / w - Y < rh := by omega
    have hlt : (p / w - Y) * rw + (p % w - X) < rw * rh := at_lt hy hx
    obtain ⟨e1, e2⟩ := ix_parts (y := p / w - Y) hx
    rw [if_pos ⟨h1.1, h1.2.1, h1.2.2.1, h1.2.2.2, hlt⟩, if_pos h1]
    unfold blB
    rw [tab_get _ hlt, e1, e2]
    unfold cutF
    rw [e1, e2, show Y + (p / w - Y) = p / w from by omega, show X + (p % w - X) = p % w from by omega, ← p1]
  · rw [if_neg (fun k => h1 ⟨k.1, k.2.1, k.2.2.1, k.2.2.2.1⟩), if_neg h1]
/-- the place of the m-th -/
theorem baL_set {w h : Nat} {C : List Nat} {X Y rw rh : Nat} (kf : Nat → Nat → Nat) (D : List Nat) (w0 : 1 ≤ w) (hl : C.length = w * h) (r0 : 1 ≤ rw) (hX : X + rw ≤ w) (hY : Y + rh ≤ h) {m : Nat} (hm : m < rw * rh) :
    (Y + m / rw) * w + X + m % rw < C.length ∧ (baL w C X Y rw rh kf D m).getD ((Y + m / rw) * w + X + m % rw) 0 = C.getD ((Y + m / rw) * w + X + m % rw) 0 ∧
    (baL w C X Y rw rh kf D m).set ((Y + m / rw) * w + X + m % rw) (bl (kf (m % rw) (m / rw)) (C.getD ((Y + m / rw) * w + X + m % rw) 0) (D.getD m 0)) = baL w C X Y rw rh kf D (m + 1) := by
  have hx : m % rw < rw := Nat.mod_lt _ r0
  have hy : m / rw < rh := div_of hm
  obtain ⟨mp, _⟩ := parts m rw r0
  have hw : X + m % rw < w := by omega
  obtain ⟨d1, d2⟩ := dm_of (y := Y + m / rw) hw
  have hin : (Y + m / rw) * w + (X + m % rw) < C.length := by rw [hl]; exact at_lt (by omega) hw
  rw [Nat.add_assoc ((Y + m / rw) * w) X (m % rw)]
  have ei : ((Y + m / rw) * w + (X + m % rw)) % w - X = m % rw := by rw [d2, Nat.add_sub_cancel_left]
  have ej : ((Y + m / rw) * w + (X + m % rw)) / w - Y = m / rw := by rw [d1, Nat.add_sub_cancel_left]
  refine ⟨hin, ?_, tab_set hin ?_ fun p hp hne => ?_⟩
  · unfold baL
    rw [tab_get _ hin]
    unfold baF
    rw [ei, ej, if_neg (fun k => by have := k.2.2.2.2; rw [← mp] at this; exact Nat.lt_irrefl _ this)]
  · unfold baF
    rw [ei, ej, ← mp, if_pos ⟨by rw [d2]; exact Nat.le_add_right _ _, by rw [d2]; exact Nat.add_lt_add_left hx _, by rw [d1]; exact Nat.le_add_right _ _, by rw [d1]; exact Nat.add_lt_add_left hy _, Nat.lt_succ_self _⟩]
  · unfold baF
    obtain ⟨p1, p2⟩ := parts p w w0
    by_cases h1 : X ≤ p % w ∧ p % w < X + rw ∧ Y ≤ p / w ∧ p / w < Y + rh ∧ (p / w - Y) * rw + (p % w - X) < m
    · rw [if_pos h1, if_pos ⟨h1.1, h1.2.1, h1.2.2.1, h1.2.2.2.1, by omega⟩]
    · rw [if_neg h1, if_neg]
      intro h2
      obtain ⟨k1, k2, k3, k4, k5⟩ := h2
      have e : (p / w - Y) * rw + (p % w - X) = m := by
        have : ¬ (p / w - Y) * rw + (p % w - X) < m := fun k => h1 ⟨k1, k2, k3, k4, k⟩
        omega
      obtain ⟨f1, f2⟩ := ix_parts (rw := rw) (y := p / w - Y) (x := p % w - X) (by omega)
      rw [e] at f1 f2
      refine hne ?_
      rw [f1, f2, show Y + (p / w - Y) = p / w from by omega, show X + (p % w - X) = p % w from by omega]
      exact p1

end Go.Proofs.YtpideemiijhkgaaDoor
