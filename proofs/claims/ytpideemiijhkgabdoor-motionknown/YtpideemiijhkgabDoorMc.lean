/- DERIVED. Above, Left. -/
import Derived.Test.YtpideemiijhkgabDoorMb
namespace Go.Proofs.YtpideemiijhkgabDoor
open Go.RowKit

set_option maxRecDepth 100000 in
set_option maxHeartbeats 1000000 in
theorem above_ok {u : World} {a ao : Option Addr} {c co : Nat} {C D : List Nat} {w h X Y rw rh : Nat} (hs : Sl u .u8 a C) (hC : Byt C) (ho : Sl u .u8 ao D) (hD : Byt D) (w0 : 1 ≤ w) (w1 : w ≤ 64) (h0 : 1 ≤ h) (h1 : h ≤ 64) (hl : C.length = w * h) (hc : C.length ≤ c) (r0 : 1 ≤ rw) (r1 : 1 ≤ rh) (hX : X + rw ≤ w) (hY : Y + rh ≤ h) (hlD : D.length = rw * rh) (d0 : 4 ≤ rh) (d1 : rh ≤ 32) :
    Calls Tryd.prog 7 #[.slice a C.length c, .int .i64 (w : Int), .agg #[.int .i64 (X : Int), .int .i64 (Y : Int), .int .i64 (rw : Int), .int .i64 (rh : Int)], .slice ao D.length co] u fun e w' => Sq u w' e (mbL w C X Y rw rh (fun _ y => wt rh y) D) := by
  have HWt : Hid (∀ t : World, Calls Tryd.prog 6 #[.int .i64 (rh : Int)] t fun e w' => e = .returned (.tuple #[.slice (some ⟨t.heap.size, 0, none⟩) rh rh, .int .i64 0]) ∧ Ri 3 w' t.heap.size (wtL rh) ∧ Below t.heap.size t w') := fun t => weights_ok d0 d1
  have HBl : Hid (∀ (t : World) (b g : Nat), Below u.heap.size u t → b < t.heap.size → t.cell? ⟨b, 0, none⟩ = some (.slice (some ⟨g, 0, none⟩) rh rh) → Ri 3 t g (wtL rh) → Calls Tryd.prog 16 #[.slice a C.length c, .int .i64 (w : Int), .agg #[.int .i64 (X : Int), .int .i64 (Y : Int), .int .i64 (rw : Int), .int .i64 (rh : Int)], .slice ao D.length co, .func (.func 17) #[] #[.pointer (some ⟨b, 0, none⟩)]] t fun e w' => Sq t w' e (mbL w C X Y rw rh (fun _ y => wt rh y) D)) := fun t b g ht hb hcell hr => by
    refine blended_above (hs.to ht) hC (ho.to ht) hD w0 w1 h0 h1 hl hc r0 r1 hX hY hlD (fun x y hx hy => by have := wt_in (n := rh) (i := y) hy; omega) (fun x y hx hy t' ht' => ?_)
    refine above_at (g := g) (len := rh) (c := rh) (by rw [newCell ht' _ _ hb]; exact hcell) ?_ hy
    rw [(hr.to ht').cell y (by rw [wtL_len]; exact hy), wtL_get hy]
  clear hs hC ho hD w0 w1 h0 h1 hl hc hX hY hlD d0 d1 r0 r1
  go_enter Tryd.func7, Tryd.ntmps7
  go_wp2_with fail
  refine (HWt.out _).mono ?_
  rintro e v1 ⟨rfl, hr, hb⟩
  have HB1 : Hid (Below u.heap.size u v1) := below_to (from_alloc _ _) hb
  have hz : u.heap.size < v1.heap.size := Nat.lt_of_lt_of_le (by simp) hb.size
  rw [show (u.alloc (.cells #[.int .i64 (X : Int), .int .i64 (Y : Int), .int .i64 (rw : Int), .int .i64 (rh : Int)] 24)).heap.size = u.heap.size + 1 from by simp] at hr ⊢
  have HR1 : Hid (Ri 3 v1 (u.heap.size + 1) (wtL rh)) := hr
  have c0 : v1.cell? ⟨u.heap.size, 0, none⟩ = some (.int .i64 (X : Int)) := by rw [newCell hb _ _ (by simp)]; simp
  have c1 : v1.cell? ⟨u.heap.size, 1, none⟩ = some (.int .i64 (Y : Int)) := by rw [newCell hb _ _ (by simp)]; simp
  have c2 : v1.cell? ⟨u.heap.size, 2, none⟩ = some (.int .i64 (rw : Int)) := by rw [newCell hb _ _ (by simp)]; simp
  have c3 : v1.cell? ⟨u.heap.size, 3, none⟩ = some (.int .i64 (rh : Int)) := by rw [newCell hb _ _ (by simp)]; simp
  clear hr hb HWt
  go_wp2_with fail
  refine (HBl.out _ v1.heap.size (u.heap.size + 1) (to_alloc HB1.out _) (by simp) (by simp [go_sem]) (HR1.out.to (from_alloc _ _))).mono ?_
  rintro e v2 ⟨g, rfl, hg, hr, hb⟩
  have HR2 : Hid _ := hr
  have HB2 : Hid (Below u.heap.size u v2) := below_to (to_alloc HB1.out _) hb
  have hg2 : u.heap.size ≤ g := by simp at hg; omega
  clear hr hb hg HBl
  go_wp2_with fail
  go_ret2
  exact ⟨g, rfl, hg2, HR2.out, HB2.out⟩

set_option maxRecDepth 100000 in
set_option maxHeartbeats 1000000 in
theorem above_no {u : World} {a ao : Option Addr} {c co : Nat} {C D : List Nat} {w X Y rw rh : Int} (hs : Sl u .u8 a C) (hc : C.length ≤ c) (hCl : C.length ≤ 140737488355328) (bX : X ≤ 9223372036854775807) (bY : Y ≤ 9223372036854775807) (hn : ¬ ((4 ≤ rh ∧ rh ≤ 32) ∧ BOk C w X Y rw rh D)) :
    Calls Tryd.prog 7 #[.slice a C.length c, .int .i64 w, .agg #[.int .i64 X, .int .i64 Y, .int .i64 rw, .int .i64 rh], .slice ao D.length co] u fun e w' => e = .returned (.tuple #[.slice none 0 0, .int .i64 2]) ∧ Below u.heap.size u w' := by
  by_cases hd : 4 ≤ rh ∧ rh ≤ 32
  · have hb : ¬ BOk C w X Y rw rh D := fun k => hn ⟨hd, k⟩
    obtain ⟨d, ed⟩ : ∃ d : Nat, rh = (d : Int) := ⟨rh.toNat, by omega⟩
    have HWt : Hid (∀ t : World, Calls Tryd.prog 6 #[.int .i64 rh] t fun e w' => e = .returned (.tuple #[.slice (some ⟨t.heap.size, 0, none⟩) d d, .int .i64 0]) ∧ Below t.heap.size t w') := fun t => by
      rw [ed]
      exact (weights_ok (u := t) (n := d) (by omega) (by omega)).mono fun e w' h => ⟨h.1, h.2.2⟩
    have HBl : Hid (∀ (t : World) (fv : Value), Below u.heap.size u t → Calls Tryd.prog 16 #[.slice a C.length c, .int .i64 w, .agg #[.int .i64 X, .int .i64 Y, .int .i64 rw, .int .i64 rh], .slice ao D.length co, fv] t fun e w' => e = .returned (.tuple #[.slice none 0 0, .int .i64 2]) ∧ Below t.heap.size t w') := fun t fv ht => blended_no (hs.to ht) hc hCl bX bY hb
    clear hs hc hCl bX bY hn hd hb ed
    go_enter Tryd.func7, Tryd.ntmps7
    go_wp2_with fail
    refine (HWt.out _).mono ?_
    rintro e v1 ⟨rfl, hb⟩
    have HB1 : Hid (Below u.heap.size u v1) := below_to (from_alloc _ _) hb
    have c0 : v1.cell? ⟨u.heap.size, 0, none⟩ = some (.int .i64 X) := by rw [newCell hb _ _ (by simp)]; simp
    have c1 : v1.cell? ⟨u.heap.size, 1, none⟩ = some (.int .i64 Y) := by rw [newCell hb _ _ (by simp)]; simp
    have c2 : v1.cell? ⟨u.heap.size, 2, none⟩ = some (.int .i64 rw) := by rw [newCell hb _ _ (by simp)]; simp
    have c3 : v1.cell? ⟨u.heap.size, 3, none⟩ = some (.int .i64 rh) := by rw [newCell hb _ _ (by simp)]; simp
    have hz : u.heap.size < v1.heap.size := Nat.lt_of_lt_of_le (by simp) hb.size
    clear hb HWt
    go_wp2_with fail
    refine (HBl.out _ _ (to_alloc HB1.out _)).mono ?_
    rintro e v2 ⟨rfl, hb⟩
    have HB2 : Hid (Below u.heap.size u v2) := below_to (to_alloc HB1.out _) hb
    clear hb HBl
    go_wp2_with fail
    go_ret2
    exact ⟨rfl, HB2.out⟩
  · have HWt : Hid (∀ t : World, Calls Tryd.prog 6 #[.int .i64 rh] t fun e w' => e = .returned (.tuple #[.slice none 0 0, .int .i64 2]) ∧ t = w') := fun t => weights_no hd
    clear hs hc hCl bX bY hn hd
    go_enter Tryd.func7, Tryd.ntmps7
    go_wp2_with fail
    refine (HWt.out _).mono ?_
    rintro e v1 ⟨rfl, rfl⟩
    go_wp2_with fail
    go_ret2
    exact ⟨rfl, to_alloc (from_alloc _ _) _⟩

set_option maxRecDepth 100000 in
set_option maxHeartbeats 1000000 in
theorem left_ok {u : World} {a ao : Option Addr} {c co : Nat} {C D : List Nat} {w h X Y rw rh : Nat} (hs : Sl u .u8 a C) (hC : Byt C) (ho : Sl u .u8 ao D) (hD : Byt D) (w0 : 1 ≤ w) (w1 : w ≤ 64) (h0 : 1 ≤ h) (h1 : h ≤ 64) (hl : C.length = w * h) (hc : C.length ≤ c) (r0 : 1 ≤ rw) (r1 : 1 ≤ rh) (hX : X + rw ≤ w) (hY : Y + rh ≤ h) (hlD : D.length = rw * rh) (d0 : 4 ≤ rw) (d1 : rw ≤ 32) :
    Calls Tryd.prog 8 #[.slice a C.length c, .int .i64 (w : Int), .agg #[.int .i64 (X : Int), .int .i64 (Y : Int), .int .i64 (rw : Int), .int .i64 (rh : Int)], .slice ao D.length co] u fun e w' => Sq u w' e (mbL w C X Y rw rh (fun x _ => wt rw x) D) := by
  have HWt : Hid (∀ t : World, Calls Tryd.prog 6 #[.int .i64 (rw : Int)] t fun e w' => e = .returned (.tuple #[.slice (some ⟨t.heap.size, 0, none⟩) rw rw, .int .i64 0]) ∧ Ri 3 w' t.heap.size (wtL rw) ∧ Below t.heap.size t w') := fun t => weights_ok d0 d1
  have HBl : Hid (∀ (t : World) (b g : Nat), Below u.heap.size u t → b < t.heap.size → t.cell? ⟨b, 0, none⟩ = some (.slice (some ⟨g, 0, none⟩) rw rw) → Ri 3 t g (wtL rw) → Calls Tryd.prog 16 #[.slice a C.length c, .int .i64 (w : Int), .agg #[.int .i64 (X : Int), .int .i64 (Y : Int), .int .i64 (rw : Int), .int .i64 (rh : Int)], .slice ao D.length co, .func (.func 18) #[] #[.pointer (some ⟨b, 0, none⟩)]] t fun e w' => Sq t w' e (mbL w C X Y rw rh (fun x _ => wt rw x) D)) := fun t b g ht hb hcell hr => by
    refine blended_left (hs.to ht) hC (ho.to ht) hD w0 w1 h0 h1 hl hc r0 r1 hX hY hlD (fun x y hx hy => by have := wt_in (n := rw) (i := x) hx; omega) (fun x y hx hy t' ht' => ?_)
    refine left_at (g := g) (len := rw) (c := rw) (by rw [newCell ht' _ _ hb]; exact hcell) ?_ hx
    rw [(hr.to ht').cell x (by rw [wtL_len]; exact hx), wtL_get hx]
  clear hs hC ho hD w0 w1 h0 h1 hl hc hX hY hlD d0 d1 r0 r1
  go_enter Tryd.func8, Tryd.ntmps8
  go_wp2_with fail
  refine (HWt.out _).mono ?_
  rintro e v1 ⟨rfl, hr, hb⟩
  have HB1 : Hid (Below u.heap.size u v1) := below_to (from_alloc _ _) hb
  have hz : u.heap.size < v1.heap.size := Nat.lt_of_lt_of_le (by simp) hb.size
  rw [show (u.alloc (.cells #[.int .i64 (X : Int), .int .i64 (Y : Int), .int .i64 (rw : Int), .int .i64 (rh : Int)] 24)).heap.size = u.heap.size + 1 from by simp] at hr ⊢
  have HR1 : Hid (Ri 3 v1 (u.heap.size + 1) (wtL rw)) := hr
  have c0 : v1.cell? ⟨u.heap.size, 0, none⟩ = some (.int .i64 (X : Int)) := by rw [newCell hb _ _ (by simp)]; simp
  have c1 : v1.cell? ⟨u.heap.size, 1, none⟩ = some (.int .i64 (Y : Int)) := by rw [newCell hb _ _ (by simp)]; simp
  have c2 : v1.cell? ⟨u.heap.size, 2, none⟩ = some (.int .i64 (rw : Int)) := by rw [newCell hb _ _ (by simp)]; simp
  have c3 : v1.cell? ⟨u.heap.size, 3, none⟩ = some (.int .i64 (rh : Int)) := by rw [newCell hb _ _ (by simp)]; simp
  clear hr hb HWt
  go_wp2_with fail
  refine (HBl.out _ v1.heap.size (u.heap.size + 1) (to_alloc HB1.out _) (by simp) (by simp [go_sem]) (HR1.out.to (from_alloc _ _))).mono ?_
  rintro e v2 ⟨g, rfl, hg, hr, hb⟩
  have HR2 : Hid _ := hr
  have HB2 : Hid (Below u.heap.size u v2) := below_to (to_alloc HB1.out _) hb
  have hg2 : u.heap.size ≤ g := by simp at hg; omega
  clear hr hb hg HBl
  go_wp2_with fail
  go_ret2
  exact ⟨g, rfl, hg2, HR2.out, HB2.out⟩

set_option maxRecDepth 100000 in
set_option maxHeartbeats 1000000 in
theorem left_no {u : World} {a ao : Option Addr} {c co : Nat} {C D : List Nat} {w X Y rw rh : Int} (hs : Sl u .u8 a C) (hc : C.length ≤ c) (hCl : C.length ≤ 140737488355328) (bX : X ≤ 9223372036854775807) (bY : Y ≤ 9223372036854775807) (hn : ¬ ((4 ≤ rw ∧ rw ≤ 32) ∧ BOk C w X Y rw rh D)) :
    Calls Tryd.prog 8 #[.slice a C.length c, .int .i64 w, .agg #[.int .i64 X, .int .i64 Y, .int .i64 rw, .int .i64 rh], .slice ao D.length co] u fun e w' => e = .returned (.tuple #[.slice none 0 0, .int .i64 2]) ∧ Below u.heap.size u w' := by
  by_cases hd : 4 ≤ rw ∧ rw ≤ 32
  · have hb : ¬ BOk C w X Y rw rh D := fun k => hn ⟨hd, k⟩
    obtain ⟨d, ed⟩ : ∃ d : Nat, rw = (d : Int) := ⟨rw.toNat, by omega⟩
    have HWt : Hid (∀ t : World, Calls Tryd.prog 6 #[.int .i64 rw] t fun e w' => e = .returned (.tuple #[.slice (some ⟨t.heap.size, 0, none⟩) d d, .int .i64 0]) ∧ Below t.heap.size t w') := fun t => by
      rw [ed]
      exact (weights_ok (u := t) (n := d) (by omega) (by omega)).mono fun e w' h => ⟨h.1, h.2.2⟩
    have HBl : Hid (∀ (t : World) (fv : Value), Below u.heap.size u t → Calls Tryd.prog 16 #[.slice a C.length c, .int .i64 w, .agg #[.int .i64 X, .int .i64 Y, .int .i64 rw, .int .i64 rh], .slice ao D.length co, fv] t fun e w' => e = .returned (.tuple #[.slice none 0 0, .int .i64 2]) ∧ Below t.heap.size t w') := fun t fv ht => blended_no (hs.to ht) hc hCl bX bY hb
    clear hs hc hCl bX bY hn hd hb ed
    go_enter Tryd.func8, Tryd.ntmps8
    go_wp2_with fail
    refine (HWt.out _).mono ?_
    rintro e v1 ⟨rfl, hb⟩
    have HB1 : Hid (Below u.heap.size u v1) := below_to (from_alloc _ _) hb
    have c0 : v1.cell? ⟨u.heap.size, 0, none⟩ = some (.int .i64 X) := by rw [newCell hb _ _ (by simp)]; simp
    have c1 : v1.cell? ⟨u.heap.size, 1, none⟩ = some (.int .i64 Y) := by rw [newCell hb _ _ (by simp)]; simp
    have c2 : v1.cell? ⟨u.heap.size, 2, none⟩ = some (.int .i64 rw) := by rw [newCell hb _ _ (by simp)]; simp
    have c3 : v1.cell? ⟨u.heap.size, 3, none⟩ = some (.int .i64 rh) := by rw [newCell hb _ _ (by simp)]; simp
    have hz : u.heap.size < v1.heap.size := Nat.lt_of_lt_of_le (by simp) hb.size
    clear hb HWt
    go_wp2_with fail
    refine (HBl.out _ _ (to_alloc HB1.out _)).mono ?_
    rintro e v2 ⟨rfl, hb⟩
    have HB2 : Hid (Below u.heap.size u v2) := below_to (to_alloc HB1.out _) hb
    clear hb HBl
    go_wp2_with fail
    go_ret2
    exact ⟨rfl, HB2.out⟩
  · have HWt : Hid (∀ t : World, Calls Tryd.prog 6 #[.int .i64 rw] t fun e w' => e = .returned (.tuple #[.slice none 0 0, .int .i64 2]) ∧ t = w') := fun t => weights_no hd
    clear hs hc hCl bX bY hn hd
    go_enter Tryd.func8, Tryd.ntmps8
    go_wp2_with fail
    refine (HWt.out _).mono ?_
    rintro e v1 ⟨rfl, rfl⟩
    go_wp2_with fail
    go_ret2
    exact ⟨rfl, to_alloc (from_alloc _ _) _⟩

end Go.Proofs.YtpideemiijhkgabDoor
