/- DERIVED. Planes: which may be, Check, nearest, At. -/
import Derived.Test.YtpideemiijhkgabDoorBa
namespace Go.Proofs.YtpideemiijhkgabDoor
open Go.RowKit

/-- a plane that may be -/
structure POk (W H : Int) (C : List Nat) : Prop where
  w0 : 1 ≤ W
  w1 : W ≤ 512
  h0 : 1 ≤ H
  h1 : H ≤ 512
  len : (C.length : Int) = W * H
/-- what Check answers -/
noncomputable def ck (W H : Int) (C : List Nat) : Int := open Classical in if POk W H C then 0 else 2
theorem ck_ok {W H : Int} {C : List Nat} (h : POk W H C) : ck W H C = 0 := by unfold ck; rw [if_pos h]
theorem ck_no {W H : Int} {C : List Nat} (h : ¬ POk W H C) : ck W H C = 2 := by unfold ck; rw [if_neg h]
/-- in whole numbers -/
theorem POk.nat {W H : Int} {C : List Nat} (h : POk W H C) : ∃ x y : Nat, W = (x : Int) ∧ H = (y : Int) ∧ 1 ≤ x ∧ x ≤ 512 ∧ 1 ≤ y ∧ y ≤ 512 ∧ C.length = x * y := by
  refine ⟨W.toNat, H.toNat, ?_, ?_, ?_, ?_, ?_, ?_, ?_⟩
  · have := h.w0; omega
  · have := h.h0; omega
  · have := h.w0; omega
  · have := h.w1; omega
  · have := h.h0; omega
  · have := h.h1; omega
  · have e := h.len
    rw [show W = ((W.toNat : Nat) : Int) from by have := h.w0; omega, show H = ((H.toNat : Nat) : Int) from by have := h.h0; omega, ← Int.natCast_mul] at e
    simpa using Int.ofNat.inj e
theorem POk.of {x y : Nat} {C : List Nat} (h0 : 1 ≤ x) (h1 : x ≤ 512) (h2 : 1 ≤ y) (h3 : y ≤ 512) (hl : C.length = x * y) : POk (x : Int) (y : Int) C := ⟨by omega, by omega, by omega, by omega, by rw [hl, Int.natCast_mul]⟩
theorem prod_le {x y : Nat} (h1 : x ≤ 512) (h3 : y ≤ 512) : x * y ≤ 262144 := Nat.mul_le_mul h1 h3

set_option maxHeartbeats 1000000 in
theorem check_any {w : World} {a : Option Addr} {c : Nat} {C : List Nat} {W H : Int} :
    Calls Tryd.prog 32 #[.agg #[.int .i64 W, .int .i64 H, .slice a C.length c]] w fun e w' => e = .returned (.int .i64 (ck W H C)) ∧ Below w.heap.size w w' := by
  by_cases h0 : W < 1
  · rw [ck_no (fun k => by have := k.w0; omega)]
    go_enter Tryd.func32, Tryd.ntmps32
    go_wp2
    go_ret
    exact ⟨rfl, from_alloc _ _⟩
  by_cases h1 : 512 < W
  · rw [ck_no (fun k => by have := k.w1; omega)]
    go_enter Tryd.func32, Tryd.ntmps32
    go_wp2
    go_ret
    exact ⟨rfl, from_alloc _ _⟩
  by_cases h2 : H < 1
  · rw [ck_no (fun k => by have := k.h0; omega)]
    go_enter Tryd.func32, Tryd.ntmps32
    go_wp2
    go_ret
    exact ⟨rfl, from_alloc _ _⟩
  by_cases h3 : 512 < H
  · rw [ck_no (fun k => by have := k.h1; omega)]
    go_enter Tryd.func32, Tryd.ntmps32
    go_wp2
    go_ret
    exact ⟨rfl, from_alloc _ _⟩
  have i0 : 1 ≤ W := by omega
  have i1 : W ≤ 512 := by omega
  have i2 : 1 ≤ H := by omega
  have i3 : H ≤ 512 := by omega
  have p0 : 0 ≤ W * H := Int.mul_nonneg (by omega) (by omega)
  have p1 : W * H ≤ 512 * 512 := Int.mul_le_mul i1 i3 (by omega) (by omega)
  have p2 : W * H ≤ 262144 := p1
  clear h0 h1 h2 h3 p1
  by_cases h4 : (C.length : Int) = W * H
  · rw [ck_ok ⟨i0, i1, i2, i3, h4⟩]
    have h4' : ((C.length : Int) != W * H) = false := by simp [h4]
    have H4 : Hid _ := h4
    clear h4
    go_enter Tryd.func32, Tryd.ntmps32
    go_wp2
    go_ret
    exact ⟨rfl, from_alloc _ _⟩
  · rw [ck_no (fun k => h4 k.len)]
    have h4' : ((C.length : Int) != W * H) = true := by simp [h4]
    go_enter Tryd.func32, Tryd.ntmps32
    go_wp2
    go_ret
    exact ⟨rfl, from_alloc _ _⟩

set_option maxHeartbeats 1000000 in
theorem nearest_any {w : World} {i : Int} {n : Nat} (h0 : 1 ≤ n) (h1 : n ≤ 512) :
    Calls Tryd.prog 45 #[.int .i64 i, .int .i64 (n : Int)] w fun e w' => e = .returned (.int .i64 (nr i n : Nat)) ∧ w' = w := by
  have i0 : (1 : Int) ≤ (n : Int) := by omega
  have i1 : (n : Int) ≤ 512 := by omega
  go_enter Tryd.func45, Tryd.ntmps45
  go_wp2
  all_goals (go_ret; refine ⟨ret_int ?_, rfl⟩; unfold nr; (try split) <;> omega)

theorem at_no {w : World} {a : Option Addr} {c : Nat} {C : List Nat} {W H i j : Int} (hn : ¬ POk W H C) :
    Calls Tryd.prog 44 #[.agg #[.int .i64 W, .int .i64 H, .slice a C.length c], .int .i64 i, .int .i64 j] w fun e w' => e = .returned (.int .u8 0) ∧ Below w.heap.size w w' := by
  have hck : ck W H C = 2 := ck_no hn
  go_enter Tryd.func44, Tryd.ntmps44
  go_wp2_with fail
  refine check_any.mono ?_
  rintro e w1 ⟨rfl, hb⟩
  rw [hck]
  have HB : Hid _ := below_to (from_alloc w _) hb
  clear hb hck
  go_wp2_with fail
  go_ret
  exact ⟨rfl, HB.out⟩

set_option maxRecDepth 100000 in
set_option maxHeartbeats 1000000 in
theorem at_ok {w : World} {a : Option Addr} {c : Nat} {C : List Nat} {x y : Nat} {i j : Int} (hs : Sl w .u8 a C) (hx0 : 1 ≤ x) (hx1 : x ≤ 512) (hy0 : 1 ≤ y) (hy1 : y ≤ 512) (hl : C.length = x * y) :
    Calls Tryd.prog 44 #[.agg #[.int .i64 (x : Int), .int .i64 (y : Int), .slice a C.length c], .int .i64 i, .int .i64 j] w fun e w' => e = .returned (.int .u8 (sp C x y i j : Nat)) ∧ Below w.heap.size w w' := by
  unfold sp
  have hck : ck (x : Int) (y : Int) C = 0 := ck_ok (POk.of hx0 hx1 hy0 hy1 hl)
  have hnx := nr_lt (i := i) hx0
  have hny := nr_lt (i := j) hy0
  have hin : nr j y * x + nr i x < x * y := at_lt hny hnx
  have hp := prod_le hx1 hy1
  obtain ⟨b, o, rfl, hbl, hcell⟩ := hs.form (by omega)
  have hce := hcell (nr j y * x + nr i x) (by omega)
  have NI : Hid (∀ u : World, Calls Tryd.prog 45 #[.int .i64 i, .int .i64 (x : Int)] u fun e w' => e = .returned (.int .i64 (nr i x : Nat)) ∧ w' = u) := fun u => nearest_any hx0 hx1
  have NJ : Hid (∀ u : World, Calls Tryd.prog 45 #[.int .i64 j, .int .i64 (y : Int)] u fun e w' => e = .returned (.int .i64 (nr j y : Nat)) ∧ w' = u) := fun u => nearest_any hy0 hy1
  generalize hi' : nr i x = q2 at *
  generalize hj' : nr j y = q1 at *
  clear hi' hj'
  generalize hz : q1 * x = z at *
  have hw1 : IntKind.i64.wrap ((q1 : Int) * (x : Int)) = (z : Int) := by rw [← Int.natCast_mul, hz, IntKind.wrap_i64]; omega
  generalize ht : z + q2 = t at *
  have hw2 : IntKind.i64.wrap ((z : Int) + (q2 : Int)) = (t : Int) := by rw [← Int.natCast_add, ht, IntKind.wrap_i64]; omega
  have b0 : (0 : Int) ≤ (t : Int) := by omega
  have b1 : (t : Int) < (C.length : Int) := by omega
  generalize C.getD t 0 = val at *
  have HCE : Hid _ := hce
  have HBL : Hid _ := hbl
  clear hz ht hs hcell hnx hny hin hp hce hbl hl
  go_enter Tryd.func44, Tryd.ntmps44
  go_wp2_with fail
  refine check_any.mono ?_
  rintro e w1 ⟨rfl, hb⟩
  rw [hck]
  have d0 : w1.cell? ⟨w.heap.size, 0, none⟩ = some (.int .i64 (x : Int)) := by rw [newCell hb _ _ (by simp)]; simp
  have d1 : w1.cell? ⟨w.heap.size, 1, none⟩ = some (.int .i64 (y : Int)) := by rw [newCell hb _ _ (by simp)]; simp
  have d2 : w1.cell? ⟨w.heap.size, 2, none⟩ = some (.slice (some ⟨b, o, none⟩) C.length c) := by rw [newCell hb _ _ (by simp)]; simp
  have d3 : w1.cell? ⟨b, o + t, none⟩ = some (.int .u8 (val : Nat)) := by
    have hbl := HBL.out
    rw [newCell hb _ _ (by simp; omega), newCell (from_alloc _ _) _ _ hbl]; exact HCE.out
  have HB : Hid _ := below_to (from_alloc w _) hb
  clear hb hck
  go_wp2_with fail
  go_quiet ((first | (go_at_call 45; with_reducible exact Calls.quiet_of_same (NI.out _)) | (go_at_call 45; with_reducible exact Calls.quiet_of_same (NJ.out _))))
  go_wp2
  go_ret
  exact ⟨rfl, below_drewN HB.out _⟩


end Go.Proofs.YtpideemiijhkgabDoor
