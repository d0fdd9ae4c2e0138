/- DERIVED. Lay. -/
import Derived.Test.YtpideemiijhkgabDoorRb
namespace Go.Proofs.YtpideemiijhkgabDoor
open Go.RowKit


def LayInv (v : World) (g x : Nat) (C : List Nat) (X Y w : Nat) (B : List Nat) (ht : Nat) (iv : Value) (wr : World) : Prop := ∃ k : Nat, k ≤ ht ∧ iv = .int .i64 k ∧ Rw wr g (layL x C X Y w B k) ∧ Kf g v wr
set_option maxRecDepth 100000 in
set_option maxHeartbeats 2000000 in
theorem lay_ok {u : World} {a ab : Option Addr} {c cb : Nat} {C B : List Nat} {x y X Y w ht : Nat} (hs : Sl u .u8 a C) (hx0 : 1 ≤ x) (hx1 : x ≤ 512) (hy0 : 1 ≤ y) (hy1 : y ≤ 512) (hl : C.length = x * y) (hw : 1 ≤ w) (hh : 1 ≤ ht) (hX : X + w ≤ x) (hY : Y + ht ≤ y) (hsB : Sl u .u8 ab B) (hlB : B.length = w * ht) (hcB : B.length ≤ cb) :
    Calls Tryd.prog 28 #[.agg #[.int .i64 (x : Int), .int .i64 (y : Int), .slice a C.length c], .agg #[.int .i64 (X : Int), .int .i64 (Y : Int), .int .i64 (w : Int), .int .i64 (ht : Int)], .slice ab B.length cb] u fun e w' => Pn u w' e x y (layL x C X Y w B ht) := by
  have hck : ck (x : Int) (y : Int) C = 0 := ck_ok (POk.of hx0 hx1 hy0 hy1 hl)
  have HW : Hid (Win (x : Int) (y : Int) (X : Int) (Y : Int) (w : Int) (ht : Int)) := ⟨by omega, by omega, by omega, by omega, by omega, by omega⟩
  have hp := prod_le hx1 hy1
  have hwh : w * ht ≤ 262144 := prod_le (by omega) (by omega)
  have hB0 : 0 < B.length := by rw [hlB]; exact Nat.mul_pos hw hh
  have en : (w : Int) * (ht : Int) = (B.length : Int) := by rw [← Int.natCast_mul, hlB]
  have n1 : (B.length : Int) ≤ 262144 := by omega
  have n2 : ((B.length : Int) != (B.length : Int)) = false := by simp
  have n3 : (C.length : Int) ≤ 262144 := by omega
  obtain ⟨b, o, rfl, hbl, hcell⟩ := hs.form (by rw [hl]; exact Nat.mul_pos hx0 hy0)
  obtain ⟨bb, ob, rfl, hblB, hcellB⟩ := hsB.form hB0
  have HSL : Hid (Sl u .u8 (some ⟨b, o, none⟩) C) := hs
  have HSB : Hid (Sl u .u8 (some ⟨bb, ob, none⟩) B) := hsB
  have HL : Hid (C.length = x * y) := hl
  have HLB : Hid (B.length = w * ht) := hlB
  have HCB : Hid (B.length ≤ cb) := hcB
  have i1 : (x : Int) ≤ 512 := by omega
  have i2 : (y : Int) ≤ 512 := by omega
  have i3 : (1 : Int) ≤ (x : Int) := by omega
  have i4 : (1 : Int) ≤ (y : Int) := by omega
  clear hs hl hsB hlB hcB hcell hcellB hp hwh
  go_enter Tryd.func28, Tryd.ntmps28
  go_wp2_with fail
  refine check_any.mono ?_
  rintro e w1 ⟨rfl, hb⟩
  rw [hck]
  have d0 : w1.cell? ⟨u.heap.size, 0, none⟩ = some (.int .i64 (x : Int)) := by rw [newCell hb _ _ (by simp <;> omega)]; simp [go_sem]
  have d1 : w1.cell? ⟨u.heap.size, 1, none⟩ = some (.int .i64 (y : Int)) := by rw [newCell hb _ _ (by simp <;> omega)]; simp [go_sem]
  have d2 : w1.cell? ⟨u.heap.size, 2, none⟩ = some (.slice (some ⟨b, o, none⟩) C.length c) := by rw [newCell hb _ _ (by simp <;> omega)]; simp [go_sem]
  have d3 : w1.cell? ⟨u.heap.size + 1, 0, none⟩ = some (.int .i64 (X : Int)) := by rw [newCell hb _ _ (by simp <;> omega)]; simp [go_sem]
  have d4 : w1.cell? ⟨u.heap.size + 1, 1, none⟩ = some (.int .i64 (Y : Int)) := by rw [newCell hb _ _ (by simp <;> omega)]; simp [go_sem]
  have d5 : w1.cell? ⟨u.heap.size + 1, 2, none⟩ = some (.int .i64 (w : Int)) := by rw [newCell hb _ _ (by simp <;> omega)]; simp [go_sem]
  have d6 : w1.cell? ⟨u.heap.size + 1, 3, none⟩ = some (.int .i64 (ht : Int)) := by rw [newCell hb _ _ (by simp <;> omega)]; simp [go_sem]
  have d7 : w1.cell? ⟨u.heap.size + 1 + 1, 0, none⟩ = some (.int .i64 0) := by rw [newCell hb _ _ (by simp <;> omega)]; simp [go_sem]
  have d8 : w1.cell? ⟨u.heap.size + 1 + 1, 1, none⟩ = some (.int .i64 0) := by rw [newCell hb _ _ (by simp <;> omega)]; simp [go_sem]
  have d9 : w1.cell? ⟨u.heap.size + 1 + 1, 2, none⟩ = some (.slice none 0 0) := by rw [newCell hb _ _ (by simp <;> omega)]; simp [go_sem]
  have f0 : w1.frozen? ⟨u.heap.size + 1 + 1, 0, none⟩ = false := by rw [newFrozen hb _ _ (by simp)]; simp [go_sem]
  have f1 : w1.frozen? ⟨u.heap.size + 1 + 1, 1, none⟩ = false := by rw [newFrozen hb _ _ (by simp)]; simp [go_sem]
  have f2 : w1.frozen? ⟨u.heap.size + 1 + 1, 2, none⟩ = false := by rw [newFrozen hb _ _ (by simp)]; simp [go_sem]
  have hz1 : u.heap.size + 3 ≤ w1.heap.size := by have := hb.size; simp at this; omega
  have HB : Hid (Below u.heap.size u w1) := below_to (to_alloc (to_alloc (from_alloc u _) _) _) hb
  clear hb hck
  go_wp2_with fail
  refine (within_yes HW.out i3 i1 i4 i2).mono ?_
  rintro e w2 ⟨rfl, hb⟩
  have c0 : w2.cell? ⟨u.heap.size, 0, none⟩ = some (.int .i64 (x : Int)) := by rw [newCell hb _ _ (by omega)]; exact d0
  have c1 : w2.cell? ⟨u.heap.size, 1, none⟩ = some (.int .i64 (y : Int)) := by rw [newCell hb _ _ (by omega)]; exact d1
  have c2 : w2.cell? ⟨u.heap.size, 2, none⟩ = some (.slice (some ⟨b, o, none⟩) C.length c) := by rw [newCell hb _ _ (by omega)]; exact d2
  have c3 : w2.cell? ⟨u.heap.size + 1, 0, none⟩ = some (.int .i64 (X : Int)) := by rw [newCell hb _ _ (by omega)]; exact d3
  have c4 : w2.cell? ⟨u.heap.size + 1, 1, none⟩ = some (.int .i64 (Y : Int)) := by rw [newCell hb _ _ (by omega)]; exact d4
  have c5 : w2.cell? ⟨u.heap.size + 1, 2, none⟩ = some (.int .i64 (w : Int)) := by rw [newCell hb _ _ (by omega)]; exact d5
  have c6 : w2.cell? ⟨u.heap.size + 1, 3, none⟩ = some (.int .i64 (ht : Int)) := by rw [newCell hb _ _ (by omega)]; exact d6
  have c7 : w2.cell? ⟨u.heap.size + 1 + 1, 0, none⟩ = some (.int .i64 0) := by rw [newCell hb _ _ (by omega)]; exact d7
  have c8 : w2.cell? ⟨u.heap.size + 1 + 1, 1, none⟩ = some (.int .i64 0) := by rw [newCell hb _ _ (by omega)]; exact d8
  have c9 : w2.cell? ⟨u.heap.size + 1 + 1, 2, none⟩ = some (.slice none 0 0) := by rw [newCell hb _ _ (by omega)]; exact d9
  have g0 : w2.frozen? ⟨u.heap.size + 1 + 1, 0, none⟩ = false := by rw [newFrozen hb _ _ (by omega)]; exact f0
  have g1 : w2.frozen? ⟨u.heap.size + 1 + 1, 1, none⟩ = false := by rw [newFrozen hb _ _ (by omega)]; exact f1
  have g2 : w2.frozen? ⟨u.heap.size + 1 + 1, 2, none⟩ = false := by rw [newFrozen hb _ _ (by omega)]; exact f2
  have hz2 : u.heap.size + 3 ≤ w2.heap.size := Nat.le_trans hz1 hb.size
  have HB2 : Hid (Below u.heap.size u w2) := below_to HB.out hb
  clear hb d0 d1 d2 d3 d4 d5 d6 d7 d8 d9 f0 f1 f2 HB hz1
  go_wp2_with fail
  refine (blank_any hx1 hy1 HL.out).mono ?_
  rintro e w3 ⟨rfl, hsz, hrw, hb⟩
  have d0 : w3.cell? ⟨u.heap.size, 0, none⟩ = some (.int .i64 (x : Int)) := by rw [newCell hb _ _ (by omega)]; exact c0
  have d1 : w3.cell? ⟨u.heap.size, 1, none⟩ = some (.int .i64 (y : Int)) := by rw [newCell hb _ _ (by omega)]; exact c1
  have d2 : w3.cell? ⟨u.heap.size, 2, none⟩ = some (.slice (some ⟨b, o, none⟩) C.length c) := by rw [newCell hb _ _ (by omega)]; exact c2
  have d3 : w3.cell? ⟨u.heap.size + 1, 0, none⟩ = some (.int .i64 (X : Int)) := by rw [newCell hb _ _ (by omega)]; exact c3
  have d4 : w3.cell? ⟨u.heap.size + 1, 1, none⟩ = some (.int .i64 (Y : Int)) := by rw [newCell hb _ _ (by omega)]; exact c4
  have d5 : w3.cell? ⟨u.heap.size + 1, 2, none⟩ = some (.int .i64 (w : Int)) := by rw [newCell hb _ _ (by omega)]; exact c5
  have d6 : w3.cell? ⟨u.heap.size + 1, 3, none⟩ = some (.int .i64 (ht : Int)) := by rw [newCell hb _ _ (by omega)]; exact c6
  have d7 : w3.cell? ⟨u.heap.size + 1 + 1, 0, none⟩ = some (.int .i64 0) := by rw [newCell hb _ _ (by omega)]; exact c7
  have d8 : w3.cell? ⟨u.heap.size + 1 + 1, 1, none⟩ = some (.int .i64 0) := by rw [newCell hb _ _ (by omega)]; exact c8
  have d9 : w3.cell? ⟨u.heap.size + 1 + 1, 2, none⟩ = some (.slice none 0 0) := by rw [newCell hb _ _ (by omega)]; exact c9
  have f0 : w3.frozen? ⟨u.heap.size + 1 + 1, 0, none⟩ = false := by rw [newFrozen hb _ _ (by omega)]; exact g0
  have f1 : w3.frozen? ⟨u.heap.size + 1 + 1, 1, none⟩ = false := by rw [newFrozen hb _ _ (by omega)]; exact g1
  have f2 : w3.frozen? ⟨u.heap.size + 1 + 1, 2, none⟩ = false := by rw [newFrozen hb _ _ (by omega)]; exact g2
  have HB3 : Hid (Below u.heap.size u w3) := below_to HB2.out hb
  have HSZ : Hid (w3.heap.size = w2.heap.size + 2) := hsz
  have HRW : Hid (Rw w3 (w2.heap.size + 1) (List.replicate C.length 0)) := hrw
  have hgz : u.heap.size + 3 < w2.heap.size + 1 := by omega
  clear hb c0 c1 c2 c3 c4 c5 c6 c7 c8 c9 g0 g1 g2 HB2 hsz hrw hz2
  generalize hg : w2.heap.size + 1 = g at *
  have HSZ2 : Hid (w3.heap.size = g + 1) := by unfold Hid; rw [HSZ.out]; omega
  have hqz : u.heap.size + 2 < w3.heap.size := by rw [HSZ2.out]; omega
  have hqg : w3.heap.size = g + 1 := HSZ2.out
  clear HSZ
  have HA : Hid (Below w3.heap.size w3 (w3.alloc (.cells #[.int .i64 (x : Int), .int .i64 (y : Int), .slice (some ⟨g, 0, none⟩) C.length C.length] 39))) := from_alloc _ _
  have c0 : (w3.alloc (.cells #[.int .i64 (x : Int), .int .i64 (y : Int), .slice (some ⟨g, 0, none⟩) C.length C.length] 39)).cell? ⟨u.heap.size, 0, none⟩ = some (.int .i64 (x : Int)) := by rw [newCell HA.out _ _ (by omega)]; exact d0
  have c1 : (w3.alloc (.cells #[.int .i64 (x : Int), .int .i64 (y : Int), .slice (some ⟨g, 0, none⟩) C.length C.length] 39)).cell? ⟨u.heap.size, 1, none⟩ = some (.int .i64 (y : Int)) := by rw [newCell HA.out _ _ (by omega)]; exact d1
  have c2 : (w3.alloc (.cells #[.int .i64 (x : Int), .int .i64 (y : Int), .slice (some ⟨g, 0, none⟩) C.length C.length] 39)).cell? ⟨u.heap.size, 2, none⟩ = some (.slice (some ⟨b, o, none⟩) C.length c) := by rw [newCell HA.out _ _ (by omega)]; exact d2
  have c3 : (w3.alloc (.cells #[.int .i64 (x : Int), .int .i64 (y : Int), .slice (some ⟨g, 0, none⟩) C.length C.length] 39)).cell? ⟨u.heap.size + 1, 0, none⟩ = some (.int .i64 (X : Int)) := by rw [newCell HA.out _ _ (by omega)]; exact d3
  have c4 : (w3.alloc (.cells #[.int .i64 (x : Int), .int .i64 (y : Int), .slice (some ⟨g, 0, none⟩) C.length C.length] 39)).cell? ⟨u.heap.size + 1, 1, none⟩ = some (.int .i64 (Y : Int)) := by rw [newCell HA.out _ _ (by omega)]; exact d4
  have c5 : (w3.alloc (.cells #[.int .i64 (x : Int), .int .i64 (y : Int), .slice (some ⟨g, 0, none⟩) C.length C.length] 39)).cell? ⟨u.heap.size + 1, 2, none⟩ = some (.int .i64 (w : Int)) := by rw [newCell HA.out _ _ (by omega)]; exact d5
  have c6 : (w3.alloc (.cells #[.int .i64 (x : Int), .int .i64 (y : Int), .slice (some ⟨g, 0, none⟩) C.length C.length] 39)).cell? ⟨u.heap.size + 1, 3, none⟩ = some (.int .i64 (ht : Int)) := by rw [newCell HA.out _ _ (by omega)]; exact d6
  have c7 : (w3.alloc (.cells #[.int .i64 (x : Int), .int .i64 (y : Int), .slice (some ⟨g, 0, none⟩) C.length C.length] 39)).cell? ⟨u.heap.size + 1 + 1, 0, none⟩ = some (.int .i64 0) := by rw [newCell HA.out _ _ (by omega)]; exact d7
  have c8 : (w3.alloc (.cells #[.int .i64 (x : Int), .int .i64 (y : Int), .slice (some ⟨g, 0, none⟩) C.length C.length] 39)).cell? ⟨u.heap.size + 1 + 1, 1, none⟩ = some (.int .i64 0) := by rw [newCell HA.out _ _ (by omega)]; exact d8
  have c9 : (w3.alloc (.cells #[.int .i64 (x : Int), .int .i64 (y : Int), .slice (some ⟨g, 0, none⟩) C.length C.length] 39)).cell? ⟨u.heap.size + 1 + 1, 2, none⟩ = some (.slice none 0 0) := by rw [newCell HA.out _ _ (by omega)]; exact d9
  have g0 : (w3.alloc (.cells #[.int .i64 (x : Int), .int .i64 (y : Int), .slice (some ⟨g, 0, none⟩) C.length C.length] 39)).frozen? ⟨u.heap.size + 1 + 1, 0, none⟩ = false := by rw [newFrozen HA.out _ _ (by omega)]; exact f0
  have g1 : (w3.alloc (.cells #[.int .i64 (x : Int), .int .i64 (y : Int), .slice (some ⟨g, 0, none⟩) C.length C.length] 39)).frozen? ⟨u.heap.size + 1 + 1, 1, none⟩ = false := by rw [newFrozen HA.out _ _ (by omega)]; exact f1
  have g2 : (w3.alloc (.cells #[.int .i64 (x : Int), .int .i64 (y : Int), .slice (some ⟨g, 0, none⟩) C.length C.length] 39)).frozen? ⟨u.heap.size + 1 + 1, 2, none⟩ = false := by rw [newFrozen HA.out _ _ (by omega)]; exact f2
  have q0 : (w3.alloc (.cells #[.int .i64 (x : Int), .int .i64 (y : Int), .slice (some ⟨g, 0, none⟩) C.length C.length] 39)).cell? ⟨g + 1, 0, none⟩ = some (.int .i64 (x : Int)) := by rw [← hqg]; simp
  have q1 : (w3.alloc (.cells #[.int .i64 (x : Int), .int .i64 (y : Int), .slice (some ⟨g, 0, none⟩) C.length C.length] 39)).cell? ⟨g + 1, 1, none⟩ = some (.int .i64 (y : Int)) := by rw [← hqg]; simp
  have q2 : (w3.alloc (.cells #[.int .i64 (x : Int), .int .i64 (y : Int), .slice (some ⟨g, 0, none⟩) C.length C.length] 39)).cell? ⟨g + 1, 2, none⟩ = some (.slice (some ⟨g, 0, none⟩) C.length C.length) := by rw [← hqg]; simp
  have HZ4 : Hid ((w3.alloc (.cells #[.int .i64 (x : Int), .int .i64 (y : Int), .slice (some ⟨g, 0, none⟩) C.length C.length] 39)).heap.size = g + 2) := by unfold Hid; simp; omega
  have HR4 : Hid (Rw (w3.alloc (.cells #[.int .i64 (x : Int), .int .i64 (y : Int), .slice (some ⟨g, 0, none⟩) C.length C.length] 39)) g (List.replicate C.length 0)) := HRW.out.to HA.out
  have HB4 : Hid (Below u.heap.size u (w3.alloc (.cells #[.int .i64 (x : Int), .int .i64 (y : Int), .slice (some ⟨g, 0, none⟩) C.length C.length] 39))) := below_to HB3.out HA.out
  clear d0 d1 d2 d3 d4 d5 d6 d7 d8 d9 f0 f1 f2 HB3 HA HRW
  have HS4 : Hid (Sl (w3.alloc (.cells #[.int .i64 (x : Int), .int .i64 (y : Int), .slice (some ⟨g, 0, none⟩) C.length C.length] 39)) .u8 (some ⟨b, o, none⟩) C) := HSL.out.to HB4.out
  have HMN : Hid (C.length = Nat.min C.length C.length) := (Nat.min_self _).symm
  have HFT : Hid (0 + C.length ≤ (List.replicate C.length 0).length) := by unfold Hid; rw [List.length_replicate]; omega
  go_wp2_with ((with_reducible (refine (?_ : wpList Tryd.prog _ _ ({ dst := _, op := Op.call { callee := Callee.builtin Builtin.copy, args := _, argTypes := _ }, type := _, pos := _, after := _, guard := _ } :: _) _ _))); refine wpList_copy_rw (by rfl) (.tmp 36) (.tmp 38) (by rfl) (some ⟨g, 0, none⟩) (some ⟨b, o, none⟩) C.length C.length C.length c (by rfl) (by rfl) g 0 _ C HR4.out HMN.out (by rfl) HS4.out HFT.out ?_; intro w5 hr5 hk5; have k6 : w5.cell? ⟨u.heap.size + 1, 3, none⟩ = some (.int .i64 (ht : Int)) := (hk5.cell _ _ (by omega)).trans c6)
  rw [splice_all (by rw [List.length_replicate])] at hr5
  have HR5 : Hid (Rw w5 g C) := hr5
  have HK5 : Hid (Kf g (w3.alloc (.cells #[.int .i64 (x : Int), .int .i64 (y : Int), .slice (some ⟨g, 0, none⟩) C.length C.length] 39)) w5) := (Kf.refl _ _).kb hk5
  clear hr5 hk5 HR4 HMN HFT HS4
  generalize (w3.alloc (.cells #[.int .i64 (x : Int), .int .i64 (y : Int), .slice (some ⟨g, 0, none⟩) C.length C.length] 39)) = w4 at *
  have hgl : g < w4.heap.size := by have := HZ4.out; omega
  go_wp2_with fail
  go_loopw [42] (fun i wr => LayInv w4 g x C X Y w B ht i wr) (fun i _ => ht - (intOf i).toNat)
  case atStart => exact ⟨0, Nat.zero_le _, rfl, by rw [layL_zero]; exact HR5.out, HK5.out⟩
  case round =>
    obtain ⟨k, hk, rfl, hr, hb⟩ := hrel
    have HR : Hid (Rw wr g (layL x C X Y w B k)) := hr
    have HKr : Hid (Kf g w4 wr) := hb
    clear hr hb HR5 HK5 k6
    by_cases hlt : k < ht
    · obtain ⟨q, hq⟩ : ∃ q, q = k * w := ⟨_, rfl⟩
      obtain ⟨yk, hyk⟩ : ∃ yk, yk = Y + k := ⟨_, rfl⟩
      obtain ⟨z, hz⟩ : ∃ z, z = yk * x + X := ⟨_, rfl⟩
      have hqn : q + w ≤ B.length := by rw [hq, HLB.out]; exact row_le hlt
      have hzn : z + w ≤ C.length := by have := row_le (y := yk) (h := y) (w := x) (by omega); have := HL.out; omega
      have hzb : z + w ≤ 262144 := by have := prod_le hx1 hy1; have := HL.out; omega
      have e1 : IntKind.i64.wrap ((k : Int) * (w : Int)) = (q : Int) := by rw [← Int.natCast_mul, ← hq, IntKind.wrap_i64]; omega
      have e2 : IntKind.i64.wrap ((Y : Int) + (k : Int)) = (yk : Int) := by rw [← Int.natCast_add, ← hyk, IntKind.wrap_i64]; omega
      have b0 : (0 : Int) ≤ (q : Int) := by omega
      have b1 : (q : Int) ≤ (B.length : Int) := by omega
      have b2 : ¬ q = cb := by have := HCB.out; omega
      have HLn : Hid (∀ v : World, Calls Tryd.prog 41 #[.agg #[.int .i64 (x : Int), .int .i64 (y : Int), .slice (some ⟨g, 0, none⟩) C.length C.length], .int .i64 (X : Int), .int .i64 (yk : Int), .int .i64 (w : Int)] v fun e w' => e = .returned (.slice (some ⟨g, z, none⟩) w (C.length - z)) ∧ Below v.heap.size v w') := fun v => by
        have := line_ok (u := v) (b := g) (o := 0) (n := C.length) (c := C.length) (H := (y : Int)) hz hw (by omega) (by omega)
        rwa [Nat.zero_add] at this
      have HK : Hid (∀ v : World, Kf g w4 v → (v.cell? ⟨u.heap.size, 0, none⟩ = some (.int .i64 (x : Int)) ∧ v.cell? ⟨u.heap.size, 1, none⟩ = some (.int .i64 (y : Int)) ∧ v.cell? ⟨u.heap.size, 2, none⟩ = some (.slice (some ⟨b, o, none⟩) C.length c) ∧ v.cell? ⟨u.heap.size + 1, 0, none⟩ = some (.int .i64 (X : Int)) ∧ v.cell? ⟨u.heap.size + 1, 1, none⟩ = some (.int .i64 (Y : Int)) ∧ v.cell? ⟨u.heap.size + 1, 2, none⟩ = some (.int .i64 (w : Int)) ∧ v.cell? ⟨g + 1, 0, none⟩ = some (.int .i64 (x : Int)) ∧ v.cell? ⟨g + 1, 1, none⟩ = some (.int .i64 (y : Int)) ∧ v.cell? ⟨g + 1, 2, none⟩ = some (.slice (some ⟨g, 0, none⟩) C.length C.length) ∧ Kf g w4 v)) := fun v hv =>
        ⟨by rw [hv.cell _ _ (by have := HZ4.out; omega) (by omega)]; exact c0, by rw [hv.cell _ _ (by have := HZ4.out; omega) (by omega)]; exact c1, by rw [hv.cell _ _ (by have := HZ4.out; omega) (by omega)]; exact c2, by rw [hv.cell _ _ (by have := HZ4.out; omega) (by omega)]; exact c3, by rw [hv.cell _ _ (by have := HZ4.out; omega) (by omega)]; exact c4, by rw [hv.cell _ _ (by have := HZ4.out; omega) (by omega)]; exact c5, by rw [hv.cell _ _ (by have := HZ4.out; omega) (by omega)]; exact q0, by rw [hv.cell _ _ (by have := HZ4.out; omega) (by omega)]; exact q1, by rw [hv.cell _ _ (by have := HZ4.out; omega) (by omega)]; exact q2, hv⟩
      have HNN : Hid ((seg B q w).length = Nat.min (B.length - q) w) := by unfold Hid; rw [seg_len]; exact (Nat.min_eq_right (by omega)).symm
      have HPos : Hid (0 < (seg B q w).length) := by unfold Hid; rw [seg_len]; exact hw
      have HST : Hid (splice (layL x C X Y w B k) z (seg B q w) = layL x C X Y w B (k + 1)) := by unfold Hid; rw [hq, hz, hyk]; exact layL_step HL.out hX hY hlt
      have HSS : Hid (∀ v : World, Below wr.drew.heap.size wr.drew v → Sl v .u8 (some ⟨bb, ob + q, none⟩) (seg B q w)) := fun v hv => ((HSB.out.low HB4.out HKr.out (by omega)).drew.to hv).seg q w (by omega)
      have HRR : Hid (∀ v : World, Below wr.drew.heap.size wr.drew v → Rw v g (layL x C X Y w B k)) := fun v hv => HR.out.drew.to hv
      have HF : Hid (z + (seg B q w).length ≤ (layL x C X Y w B k).length) := by unfold Hid; rw [seg_len, layL_len]; exact hzn
      have HQ : Hid _ := hq
      have HYK : Hid _ := hyk
      have HZ : Hid _ := hz
      have hlt' : (k : Int) < (ht : Int) := by omega
      clear hq hyk hz c0 c1 c2 c3 c4 c5 c6 c7 c8 c9 g0 g1 g2 q0 q1 q2
      go_wp2_with fail
      go_region_held3 (fun v => v.cell? ⟨u.heap.size, 0, none⟩ = some (.int .i64 (x : Int)) ∧ v.cell? ⟨u.heap.size, 1, none⟩ = some (.int .i64 (y : Int)) ∧ v.cell? ⟨u.heap.size, 2, none⟩ = some (.slice (some ⟨b, o, none⟩) C.length c) ∧ v.cell? ⟨u.heap.size + 1, 0, none⟩ = some (.int .i64 (X : Int)) ∧ v.cell? ⟨u.heap.size + 1, 1, none⟩ = some (.int .i64 (Y : Int)) ∧ v.cell? ⟨u.heap.size + 1, 2, none⟩ = some (.int .i64 (w : Int)) ∧ v.cell? ⟨g + 1, 0, none⟩ = some (.int .i64 (x : Int)) ∧ v.cell? ⟨g + 1, 1, none⟩ = some (.int .i64 (y : Int)) ∧ v.cell? ⟨g + 1, 2, none⟩ = some (.slice (some ⟨g, 0, none⟩) C.length C.length) ∧ Kf g w4 v)
        ((exact HK.out _ (by first | exact HKr.out.drew | exact HKr.out.drew.step (by assumption) | exact (HKr.out.drew.step (by assumption)).kb (by assumption))))
        (first | (go_at_call 41; refine (HLn.out _).mono ?_; rintro e w6 ⟨rfl, hb6⟩) | (refine step_copy_rw rfl (.tmp 54) (.tmp 60) rfl _ _ _ _ _ _ (by rfl) (by rfl) g z _ (seg B q w) (HRR.out _ (by assumption)) HNN.out HPos.out (by rfl) (HSS.out _ (by assumption)) HF.out ?_; intro w7 hr7 hk7))
      go_wp2_with fail
      go_roundw
      case rel => exact ⟨k + 1, by omega, by go_num, by rw [← HST.out]; exact hr7, (HKr.out.drew.step hb6).kb hk7⟩
      case measure => simp [intOf]; omega
    · have hk' : k = ht := by omega
      subst hk'
      have s0 : wr.cell? ⟨g + 1, 0, none⟩ = some (.int .i64 (x : Int)) := by rw [HKr.out.cell _ _ (by have := HZ4.out; omega) (by omega)]; exact q0
      have s1 : wr.cell? ⟨g + 1, 1, none⟩ = some (.int .i64 (y : Int)) := by rw [HKr.out.cell _ _ (by have := HZ4.out; omega) (by omega)]; exact q1
      have s2 : wr.cell? ⟨g + 1, 2, none⟩ = some (.slice (some ⟨g, 0, none⟩) C.length C.length) := by rw [HKr.out.cell _ _ (by have := HZ4.out; omega) (by omega)]; exact q2
      have r7 : wr.cell? ⟨u.heap.size + 1 + 1, 0, none⟩ = some (.int .i64 0) := by rw [HKr.out.cell _ _ (by have := HZ4.out; omega) (by omega)]; exact c7
      have r8 : wr.cell? ⟨u.heap.size + 1 + 1, 1, none⟩ = some (.int .i64 0) := by rw [HKr.out.cell _ _ (by have := HZ4.out; omega) (by omega)]; exact c8
      have r9 : wr.cell? ⟨u.heap.size + 1 + 1, 2, none⟩ = some (.slice none 0 0) := by rw [HKr.out.cell _ _ (by have := HZ4.out; omega) (by omega)]; exact c9
      have t0 : wr.frozen? ⟨u.heap.size + 1 + 1, 0, none⟩ = false := by rw [HKr.out.frozen _ _ (by have := HZ4.out; omega) (by omega)]; exact g0
      have t1 : wr.frozen? ⟨u.heap.size + 1 + 1, 1, none⟩ = false := by rw [HKr.out.frozen _ _ (by have := HZ4.out; omega) (by omega)]; exact g1
      have t2 : wr.frozen? ⟨u.heap.size + 1 + 1, 2, none⟩ = false := by rw [HKr.out.frozen _ _ (by have := HZ4.out; omega) (by omega)]; exact g2
      clear c0 c1 c2 c3 c4 c5 c6 c7 c8 c9 g0 g1 g2 q0 q1 q2
      go_wp2_with fail
      refine bodyPost_ret (v := .tuple #[.agg #[.int .i64 (x : Int), .int .i64 (y : Int), .slice (some ⟨g, 0, none⟩) C.length C.length], .int .i64 0]) (by simp [results, Tryd.results28, go_sem, r7, r8, r9]) rfl ?_
      refine ⟨g, ret_pl (by rw [layL_len]), by omega, ((HR.out.far (a := ⟨u.heap.size + 1 + 1, 0, none⟩) (by simp; omega) _).far (a := ⟨u.heap.size + 1 + 1, 1, none⟩) (by simp; omega) _).far (a := ⟨u.heap.size + 1 + 1, 2, none⟩) (by simp; omega) _, ?_⟩
      exact below_set (below_set (below_set (HB4.out.trans (HKr.out.below (by omega) (by omega))) (by simp; omega) _) (by simp; omega) _) (by simp; omega) _

end Go.Proofs.YtpideemiijhkgabDoor
