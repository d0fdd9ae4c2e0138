/- DERIVED. A rectangle within a plane; Cut. -/
import Derived.Test.YtpideemiijhkgabDoorRa
namespace Go.Proofs.YtpideemiijhkgabDoor
open Go.RowKit

/-- a rectangle lies within a plane -/
structure Win (W H X Y w h : Int) : Prop where
  w0 : 1 ≤ w
  h0 : 1 ≤ h
  x0 : 0 ≤ X
  y0 : 0 ≤ Y
  wx : w ≤ W - X
  hy : h ≤ H - Y
set_option maxHeartbeats 1000000 in
theorem within_yes {u : World} {a : Option Addr} {n c : Nat} {W H X Y w h : Int} (k : Win W H X Y w h) (hW : 1 ≤ W) (hW1 : W ≤ 512) (hH : 1 ≤ H) (hH1 : H ≤ 512) :
    Calls Tryd.prog 40 #[.agg #[.int .i64 W, .int .i64 H, .slice a n c], .agg #[.int .i64 X, .int .i64 Y, .int .i64 w, .int .i64 h]] u fun e w' => e = .returned (.bool true) ∧ Below u.heap.size u w' := by
  obtain ⟨k1, k2, k3, k4, k5, k6⟩ := k
  have k7 : X ≤ 512 := by omega
  have k8 : Y ≤ 512 := by omega
  go_enter Tryd.func40, Tryd.ntmps40
  go_wp2
  go_ret
  exact ⟨rfl, to_alloc (from_alloc _ _) _⟩
theorem wr_sub {W X : Int} (hW : 1 ≤ W) (hW1 : W ≤ 512) (h0 : 0 ≤ X) (h1 : X ≤ 9223372036854775807) : wrap64 (W - X) = W - X := by unfold wrap64; omega
set_option maxHeartbeats 1000000 in
theorem within_no {u : World} {a : Option Addr} {n c : Nat} {W H X Y w h : Int} (k : ¬ Win W H X Y w h) (hW : 1 ≤ W) (hW1 : W ≤ 512) (hH : 1 ≤ H) (hH1 : H ≤ 512) (bX : X ≤ 9223372036854775807) (bY : Y ≤ 9223372036854775807) :
    Calls Tryd.prog 40 #[.agg #[.int .i64 W, .int .i64 H, .slice a n c], .agg #[.int .i64 X, .int .i64 Y, .int .i64 w, .int .i64 h]] u fun e w' => e = .returned (.bool false) ∧ Below u.heap.size u w' := by
  have KK : Hid _ := k
  have BX : Bx (X ≤ 9223372036854775807) := ⟨bX⟩
  have BY : Bx (Y ≤ 9223372036854775807) := ⟨bY⟩
  clear k bX bY
  by_cases k1 : w < 1
  · go_enter Tryd.func40, Tryd.ntmps40
    go_wp2
    go_ret
    exact ⟨rfl, to_alloc (from_alloc _ _) _⟩
  by_cases k2 : h < 1
  · go_enter Tryd.func40, Tryd.ntmps40
    go_wp2
    go_ret
    exact ⟨rfl, to_alloc (from_alloc _ _) _⟩
  by_cases k3 : X < 0
  · go_enter Tryd.func40, Tryd.ntmps40
    go_wp2
    go_ret
    exact ⟨rfl, to_alloc (from_alloc _ _) _⟩
  by_cases k4 : Y < 0
  · go_enter Tryd.func40, Tryd.ntmps40
    go_wp2
    go_ret
    exact ⟨rfl, to_alloc (from_alloc _ _) _⟩
  have e1 : wrap64 (W - X) = W - X := wr_sub hW hW1 (by omega) BX.out
  have e2 : wrap64 (H - Y) = H - Y := wr_sub hH hH1 (by omega) BY.out
  by_cases k5 : w ≤ W - X
  · have k6 : ¬ h ≤ H - Y := fun g => KK.out ⟨by omega, by omega, by omega, by omega, k5, g⟩
    have k7 : X ≤ 512 := by omega
    clear e1 hW hH hW1 hH1
    go_enter Tryd.func40, Tryd.ntmps40
    go_wp2
    all_goals
      go_ret
      first | exact ⟨rfl, to_alloc (from_alloc _ _) _⟩ | (exfalso; omega)
  · clear e2 hW hH hW1 hH1
    go_enter Tryd.func40, Tryd.ntmps40
    go_wp2
    all_goals
      go_ret
      first | exact ⟨rfl, to_alloc (from_alloc _ _) _⟩ | (exfalso; omega)
theorem ret_slice {a : Option Addr} {n n' c : Nat} (h : n = n') : Ending.returned (.slice a n c) = .returned (.slice a n' c) := by rw [h]
set_option maxHeartbeats 1000000 in
theorem line_ok {u : World} {b o n c W X Y w z : Nat} {H : Int} (hz : z = Y * W + X) (hw : 1 ≤ w) (hn : z + w ≤ c) (hc : z + w ≤ 70368744177664) :
    Calls Tryd.prog 41 #[.agg #[.int .i64 (W : Int), .int .i64 H, .slice (some ⟨b, o, none⟩) n c], .int .i64 (X : Int), .int .i64 (Y : Int), .int .i64 (w : Int)] u fun e w' => e = .returned (.slice (some ⟨b, o + z, none⟩) w (c - z)) ∧ Below u.heap.size u w' := by
  obtain ⟨q, hq⟩ : ∃ q : Nat, q = Y * W := ⟨_, rfl⟩
  rw [← hq] at hz
  have e1 : (Y : Int) * (W : Int) = (q : Int) := by rw [← Int.natCast_mul, hq]
  have e2 : (q : Int) + (X : Int) = (z : Int) := by omega
  have p1 : (q : Int) ≤ 70368744177664 := by omega
  have p2 : (X : Int) ≤ 70368744177664 := by omega
  have p3 : (z : Int) + (w : Int) ≤ (c : Int) := by omega
  have p4 : (z : Int) ≤ (z : Int) + (w : Int) := by omega
  have p5 : (z : Int) ≤ 70368744177664 := by omega
  have p6 : (w : Int) ≤ 70368744177664 := by omega
  have p7 : ((z : Int) + (w : Int) - (z : Int)).toNat = w := by omega
  have p8 : ((c : Int) - (z : Int)).toNat = c - z := by omega
  have p9 : ¬ z = c := by omega
  have HZ : Hid _ := hz
  have HQ : Hid _ := hq
  clear hz hq hn
  go_enter Tryd.func41, Tryd.ntmps41
  go_wp2
  go_ret
  exact ⟨ret_slice (by omega), from_alloc _ _⟩

theorem ret_sl {a : Option Addr} {n m : Nat} (h : n = m) : Ending.returned (.tuple #[.slice a n n, .int .i64 0]) = .returned (.tuple #[.slice a m m, .int .i64 0]) := by rw [h]
/-- samples D are answered, in new memory -/
def Sq (w w' : World) (e : Ending) (D : List Nat) : Prop := ∃ g, e = .returned (.tuple #[.slice (some ⟨g, 0, none⟩) D.length D.length, .int .i64 0]) ∧ w.heap.size ≤ g ∧ Rw w' g D ∧ Below w.heap.size w w'
def CutInv (v : World) (g x : Nat) (C : List Nat) (X Y w h : Nat) (iv : Value) (wr : World) : Prop := ∃ k : Nat, k ≤ h ∧ iv = .int .i64 k ∧ Rw wr g (cutP x C X Y w h k) ∧ Below g v wr
set_option maxRecDepth 100000 in
set_option maxHeartbeats 2000000 in
theorem cut_ok {u : World} {a : Option Addr} {c : Nat} {C : List Nat} {x y X Y w h : Nat} (hs : Sl u .u8 a C) (hx0 : 1 ≤ x) (hx1 : x ≤ 512) (hy0 : 1 ≤ y) (hy1 : y ≤ 512) (hl : C.length = x * y) (hc : C.length ≤ c) (hw : 1 ≤ w) (hh : 1 ≤ h) (hX : X + w ≤ x) (hY : Y + h ≤ y) :
    Calls Tryd.prog 27 #[.agg #[.int .i64 (x : Int), .int .i64 (y : Int), .slice a C.length c], .agg #[.int .i64 (X : Int), .int .i64 (Y : Int), .int .i64 (w : Int), .int .i64 (h : Int)]] u fun e w' => Sq u w' e (cutL x C X Y w h) := by
  have hck : ck (x : Int) (y : Int) C = 0 := ck_ok (POk.of hx0 hx1 hy0 hy1 hl)
  have HW : Hid (Win (x : Int) (y : Int) (X : Int) (Y : Int) (w : Int) (h : Int)) := ⟨by omega, by omega, by omega, by omega, by omega, by omega⟩
  have hp := prod_le hx1 hy1
  have hwh : w * h ≤ 262144 := prod_le (by omega) (by omega)
  obtain ⟨n, hn⟩ : ∃ n, n = w * h := ⟨_, rfl⟩
  have en : (w : Int) * (h : Int) = (n : Int) := by rw [← Int.natCast_mul, hn]
  have n1 : (n : Int) ≤ 262144 := by omega
  have hmk := mk_row (n := n) (by omega)
  obtain ⟨b, o, rfl, hbl, hcell⟩ := hs.form (by rw [hl]; exact Nat.mul_pos hx0 hy0)
  have HSL : Hid (Sl u .u8 (some ⟨b, o, none⟩) C) := hs
  have HL : Hid (C.length = x * y) := hl
  have HC : Hid (C.length ≤ c) := hc
  have HN : Hid (n = w * h) := hn
  have i1 : (x : Int) ≤ 512 := by omega
  have i2 : (y : Int) ≤ 512 := by omega
  have i3 : (1 : Int) ≤ (x : Int) := by omega
  have i4 : (1 : Int) ≤ (y : Int) := by omega
  clear hs hl hc hcell hn hp hwh
  go_enter Tryd.func27, Tryd.ntmps27
  go_wp2_with fail
  refine check_any.mono ?_
  rintro e w1 ⟨rfl, hb⟩
  rw [hck]
  have d0 : w1.cell? ⟨u.heap.size, 0, none⟩ = some (.int .i64 (x : Int)) := by rw [newCell hb _ _ (by simp; omega)]; simp
  have d1 : w1.cell? ⟨u.heap.size, 1, none⟩ = some (.int .i64 (y : Int)) := by rw [newCell hb _ _ (by simp; omega)]; simp
  have d2 : w1.cell? ⟨u.heap.size, 2, none⟩ = some (.slice (some ⟨b, o, none⟩) C.length c) := by rw [newCell hb _ _ (by simp; omega)]; simp
  have d3 : w1.cell? ⟨u.heap.size + 1, 0, none⟩ = some (.int .i64 (X : Int)) := by rw [newCell hb _ _ (by simp)]; simp
  have d4 : w1.cell? ⟨u.heap.size + 1, 1, none⟩ = some (.int .i64 (Y : Int)) := by rw [newCell hb _ _ (by simp)]; simp
  have d5 : w1.cell? ⟨u.heap.size + 1, 2, none⟩ = some (.int .i64 (w : Int)) := by rw [newCell hb _ _ (by simp)]; simp
  have d6 : w1.cell? ⟨u.heap.size + 1, 3, none⟩ = some (.int .i64 (h : Int)) := by rw [newCell hb _ _ (by simp)]; simp
  have hz1 : u.heap.size + 2 ≤ w1.heap.size := by have := hb.size; simp at this; omega
  have HB : Hid (Below u.heap.size u w1) := below_to (to_alloc (from_alloc u _) _) hb
  clear hb hck
  go_wp2_with fail
  refine (within_yes HW.out i3 i1 i4 i2).mono ?_
  rintro e w2 ⟨rfl, hb⟩
  have c0 : w2.cell? ⟨u.heap.size, 0, none⟩ = some (.int .i64 (x : Int)) := by rw [newCell hb _ _ (by omega)]; exact d0
  have c1 : w2.cell? ⟨u.heap.size, 1, none⟩ = some (.int .i64 (y : Int)) := by rw [newCell hb _ _ (by omega)]; exact d1
  have c2 : w2.cell? ⟨u.heap.size, 2, none⟩ = some (.slice (some ⟨b, o, none⟩) C.length c) := by rw [newCell hb _ _ (by omega)]; exact d2
  have c3 : w2.cell? ⟨u.heap.size + 1, 0, none⟩ = some (.int .i64 (X : Int)) := by rw [newCell hb _ _ (by omega)]; exact d3
  have c4 : w2.cell? ⟨u.heap.size + 1, 1, none⟩ = some (.int .i64 (Y : Int)) := by rw [newCell hb _ _ (by omega)]; exact d4
  have c5 : w2.cell? ⟨u.heap.size + 1, 2, none⟩ = some (.int .i64 (w : Int)) := by rw [newCell hb _ _ (by omega)]; exact d5
  have c6 : w2.cell? ⟨u.heap.size + 1, 3, none⟩ = some (.int .i64 (h : Int)) := by rw [newCell hb _ _ (by omega)]; exact d6
  have hz2 : u.heap.size + 2 ≤ w2.heap.size := Nat.le_trans hz1 hb.size
  have HB2 : Hid (Below u.heap.size u w2) := below_to HB.out hb
  clear hb d0 d1 d2 d3 d4 d5 d6 HB hz1
  have HM : Hid (Rw (w2.alloc (.cells (madeCells #[.int .u8 0] n) 5)) w2.heap.size (List.replicate n 0)) := Rw.made w2 n
  have HA : Hid (Below w2.heap.size w2 (w2.alloc (.cells (madeCells #[.int .u8 0] n) 5))) := from_alloc _ _
  have k0 : ((w2.alloc (.cells (madeCells #[.int .u8 0] n) 5))).cell? ⟨u.heap.size + 1, 3, none⟩ = some (.int .i64 (h : Int)) := by rw [newCell HA.out _ _ (by omega)]; exact c6
  go_wp2_with fail
  generalize hg : w2.heap.size = g at *
  go_loopw [25] (fun i wr => CutInv w2 g x C X Y w h i wr) (fun i _ => h - (intOf i).toNat)
  case atStart => exact ⟨0, Nat.zero_le _, rfl, by rw [cutP_zero, ← HN.out]; exact HM.out, HA.out⟩
  case round =>
    obtain ⟨k, hk, rfl, hr, hb⟩ := hrel
    have HR : Hid (Rw wr g (cutP x C X Y w h k)) := hr
    have HBr : Hid (Below g w2 wr) := hb
    clear hr hb HM HA k0
    by_cases hlt : k < h
    · obtain ⟨q, hq⟩ : ∃ q, q = k * w := ⟨_, rfl⟩
      obtain ⟨yk, hyk⟩ : ∃ yk, yk = Y + k := ⟨_, rfl⟩
      obtain ⟨z, hz⟩ : ∃ z, z = yk * x + X := ⟨_, rfl⟩
      have hqn : q + w ≤ n := by rw [hq, HN.out]; exact row_le hlt
      have hzn : z + w ≤ C.length := by have := row_le (y := yk) (h := y) (w := x) (by omega); have := HL.out; omega
      have hzb : z + w ≤ 262144 := by have := prod_le hx1 hy1; have := HL.out; omega
      have e1 : IntKind.i64.wrap ((k : Int) * (w : Int)) = (q : Int) := by rw [← Int.natCast_mul, ← hq, IntKind.wrap_i64]; omega
      have e2 : IntKind.i64.wrap ((Y : Int) + (k : Int)) = (yk : Int) := by rw [← Int.natCast_add, ← hyk, IntKind.wrap_i64]; omega
      have b0 : (0 : Int) ≤ (q : Int) := by omega
      have b1 : (q : Int) ≤ (n : Int) := by omega
      have b2 : ¬ q = n := by omega
      have HLn : Hid (∀ v : World, Calls Tryd.prog 41 #[.agg #[.int .i64 (x : Int), .int .i64 (y : Int), .slice (some ⟨b, o, none⟩) C.length c], .int .i64 (X : Int), .int .i64 (yk : Int), .int .i64 (w : Int)] v fun e w' => e = .returned (.slice (some ⟨b, o + z, none⟩) w (c - z)) ∧ Below v.heap.size v w') := fun v => line_ok hz hw (by have := HC.out; omega) (by omega)
      have HK : Hid (∀ v : World, Below g w2 v → (v.cell? ⟨u.heap.size, 0, none⟩ = some (.int .i64 (x : Int)) ∧ v.cell? ⟨u.heap.size, 1, none⟩ = some (.int .i64 (y : Int)) ∧ v.cell? ⟨u.heap.size, 2, none⟩ = some (.slice (some ⟨b, o, none⟩) C.length c) ∧ v.cell? ⟨u.heap.size + 1, 0, none⟩ = some (.int .i64 (X : Int)) ∧ v.cell? ⟨u.heap.size + 1, 1, none⟩ = some (.int .i64 (Y : Int)) ∧ v.cell? ⟨u.heap.size + 1, 2, none⟩ = some (.int .i64 (w : Int)) ∧ Below g w2 v)) := fun v hv =>
        ⟨by rw [newCell hv _ _ (by omega)]; exact c0, by rw [newCell hv _ _ (by omega)]; exact c1, by rw [newCell hv _ _ (by omega)]; exact c2, by rw [newCell hv _ _ (by omega)]; exact c3, by rw [newCell hv _ _ (by omega)]; exact c4, by rw [newCell hv _ _ (by omega)]; exact c5, hv⟩
      have HG : Hid (g ≤ wr.drew.heap.size) := Nat.le_of_lt HR.out.lt
      have HNN : Hid ((seg C z w).length = Nat.min w (n - q)) := by unfold Hid; rw [seg_len]; exact (Nat.min_eq_left (by omega)).symm
      have HPos : Hid (0 < (seg C z w).length) := by unfold Hid; rw [seg_len]; exact hw
      have HST : Hid (splice (cutP x C X Y w h k) q (seg C z w) = cutP x C X Y w h (k + 1)) := by unfold Hid; rw [hq, hz, hyk]; exact cutP_step x C X Y w h k hlt
      have HSS : Hid (∀ v : World, Below wr.drew.heap.size wr.drew v → Sl v .u8 (some ⟨b, o + z, none⟩) (seg C z w)) := fun v hv => ((HSL.out.to (HB2.out.trans (HBr.out.mono (by omega)))).drew.to hv).seg z w (by omega)
      have HRR : Hid (∀ v : World, Below wr.drew.heap.size wr.drew v → Rw v g (cutP x C X Y w h k)) := fun v hv => HR.out.drew.to hv
      have HF : Hid (q + (seg C z w).length ≤ (cutP x C X Y w h k).length) := by unfold Hid; rw [seg_len, cutP_len, ← HN.out]; exact hqn
      have HQ : Hid _ := hq
      have HYK : Hid _ := hyk
      have HZ : Hid _ := hz
      have hlt' : (k : Int) < (h : Int) := by omega
      clear hq hyk hz c0 c1 c2 c3 c4 c5 c6
      go_wp2_with fail
      go_region_held3 (fun v => v.cell? ⟨u.heap.size, 0, none⟩ = some (.int .i64 (x : Int)) ∧ v.cell? ⟨u.heap.size, 1, none⟩ = some (.int .i64 (y : Int)) ∧ v.cell? ⟨u.heap.size, 2, none⟩ = some (.slice (some ⟨b, o, none⟩) C.length c) ∧ v.cell? ⟨u.heap.size + 1, 0, none⟩ = some (.int .i64 (X : Int)) ∧ v.cell? ⟨u.heap.size + 1, 1, none⟩ = some (.int .i64 (Y : Int)) ∧ v.cell? ⟨u.heap.size + 1, 2, none⟩ = some (.int .i64 (w : Int)) ∧ Below g w2 v)
        ((exact HK.out _ (by first | exact below_drew HBr.out | exact (below_drew HBr.out).trans (Below.mono (by assumption) HG.out) | exact ((below_drew HBr.out).trans (Below.mono (by assumption) HG.out)).trans (Kb.below (by assumption) (Nat.le_refl _)))))
        (first | (go_at_call 41; refine (HLn.out _).mono ?_; rintro e w3 ⟨rfl, hb3⟩) | (refine step_copy_rw rfl (.tmp 33) (.tmp 43) rfl _ _ _ _ _ _ (by rfl) (by rfl) g q _ (seg C z w) (HRR.out _ (by assumption)) HNN.out HPos.out (by rfl) (HSS.out _ (by assumption)) HF.out ?_; intro w4 hr4 hk4))
      go_wp2_with fail
      go_roundw
      case rel => exact ⟨k + 1, by omega, by go_num, by rw [← HST.out]; exact hr4, ((below_drew HBr.out).trans (hb3.mono HG.out)).trans (hk4.below (Nat.le_refl _))⟩
      case measure => simp [intOf]; omega
    · have hk' : k = h := by omega
      subst hk'
      go_wp2_with fail
      go_ret2
      refine ⟨g, ret_sl (by rw [cutL_len, ← HN.out]), by omega, by rw [← cutP_all]; exact HR.out, HB2.out.trans (HBr.out.mono (by omega))⟩

set_option maxHeartbeats 1000000 in
theorem cut_bad {u : World} {a : Option Addr} {c : Nat} {C : List Nat} {W H X Y w h : Int} (hn : ¬ POk W H C) :
    Calls Tryd.prog 27 #[.agg #[.int .i64 W, .int .i64 H, .slice a C.length c], .agg #[.int .i64 X, .int .i64 Y, .int .i64 w, .int .i64 h]] u fun e w' => e = .returned (.tuple #[.slice none 0 0, .int .i64 2]) ∧ Below u.heap.size u w' := by
  have hck : ck W H C = 2 := ck_no hn
  clear hn
  go_enter Tryd.func27, Tryd.ntmps27
  go_wp2_with fail
  refine check_any.mono ?_
  rintro e w1 ⟨rfl, hb⟩
  rw [hck]
  have HB : Hid (Below u.heap.size u w1) := below_to (to_alloc (from_alloc u _) _) hb
  clear hb hck
  go_wp2_with fail
  go_ret2
  exact ⟨rfl, HB.out⟩
set_option maxHeartbeats 1000000 in
theorem cut_out {u : World} {a : Option Addr} {c : Nat} {C : List Nat} {W H X Y w h : Int} (hp : POk W H C) (hn : ¬ Win W H X Y w h) (bX : X ≤ 9223372036854775807) (bY : Y ≤ 9223372036854775807) :
    Calls Tryd.prog 27 #[.agg #[.int .i64 W, .int .i64 H, .slice a C.length c], .agg #[.int .i64 X, .int .i64 Y, .int .i64 w, .int .i64 h]] u fun e w' => e = .returned (.tuple #[.slice none 0 0, .int .i64 2]) ∧ Below u.heap.size u w' := by
  have hck : ck W H C = 0 := ck_ok hp
  have HP : Hid (POk W H C) := hp
  have HN : Hid (¬ Win W H X Y w h) := hn
  have BX : Bx (X ≤ 9223372036854775807) := ⟨bX⟩
  have BY : Bx (Y ≤ 9223372036854775807) := ⟨bY⟩
  clear hn hp bX bY
  go_enter Tryd.func27, Tryd.ntmps27
  go_wp2_with fail
  refine check_any.mono ?_
  rintro e w1 ⟨rfl, hb⟩
  rw [hck]
  have d0 : w1.cell? ⟨u.heap.size, 0, none⟩ = some (.int .i64 W) := by rw [newCell hb _ _ (by simp; omega)]; simp
  have d1 : w1.cell? ⟨u.heap.size, 1, none⟩ = some (.int .i64 H) := by rw [newCell hb _ _ (by simp; omega)]; simp
  have d2 : w1.cell? ⟨u.heap.size, 2, none⟩ = some (.slice a C.length c) := by rw [newCell hb _ _ (by simp; omega)]; simp
  have d3 : w1.cell? ⟨u.heap.size + 1, 0, none⟩ = some (.int .i64 X) := by rw [newCell hb _ _ (by simp)]; simp
  have d4 : w1.cell? ⟨u.heap.size + 1, 1, none⟩ = some (.int .i64 Y) := by rw [newCell hb _ _ (by simp)]; simp
  have d5 : w1.cell? ⟨u.heap.size + 1, 2, none⟩ = some (.int .i64 w) := by rw [newCell hb _ _ (by simp)]; simp
  have d6 : w1.cell? ⟨u.heap.size + 1, 3, none⟩ = some (.int .i64 h) := by rw [newCell hb _ _ (by simp)]; simp
  have HB : Hid (Below u.heap.size u w1) := below_to (to_alloc (from_alloc u _) _) hb
  clear hb hck
  go_wp2_with fail
  refine (within_no HN.out HP.out.w0 HP.out.w1 HP.out.h0 HP.out.h1 BX.out BY.out).mono ?_
  rintro e w2 ⟨rfl, hb⟩
  have HB2 : Hid (Below u.heap.size u w2) := below_to HB.out hb
  clear hb
  go_wp2_with fail
  go_ret2
  exact ⟨rfl, HB2.out⟩

end Go.Proofs.YtpideemiijhkgabDoor
