/- DERIVED. The walk of MotionTurned. -/
import Derived.Test.YtpideemiijhkgabDoorTr
import Derived.Test.YtpideemiijhkgabDoorMh
import Derived.Test.YtpideemiijhkgabDoorOp
import Derived.Deep.DeepCutAuto
import Derived.Deep.Light
namespace Go.Proofs.YtpideemiijhkgabDoor
open Go.RowKit

/-- a blend in a block -/
structure Bd (p : Nat) (a : Option Addr) (n c : Nat) (bw X Y w ht : Int) (b : Option Addr) (m d : Nat) (t : World) : Prop where
  c0 : t.cell? ⟨p, 0, none⟩ = some (.slice a n c)
  c1 : t.cell? ⟨p, 1, none⟩ = some (.int .i64 bw)
  c2 : t.cell? ⟨p, 2, none⟩ = some (.int .i64 X)
  c3 : t.cell? ⟨p, 3, none⟩ = some (.int .i64 Y)
  c4 : t.cell? ⟨p, 4, none⟩ = some (.int .i64 w)
  c5 : t.cell? ⟨p, 5, none⟩ = some (.int .i64 ht)
  c6 : t.cell? ⟨p, 6, none⟩ = some (.slice b m d)
theorem Bd.below {p : Nat} {a b : Option Addr} {n c m d : Nat} {bw X Y w ht : Int} {B : Nat} {t t' : World} (h : Bd p a n c bw X Y w ht b m d t) (hp : p < B) (hb : Below B t t') : Bd p a n c bw X Y w ht b m d t' := by
  refine ⟨?_, ?_, ?_, ?_, ?_, ?_, ?_⟩ <;> rw [newCell hb _ _ hp]
  · exact h.c0
  · exact h.c1
  · exact h.c2
  · exact h.c3
  · exact h.c4
  · exact h.c5
  · exact h.c6
theorem Bd.built (u : World) (a b : Option Addr) (n c m d : Nat) (bw X Y w ht : Int) : Bd u.heap.size a n c bw X Y w ht b m d (u.alloc (.cells #[.slice a n c, .int .i64 bw, .int .i64 X, .int .i64 Y, .int .i64 w, .int .i64 ht, .slice b m d] 26)) := by
  refine ⟨?_, ?_, ?_, ?_, ?_, ?_, ?_⟩ <;> simp [go_sem]

theorem wt_rise (n j : Nat) : wt n j ≤ wt n (j + 1) := by
  unfold wt
  have := Nat.div_le_div_right (c := 2 * n) (show (2 * j + 1) * 32 ≤ (2 * (j + 1) + 1) * 32 by omega)
  omega
theorem mbL_byt {C D : List Nat} (hC : Byt C) (hD : Byt D) {w X Y rw rh : Nat} {kf : Nat → Nat → Nat} (hk : ∀ x y, x < rw → y < rh → kf x y ≤ 64) : Byt (mbL w C X Y rw rh kf D) := by
  have hB : Byt (blB w C X Y rw rh kf D) := fun j => by
    by_cases hj : j < rw * rh
    · have h0 : 0 < rw := Nat.pos_of_ne_zero fun e => by rw [e, Nat.zero_mul] at hj; omega
      unfold blB
      rw [tab_get _ hj]
      exact bl_lt (hk _ _ (Nat.mod_lt _ h0) (div_of hj)) (hC _) (hD _)
    · unfold blB
      rw [tab_over _ _ (by omega)]
      omega
  unfold mbL layL
  refine tab_byt fun j => ?_
  unfold layF
  split
  · exact hB _
  · exact hC _
/-- what Above answers; what is turned -/
theorem above_two {C D : List Nat} (hC : Byt C) (hD : Byt D) (lC : C.length ≤ 140737488355328) (bw X Y w ht : Int) (bX : X ≤ 9223372036854775807) (bY : Y ≤ 9223372036854775807) :
    (∀ (t : World) (a b : Option Addr) (c d : Nat), Sl t .u8 a C → Sl t .u8 b D → C.length ≤ c → Calls Tryd.prog 7 #[.slice a C.length c, .int .i64 bw, .agg #[.int .i64 X, .int .i64 Y, .int .i64 w, .int .i64 ht], .slice b D.length d] t fun e w' => e = .returned (.tuple #[.slice none 0 0, .int .i64 2]) ∧ Below t.heap.size t w') ∨
    ∃ (w' h' X' Y' rw' rh' : Nat) (A M N : List Nat), bw = (w' : Int) ∧ X = (X' : Int) ∧ Y = (Y' : Int) ∧ w = (rw' : Int) ∧ ht = (rh' : Int) ∧ 1 ≤ w' ∧ w' ≤ 64 ∧ 1 ≤ h' ∧ h' ≤ 64 ∧ C.length = w' * h' ∧ 1 ≤ rw' ∧ rw' ≤ 64 ∧ 1 ≤ rh' ∧ rh' ≤ 64 ∧ X' ≤ 64 ∧ Y' ≤ 64 ∧ D.length = rw' * rh' ∧ A.length = C.length ∧
      (∀ (t : World) (a b : Option Addr) (c d : Nat), Sl t .u8 a C → Sl t .u8 b D → C.length ≤ c → Calls Tryd.prog 7 #[.slice a C.length c, .int .i64 (w' : Int), .agg #[.int .i64 (X' : Int), .int .i64 (Y' : Int), .int .i64 (rw' : Int), .int .i64 (rh' : Int)], .slice b D.length d] t fun e w2 => So t w2 e C.length A) ∧
      (∀ (t : World) (a : Option Addr) (c : Nat), Sl t .u8 a C → Calls Tryd.prog 9 #[.slice a C.length c, .int .i64 (w' : Int)] t fun e w2 => Tz t w2 e C.length M) ∧
      (∀ (t : World) (a : Option Addr) (c : Nat), Sl t .u8 a D → Calls Tryd.prog 9 #[.slice a D.length c, .int .i64 (rw' : Int)] t fun e w2 => Tz t w2 e D.length N) ∧
      (∀ (t : World) (g k : Nat), Rw t g M → Rw t k N → Calls Tryd.prog 8 #[.slice (some ⟨g, 0, none⟩) C.length C.length, .int .i64 (h' : Int), .agg #[.int .i64 (Y' : Int), .int .i64 (X' : Int), .int .i64 (rh' : Int), .int .i64 (rw' : Int)], .slice (some ⟨k, 0, none⟩) D.length D.length] t fun e w2 => So t w2 e C.length (trL w' h' A)) ∧
      (∀ (t : World) (g : Nat), Rw t g A → Calls Tryd.prog 9 #[.slice (some ⟨g, 0, none⟩) C.length C.length, .int .i64 (w' : Int)] t fun e w2 => Tz t w2 e C.length (trL w' h' A)) := by
  by_cases h : (4 ≤ ht ∧ ht ≤ 32) ∧ BOk C bw X Y w ht D
  · refine Or.inr ?_
    obtain ⟨⟨d0, d1⟩, hb⟩ := h
    obtain ⟨w', h', X', Y', rw', rh', rfl, rfl, rfl, rfl, rfl, k0, k1, k2, k3, k4, k5, k6, k7, k8, k9⟩ := hb.nat
    have lA : (mbL w' C X' Y' rw' rh' (fun _ y => wt rh' y) D).length = C.length := mbL_len _ _ _ _ _ _ _ _
    have bA : Byt (mbL w' C X' Y' rw' rh' (fun _ y => wt rh' y) D) := mbL_byt hC hD (fun x y _ hy => by have := wt_in hy; omega)
    refine ⟨w', h', X', Y', rw', rh', mbL w' C X' Y' rw' rh' (fun _ y => wt rh' y) D, trL w' h' C, trL rw' rh' D, rfl, rfl, rfl, rfl, rfl, k0, k1, k2, k3, k4, k5, by omega, k6, by omega, by omega, by omega, k9, lA, ?_, ?_, ?_, ?_, ?_⟩
    · exact fun t a b c d hs ht' hc => (above_ok hs hC ht' hD k0 k1 k2 k3 k4 hc k5 k6 k7 k8 k9 (by omega) (by omega)).mono fun _ _ k => k.so rfl lA
    · exact fun t a c hs => transposed_ok hs hC k0 k1 k2 k3 k4 rfl
    · exact fun t a c hs => transposed_ok hs hD k5 (by omega) k6 (by omega) k9 rfl
    · intro t g k hr hk
      have lM : (trL w' h' C).length = C.length := trL_len _ _ _
      have lN : (trL rw' rh' D).length = D.length := trL_len _ _ _
      have := left_ok (c := C.length) (co := D.length) hr.sl (trL_byt hC) hk.sl (trL_byt hD) k2 k3 k0 k1 (X := Y') (Y := X') (rw := rh') (rh := rw') (by rw [lM, k4, Nat.mul_comm]) (by rw [lM]; exact Nat.le_refl _) k6 k5 k8 k7 (by rw [lN, k9, Nat.mul_comm]) (by omega) (by omega)
      rw [lM, lN] at this
      refine this.mono fun _ _ q => q.so (mbL_turned k0 k2 k4 k9 k7 k8 (wt rh')) (by rw [trL_len, lA])
    · exact fun t g hr => transposed_ok hr.sl bA k0 k1 k2 k3 (by rw [lA, k4]) lA
  · exact Or.inl fun t a b c d hs _ hc => above_no hs hc lC bX bY h

set_option maxRecDepth 100000 in
set_option maxHeartbeats 4000000 in
theorem turned_walk {u : World} {a b : Option Addr} {c d : Nat} {C D : List Nat} {bw X Y w ht : Int} (hg : Gt u) (hi : ByIn u a c C) (hj : ByIn u b d D) (hxy : X ≤ 9223372036854775807 ∧ Y ≤ 9223372036854775807) (hl : C.length ≤ 140737488355328 ∧ D.length ≤ 140737488355328) :
    Calls Tryd.prog 3 #[.agg #[.slice a C.length c, .int .i64 bw, .int .i64 X, .int .i64 Y, .int .i64 w, .int .i64 ht, .slice b D.length d]] u fun e w' => e = .returned (.bool true) ∧ Below u.heap.size u w' := by
  have HT2 : Hid _ := above_two hi.byt hj.byt hl.1 bw X Y w ht hxy.1 hxy.2
  have HG : Hid (Gt u) := hg
  have HS : Hid (Sl u .u8 a C) := hi.sl
  have HT : Hid (Sl u .u8 b D) := hj.sl
  have HCc : Hid (C.length ≤ c) := hi.cap
  have HlC : Hid (C.length ≤ 140737488355328) := hl.1
  have HD0 : Hid (Bd u.heap.size a C.length c bw X Y w ht b D.length d (u.alloc (.cells #[.slice a C.length c, .int .i64 bw, .int .i64 X, .int .i64 Y, .int .i64 w, .int .i64 ht, .slice b D.length d] 26))) := Bd.built u a b C.length c D.length d bw X Y w ht
  have HB0 : Hid (Below u.heap.size u (u.alloc (.cells #[.slice a C.length c, .int .i64 bw, .int .i64 X, .int .i64 Y, .int .i64 w, .int .i64 ht, .slice b D.length d] 26))) := from_alloc _ _
  have hz : u.heap.size < (u.alloc (.cells #[.slice a C.length c, .int .i64 bw, .int .i64 X, .int .i64 Y, .int .i64 w, .int .i64 ht, .slice b D.length d] 26)).heap.size := by simp
  clear hg hi hj hl hxy
  go_enter Tryd.func3, Tryd.ntmps3
  go_wp2_with fail
  generalize (u.alloc (.cells #[.slice a C.length c, .int .i64 bw, .int .i64 X, .int .i64 Y, .int .i64 w, .int .i64 ht, .slice b D.length d] 26)) = V at *
  refine (works_true (HG.out.to HB0.out)).mono ?_
  rintro e v1 ⟨rfl, hb⟩
  have HD1 : Hid (Bd u.heap.size a C.length c bw X Y w ht b D.length d v1) := HD0.out.below hz hb
  have HB1 : Hid (Below u.heap.size u v1) := below_to HB0.out hb
  have hz1 : u.heap.size < v1.heap.size := Nat.lt_of_lt_of_le hz hb.size
  clear hb HD0 HB0 hz
  go_wp2_with fail
  go_loopw [4, 3] (fun i s wr => ∃ (k : Nat) (z : Int), 4 ≤ k ∧ k ≤ 33 ∧ i = .int .i64 k ∧ s = .int .i64 z ∧ (k = 33 → z = 63) ∧ Below v1.heap.size v1 wr) (fun i _ _ => 33 - (intOf i).toNat)
  case atStart => exact ⟨4, 0, by omega, by omega, rfl, rfl, by omega, Below.refl _ _⟩
  case round =>
    obtain ⟨k, z, k4, k33, rfl, rfl, hz33, hbr⟩ := hrel
    have HBr : Hid (Below v1.heap.size v1 wr) := hbr
    clear hbr
    by_cases hlt : k ≤ 32
    · have k0 : (4 : Int) ≤ (k : Int) := by omega
      have k1 : (k : Int) ≤ 32 := by omega
      clear hz33
      go_wp2_with fail
      refine (weights_ok k4 hlt).mono ?_
      rintro e w2 ⟨rfl, hr, hb⟩
      have HC : Hid (∀ t : World, Below w2.heap.size w2 t → ∀ j, j < k → t.cell? ⟨wr.heap.size, j, none⟩ = some (.int .i64 (wt k j : Nat))) := fun t ht' j hj => by
        rw [(hr.to ht').cell j (by rw [wtL_len]; exact hj), wtL_get hj]
      have HB2 : Hid (Below v1.heap.size v1 w2) := below_to HBr.out hb
      have c0 := HC.out w2 (Below.refl _ _) 0 (by omega)
      have c1 := HC.out w2 (Below.refl _ _) (k - 1) (by omega)
      have w0 := wt_in (n := k) (i := 0) (by omega)
      have w1 := wt_in (n := k) (i := k - 1) (by omega)
      have HZ : Hid (k + 1 = 33 → ((wt k (k - 1) : Nat) : Int) = 63) := fun e => by
        obtain rfl : k = 32 := by omega
        rfl
      have ek : (k : Int) - 1 = ((k - 1 : Nat) : Int) := by omega
      have ek1 : (0 : Int) ≤ ((k - 1 : Nat) : Int) := by omega
      have ek2 : ((k - 1 : Nat) : Int) < (k : Int) := by omega
      have HC1 : Hid (∀ t : World, Below w2.heap.size w2 t → t.cell? ⟨wr.heap.size, k - 1, none⟩ = some (.int .i64 (wt k (k - 1) : Nat))) := fun t ht' => HC.out t ht' (k - 1) (by omega)
      generalize wr.heap.size = g at *
      generalize wt k (k - 1) = z1 at *
      generalize wt k 0 = z0 at *
      generalize k - 1 = km at *
      have w2' : (32 : Int) ≤ (z0 : Int) := by omega
      have w3' : (z1 : Int) ≤ 63 := by omega
      have hkk : ((k : Int) != (k : Int)) = false := by simp
      clear hr hb HBr w0 w1
      go_wp2_with fail
      clear c0 c1
      go_loopw [7] (fun i wr => ∃ j : Nat, 1 ≤ j ∧ j ≤ k ∧ i = .int .i64 j ∧ Below w2.heap.size w2 wr) (fun i _ => k - (intOf i).toNat)
      case atStart => exact ⟨1, by omega, by omega, rfl, Below.refl _ _⟩
      case round =>
        obtain ⟨j, j1, jk, rfl, hbr⟩ := hrel
        have HBq : Hid (Below w2.heap.size w2 wr) := hbr
        by_cases hlj : j < k
        · have c0 := HC.out wr hbr j hlj
          have c1 := HC.out wr hbr (j - 1) (by omega)
          have hri := wt_rise k (j - 1)
          rw [show j - 1 + 1 = j from by omega] at hri
          have ej : (j : Int) - 1 = ((j - 1 : Nat) : Int) := by omega
          have ej1 : (0 : Int) ≤ ((j - 1 : Nat) : Int) := by omega
          have ej2 : ((j - 1 : Nat) : Int) < (k : Int) := by omega
          have q0 : (0 : Int) ≤ (j : Int) := by omega
          have q1 : (j : Int) < (k : Int) := by omega
          generalize wt k j = y1 at *
          generalize wt k (j - 1) = y0 at *
          generalize j - 1 = jm at *
          have r0 : (y0 : Int) ≤ (y1 : Int) := by omega
          clear hbr hri
          go_wp2_with fail
          go_quiet (fail)
          have HBn : Hid (Below w2.heap.size w2 (wr.drewN nq)) := below_drewN HBq.out nq
          go_wp2_with fail
          go_roundw
          case rel => exact ⟨j + 1, by omega, by omega, by go_num, HBn.out⟩
          case measure => simp [intOf]; omega
        · obtain rfl : j = k := by omega
          have c1 := HC1.out wr hbr
          have HBn : Hid (Below v1.heap.size v1 wr) := below_to HB2.out hbr
          clear hbr
          go_wp2_with fail
          go_roundw
          case rel => exact ⟨j + 1, _, by omega, by omega, by go_num, rfl, HZ.out, HBn.out⟩
          case measure => simp [intOf]; omega
    · obtain rfl : k = 33 := by omega
      obtain rfl := hz33 rfl
      have HDr : Hid (Bd u.heap.size a C.length c bw X Y w ht b D.length d wr) := HD1.out.below hz1 HBr.out
      have HBu : Hid (Below u.heap.size u wr) := below_to HB1.out HBr.out
      have hzr : u.heap.size < wr.heap.size := Nat.lt_of_lt_of_le hz1 HBr.out.size
      clear HD1 HB1 hz1 HBr
      rcases HT2.out with hno | ⟨w', h', X', Y', rw', rh', A, M, N, rfl, rfl, rfl, rfl, rfl, a0, a1, a2, a3, a4, a5, a6, a7, a8, a9, a10, a11, lA, hAb, hTx, hTy, hLe, hTa⟩
      · have HNo : Hid _ := hno
        have hd := HDr.out
        have e0 := hd.c0
        have e1 := hd.c1
        have e2 := hd.c2
        have e3 := hd.c3
        have e4 := hd.c4
        have e5 := hd.c5
        have e6 := hd.c6
        clear hno HT2 hd
        go_wp2_with fail
        refine (HNo.out _ _ _ _ _ (HS.out.to HBu.out) (HT.out.to HBu.out) HCc.out).mono ?_
        rintro e v3 ⟨rfl, hb⟩
        have HB3 : Hid (Below u.heap.size u v3) := below_to HBu.out hb
        clear hb HNo
        go_wp2_with fail
        go_ret
        exact ⟨rfl, HB3.out⟩
      · have HAb : Hid _ := hAb
        have HTx : Hid _ := hTx
        have HTy : Hid _ := hTy
        have HLe : Hid _ := hLe
        have HTa : Hid _ := hTa
        clear hAb hTx hTy hLe hTa HT2
        have hd := HDr.out
        have e0 := hd.c0
        have e1 := hd.c1
        have e2 := hd.c2
        have e3 := hd.c3
        have e4 := hd.c4
        have e5 := hd.c5
        have e6 := hd.c6
        have hdv : (C.length : Int).tdiv (w' : Int) = (h' : Int) := by
          rw [Int.tdiv_eq_ediv_of_nonneg (by omega), a4, Int.natCast_mul, Int.mul_ediv_cancel_left _ (by omega)]
        have hdv2 : (C.length : Int) / (w' : Int) = (h' : Int) := by rw [a4, Int.natCast_mul, Int.mul_ediv_cancel_left _ (by omega)]
        have hmd : (C.length : Int).tmod (w' : Int) = 0 := by rw [Int.tmod_eq_emod_of_nonneg (by omega), a4, Int.natCast_mul, Int.mul_emod_right]
        have hmd2 : (C.length : Int) % (w' : Int) = 0 := by rw [a4, Int.natCast_mul, Int.mul_emod_right]
        have hcb : C.length ≤ 64 * 64 := by rw [a4]; exact Nat.mul_le_mul a1 a3
        have hdb : D.length ≤ 64 * 64 := by rw [a11]; exact Nat.mul_le_mul a6 a8
        have hdm : (rw' : Int) * (rh' : Int) = (D.length : Int) := by rw [a11, Int.natCast_mul]
        have hdd : ((D.length : Int) != (D.length : Int)) = false := by simp
        have hcc : ((C.length : Int) == (C.length : Int)) = true := by simp
        have i0 : (1 : Int) ≤ (w' : Int) := by omega
        have i1 : (1 : Int) ≤ (rw' : Int) := by omega
        have i2 : ¬ (w' : Int) = 0 := by omega
        have i3 : ¬ w' = 0 := by omega
        have i4 : (C.length : Int) ≤ 4096 := by omega
        have i5 : (D.length : Int) ≤ 4096 := by omega
        have i6 : IntKind.i64.wrap (D.length : Int) = (D.length : Int) := by rw [IntKind.wrap_i64]; omega
        have i7 : IntKind.i64.wrap (h' : Int) = (h' : Int) := by rw [IntKind.wrap_i64]; omega
        have HlA : Hid (A.length = C.length) := lA
        clear hd hcb hdb a4 a11 lA
        go_wp2_with fail
        refine (HAb.out _ _ _ _ _ (HS.out.to HBu.out) (HT.out.to HBu.out) HCc.out).mono ?_
        rintro e v3 ⟨gA, rfl, hrw, _, hb⟩
        have R3 : Hid (Rw v3 gA A) := hrw
        have HB3 : Hid (Below u.heap.size u v3) := below_to HBu.out hb
        have hd := HDr.out.below hzr hb
        have HD3 : Hid (Bd u.heap.size a C.length c (w' : Int) (X' : Int) (Y' : Int) (rw' : Int) (rh' : Int) b D.length d v3) := hd
        have hz3 : u.heap.size < v3.heap.size := Nat.lt_of_lt_of_le hzr hb.size
        clear hrw hb HAb HDr HBu hzr e0 e1 e2 e3 e4 e5 e6
        have e0 := hd.c0
        have e1 := hd.c1
        have e2 := hd.c2
        have e3 := hd.c3
        have e4 := hd.c4
        have e5 := hd.c5
        have e6 := hd.c6
        clear hd
        go_upto_region 19 with fail
        have HK : Hid (∀ t : World, Below v3.drew.heap.size v3.drew t → t.cell? ⟨u.heap.size, 0, none⟩ = some (.slice a C.length c) ∧ t.cell? ⟨u.heap.size, 1, none⟩ = some (.int .i64 (w' : Int)) ∧ t.cell? ⟨u.heap.size, 2, none⟩ = some (.int .i64 (X' : Int)) ∧ t.cell? ⟨u.heap.size, 3, none⟩ = some (.int .i64 (Y' : Int)) ∧ t.cell? ⟨u.heap.size, 4, none⟩ = some (.int .i64 (rw' : Int)) ∧ t.cell? ⟨u.heap.size, 5, none⟩ = some (.int .i64 (rh' : Int)) ∧ t.cell? ⟨u.heap.size, 6, none⟩ = some (.slice b D.length d)) := fun t htt => by
          have h := HD3.out.below hz3 (below_to (below_drew (Below.refl _ _)) htt)
          exact ⟨h.c0, h.c1, h.c2, h.c3, h.c4, h.c5, h.c6⟩
        have HX : Hid (∀ t : World, Below v3.drew.heap.size v3.drew t → Calls Tryd.prog 9 #[.slice a C.length c, .int .i64 (w' : Int)] t fun e w2 => Tz t w2 e C.length M) := fun t htt => HTx.out t _ _ (HS.out.to (below_to (below_drew HB3.out) htt))
        have HY : Hid (∀ t : World, Below v3.drew.heap.size v3.drew t → Calls Tryd.prog 9 #[.slice b D.length d, .int .i64 (rw' : Int)] t fun e w2 => Tz t w2 e D.length N) := fun t htt => HTy.out t _ _ (HT.out.to (below_to (below_drew HB3.out) htt))
        go_cut [10, 11] (fun s s' T => ∃ g, s = .slice (some ⟨g, 0, none⟩) C.length C.length ∧ s' = .int .i64 0 ∧ Rw T g (trL w' h' A) ∧ Below v3.heap.size v3 T)
        case first =>
          go_region_held3 (fun t => t.cell? ⟨u.heap.size, 0, none⟩ = some (.slice a C.length c) ∧ t.cell? ⟨u.heap.size, 1, none⟩ = some (.int .i64 (w' : Int)) ∧ t.cell? ⟨u.heap.size, 2, none⟩ = some (.int .i64 (X' : Int)) ∧ t.cell? ⟨u.heap.size, 3, none⟩ = some (.int .i64 (Y' : Int)) ∧ t.cell? ⟨u.heap.size, 4, none⟩ = some (.int .i64 (rw' : Int)) ∧ t.cell? ⟨u.heap.size, 5, none⟩ = some (.int .i64 (rh' : Int)) ∧ t.cell? ⟨u.heap.size, 6, none⟩ = some (.slice b D.length d))
            ((exact HK.out _ (by first | exact Below.refl _ _ | assumption | exact below_to hbx hby | exact below_to hby hbx | exact below_to (below_to hbx hby) hbz | exact below_to (below_to hby hbx) hbz)))
            ((first
              | (go_at_call 9; (with_reducible refine (HX.out _ (by first | exact Below.refl _ _ | assumption)).mono ?_); rintro e wx ⟨gx, rfl, nx, hbx⟩)
              | (go_at_call 9; (with_reducible refine (HY.out _ (by first | exact Below.refl _ _ | assumption)).mono ?_); rintro e wy ⟨gy, rfl, ny, hby⟩)
              | (go_at_call 8; first | ((with_reducible refine (HLe.out _ _ _ nx (ny.to hbx)).mono ?_); rintro e wz ⟨gz, rfl, nz, _, hbz⟩) | ((with_reducible refine (HLe.out _ _ _ (nx.to hby) ny).mono ?_); rintro e wz ⟨gz, rfl, nz, _, hbz⟩))))
          all_goals
            go_wp2_with fail
            go_meet
            first
              | exact ⟨gz, rfl, rfl, nz, below_to (below_to (below_to (below_drew (Below.refl _ _)) hbx) hby) hbz⟩
              | exact ⟨gz, rfl, rfl, nz, below_to (below_to (below_to (below_drew (Below.refl _ _)) hby) hbx) hbz⟩
        obtain ⟨gz, rfl, rfl, hrw, hb⟩ := hcut
        rename World => v4
        have R4 : Hid (Rw v4 gA A) := R3.out.to hb
        have Q4 : Hid (Rw v4 gz (trL w' h' A)) := hrw
        have HB4 : Hid (Below u.heap.size u v4) := below_to HB3.out hb
        have hd := HD3.out.below hz3 hb
        have HD4 : Hid (Bd u.heap.size a C.length c (w' : Int) (X' : Int) (Y' : Int) (rw' : Int) (rh' : Int) b D.length d v4) := hd
        have hz4 : u.heap.size < v4.heap.size := Nat.lt_of_lt_of_le hz3 hb.size
        clear hrw hb HK HX HY HLe HTx HTy R3 HB3 HD3 hz3 e0 e1 e2 e3 e4 e5 e6
        have e1 := hd.c1
        clear hd
        go_wp2_with fail
        refine (HTa.out _ _ R4.out).mono ?_
        rintro e v5 ⟨gt, rfl, hrw, hb⟩
        have Q5 : Hid (Rw v5 gz (trL w' h' A)) := Q4.out.to hb
        have S5 : Hid (Rw v5 gt (trL w' h' A)) := hrw
        have HB5 : Hid (Below u.heap.size u v5) := below_to HB4.out hb
        have HD5 : Hid (Bd u.heap.size a C.length c (w' : Int) (X' : Int) (Y' : Int) (rw' : Int) (rh' : Int) b D.length d v5) := HD4.out.below hz4 hb
        have hz5 : u.heap.size < v5.heap.size := Nat.lt_of_lt_of_le hz4 hb.size
        clear hrw hb HTa e1 Q4 R4 HB4 HD4 hz4
        go_wp2_with fail
        refine (eqBytes_same (C := trL w' h' A) Q5.out.sl S5.out.sl (by rw [trL_len, HlA.out]) HlC.out).mono ?_
        rintro e v6 ⟨rfl, hb⟩
        have HB6 : Hid (Below u.heap.size u v6) := below_to HB5.out hb
        have e0 := (HD5.out.below hz5 hb).c0
        clear hb
        go_wp2_with fail
        go_ret
        exact ⟨rfl, HB6.out⟩

end Go.Proofs.YtpideemiijhkgabDoor
