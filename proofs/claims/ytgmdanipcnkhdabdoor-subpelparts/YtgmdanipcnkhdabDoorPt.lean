/- DERIVED. The walk of SubpelParts. -/
import Derived.Test.YtgmdanipcnkhdabDoorHb
import Derived.Deep.DeepCutAuto
namespace Go.Proofs.YtgmdanipcnkhdabDoor
open Go.RowKit

set_option maxRecDepth 100000 in
set_option maxHeartbeats 4000000 in
theorem parts_walk {u : World} {a : Option Addr} {c : Nat} {C : List Nat} {W H la lb lc ld le ma mb : Int} (hg : Gt u) (hin : PlIn u W H a c C) :
    Calls Tryd.prog 3 #[.agg #[.int .i64 W, .int .i64 H, .slice a C.length c], .agg #[.int .i64 la, .int .i64 lb, .int .i64 lc, .int .i64 ld, .int .i64 le], .agg #[.int .i64 ma, .int .i64 mb]] u fun e w' => e = .returned (.bool true) ∧ Below u.heap.size u w' := by
  have HG : Hid (Gt u) := hg
  have HI : Hid (PlIn u W H a c C) := hin
  clear hg hin
  go_enter Tryd.func3, Tryd.ntmps3
  go_wp2_with fail
  have HB0 : Hid (Below u.heap.size u (((u.alloc (.cells #[.int .i64 W, .int .i64 H, .slice a C.length c] 24)).alloc (.cells #[.int .i64 la, .int .i64 lb, .int .i64 lc, .int .i64 ld, .int .i64 le] 26)).alloc (.cells #[.int .i64 ma, .int .i64 mb] 27))) := to_alloc (to_alloc (from_alloc _ _) _) _
  have HC0 : Hid (Cx (((u.alloc (.cells #[.int .i64 W, .int .i64 H, .slice a C.length c] 24)).alloc (.cells #[.int .i64 la, .int .i64 lb, .int .i64 lc, .int .i64 ld, .int .i64 le] 26)).alloc (.cells #[.int .i64 ma, .int .i64 mb] 27)) u.heap.size (u.heap.size + 1) W H a C.length c la lb lc ld le) := (Cx.start u W H a C.length c la lb lc ld le).to (from_alloc _ _)
  have HQ0 : Hid (Ri 27 (((u.alloc (.cells #[.int .i64 W, .int .i64 H, .slice a C.length c] 24)).alloc (.cells #[.int .i64 la, .int .i64 lb, .int .i64 lc, .int .i64 ld, .int .i64 le] 26)).alloc (.cells #[.int .i64 ma, .int .i64 mb] 27)) (u.heap.size + 2) [ma, mb]) := Ri.built 27 _ [ma, mb] (by simp)
  generalize (((u.alloc (.cells #[.int .i64 W, .int .i64 H, .slice a C.length c] 24)).alloc (.cells #[.int .i64 la, .int .i64 lb, .int .i64 lc, .int .i64 ld, .int .i64 le] 26)).alloc (.cells #[.int .i64 ma, .int .i64 mb] 27)) = v0 at *
  refine (works_true (HG.out.to HB0.out)).mono ?_
  rintro e v1 ⟨rfl, hb⟩
  have HB1 : Hid (Below u.heap.size u v1) := below_to HB0.out hb
  have HC1 : Hid (Cx v1 u.heap.size (u.heap.size + 1) W H a C.length c la lb lc ld le) := HC0.out.to hb
  have p0 := HC1.out.p0
  have p1 := HC1.out.p1
  have p2 := HC1.out.p2
  have HQ1 : Hid (Ri 27 v1 (u.heap.size + 2) [ma, mb]) := HQ0.out.to hb
  clear hb HB0 HC0 HQ0
  go_wp2_with fail
  refine check_any.mono ?_
  rintro e v2 ⟨rfl, hb⟩
  have HB2 : Hid (Below u.heap.size u v2) := below_to HB1.out hb
  have HC2 : Hid (Cx v2 u.heap.size (u.heap.size + 1) W H a C.length c la lb lc ld le) := HC1.out.to hb
  have HQ2 : Hid (Ri 27 v2 (u.heap.size + 2) [ma, mb]) := HQ1.out.to hb
  clear hb HB1 HC1 p0 p1 p2 HQ1
  by_cases hp : POk W H C
  · rw [ck_ok hp]
    obtain ⟨x, y, rfl, rfl, x0, x1, y0, y1, hxy⟩ := hp.nat
    have HP : Hid (POk (x : Int) (y : Int) C) := hp
    have HX : Hid (1 ≤ x ∧ x ≤ 512 ∧ 1 ≤ y ∧ y ≤ 512 ∧ C.length = x * y) := ⟨x0, x1, y0, y1, hxy⟩
    have l0 := HC2.out.l.c0
    have l1 := HC2.out.l.c1
    have l2 := HC2.out.l.c2
    have l3 := HC2.out.l.c3
    have l4 := HC2.out.l.c4
    clear hp x0 x1 y0 y1 hxy
    go_wp2_with fail
    refine may_any.mono ?_
    rintro e v3 ⟨rfl, hb⟩
    obtain ⟨px, hpx⟩ : ∃ px, px = la % 2000 - 500 := ⟨_, rfl⟩
    obtain ⟨py, hpy⟩ : ∃ py, py = lb % 2000 - 500 := ⟨_, rfl⟩
    obtain ⟨wd, hwd⟩ : ∃ wd : Nat, (wd : Int) = 4 + lc % 13 := ⟨(4 + lc % 13).toNat, by omega⟩
    obtain ⟨ht, hht⟩ : ∃ ht : Nat, (ht : Int) = 4 + ld % 13 := ⟨(4 + ld % 13).toNat, by omega⟩
    obtain ⟨k, hk⟩ : ∃ k : Nat, (k : Int) = le % 3 := ⟨(le % 3).toNat, by omega⟩
    rw [← hpx, ← hpy, ← hwd, ← hht, ← hk]
    have X0 : -500 ≤ px := by omega
    have X1 : px ≤ 1499 := by omega
    have Y0 : -500 ≤ py := by omega
    have Y1 : py ≤ 1499 := by omega
    have W0 : 4 ≤ (wd : Int) := by omega
    have W1 : (wd : Int) ≤ 16 := by omega
    have H0 : 4 ≤ (ht : Int) := by omega
    have H1 : (ht : Int) ≤ 16 := by omega
    have K0 : 0 ≤ (k : Int) := by omega
    have K1 : (k : Int) ≤ 2 := by omega
    clear hpx hpy hwd hht hk
    have HB3 : Hid (Below u.heap.size u v3) := below_to HB2.out hb
    have HC3 : Hid (Cx v3 u.heap.size (u.heap.size + 1) (x : Int) (y : Int) a C.length c la lb lc ld le) := HC2.out.to hb
    have HQ3 : Hid (Ri 27 v3 (u.heap.size + 2) [ma, mb]) := HQ2.out.to hb
    clear hb HB2 HC2 HQ2 l0 l1 l2 l3 l4
    have l0 := HC3.out.l.c0
    have l1 := HC3.out.l.c1
    have l2 := HC3.out.l.c2
    have l3 := HC3.out.l.c3
    have l4 := HC3.out.l.c4
    have f0 := HC3.out.fr 0
    have f1 := HC3.out.fr 1
    have f2 := HC3.out.fr 2
    have f3 := HC3.out.fr 3
    have f4 := HC3.out.fr 4
    have p0 := HC3.out.p0
    have p1 := HC3.out.p1
    have p2 := HC3.out.p2
    go_upto_region 6 with fail
    have HC4 : Hid (Cx (((((v3.setCell ⟨u.heap.size + 1, 0, none⟩ (.int .i64 px)).setCell ⟨u.heap.size + 1, 1, none⟩ (.int .i64 py)).setCell ⟨u.heap.size + 1, 2, none⟩ (.int .i64 (wd : Int))).setCell ⟨u.heap.size + 1, 3, none⟩ (.int .i64 (ht : Int))).setCell ⟨u.heap.size + 1, 4, none⟩ (.int .i64 (k : Int))) u.heap.size (u.heap.size + 1) (x : Int) (y : Int) a C.length c px py (wd : Int) (ht : Int) (k : Int)) := HC3.out.put (by omega) px py (wd : Int) (ht : Int) (k : Int)
    have HB4 : Hid (Below u.heap.size u (((((v3.setCell ⟨u.heap.size + 1, 0, none⟩ (.int .i64 px)).setCell ⟨u.heap.size + 1, 1, none⟩ (.int .i64 py)).setCell ⟨u.heap.size + 1, 2, none⟩ (.int .i64 (wd : Int))).setCell ⟨u.heap.size + 1, 3, none⟩ (.int .i64 (ht : Int))).setCell ⟨u.heap.size + 1, 4, none⟩ (.int .i64 (k : Int)))) := below_set5 HB3.out (by omega)
    have HQ4 : Hid (Ri 27 (((((v3.setCell ⟨u.heap.size + 1, 0, none⟩ (.int .i64 px)).setCell ⟨u.heap.size + 1, 1, none⟩ (.int .i64 py)).setCell ⟨u.heap.size + 1, 2, none⟩ (.int .i64 (wd : Int))).setCell ⟨u.heap.size + 1, 3, none⟩ (.int .i64 (ht : Int))).setCell ⟨u.heap.size + 1, 4, none⟩ (.int .i64 (k : Int))) (u.heap.size + 2) [ma, mb]) := ((((HQ3.out.far (by simp) _).far (by simp) _).far (by simp) _).far (by simp) _).far (by simp) _
    generalize (((((v3.setCell ⟨u.heap.size + 1, 0, none⟩ (.int .i64 px)).setCell ⟨u.heap.size + 1, 1, none⟩ (.int .i64 py)).setCell ⟨u.heap.size + 1, 2, none⟩ (.int .i64 (wd : Int))).setCell ⟨u.heap.size + 1, 3, none⟩ (.int .i64 (ht : Int))).setCell ⟨u.heap.size + 1, 4, none⟩ (.int .i64 (k : Int))) = v4 at *
    clear HB3 HC3 HQ3 l0 l1 l2 l3 l4 f0 f1 f2 f3 f4 p0 p1 p2
    have l0 := HC4.out.l.c0
    have l1 := HC4.out.l.c1
    have l2 := HC4.out.l.c2
    have l3 := HC4.out.l.c3
    have l4 := HC4.out.l.c4
    have p0 := HC4.out.p0
    have p1 := HC4.out.p1
    have p2 := HC4.out.p2
    have HF : Hid (∀ t : World, Below v4.heap.size v4 t → ∀ (qx qy : Int) (qw qh : Nat), -1048576 ≤ qx ∧ qx ≤ 1048576 → -1048576 ≤ qy ∧ qy ≤ 1048576 → 4 ≤ (qw : Int) ∧ (qw : Int) ≤ 64 → 4 ≤ (qh : Int) ∧ (qh : Int) ≤ 64 → Calls Tryd.prog 9 #[.agg #[.int .i64 (x : Int), .int .i64 (y : Int), .slice a C.length c], .int .i64 qx, .int .i64 qy, .int .i64 (qw : Int), .int .i64 (qh : Int), .int .i64 (k : Int)] t fun e w' => Fd t w' e (fe C x y qx qy qw qh k)) :=
      fun t ht qx qy qw qh h1 h2 h3 h4 => fetch_ok ((HG.out.to HB4.out).to ht) ((HI.out.sl.to HB4.out).to ht) HI.out.byt ⟨HP.out, h1, h2, h3, h4, by omega⟩
    obtain ⟨n, hn⟩ : ∃ n, n = wd * ht := ⟨_, rfl⟩
    have HN : Hid (n = wd * ht) := hn
    have en : (wd : Int) * (ht : Int) = (n : Int) := by rw [← Int.natCast_mul, hn]
    have nb : n ≤ 16 * 16 := by rw [hn]; exact Nat.mul_le_mul (by omega) (by omega)
    have n1 : (n : Int) ≤ 256 := by omega
    have HL : Hid ((fe C x y px py wd ht k).length = n) := by show _ = _; rw [fe_len, hn]
    obtain ⟨r, hr⟩ : ∃ r : Nat, ma % ((wd : Int) - 3) = (r : Int) := ⟨(ma % ((wd : Int) - 3)).toNat, by have := Int.emod_nonneg ma (show (wd : Int) - 3 ≠ 0 by omega); omega⟩
    obtain ⟨d, hd⟩ : ∃ d : Nat, mb % ((ht : Int) - 3) = (d : Int) := ⟨(mb % ((ht : Int) - 3)).toNat, by have := Int.emod_nonneg mb (show (ht : Int) - 3 ≠ 0 by omega); omega⟩
    have hr4 : r + 4 ≤ wd := by have := Int.emod_lt_of_pos ma (show (0 : Int) < (wd : Int) - 3 by omega); omega
    have hd4 : d + 4 ≤ ht := by have := Int.emod_lt_of_pos mb (show (0 : Int) < (ht : Int) - 3 by omega); omega
    have HV : Hid (∀ i, i < 16 → (fe C x y (px + 16 * (r : Int)) (py + 16 * (d : Int)) 4 4 k).getD i 0 = (fe C x y px py wd ht k).getD ((d + i / 4) * wd + r + i % 4) 0) := fun i hi => fe_part hr4 hd4 hi
    have HK1 : Hid (∀ t : World, Calls Tryd.prog 10 #[.int .i64 ma, .int .i64 ((wd : Int) - 3)] t fun e w' => e = .returned (.int .i64 (r : Int)) ∧ w' = t) := fun t => by
      have := bring_any (w := t) (i := ma) (n := (wd : Int) - 3) (by omega) (by omega)
      rw [hr] at this
      exact this.mono fun e w' h => ⟨h.1, h.2.symm⟩
    have HK2 : Hid (∀ t : World, Calls Tryd.prog 10 #[.int .i64 mb, .int .i64 ((ht : Int) - 3)] t fun e w' => e = .returned (.int .i64 (d : Int)) ∧ w' = t) := fun t => by
      have := bring_any (w := t) (i := mb) (n := (ht : Int) - 3) (by omega) (by omega)
      rw [hd] at this
      exact this.mono fun e w' h => ⟨h.1, h.2.symm⟩
    have r1 : (r : Int) + 4 ≤ (wd : Int) := by omega
    have d1 : (d : Int) + 4 ≤ (ht : Int) := by omega
    have HF1 : Hid (Calls Tryd.prog 9 #[.agg #[.int .i64 (x : Int), .int .i64 (y : Int), .slice a C.length c], .int .i64 px, .int .i64 py, .int .i64 (wd : Int), .int .i64 (ht : Int), .int .i64 (k : Int)] v4 fun e w' => Fd v4 w' e (fe C x y px py wd ht k)) := HF.out v4 (Below.refl _ _) px py wd ht (by omega) (by omega) (by omega) (by omega)
    have HF2 : Hid (∀ t : World, Below v4.heap.size v4 t → Calls Tryd.prog 9 #[.agg #[.int .i64 (x : Int), .int .i64 (y : Int), .slice a C.length c], .int .i64 (px + 16 * (r : Int)), .int .i64 (py + 16 * (d : Int)), .int .i64 4, .int .i64 4, .int .i64 (k : Int)] t fun e w' => Fd t w' e (fe C x y (px + 16 * (r : Int)) (py + 16 * (d : Int)) 4 4 k)) := fun t ht => HF.out t ht _ _ 4 4 (by omega) (by omega) (by omega) (by omega)
    have HL2 : Hid ((fe C x y (px + 16 * (r : Int)) (py + 16 * (d : Int)) 4 4 k).length = 16) := fe_len _ _ _ _ _ _ _ _
    clear hn nb hr hd HF
    generalize fe C x y px py wd ht k = L at *
    generalize fe C x y (px + 16 * (r : Int)) (py + 16 * (d : Int)) 4 4 k = M at *
    have hne : ((n : Int) != (n : Int)) = false := by simp
    go_wp2_with fail
    refine HF1.out.mono ?_
    rintro e v5 ⟨g, rfl, hrw, _, hb⟩
    rw [HL.out]
    have HR5 : Hid (Rw v5 g L) := hrw
    have HB5 : Hid (Below v4.heap.size v4 v5) := hb
    have HC5 : Hid (Cx v5 u.heap.size (u.heap.size + 1) (x : Int) (y : Int) a C.length c px py (wd : Int) (ht : Int) (k : Int)) := HC4.out.to hb
    have HQ5 : Hid (Ri 27 v5 (u.heap.size + 2) [ma, mb]) := HQ4.out.to hb
    clear hrw hb HF1 HC4 HQ4 l0 l1 l2 l3 l4 p0 p1 p2
    have l0 := HC5.out.l.c0
    have l1 := HC5.out.l.c1
    have l2 := HC5.out.l.c2
    have l3 := HC5.out.l.c3
    have l4 := HC5.out.l.c4
    have p0 := HC5.out.p0
    have p1 := HC5.out.p1
    have p2 := HC5.out.p2
    have q0 : v5.cell? ⟨u.heap.size + 2, 0, none⟩ = some (.int .i64 ma) := HQ5.out.cell 0 (by simp)
    have q1 : v5.cell? ⟨u.heap.size + 2, 1, none⟩ = some (.int .i64 mb) := HQ5.out.cell 1 (by simp)
    go_wp2_with fail
    go_quiet ((first | (go_at_call 10; with_reducible exact Calls.quiet_of_same (HK1.out _)) | (go_at_call 10; with_reducible exact Calls.quiet_of_same (HK2.out _))))
    have HB6 : Hid (Below v4.heap.size v4 (v5.drewN nq)) := below_drewN HB5.out nq
    have HC6 : Hid (Cx (v5.drewN nq) u.heap.size (u.heap.size + 1) (x : Int) (y : Int) a C.length c px py (wd : Int) (ht : Int) (k : Int)) := HC5.out.to (below_drewN (Below.refl _ _) nq)
    have HR6 : Hid (Rw (v5.drewN nq) g L) := HR5.out.to (below_drewN (Below.refl _ _) nq)
    generalize v5.drewN nq = v6 at *
    clear HB5 HC5 HQ5 HR5 l0 l1 l2 l3 l4 p0 p1 p2 q0 q1 HK1 HK2
    have l0 := HC6.out.l.c0
    have l1 := HC6.out.l.c1
    have l2 := HC6.out.l.c2
    have l3 := HC6.out.l.c3
    have l4 := HC6.out.l.c4
    have p0 := HC6.out.p0
    have p1 := HC6.out.p1
    have p2 := HC6.out.p2
    go_wp2_with fail
    refine (HF2.out _ HB6.out).mono ?_
    rintro e v7 ⟨g2, rfl, hrw, _, hb⟩
    rw [HL2.out]
    have HR7 : Hid (Rw v7 g2 M) := hrw
    have HS7 : Hid (Rw v7 g L) := HR6.out.to hb
    have HB7 : Hid (Below u.heap.size u v7) := below_to (below_to HB4.out HB6.out) hb
    have HC7 : Hid (Cx v7 u.heap.size (u.heap.size + 1) (x : Int) (y : Int) a C.length c px py (wd : Int) (ht : Int) (k : Int)) := HC6.out.to hb
    clear hrw hb HF2 HC6 HR6 HB6 HB4 l0 l1 l2 l3 l4 p0 p1 p2
    have l0 := HC7.out.l.c0
    have l1 := HC7.out.l.c1
    have l2 := HC7.out.l.c2
    have l3 := HC7.out.l.c3
    have l4 := HC7.out.l.c4
    have p0 := HC7.out.p0
    have p1 := HC7.out.p1
    have p2 := HC7.out.p2
    go_wp2_with fail
    go_loopw [13] (fun i wr => ∃ j m : Nat, j ≤ 16 ∧ i = .int .i64 j ∧ wr = v7.drewN m) (fun i _ => 16 - (intOf i).toNat)
    case atStart => exact ⟨0, 0, by omega, rfl, rfl⟩
    case round =>
      clear l0 l1 l2 l3 l4 p0 p1 p2
      obtain ⟨j, m, hj, rfl, rfl⟩ := hrel
      by_cases hlt : j < 16
      · have j0 : (0 : Int) ≤ (j : Int) := by omega
        have j1 : (j : Int) < 16 := by omega
        have hv := HV.out j hlt
        obtain ⟨z, hz⟩ : ∃ z, z = (d + j / 4) * wd + r + j % 4 := ⟨_, rfl⟩
        have hzn : z < n := by rw [hz, HN.out, Nat.add_assoc]; exact at_lt (by omega) (by omega)
        have c0 : (v7.drewN m).cell? ⟨g2, j, none⟩ = some (.int .u8 (M.getD j 0 : Nat)) := HR7.out.cell j (by rw [HL2.out]; exact hlt)
        have c1 : (v7.drewN m).cell? ⟨g, z, none⟩ = some (.int .u8 (L.getD z 0 : Nat)) := HS7.out.cell z (by rw [HL.out]; exact hzn)
        have l2 : (v7.drewN m).cell? ⟨u.heap.size + 1, 2, none⟩ = some (.int .i64 (wd : Int)) := HC7.out.l.c2
        rw [hv, ← hz] at c0
        obtain ⟨q, hq⟩ : ∃ q, q = j / 4 := ⟨_, rfl⟩
        obtain ⟨p, hp⟩ : ∃ p, p = j % 4 := ⟨_, rfl⟩
        obtain ⟨y, hy⟩ : ∃ y, y = (d + q) * wd := ⟨_, rfl⟩
        have m1 : (j : Int).tmod 4 = (p : Int) := by rw [hp, Int.tmod_eq_emod_of_nonneg (by omega)]; rfl
        have m2 : (j : Int).tdiv 4 = (q : Int) := by rw [hq, Int.tdiv_eq_ediv_of_nonneg (by omega)]; rfl
        have m3 : (j : Int) % 4 = (p : Int) := by rw [hp]; rfl
        have m4 : (j : Int) / 4 = (q : Int) := by rw [hq]; rfl
        have t0 : IntKind.i64.wrap (q : Int) = (q : Int) := by rw [IntKind.wrap_i64]; omega
        have t1 : IntKind.i64.wrap ((d : Int) + (q : Int)) = ((d + q : Nat) : Int) := by rw [IntKind.wrap_i64]; omega
        have hz2 : z = y + r + p := by rw [hz, hy, hq, hp]
        have t2 : IntKind.i64.wrap (((d + q : Nat) : Int) * (wd : Int)) = (y : Int) := by rw [← Int.natCast_mul, ← hy, IntKind.wrap_i64]; omega
        have t3 : IntKind.i64.wrap ((y : Int) + (r : Int)) = ((y + r : Nat) : Int) := by rw [IntKind.wrap_i64]; omega
        have t4 : IntKind.i64.wrap (((y + r : Nat) : Int) + (p : Int)) = (z : Int) := by rw [IntKind.wrap_i64]; omega
        have z0 : (0 : Int) ≤ (z : Int) := by omega
        have z1 : (z : Int) < (n : Int) := by omega
        generalize L.getD z 0 = s at *
        generalize hW : v7.drewN m = v at *
        have HW : Hid (v7.drewN m = v) := hW
        generalize y + r = yr at *
        generalize d + q = dq at *
        have hss : ((s : Int) != (s : Int)) = false := by simp
        clear hW hv hz hq hp hy hz2 hzn
        go_wp2_with fail
        go_quiet (fail)
        go_wp2_with fail
        go_roundw
        case rel => exact ⟨j + 1, m + nq, by omega, by go_num, by rw [← HW.out]; exact drewN_drewN _ _ _⟩
        case measure => simp [intOf]; omega
      · have HB8 : Hid (Below u.heap.size u (v7.drewN m)) := below_drewN HB7.out m
        go_wp2_with fail
        go_ret
        exact ⟨rfl, HB8.out⟩
  · rw [ck_no hp]
    clear hp
    go_wp2_with fail
    go_ret
    exact ⟨rfl, HB2.out⟩

end Go.Proofs.YtgmdanipcnkhdabDoor
