/- DERIVED. The walk of SubpelBetween. -/
import Derived.Test.YtgmdanipcnkhdabDoorHb
import Derived.Deep.DeepCutAuto
namespace Go.Proofs.YtgmdanipcnkhdabDoor
open Go.RowKit

set_option maxRecDepth 100000 in
set_option maxHeartbeats 4000000 in
theorem between_walk {u : World} {a : Option Addr} {c : Nat} {C : List Nat} {W H la lb lc ld le : Int} (hg : Gt u) (hin : PlIn u W H a c C) :
    Calls Tryd.prog 4 #[.agg #[.int .i64 W, .int .i64 H, .slice a C.length c], .agg #[.int .i64 la, .int .i64 lb, .int .i64 lc, .int .i64 ld, .int .i64 le]] u fun e w' => e = .returned (.bool true) ∧ Below u.heap.size u w' := by
  have HG : Hid (Gt u) := hg
  have HI : Hid (PlIn u W H a c C) := hin
  clear hg hin
  go_enter Tryd.func4, Tryd.ntmps4
  go_wp2_with fail
  have HB0 : Hid (Below u.heap.size u ((u.alloc (.cells #[.int .i64 W, .int .i64 H, .slice a C.length c] 24)).alloc (.cells #[.int .i64 la, .int .i64 lb, .int .i64 lc, .int .i64 ld, .int .i64 le] 26))) := to_alloc (from_alloc _ _) _
  have HC0 : Hid (Cx ((u.alloc (.cells #[.int .i64 W, .int .i64 H, .slice a C.length c] 24)).alloc (.cells #[.int .i64 la, .int .i64 lb, .int .i64 lc, .int .i64 ld, .int .i64 le] 26)) u.heap.size (u.heap.size + 1) W H a C.length c la lb lc ld le) := Cx.start u W H a C.length c la lb lc ld le
  generalize (u.alloc (.cells #[.int .i64 W, .int .i64 H, .slice a C.length c] 24)).alloc (.cells #[.int .i64 la, .int .i64 lb, .int .i64 lc, .int .i64 ld, .int .i64 le] 26) = v0 at *
  refine (works_true (HG.out.to HB0.out)).mono ?_
  rintro e v1 ⟨rfl, hb⟩
  have HB1 : Hid (Below u.heap.size u v1) := below_to HB0.out hb
  have HC1 : Hid (Cx v1 u.heap.size (u.heap.size + 1) W H a C.length c la lb lc ld le) := HC0.out.to hb
  have p0 := HC1.out.p0
  have p1 := HC1.out.p1
  have p2 := HC1.out.p2
  clear hb HB0 HC0
  go_wp2_with fail
  refine check_any.mono ?_
  rintro e v2 ⟨rfl, hb⟩
  have HB2 : Hid (Below u.heap.size u v2) := below_to HB1.out hb
  have HC2 : Hid (Cx v2 u.heap.size (u.heap.size + 1) W H a C.length c la lb lc ld le) := HC1.out.to hb
  clear hb HB1 HC1 p0 p1 p2
  by_cases hp : POk W H C
  · rw [ck_ok hp]
    obtain ⟨x, y, rfl, rfl, x0, x1, y0, y1, hxy⟩ := hp.nat
    have HP : Hid (POk (x : Int) (y : Int) C) := hp
    have HX : Hid (1 ≤ x ∧ x ≤ 512 ∧ 1 ≤ y ∧ y ≤ 512 ∧ C.length = x * y) := ⟨x0, x1, y0, y1, hxy⟩
    have l0 := HC2.out.l.c0
    have l1 := HC2.out.l.c1
    have l2 := HC2.out.l.c2
    have l3 := HC2.out.l.c3
    have l4 := HC2.out.l.c4
    clear hp x0 x1 y0 y1 hxy
    go_wp2_with fail
    refine may_any.mono ?_
    rintro e v3 ⟨rfl, hb⟩
    obtain ⟨px, hpx⟩ : ∃ px, px = la % 2000 - 500 := ⟨_, rfl⟩
    obtain ⟨py, hpy⟩ : ∃ py, py = lb % 2000 - 500 := ⟨_, rfl⟩
    obtain ⟨wd, hwd⟩ : ∃ wd : Nat, (wd : Int) = 4 + lc % 13 := ⟨(4 + lc % 13).toNat, by omega⟩
    obtain ⟨ht, hht⟩ : ∃ ht : Nat, (ht : Int) = 4 + ld % 13 := ⟨(4 + ld % 13).toNat, by omega⟩
    obtain ⟨k, hk⟩ : ∃ k : Nat, (k : Int) = le % 3 := ⟨(le % 3).toNat, by omega⟩
    rw [← hpx, ← hpy, ← hwd, ← hht, ← hk]
    have X0 : -500 ≤ px := by omega
    have X1 : px ≤ 1499 := by omega
    have Y0 : -500 ≤ py := by omega
    have Y1 : py ≤ 1499 := by omega
    have W0 : 4 ≤ (wd : Int) := by omega
    have W1 : (wd : Int) ≤ 16 := by omega
    have H0 : 4 ≤ (ht : Int) := by omega
    have H1 : (ht : Int) ≤ 16 := by omega
    have K0 : 0 ≤ (k : Int) := by omega
    have K1 : (k : Int) ≤ 2 := by omega
    clear hpx hpy hwd hht hk
    have HB3 : Hid (Below u.heap.size u v3) := below_to HB2.out hb
    have HC3 : Hid (Cx v3 u.heap.size (u.heap.size + 1) (x : Int) (y : Int) a C.length c la lb lc ld le) := HC2.out.to hb
    clear hb HB2 HC2 l0 l1 l2 l3 l4
    have l0 := HC3.out.l.c0
    have l1 := HC3.out.l.c1
    have l2 := HC3.out.l.c2
    have l3 := HC3.out.l.c3
    have l4 := HC3.out.l.c4
    have f0 := HC3.out.fr 0
    have f1 := HC3.out.fr 1
    have f2 := HC3.out.fr 2
    have f3 := HC3.out.fr 3
    have f4 := HC3.out.fr 4
    have p0 := HC3.out.p0
    have p1 := HC3.out.p1
    have p2 := HC3.out.p2
    go_upto_region 6 with fail
    have HC4 : Hid (Cx (((((v3.setCell ⟨u.heap.size + 1, 0, none⟩ (.int .i64 px)).setCell ⟨u.heap.size + 1, 1, none⟩ (.int .i64 py)).setCell ⟨u.heap.size + 1, 2, none⟩ (.int .i64 (wd : Int))).setCell ⟨u.heap.size + 1, 3, none⟩ (.int .i64 (ht : Int))).setCell ⟨u.heap.size + 1, 4, none⟩ (.int .i64 (k : Int))) u.heap.size (u.heap.size + 1) (x : Int) (y : Int) a C.length c px py (wd : Int) (ht : Int) (k : Int)) := HC3.out.put (by omega) px py (wd : Int) (ht : Int) (k : Int)
    have HB4 : Hid (Below u.heap.size u (((((v3.setCell ⟨u.heap.size + 1, 0, none⟩ (.int .i64 px)).setCell ⟨u.heap.size + 1, 1, none⟩ (.int .i64 py)).setCell ⟨u.heap.size + 1, 2, none⟩ (.int .i64 (wd : Int))).setCell ⟨u.heap.size + 1, 3, none⟩ (.int .i64 (ht : Int))).setCell ⟨u.heap.size + 1, 4, none⟩ (.int .i64 (k : Int)))) := below_set5 HB3.out (by omega)
    generalize (((((v3.setCell ⟨u.heap.size + 1, 0, none⟩ (.int .i64 px)).setCell ⟨u.heap.size + 1, 1, none⟩ (.int .i64 py)).setCell ⟨u.heap.size + 1, 2, none⟩ (.int .i64 (wd : Int))).setCell ⟨u.heap.size + 1, 3, none⟩ (.int .i64 (ht : Int))).setCell ⟨u.heap.size + 1, 4, none⟩ (.int .i64 (k : Int))) = v4 at *
    clear HB3 HC3 l0 l1 l2 l3 l4 f0 f1 f2 f3 f4 p0 p1 p2
    have l0 := HC4.out.l.c0
    have l1 := HC4.out.l.c1
    have l2 := HC4.out.l.c2
    have l3 := HC4.out.l.c3
    have l4 := HC4.out.l.c4
    have p0 := HC4.out.p0
    have p1 := HC4.out.p1
    have p2 := HC4.out.p2
    have HF : Hid (Calls Tryd.prog 9 #[.agg #[.int .i64 (x : Int), .int .i64 (y : Int), .slice a C.length c], .int .i64 px, .int .i64 py, .int .i64 (wd : Int), .int .i64 (ht : Int), .int .i64 2] v4 fun e w' => Fd v4 w' e (fe C x y px py wd ht 2)) :=
      fetch_ok (k := 2) (HG.out.to HB4.out) (HI.out.sl.to HB4.out) HI.out.byt ⟨HP.out, by omega, by omega, by omega, by omega, by omega⟩
    obtain ⟨n, hn⟩ : ∃ n, n = wd * ht := ⟨_, rfl⟩
    have HN : Hid (n = wd * ht) := hn
    have en : (wd : Int) * (ht : Int) = (n : Int) := by rw [← Int.natCast_mul, hn]
    have nb : n ≤ 16 * 16 := by rw [hn]; exact Nat.mul_le_mul (by omega) (by omega)
    have n1 : (n : Int) ≤ 256 := by omega
    have HL : Hid ((fe C x y px py wd ht 2).length = n) := by show _ = _; rw [fe_len, hn]
    have HV : Hid (∀ i, i < n → mnK C C.length ≤ (fe C x y px py wd ht 2).getD i 0 ∧ (fe C x y px py wd ht 2).getD i 0 ≤ mxK C C.length) := fun i hi => fe_between (by rw [← hn]; exact hi) (sp_at HX.out.1 HX.out.2.2.1 HX.out.2.2.2.2) (mxK_le HI.out.byt _)
    clear hn nb
    generalize fe C x y px py wd ht 2 = L at *
    have hne : ((n : Int) != (n : Int)) = false := by simp
    have HCl : Hid (C.length ≤ 262144) := by
      show _ ≤ _
      obtain ⟨_, q1, _, q3, q4⟩ := HX.out
      rw [q4]; exact Nat.mul_le_mul q1 q3
    have c1 : (C.length : Int) ≤ 262144 := by have := HCl.out; omega
    have HCe : Hid (∀ j, j < C.length → ∃ b o, a = some ⟨b, o, none⟩ ∧ v4.cell? ⟨b, o + j, none⟩ = some (.int .u8 (C.getD j 0 : Nat))) := fun j hj => by
      obtain ⟨b, o, e, _, hc⟩ := (HI.out.sl.to HB4.out).form (by omega)
      exact ⟨b, o, e, hc j hj⟩
    go_wp2_with fail
    go_loopw [7, 5, 6] (fun i s m wr => ∃ j : Nat, j ≤ C.length ∧ i = .int .i64 j ∧ s = .int .u8 (mnK C j : Nat) ∧ m = .int .u8 (mxK C j : Nat) ∧ wr = v4) (fun i _ _ _ => C.length - (intOf i).toNat)
    case atStart => exact ⟨0, by omega, rfl, rfl, rfl, rfl⟩
    case round =>
      obtain ⟨j, hj, rfl, rfl, rfl, rfl⟩ := hrel
      by_cases hlt : j < C.length
      · obtain ⟨b, o, rfl, d0⟩ := HCe.out j hlt
        have j0 : (0 : Int) ≤ (j : Int) := by omega
        have j1 : (j : Int) < (C.length : Int) := by omega
        have HM : Hid (mnK C (j + 1) = min (mnK C j) (C.getD j 0)) := rfl
        have HMx : Hid (mxK C (j + 1) = max (mxK C j) (C.getD j 0)) := rfl
        generalize mnK C j = m0 at *
        generalize mxK C j = m1 at *
        generalize C.getD j 0 = s at *
        go_wp2_with fail
        all_goals
          go_roundw
          case rel => exact ⟨j + 1, by omega, by go_num, by rw [HM.out]; congr 1; omega, by rw [HMx.out]; congr 1; omega, trivial⟩
          case measure => simp [intOf]; omega
      · obtain rfl : j = C.length := by omega
        generalize mnK C C.length = lo at *
        generalize mxK C C.length = hi at *
        go_wp2_with fail
        refine HF.out.mono ?_
        rintro e v5 ⟨g, rfl, hr, _, hb⟩
        rw [HL.out]
        have HR5 : Hid (Rw v5 g L) := hr
        have HB5 : Hid (Below u.heap.size u v5) := below_to HB4.out hb
        have HC5 : Hid (Cx v5 u.heap.size (u.heap.size + 1) (x : Int) (y : Int) a C.length c px py (wd : Int) (ht : Int) (k : Int)) := HC4.out.to hb
        clear hr hb HF HC4 HB4 l0 l1 l2 l3 l4 p0 p1 p2 HCe
        have l0 := HC5.out.l.c0
        have l1 := HC5.out.l.c1
        have l2 := HC5.out.l.c2
        have l3 := HC5.out.l.c3
        have l4 := HC5.out.l.c4
        have p0 := HC5.out.p0
        have p1 := HC5.out.p1
        have p2 := HC5.out.p2
        go_wp2_with fail
        go_loopw [10] (fun i wr => ∃ j : Nat, j ≤ n ∧ i = .int .i64 j ∧ wr = v5) (fun i _ => n - (intOf i).toNat)
        case atStart => exact ⟨0, by omega, rfl, rfl⟩
        case round =>
          obtain ⟨q, hq, rfl, rfl⟩ := hrel
          by_cases hlq : q < n
          · have q0 : (0 : Int) ≤ (q : Int) := by omega
            have q1 : (q : Int) < (n : Int) := by omega
            have d0 := HR5.out.cell q (by rw [HL.out]; exact hlq)
            obtain ⟨y0, y1⟩ := HV.out q hlq
            generalize L.getD q 0 = s at *
            have y2 : ¬ (s : Int) < (lo : Int) := by omega
            have y3 : ¬ (hi : Int) < (s : Int) := by omega
            go_wp2_with fail
            go_roundw
            case rel => exact ⟨q + 1, by omega, by go_num, trivial⟩
            case measure => simp [intOf]; omega
          · go_wp2_with fail
            go_ret
            exact ⟨rfl, HB5.out⟩
  · rw [ck_no hp]
    clear hp
    go_wp2_with fail
    go_ret
    exact ⟨rfl, HB2.out⟩

end Go.Proofs.YtgmdanipcnkhdabDoor
