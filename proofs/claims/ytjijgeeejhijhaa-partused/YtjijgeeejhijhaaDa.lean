/- DERIVED. The document's Cuts. -/
import Derived.Test.YtjijgeeejhijhaaCf
import Derived.Deep.DeepCutAuto
import Derived.Deep.Light
namespace Go.Proofs.Ytjijgeeejhijhaa
open Go.RowKit

set_option maxRecDepth 100000 in
set_option maxHeartbeats 20000000 in
theorem rcuts_h {w : World} {x y s c h q tn : Int} (hr : rgn x y s s = true) (c0 : 0 ≤ c) (hc : c < tn) (ht : tyN s = tn) (h10 : tn ≤ 10) (hh : s.tdiv 2 = h) (hq : s.tdiv 4 = q) (h0 : 0 ≤ h) (h1 : h ≤ 32) (q0 : 0 ≤ q) (q1 : q ≤ 16) :
    Calls Try.prog 12 #[.agg #[.int .i64 x, .int .i64 y, .int .i64 s, .int .i64 s], .int .i64 c] w fun e w' => Cq w w' e (cutH c.toNat x y s h q) := by
  obtain ⟨hs, -, ⟨x0, x1, -⟩, ⟨y0, y1, -⟩⟩ := rgn_in hr
  have HIR : Hid (∀ u, Calls Try.prog 26 #[.agg #[.int .i64 x, .int .i64 y, .int .i64 s, .int .i64 s]] u fun e w' => e = .returned (.bool true) ∧ Below u.heap.size u w') := fun u => by rw [← hr]; exact region_any
  have HTy : Hid (∀ u, Calls Try.prog 10 #[.int .i64 s] u fun e w' => e = .returned (.tuple #[.int .i64 tn, .int .i64 0]) ∧ u = w') := fun u => by have := rtypes_any (w := u) (s := s); rwa [erS_0 hs, ht] at this
  have HB0 : Hid (Below w.heap.size w (w.alloc (.cells #[.int .i64 x, .int .i64 y, .int .i64 s, .int .i64 s] 23))) := from_alloc _ _
  have HV0 : Hid (Vr (w.alloc (.cells #[.int .i64 x, .int .i64 y, .int .i64 s, .int .i64 s] 23)) w.heap.size (x, y, s, s)) := Vr.box _ _ _ _ _
  have hc10 : c < 10 := by omega
  have HC : Hid (c < 10) := hc10
  clear hr hs ht hc10
  go_enter Try.func12, Try.ntmps12
  go_wp2_with fail
  refine (HTy.out _).mono ?_
  rintro e w5 ⟨rfl, rfl⟩
  go_wp2_with fail
  refine (HIR.out _).mono ?_
  rintro e w1 ⟨rfl, hb⟩
  have HB1 : Hid (Below w.heap.size w w1) := below_to HB0.out hb
  have HV1 : Hid (Vr w1 w.heap.size (x, y, s, s)) := HV0.out.to hb
  generalize hP : w.heap.size = pr at *
  have HP : Hid (w.heap.size = pr) := hP
  clear hb HB0 HV0 HIR HTy hP
  have v0 := HV1.out.cl.c0
  have v1 := HV1.out.cl.c1
  have v2 := HV1.out.cl.c2
  simp only [Nat.zero_add] at v0 v1 v2
  go_upto_region 4 with fail
  go_cut [8, 9, 10] (fun s8 s9 s10 T => s8 = .int .i64 x ∧ s9 = .int .i64 y ∧ s10 = .int .i64 s ∧ Below w1.heap.size w1 T)
  case first =>
    go_quiet (fail)
    go_wp2_with fail
    go_meet
    exact ⟨rfl, rfl, rfl, below_drewN (Below.refl _ _) _⟩
  obtain ⟨rfl, rfl, rfl, hb⟩ := hcut
  rename World => z0
  have HB2 : Hid (Below pr w z0) := HB1.out.trans (hb.mono (Nat.le_of_lt HV1.out.lt))
  have HV2 : Hid (Vr z0 pr (x, y, s, s)) := HV1.out.to hb
  clear hb v0 v1 v2 HB1 HV1
  go_upto_region 6 with fail
  go_cut [13, 14] (fun s13 s14 T => ∃ p13 p14 : Nat, s13 = .pointer (some ⟨p13, 0, none⟩) ∧ s14 = .pointer (some ⟨p14, 0, none⟩) ∧ Vr T p13 (x, y, s, h) ∧ Vr T p14 (x, y + h, s, h) ∧ Below z0.heap.size z0 T)
  case first =>
    go_wp2_with fail
    refine rrect_any.mono ?_
    rintro e a1 ⟨rfl, hb1⟩
    go_wp2_with fail
    refine rrect_any.mono ?_
    rintro e a2 ⟨rfl, hb2⟩
    have HBa : Hid (Below z0.heap.size z0 a2) := below_to (hb1) hb2
    clear hb1 hb2
    go_wp2_with fail
    go_meet
    exact ⟨_, _, rfl, rfl, Vr.at _ _ (Vr.box1 _ _ _ _ _ (by simp)), Vr.box1 _ _ _ _ _ (by simp), to_alloc (to_alloc (HBa.out) _) _⟩
  obtain ⟨p13, p14, rfl, rfl, h13, h14, hb⟩ := hcut
  rename World => z1
  have HB3 : Hid (Below pr w z1) := HB2.out.trans (hb.mono (Nat.le_of_lt HV2.out.lt))
  have V0 : Hid (Vr z1 pr (x, y, s, s)) := HV2.out.to hb
  have V13 : Hid _ := h13
  have V14 : Hid _ := h14
  clear hb h13 h14 HB2 HV2
  go_upto_region 7 with fail
  go_cut [15, 16] (fun s15 s16 T => ∃ p15 p16 : Nat, s15 = .pointer (some ⟨p15, 0, none⟩) ∧ s16 = .pointer (some ⟨p16, 0, none⟩) ∧ Vr T p15 (x, y, h, s) ∧ Vr T p16 (x + h, y, h, s) ∧ Below z1.heap.size z1 T)
  case first =>
    go_wp2_with fail
    refine rrect_any.mono ?_
    rintro e a1 ⟨rfl, hb1⟩
    go_wp2_with fail
    refine rrect_any.mono ?_
    rintro e a2 ⟨rfl, hb2⟩
    have HBa : Hid (Below z1.heap.size z1 a2) := below_to (hb1) hb2
    clear hb1 hb2
    go_wp2_with fail
    go_meet
    exact ⟨_, _, rfl, rfl, Vr.at _ _ (Vr.box1 _ _ _ _ _ (by simp)), Vr.box1 _ _ _ _ _ (by simp), to_alloc (to_alloc (HBa.out) _) _⟩
  obtain ⟨p15, p16, rfl, rfl, h15, h16, hb⟩ := hcut
  rename World => z2
  have HB4 : Hid (Below pr w z2) := HB3.out.trans (hb.mono (Nat.le_of_lt V0.out.lt))
  have U0 : Hid (Vr z2 pr (x, y, s, s)) := V0.out.to hb
  have U13 : Hid _ := V13.out.to hb
  have U14 : Hid _ := V14.out.to hb
  have U15 : Hid _ := h15
  have U16 : Hid _ := h16
  clear hb h15 h16 HB3 V0 V13 V14
  go_upto_region 8 with fail
  go_cut [17, 18, 19, 20] (fun s17 s18 s19 s20 T => ∃ p17 p18 p19 p20 : Nat, s17 = .pointer (some ⟨p17, 0, none⟩) ∧ s18 = .pointer (some ⟨p18, 0, none⟩) ∧ s19 = .pointer (some ⟨p19, 0, none⟩) ∧ s20 = .pointer (some ⟨p20, 0, none⟩) ∧ Vr T p17 (x, y, h, h) ∧ Vr T p18 (x + h, y, h, h) ∧ Vr T p19 (x, y + h, h, h) ∧ Vr T p20 (x + h, y + h, h, h) ∧ Below z2.heap.size z2 T)
  case first =>
    go_wp2_with fail
    refine rrect_any.mono ?_
    rintro e a1 ⟨rfl, hb1⟩
    go_wp2_with fail
    refine rrect_any.mono ?_
    rintro e a2 ⟨rfl, hb2⟩
    go_wp2_with fail
    refine rrect_any.mono ?_
    rintro e a3 ⟨rfl, hb3⟩
    go_wp2_with fail
    refine rrect_any.mono ?_
    rintro e a4 ⟨rfl, hb4⟩
    have HBa : Hid (Below z2.heap.size z2 a4) := below_to (below_to (below_to (hb1) hb2) hb3) hb4
    clear hb1 hb2 hb3 hb4
    go_wp2_with fail
    go_meet
    exact ⟨_, _, _, _, rfl, rfl, rfl, rfl, Vr.at _ _ (Vr.at _ _ (Vr.at _ _ (Vr.box1 _ _ _ _ _ (by simp)))), Vr.at _ _ (Vr.at _ _ (Vr.box1 _ _ _ _ _ (by simp))), Vr.at _ _ (Vr.box1 _ _ _ _ _ (by simp)), Vr.box1 _ _ _ _ _ (by simp), to_alloc (to_alloc (to_alloc (to_alloc (HBa.out) _) _) _) _⟩
  obtain ⟨p17, p18, p19, p20, rfl, rfl, rfl, rfl, h17, h18, h19, h20, hb⟩ := hcut
  rename World => z3
  have HB5 : Hid (Below pr w z3) := HB4.out.trans (hb.mono (Nat.le_of_lt U0.out.lt))
  have hpz : pr ≤ z3.heap.size := Nat.le_trans (Nat.le_of_lt U0.out.lt) hb.size
  have HPZ : Hid (pr ≤ z3.heap.size) := hpz
  have T0 : Hid _ := U0.out.to hb
  have T13 : Hid _ := U13.out.to hb
  have T14 : Hid _ := U14.out.to hb
  have T15 : Hid _ := U15.out.to hb
  have T16 : Hid _ := U16.out.to hb
  have T17 : Hid _ := h17
  have T18 : Hid _ := h18
  have T19 : Hid _ := h19
  have T20 : Hid _ := h20
  clear hb h17 h18 h19 h20 hpz HB4 U0 U13 U14 U15 U16
  have hcc : c = 0 ∨ c = 1 ∨ c = 2 ∨ c = 3 ∨ c = 4 ∨ c = 5 ∨ c = 6 ∨ c = 7 ∨ c = 8 ∨ c = 9 := by have := HC.out; omega
  rcases hcc with rfl | rfl | rfl | rfl | rfl | rfl | rfl | rfl | rfl | rfl
  · have HQ : Hid (cutH (Int.toNat 0) x y s h q = [(x, y, s, s)]) := rfl
    obtain ⟨q00, q01, q02, q03⟩ := T0.out.cl
    simp only [Nat.zero_add] at q00 q01 q02 q03
    clear T0 T13 T14 T15 T16 T17 T18 T19 T20
    go_wp2_with fail
    go_ret2
    rw [HQ.out]
    exact cq_lit HP.out HPZ.out HB5.out (by simp only [rs_cons, rs_nil]) (by rfl)
  · have HQ : Hid (cutH (Int.toNat 1) x y s h q = [(x, y, s, h), (x, y + h, s, h)]) := rfl
    obtain ⟨q130, q131, q132, q133⟩ := T13.out.cl
    simp only [Nat.zero_add] at q130 q131 q132 q133
    obtain ⟨q140, q141, q142, q143⟩ := T14.out.cl
    simp only [Nat.zero_add] at q140 q141 q142 q143
    clear T0 T13 T14 T15 T16 T17 T18 T19 T20
    go_wp2_with fail
    go_ret2
    rw [HQ.out]
    exact cq_lit HP.out HPZ.out HB5.out (by simp only [rs_cons, rs_nil]) (by rfl)
  · have HQ : Hid (cutH (Int.toNat 2) x y s h q = [(x, y, h, s), (x + h, y, h, s)]) := rfl
    obtain ⟨q150, q151, q152, q153⟩ := T15.out.cl
    simp only [Nat.zero_add] at q150 q151 q152 q153
    obtain ⟨q160, q161, q162, q163⟩ := T16.out.cl
    simp only [Nat.zero_add] at q160 q161 q162 q163
    clear T0 T13 T14 T15 T16 T17 T18 T19 T20
    go_wp2_with fail
    go_ret2
    rw [HQ.out]
    exact cq_lit HP.out HPZ.out HB5.out (by simp only [rs_cons, rs_nil]) (by rfl)
  · have HQ : Hid (cutH (Int.toNat 3) x y s h q = [(x, y, h, h), (x + h, y, h, h), (x, y + h, h, h), (x + h, y + h, h, h)]) := rfl
    obtain ⟨q170, q171, q172, q173⟩ := T17.out.cl
    simp only [Nat.zero_add] at q170 q171 q172 q173
    obtain ⟨q180, q181, q182, q183⟩ := T18.out.cl
    simp only [Nat.zero_add] at q180 q181 q182 q183
    obtain ⟨q190, q191, q192, q193⟩ := T19.out.cl
    simp only [Nat.zero_add] at q190 q191 q192 q193
    obtain ⟨q200, q201, q202, q203⟩ := T20.out.cl
    simp only [Nat.zero_add] at q200 q201 q202 q203
    clear T0 T13 T14 T15 T16 T17 T18 T19 T20
    go_wp2_with fail
    go_ret2
    rw [HQ.out]
    exact cq_lit HP.out HPZ.out HB5.out (by simp only [rs_cons, rs_nil]) (by rfl)
  · have HQ : Hid (cutH (Int.toNat 4) x y s h q = [(x, y, h, h), (x + h, y, h, h), (x, y + h, s, h)]) := rfl
    obtain ⟨q170, q171, q172, q173⟩ := T17.out.cl
    simp only [Nat.zero_add] at q170 q171 q172 q173
    obtain ⟨q180, q181, q182, q183⟩ := T18.out.cl
    simp only [Nat.zero_add] at q180 q181 q182 q183
    obtain ⟨q140, q141, q142, q143⟩ := T14.out.cl
    simp only [Nat.zero_add] at q140 q141 q142 q143
    clear T0 T13 T14 T15 T16 T17 T18 T19 T20
    go_wp2_with fail
    go_ret2
    rw [HQ.out]
    exact cq_lit HP.out HPZ.out HB5.out (by simp only [rs_cons, rs_nil]) (by rfl)
  · have HQ : Hid (cutH (Int.toNat 5) x y s h q = [(x, y, s, h), (x, y + h, h, h), (x + h, y + h, h, h)]) := rfl
    obtain ⟨q130, q131, q132, q133⟩ := T13.out.cl
    simp only [Nat.zero_add] at q130 q131 q132 q133
    obtain ⟨q190, q191, q192, q193⟩ := T19.out.cl
    simp only [Nat.zero_add] at q190 q191 q192 q193
    obtain ⟨q200, q201, q202, q203⟩ := T20.out.cl
    simp only [Nat.zero_add] at q200 q201 q202 q203
    clear T0 T13 T14 T15 T16 T17 T18 T19 T20
    go_wp2_with fail
    go_ret2
    rw [HQ.out]
    exact cq_lit HP.out HPZ.out HB5.out (by simp only [rs_cons, rs_nil]) (by rfl)
  · have HQ : Hid (cutH (Int.toNat 6) x y s h q = [(x, y, h, h), (x, y + h, h, h), (x + h, y, h, s)]) := rfl
    obtain ⟨q170, q171, q172, q173⟩ := T17.out.cl
    simp only [Nat.zero_add] at q170 q171 q172 q173
    obtain ⟨q190, q191, q192, q193⟩ := T19.out.cl
    simp only [Nat.zero_add] at q190 q191 q192 q193
    obtain ⟨q160, q161, q162, q163⟩ := T16.out.cl
    simp only [Nat.zero_add] at q160 q161 q162 q163
    clear T0 T13 T14 T15 T16 T17 T18 T19 T20
    go_wp2_with fail
    go_ret2
    rw [HQ.out]
    exact cq_lit HP.out HPZ.out HB5.out (by simp only [rs_cons, rs_nil]) (by rfl)
  · have HQ : Hid (cutH (Int.toNat 7) x y s h q = [(x, y, h, s), (x + h, y, h, h), (x + h, y + h, h, h)]) := rfl
    obtain ⟨q150, q151, q152, q153⟩ := T15.out.cl
    simp only [Nat.zero_add] at q150 q151 q152 q153
    obtain ⟨q180, q181, q182, q183⟩ := T18.out.cl
    simp only [Nat.zero_add] at q180 q181 q182 q183
    obtain ⟨q200, q201, q202, q203⟩ := T20.out.cl
    simp only [Nat.zero_add] at q200 q201 q202 q203
    clear T0 T13 T14 T15 T16 T17 T18 T19 T20
    go_wp2_with fail
    go_ret2
    rw [HQ.out]
    exact cq_lit HP.out HPZ.out HB5.out (by simp only [rs_cons, rs_nil]) (by rfl)
  · have HQ : Hid (cutH (Int.toNat 8) x y s h q = [(x, y, s, q), (x, y + q, s, q), (x, y + 2 * q, s, q), (x, y + 3 * q, s, q)]) := rfl
    clear T0 T13 T14 T15 T16 T17 T18 T19 T20
    go_wp2_with fail
    refine rrect_any.mono ?_
    rintro e a1 ⟨rfl, hb1⟩
    go_wp2_with fail
    refine rrect_any.mono ?_
    rintro e a2 ⟨rfl, hb2⟩
    go_wp2_with fail
    refine rrect_any.mono ?_
    rintro e a3 ⟨rfl, hb3⟩
    go_wp2_with fail
    refine rrect_any.mono ?_
    rintro e a4 ⟨rfl, hb4⟩
    have HBa : Hid (Below z3.heap.size z3 a4) := below_to (below_to (below_to hb1 hb2) hb3) hb4
    clear hb1 hb2 hb3 hb4
    go_wp2_with fail
    go_ret2
    rw [HQ.out]
    exact cq_lit HP.out (Nat.le_trans HPZ.out HBa.out.size) (HB5.out.trans (HBa.out.mono HPZ.out)) (by simp only [rs_cons, rs_nil]) (by rfl)
  · have HQ : Hid (cutH (Int.toNat 9) x y s h q = [(x, y, q, s), (x + q, y, q, s), (x + 2 * q, y, q, s), (x + 3 * q, y, q, s)]) := rfl
    clear T0 T13 T14 T15 T16 T17 T18 T19 T20
    go_wp2_with fail
    refine rrect_any.mono ?_
    rintro e a1 ⟨rfl, hb1⟩
    go_wp2_with fail
    refine rrect_any.mono ?_
    rintro e a2 ⟨rfl, hb2⟩
    go_wp2_with fail
    refine rrect_any.mono ?_
    rintro e a3 ⟨rfl, hb3⟩
    go_wp2_with fail
    refine rrect_any.mono ?_
    rintro e a4 ⟨rfl, hb4⟩
    have HBa : Hid (Below z3.heap.size z3 a4) := below_to (below_to (below_to hb1 hb2) hb3) hb4
    clear hb1 hb2 hb3 hb4
    go_wp2_with fail
    go_ret2
    rw [HQ.out]
    exact cq_lit HP.out (Nat.le_trans HPZ.out HBa.out.size) (HB5.out.trans (HBa.out.mono HPZ.out)) (by simp only [rs_cons, rs_nil]) (by rfl)

theorem rcuts_ok {w : World} {x y s : Int} {kd : Nat} (hr : rgn x y s s = true) (hk : (kd : Int) < tyN s) : Calls Try.prog 12 #[.agg #[.int .i64 x, .int .i64 y, .int .i64 s, .int .i64 s], .int .i64 (kd : Int)] w fun e w' => Cq w w' e (cutR kd x y s) := by
  obtain ⟨hs, -, -, -⟩ := rgn_in hr
  have h10 := (tyN_in hs).2
  have hq : s = 4 * (s / 4) := by omega
  have hh : s / 2 = 2 * (s / 4) := by omega
  have := rcuts_h (w := w) (c := (kd : Int)) (h := s / 2) (q := s / 4) hr (by omega) hk rfl h10 (Int.tdiv_eq_ediv_of_nonneg (by omega)) (Int.tdiv_eq_ediv_of_nonneg (by omega)) (by omega) (by omega) (by omega) (by omega)
  rwa [Int.toNat_natCast, ← cutR_cutH hq hh] at this
end Go.Proofs.Ytjijgeeejhijhaa
