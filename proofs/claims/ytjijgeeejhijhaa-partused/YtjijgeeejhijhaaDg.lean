/- DERIVED. The document's tree: a leaf. -/
import Derived.Test.YtjijgeeejhijhaaDd
namespace Go.Proofs.Ytjijgeeejhijhaa
open Go.RowKit

set_option maxRecDepth 100000 in
set_option maxHeartbeats 8000000 in
theorem go_leaf {k kd : Nat} {A : Td} {Z : Nat → Prop} {w : World} {L ML : List Rc} {u : Nat} {x y sk : Int} {mo mi : Bool} (hz : Tz A Z) (h : Ts A Z w L u) (ha : ArOk A.ar) (hrb : Rb x y sk sk) (hm : meet (x, y, sk, sk) A.ar = mo) (hi : wthn (x, y, sk, sk) A.ar = mi) (h0 : mo = true) (h1 : mi = true) (hC : A.C.length ≤ 140737488355328) (hk : k < 3) (hsk : sd (k + 1) = sk) (h8 : sk ≠ 8) (hr : rgn x y sk sk = true) (hL : L.length ≤ 300) (hp : pkV (k + 1) A.C u = kd) (hp3 : kd ≠ 3) (hML : cutR kd x y sk = ML) :
    Calls Try.prog 35 #[.pointer (some ⟨A.pt, 0, none⟩), .agg #[.int .i64 x, .int .i64 y, .int .i64 sk, .int .i64 sk]] w fun e w' => Tq A Z w w' e L (ML, pkU A.C u) := by
  have HCu : Hid (∀ t, Calls Try.prog 12 #[.agg #[.int .i64 x, .int .i64 y, .int .i64 sk, .int .i64 sk], .int .i64 (kd : Int)] t fun e w' => Cq t w' e ML) := fun t => by
    rw [← hML]; exact rcuts_ok hr (by rw [← hsk, tyN_sd (by omega), ← hp]; exact pkV_lt _ _ _)
  have hml := prt_len kd
  rw [← cutR_len kd x y sk, hML] at hml
  have HML : Hid (1 ≤ ML.length ∧ ML.length ≤ 4) := hml
  have HL : Hid (L.length ≤ 300) := hL
  have k3 : ((kd : Int) == 3) = false := by rw [beq_eq_false_iff_ne]; omega
  have HCl : Hid (A.C.length ≤ 140737488355328) := hC
  have HTy : Hid (∀ t, Calls Try.prog 10 #[.int .i64 sk] t fun e w' => e = .returned (.tuple #[.int .i64 (ty (k + 1)), .int .i64 0]) ∧ t = w') := fun t => by
    have := rtypes_any (w := t) (s := sd (k + 1))
    rw [tyN_sd (by omega), erS_0 (by rcases sd_cases (show k + 1 < 4 by omega) with q | q | q | q <;> omega)] at this
    rw [← hsk]; exact this
  have hn8 : (sk == 8) = false := by rw [beq_eq_false_iff_ne]; exact h8
  have HP : Hid (pkV (k + 1) A.C u = kd) := hp
  have HA0 : Hid (Tz A (Za Z w.heap.size)) := (h.more hz (from_alloc w (.cells #[] 23)) (Nat.le_refl _) (by simp)).1
  have hs0 : Ts A (Za Z w.heap.size) (w.alloc (.cells #[.int .i64 x, .int .i64 y, .int .i64 sk, .int .i64 sk] 23)) L u := (h.more hz (from_alloc w _) (Nat.le_refl _) (by simp)).2
  have HA1 : Hid (Tz A (Za (Za Z w.heap.size) (w.heap.size + 1))) := (hs0.more HA0.out (from_alloc _ (.cells #[] 23)) (by simp) (by simp)).1
  have HS0 : Hid (Ts A (Za (Za Z w.heap.size) (w.heap.size + 1)) ((w.alloc (.cells #[.int .i64 x, .int .i64 y, .int .i64 sk, .int .i64 sk] 23)).alloc (.cells #[.int .i64 A.ar.1, .int .i64 A.ar.2.1, .int .i64 A.ar.2.2.1, .int .i64 A.ar.2.2.2] 23)) L u) := (hs0.more HA0.out (from_alloc _ _) (by simp) (by simp)).2
  have HK0 : Hid (Kz Z w ((w.alloc (.cells #[.int .i64 x, .int .i64 y, .int .i64 sk, .int .i64 sk] 23)).alloc (.cells #[.int .i64 A.ar.1, .int .i64 A.ar.2.1, .int .i64 A.ar.2.2.1, .int .i64 A.ar.2.2.2] 23))) := Kz.ofBelow h.zlt (to_alloc (from_alloc _ _) _)
  have HF0 : Hid (Fr ((w.alloc (.cells #[.int .i64 x, .int .i64 y, .int .i64 sk, .int .i64 sk] 23)).alloc (.cells #[.int .i64 A.ar.1, .int .i64 A.ar.2.1, .int .i64 A.ar.2.2.1, .int .i64 A.ar.2.2.2] 23)) w.heap.size x y sk sk) := ⟨by simp [go_sem], by simp [go_sem], by simp [go_sem], by simp [go_sem]⟩
  have HG0 : Hid (Fr ((w.alloc (.cells #[.int .i64 x, .int .i64 y, .int .i64 sk, .int .i64 sk] 23)).alloc (.cells #[.int .i64 A.ar.1, .int .i64 A.ar.2.1, .int .i64 A.ar.2.2.1, .int .i64 A.ar.2.2.2] 23)) (w.heap.size + 1) A.ar.1 A.ar.2.1 A.ar.2.2.1 A.ar.2.2.2) := ⟨by simp [go_sem], by simp [go_sem], by simp [go_sem], by simp [go_sem]⟩
  have HZP : Hid (Za (Za Z w.heap.size) (w.heap.size + 1) w.heap.size) := Or.inl (Or.inr rfl)
  have HSub : Hid (∀ i, Z i → Za (Za Z w.heap.size) (w.heap.size + 1) i) := fun _ q => Or.inl (Or.inl q)
  obtain ⟨⟨x0, x1⟩, ⟨y0, y1⟩, ⟨s0, s1⟩, -⟩ := hrb
  obtain ⟨⟨X0, X1⟩, ⟨Y0, Y1⟩, ⟨A0, A1⟩, ⟨B0, B1⟩⟩ := ha
  have f0 := h.area.r0
  have f1 := h.area.r1
  have f2 := h.area.r2
  have f3 := h.area.r3
  have f4 : (w.alloc (.cells #[.int .i64 x, .int .i64 y, .int .i64 sk, .int .i64 sk] 23)).cell? ⟨A.pt, 0, none⟩ = some (.int .i64 A.ar.1) := hs0.area.r0
  have f5 : (w.alloc (.cells #[.int .i64 x, .int .i64 y, .int .i64 sk, .int .i64 sk] 23)).cell? ⟨A.pt, 1, none⟩ = some (.int .i64 A.ar.2.1) := hs0.area.r1
  have f6 : (w.alloc (.cells #[.int .i64 x, .int .i64 y, .int .i64 sk, .int .i64 sk] 23)).cell? ⟨A.pt, 2, none⟩ = some (.int .i64 A.ar.2.2.1) := hs0.area.r2
  have f7 : (w.alloc (.cells #[.int .i64 x, .int .i64 y, .int .i64 sk, .int .i64 sk] 23)).cell? ⟨A.pt, 3, none⟩ = some (.int .i64 A.ar.2.2.2) := hs0.area.r3
  have HM : Hid (meet (x, y, sk, sk) A.ar = mo) := hm
  have HI : Hid (wthn (x, y, sk, sk) A.ar = mi) := hi
  have H0 : Hid (mo = true) := h0
  have H1 : Hid (mi = true) := h1
  clear h hz hs0 hm hi HA0 h0 h1 hC hsk h8 hp hr hL hp3 hML hml
  unfold Tq
  go_enter Try.func35, Try.ntmps35
  go_upto_region 2 with fail
  generalize ((w.alloc (.cells #[.int .i64 x, .int .i64 y, .int .i64 sk, .int .i64 sk] 23)).alloc (.cells #[.int .i64 A.ar.1, .int .i64 A.ar.2.1, .int .i64 A.ar.2.2.1, .int .i64 A.ar.2.2.2] 23)) = w0 at *
  generalize w.heap.size + 1 = pa at *
  generalize w.heap.size = pr at *
  generalize Za (Za Z pr) pa = Z1 at *
  clear f0 f1 f2 f3 f4 f5 f6 f7
  obtain ⟨r0, r1, r2, r3⟩ := HF0.out
  obtain ⟨a0, a1, a2, a3⟩ := HG0.out
  unfold meet at HM
  unfold wthn at HI
  generalize A.ar.1 = ax at *
  generalize A.ar.2.1 = ay at *
  generalize A.ar.2.2.1 = aw at *
  generalize A.ar.2.2.2 = ah at *
  go_cut [5] (fun s T => s = .bool (!mo) ∧ w0 = T)
  case first =>
    go_wp2_with fail
    all_goals
      go_meet
      exact ⟨by rw [← HM.out, Value.bool.injEq, Bool.eq_iff_iff]; simp <;> omega, rfl⟩
  obtain ⟨rfl, rfl⟩ := hcut
  go_upto_region 3 with fail
  go_cut [6] (fun s T => s = .bool mi ∧ w0 = T)
  case first =>
    go_wp2_with fail
    all_goals
      go_meet
      exact ⟨by rw [← HI.out, Value.bool.injEq, Bool.eq_iff_iff]; simp <;> omega, rfl⟩
  obtain ⟨rfl, rfl⟩ := hcut
  clear HM HI a0 a1 a2 a3 HG0 x0 x1 y0 y1 s0 s1 X0 X1 Y0 Y1 A0 A1 B0 B1
  obtain rfl := H0.out
  obtain rfl := H1.out
  have u0 := HS0.out.used
  have u1 := HS0.out.ch
  go_wp2_with fail
  go_quiet (fail)
  have HS1 : Hid (Ts A Z1 (w0.drewN nq) L u) := HS0.out.to HA1.out (below_drewN (Below.refl _ _) _)
  have hkd : Kz Z1 w0 (w0.drewN nq) := Kz.ofBelow HS0.out.zlt (below_drewN (Below.refl _ _) _)
  have HK1 : Hid (Kz Z w (w0.drewN nq)) := HK0.out.trans (hkd.mono HSub.out)
  have HF1 : Hid (Fr (w0.drewN nq) pr x y sk sk) := HF0.out.kz hkd HZP.out
  generalize w0.drewN nq = w1 at *
  clear hkd HS0 HK0 HF0 u0 u1 r0 r1 r2 r3
  go_upto_if 102 with fail
  go_cut [7] (fun s T => ∃ cv : Int, s = .int .i64 cv ∧ Hid (cv % ty (k + 1) = ((pkV (k + 1) A.C u : Nat) : Int)) ∧ Ts A Z1 T L (pkU A.C u) ∧ Kz Z1 w1 T)
  case first =>
    have hT := HS1.out
    have u0 := hT.used
    have u1 := hT.ch
    have u2 := hT.fz 5
    have hle := hT.le
    by_cases hu : u < A.C.length
    · have HU := hT.use (u' := u + 1) HA1.out (by omega)
      have HD : Hid (∀ n, Ts A Z1 ((w1.drewN n).setCell ⟨A.pt, 5, none⟩ (.int .i64 ((u + 1 : Nat) : Int))) L (pkU A.C u) ∧ Kz Z1 w1 ((w1.drewN n).setCell ⟨A.pt, 5, none⟩ (.int .i64 ((u + 1 : Nat) : Int)))) := fun n => by
        have hd : Below w1.heap.size w1 (w1.drewN n) := below_drewN (Below.refl _ _) _
        refine ⟨?_, (Kz.ofBelow hT.zlt hd).trans (Kz.set _ _ _ HA1.out.np _)⟩
        have := (hT.to HA1.out hd).use (u' := u + 1) HA1.out (by omega)
        unfold pkU; rw [if_pos hu]; exact this
      obtain ⟨b, o, e1, hbl, hc⟩ := hT.si.form (by omega)
      have c2 := hc u hu
      rw [e1] at u1
      have HV : Hid (A.C.getD u 0 % ty (k + 1) = ((pkV (k + 1) A.C u : Nat) : Int)) := by
        show _ = _
        unfold pkV
        have := ty_pos (k + 1)
        rw [if_pos hu, Int.toNat_of_nonneg (Int.emod_nonneg _ (by omega))]
      have w0' : (u : Int) < (A.C.length : Int) := by omega
      have w1' : (0 : Int) ≤ (u : Int) := by omega
      have w2' : (A.C.length : Int) ≤ 140737488355328 := by have := HCl.out; omega
      generalize A.C.getD u 0 = cv at *
      generalize A.C.length = cl at *
      clear hT HU hc hbl e1 hle hu
      go_wp2_with fail
      go_quiet (fail)
      go_wp2_with fail
      go_meet
      exact ⟨cv, rfl, HV, (HD.out _).1, (HD.out _).2⟩
    · have hge : (A.C.length : Int) ≤ (u : Int) := by omega
      have HV : Hid ((0 : Int) % ty (k + 1) = ((pkV (k + 1) A.C u : Nat) : Int)) := by show _ = _; unfold pkV; rw [if_neg hu]; simp
      have HU : Hid (Ts A Z1 w1 L (pkU A.C u)) := by show Ts _ _ _ _ _; unfold pkU; rw [if_neg hu]; exact hT
      clear hT hle hu
      go_wp2_with fail
      go_meet
      exact ⟨0, rfl, HV, HU.out, Kz.refl _ _⟩
  obtain ⟨cv, rfl, hcv, hts, hkz⟩ := hcut
  rename World => w2
  have HS2 : Hid (Ts A Z1 w2 L (pkU A.C u)) := hts
  have HK2 : Hid (Kz Z w w2) := HK1.out.trans (hkz.mono HSub.out)
  have HF2 : Hid (Fr w2 pr x y sk sk) := HF1.out.kz hkz HZP.out
  have HCv : Hid (cv % ty (k + 1) = ((pkV (k + 1) A.C u : Nat) : Int)) := hcv.out
  clear hcv hts hkz HS1 HK1 HF1
  obtain ⟨r0, r1, r2, r3⟩ := HF2.out
  have t0 := ty_pos (k + 1)
  have t1 := ty_le (k + 1)
  have HBr : Hid (∀ t, Calls Try.prog 21 #[.int .i64 cv, .int .i64 (ty (k + 1))] t fun e w' => e = .returned (.int .i64 ((pkV (k + 1) A.C u : Nat) : Int)) ∧ t = w') := fun t => by rw [← HCv.out]; exact bring_any t0 (by omega)
  generalize ty (k + 1) = tk at *
  clear HCv t0 t1
  go_wp2_with fail
  refine (HTy.out _).mono ?_
  rintro e w5 ⟨rfl, rfl⟩
  go_wp2_with fail
  refine (HBr.out _).mono ?_
  rintro e w5 ⟨rfl, rfl⟩
  rw [HP.out]
  go_wp2_with fail
  refine (HCu.out _).mono ?_
  rintro e w4 ⟨gp, rfl, hrow, hgp, hb⟩
  have HS4 : Hid (Ts A Z1 w4 L (pkU A.C u)) := HS2.out.to HA1.out hb
  have HK4 : Hid (Kz Z w w4) := HK2.out.trans ((Kz.ofBelow HS2.out.zlt hb).mono HSub.out)
  have HR4 : Hid (Hr w4 gp ML) := hrow
  clear hrow hgp hb HS2 HK2 HF2 r0 r1 r2 r3 HCu
  obtain ⟨v, l0, HO, _⟩ := HS4.out.leaf
  have HV : Hid (w4.cell? ⟨A.pt, 6, none⟩ = some v) := l0
  have HOw : Hid (Or4 w4 0 v L) := HO
  have lf0 := HS4.out.fz 6
  clear HO
  have HG : Hid (∀ w5 g n cap, Or4 w5 0 (.slice (some ⟨g, 0, none⟩) n cap) (L ++ ML) → w4.grownBy w5 v.ownBlock → (v.ownBlock = some g ∨ g = w4.heap.size) → g < w5.heap.size → (Ts A Z1 (w5.setCell ⟨A.pt, 6, none⟩ (.slice (some ⟨g, 0, none⟩) n cap)) (L ++ ML) (pkU A.C u) ∧ Kz Z1 w4 (w5.setCell ⟨A.pt, 6, none⟩ (.slice (some ⟨g, 0, none⟩) n cap))) ∧ w5.cell? ⟨A.pt, 6, none⟩ = some v ∧ w5.frozen? ⟨A.pt, 6, none⟩ = false) := fun w5 g n cap h1 h2 h3 h4 => HS4.out.grown HA1.out HV.out HOw.out h1 h2 h3 h4
  go_wp2_with (at_builtin; refine wpList_append_rc _ (by rfl) _ _ (by rfl) v L ML gp _ HOw.out HR4.out HML.out.1 (by have := HL.out; omega) (by have := HML.out.2; omega) (by rfl) (by rfl) ?_; intro g cap w5 h1 h2 h3 h4; obtain ⟨⟨q1, q2⟩, q3, q4⟩ := HG.out w5 g _ cap h1 h2 h3 h4; have Q1 : Hid _ := q1; have Q2 : Hid _ := q2; clear q1 q2 h1 h2 h3 h4)
  go_end0
  exact ⟨rfl, Q1.out.sub HSub.out, HK4.out.trans (Q2.out.mono HSub.out)⟩
end Go.Proofs.Ytjijgeeejhijhaa
