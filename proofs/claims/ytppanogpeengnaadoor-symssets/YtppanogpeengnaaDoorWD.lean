/- DERIVED. Several texts in one: The document's Same of two sets of whatever shape that hold the same. Sets in new memory; the program's Copy of a set of whatever shape. The walk of the program's Copy on a set of whatever shape. The walk of the program's Copy on a set of whatever shape. -/
import Derived.Test.YtppanogpeengnaaDoorWA
import Derived.Test.YtppanogpeengnaaDoorS5
import Derived.Deep.DeepCutAuto
import Derived.Test.YtppanogpeengnaaDoorT2
import Derived.Test.YtppanogpeengnaaDoorS1
namespace Go.Proofs.YtppanogpeengnaaDoor
open Go.RowKit L3

/-- a row of a set, and where it lies -/
theorem Gv.row {w : World} {a : Option Addr} {X : List (List Px)} (h : Gv w a X) {k : Nat} {R : List Px} (hR : X[k]? = some R) : ∃ b ra rc, a = some ⟨b, 0, none⟩ ∧ b < w.heap.size ∧ w.cell? ⟨b, k, none⟩ = some (.slice ra R.length rc) ∧ Rv w (.slice ra R.length rc) R := by
  rcases h with e | ⟨b, e, hl, h3⟩
  · rw [e] at hR; simp at hR
  · obtain ⟨x, g1, g2⟩ := h3 k R hR
    obtain ⟨ra, rc, rfl, g3⟩ := g2
    exact ⟨b, ra, rc, e, hl, g1, ra, rc, rfl, g3⟩
/-- a table of a row -/
theorem Rv.tab {w : World} {ra : Option Addr} {rl rc : Nat} {R : List Px} (h : Rv w (.slice ra rl rc) R) {c : Nat} {t : Px} (ht : R[c]? = some t) : ∃ pb ta tc, ra = some ⟨pb, 0, none⟩ ∧ pb < w.heap.size ∧ w.cell? ⟨pb, c * 2, none⟩ = some (.slice ta t.1.length tc) ∧ w.cell? ⟨pb, c * 2 + 1, none⟩ = some (.int .i64 t.2) ∧ Sl w .u16 ta t.1 := by
  obtain ⟨a, c', e, hr⟩ := h
  simp only [Value.slice.injEq] at e
  obtain ⟨rfl, _, _⟩ := e
  rcases hr with e | ⟨pb, e, hl, h3⟩
  · rw [e] at ht; simp at ht
  · obtain ⟨x, y, g1, g2, ta, tc, rfl, rfl, g3⟩ := h3 c t ht
    exact ⟨pb, ta, tc, e, hl, g1, g2, g3⟩

set_option maxRecDepth 100000 in
set_option maxHeartbeats 8000000 in
theorem rsame_g {w : World} {a b : Option Addr} {cA cB n : Nat} {X : List (List Px)} (h : Gv w a X) (g : Gv w b X) (hn : X.length = n) (hs : Sml X) :
    Calls Tryd.prog 14 #[.agg #[.slice a n cA], .agg #[.slice b n cB]] w fun e w' => e = .returned (.bool true) ∧ Below w.heap.size w w' := by
  have HA : Hid (Gv w a X) := h
  have HBB : Hid (Gv w b X) := g
  have HSm : Hid (Sml X) := hs
  have HN : Hid (X.length = n) := hn
  have n32 : (n : Int) ≤ 32 := by have := hs.n; omega
  have t0 : ((n : Int) != (n : Int)) = false := by simp
  have HB0 : Hid (Below w.heap.size w ((w.alloc (.cells #[.slice a n cA] 25)).alloc (.cells #[.slice b n cB] 25))) := to_alloc (from_alloc _ _) _
  have HX : Hid (∀ v, Below (w.heap.size + 2) ((w.alloc (.cells #[.slice a n cA] 25)).alloc (.cells #[.slice b n cB] 25)) v → v.cell? ⟨w.heap.size, 0, none⟩ = some (.slice a n cA) ∧ v.cell? ⟨w.heap.size + 1, 0, none⟩ = some (.slice b n cB)) := fun v hv => by
    rw [newCell hv _ _ (by omega), newCell hv _ _ (by omega)]
    constructor <;> simp [go_sem]
  have HB1 : Hid (Below (w.heap.size + 2) ((w.alloc (.cells #[.slice a n cA] 25)).alloc (.cells #[.slice b n cB] 25)) ((w.alloc (.cells #[.slice a n cA] 25)).alloc (.cells #[.slice b n cB] 25))) := Below.refl _ _
  have HZ : Hid (((w.alloc (.cells #[.slice a n cA] 25)).alloc (.cells #[.slice b n cB] 25)).heap.size = w.heap.size + 2) := by show _ = _; simp
  clear h g hn hs
  go_enter Tryd.func14, Tryd.ntmps14
  go_wp2_with fail
  generalize (w.alloc (.cells #[.slice a n cA] 25)).alloc (.cells #[.slice b n cB] 25) = W at *
  have HUp : Hid (∀ v, Below (w.heap.size + 2) W v → Below w.heap.size w v) := fun v hv => HB0.out.trans (hv.mono (by omega))
  obtain ⟨N, hN⟩ : ∃ N, w.heap.size = N := ⟨_, rfl⟩
  have HNN : Hid (w.heap.size = N) := hN
  rw [hN] at HX HB1 HZ HUp
  simp only [hN]
  obtain ⟨sy, hsy⟩ : ∃ sy, sy = N + 1 := ⟨_, rfl⟩
  have HY : Hid (sy = N + 1) := hsy
  rw [← hsy] at HX
  rw [← hsy]
  clear hsy hN
  go_loopw [5] (fun iv wr => ∃ k : Nat, k ≤ n ∧ iv = .int .i64 k ∧ Below (N + 2) W wr) (fun iv _ => n - (intOf iv).toNat)
  case atStart => exact ⟨0, by omega, rfl, HB1.out⟩
  case round =>
    obtain ⟨k, hk, rfl, hb⟩ := hrel
    have HB : Hid (Below (N + 2) W wr) := hb
    obtain ⟨x0, x1⟩ := HX.out _ hb
    clear hb HB0 HB1
    have b0 : 0 ≤ (k : Int) := by omega
    by_cases hlt : k < n
    · have b1 : (k : Int) < (n : Int) := by omega
      have hkl : k < X.length := by rw [HN.out]; exact hlt
      have hget : X[k]? = some (X[k]'hkl) := List.getElem?_eq_getElem _
      generalize X[k]'hkl = R at *
      have hm := List.mem_of_getElem? hget
      obtain ⟨bt, ra, rc, rfl, hbl, ha1, ha2⟩ := HA.out.row hget
      obtain ⟨bt2, rb, rd, rfl, hbl2, hb1, hb2⟩ := HBB.out.row hget
      rw [HNN.out] at hbl hbl2
      have r16 := HSm.out.r R hm
      have HT16 : Hid (∀ t ∈ R, t.1.length ≤ 16) := HSm.out.t R hm
      obtain ⟨rl, hrl⟩ : ∃ rl, R.length = rl := ⟨_, rfl⟩
      have HRl : Hid (R.length = rl) := hrl
      rw [hrl] at ha1 ha2 hb1 hb2 r16
      have HRA : Hid (Rv w (.slice ra rl rc) R) := ha2
      have HRB : Hid (Rv w (.slice rb rl rd) R) := hb2
      have HXB : Hid (∀ v, Below (N + 2) W v → v.cell? ⟨bt, k, none⟩ = some (.slice ra rl rc) ∧ v.cell? ⟨bt2, k, none⟩ = some (.slice rb rl rd)) := fun v hv => by
        rw [newCell (HUp.out v hv) _ _ hbl, newCell (HUp.out v hv) _ _ hbl2]
        exact ⟨ha1, hb1⟩
      obtain ⟨xw, yw⟩ := HXB.out _ HB.out
      have t1 : ((rl : Int) != (rl : Int)) = false := by simp
      clear hget hm ha1 ha2 hb1 hb2 hrl hkl
      go_wp2_with fail
      go_quiet (fail)
      have HBq : Hid (Below (N + 2) W (wr.drewN nq)) := below_drewN HB.out nq
      go_wp2_with fail
      generalize wr.drewN nq = wo at *
      go_loopw [6] (fun iv wr => ∃ c : Nat, c ≤ rl ∧ iv = .int .i64 c ∧ Below (N + 2) W wr) (fun iv _ => rl - (intOf iv).toNat)
      case atStart => exact ⟨0, by omega, rfl, HBq.out⟩
      case round =>
        obtain ⟨c, hc, rfl, hb⟩ := hrel
        clear HB HBq x0 x1 xw yw
        have HB : Hid (Below (N + 2) W wr) := hb
        obtain ⟨x0, x1⟩ := HX.out _ hb
        obtain ⟨xw, yw⟩ := HXB.out _ hb
        clear hb
        have a0 : 0 ≤ (c : Int) := by omega
        by_cases hcl : c < rl
        · have a1 : (c : Int) < (rl : Int) := by omega
          have hgt : R[c]? = some (R[c]'(by rw [HRl.out]; exact hcl)) := List.getElem?_eq_getElem _
          generalize R[c]'(by rw [HRl.out]; exact hcl) = t at *
          have ht16 := HT16.out t (List.mem_of_getElem? hgt)
          obtain ⟨pb, ta, tc, rfl, hpl, g0, g1, gs⟩ := HRA.out.tab hgt
          obtain ⟨qb, ua, uc, rfl, hql, k0, k1, ks⟩ := HRB.out.tab hgt
          rw [HNN.out] at hpl hql
          obtain ⟨tC, tn⟩ := t
          simp only at g0 g1 gs k0 k1 ks ht16
          obtain ⟨m, hm2⟩ : ∃ m, tC.length = m := ⟨_, rfl⟩
          have HLN : Hid (tC.length = m) := hm2
          rw [hm2] at g0 k0 ht16
          have z0 : wr.cell? ⟨pb, c * 2, none⟩ = some (.slice ta m tc) := by rw [newCell (HUp.out _ HB.out) _ _ hpl]; exact g0
          have z1 : wr.cell? ⟨pb, c * 2 + 1, none⟩ = some (.int .i64 tn) := by rw [newCell (HUp.out _ HB.out) _ _ hpl]; exact g1
          have z2 : wr.cell? ⟨qb, c * 2, none⟩ = some (.slice ua m uc) := by rw [newCell (HUp.out _ HB.out) _ _ hql]; exact k0
          have z3 : wr.cell? ⟨qb, c * 2 + 1, none⟩ = some (.int .i64 tn) := by rw [newCell (HUp.out _ HB.out) _ _ hql]; exact k1
          have HSL : Hid (Sl w .u16 ta tC) := gs
          have HSM : Hid (Sl w .u16 ua tC) := ks
          have t2 : ((m : Int) != (m : Int)) = false := by simp
          have t3 : (tn != tn) = false := by simp
          have s0 : N + 2 ≤ wr.heap.size := by have := HB.out.size; have := HZ.out; omega
          have s1 : bt < wr.heap.size := by omega
          have s2 : bt2 < wr.heap.size := by omega
          have s3 : pb < wr.heap.size := by omega
          have s4 : qb < wr.heap.size := by omega
          have n1 : N < wr.heap.size := by omega
          have n2 : sy < wr.heap.size := by have := HY.out; omega
          clear g0 g1 gs k0 k1 ks hgt hm2
          have HV1 : Hid ((∀ v, Below ((wr.alloc (Obj.cells #[.slice ta m tc, .int .i64 tn] 63)).alloc (Obj.cells #[.slice ua m uc, .int .i64 tn] 63)).drew.heap.size ((wr.alloc (Obj.cells #[.slice ta m tc, .int .i64 tn] 63)).alloc (Obj.cells #[.slice ua m uc, .int .i64 tn] 63)).drew v → v.cell? ⟨wr.heap.size, 0, none⟩ = some (.slice ta m tc) ∧ v.cell? ⟨wr.heap.size, 1, none⟩ = some (.int .i64 tn) ∧ v.cell? ⟨(wr.heap.size + 1), 0, none⟩ = some (.slice ua m uc) ∧ v.cell? ⟨(wr.heap.size + 1), 1, none⟩ = some (.int .i64 tn)) ∧ Below (N + 2) W ((wr.alloc (Obj.cells #[.slice ta m tc, .int .i64 tn] 63)).alloc (Obj.cells #[.slice ua m uc, .int .i64 tn] 63)).drew) := ⟨fun v hv => by
            have hv' : Below (wr.heap.size + 2) ((wr.alloc (Obj.cells #[.slice ta m tc, .int .i64 tn] 63)).alloc (Obj.cells #[.slice ua m uc, .int .i64 tn] 63)).drew v := hv.mono (by simp)
            rw [newCell hv' _ _ (by omega), newCell hv' _ _ (by omega), newCell hv' _ _ (by omega), newCell hv' _ _ (by omega)]; simp [go_sem], below_drew ((HB.out.alloc (by omega) _).alloc (by simp; omega) _)⟩
          have HV2 : Hid ((∀ v, Below ((wr.alloc (Obj.cells #[.slice ua m uc, .int .i64 tn] 63)).alloc (Obj.cells #[.slice ta m tc, .int .i64 tn] 63)).drew.heap.size ((wr.alloc (Obj.cells #[.slice ua m uc, .int .i64 tn] 63)).alloc (Obj.cells #[.slice ta m tc, .int .i64 tn] 63)).drew v → v.cell? ⟨(wr.heap.size + 1), 0, none⟩ = some (.slice ta m tc) ∧ v.cell? ⟨(wr.heap.size + 1), 1, none⟩ = some (.int .i64 tn) ∧ v.cell? ⟨wr.heap.size, 0, none⟩ = some (.slice ua m uc) ∧ v.cell? ⟨wr.heap.size, 1, none⟩ = some (.int .i64 tn)) ∧ Below (N + 2) W ((wr.alloc (Obj.cells #[.slice ua m uc, .int .i64 tn] 63)).alloc (Obj.cells #[.slice ta m tc, .int .i64 tn] 63)).drew) := ⟨fun v hv => by
            have hv' : Below (wr.heap.size + 2) ((wr.alloc (Obj.cells #[.slice ua m uc, .int .i64 tn] 63)).alloc (Obj.cells #[.slice ta m tc, .int .i64 tn] 63)).drew v := hv.mono (by simp)
            rw [newCell hv' _ _ (by omega), newCell hv' _ _ (by omega), newCell hv' _ _ (by omega), newCell hv' _ _ (by omega)]; simp [go_sem], below_drew ((HB.out.alloc (by omega) _).alloc (by simp; omega) _)⟩
          go_wp2_with fail
          go_region
          · as_aux_lemma =>
              have HV := HV1
              clear HV1 HV2
              generalize ((wr.alloc (Obj.cells #[.slice ta m tc, .int .i64 tn] 63)).alloc (Obj.cells #[.slice ua m uc, .int .i64 tn] 63)).drew = V at *
              clear z0 z1 z2 z3 x0 x1 xw yw
              obtain ⟨d0, d1, d2, d3⟩ := HV.out.1 V (Below.refl _ _)
              clear s0 s1 s2 s3 s4 n1 n2 hpl hql
              have y1 : ¬ wr.heap.size = wr.heap.size + 1 := by omega
              generalize wr.heap.size + 1 = yb at *
              generalize wr.heap.size = ya at *
              go_wp2_with fail
              go_loopw [9] (fun iv wr => ∃ i : Nat, i ≤ m ∧ iv = .int .i64 i ∧ Below V.heap.size V wr) (fun iv _ => m - (intOf iv).toNat)
              case atStart => exact ⟨0, by omega, rfl, Below.refl _ _⟩
              case round =>
                obtain ⟨i, hi, rfl, hb⟩ := hrel
                clear d0 d1 d2 d3
                rename World => wq
                have HBi : Hid (Below (N + 2) W wq) := HV.out.2.trans (hb.mono (by have := HV.out.2.size; have := HZ.out; omega))
                have HBV : Hid (Below V.heap.size V wq) := hb
                obtain ⟨d0, d1, d2, d3⟩ := HV.out.1 wq hb
                clear hb
                have i0 : (0 : Int) ≤ (i : Int) := by omega
                by_cases hil : i < m
                · have i1 : (i : Int) < (m : Int) := by omega
                  obtain ⟨b1, o1, rfl, hb1, hc1⟩ := HSL.out.form (by have := HLN.out; omega)
                  obtain ⟨b2, o2, rfl, hb2, hc2⟩ := HSM.out.form (by have := HLN.out; omega)
                  rw [HNN.out] at hb1 hb2
                  have f1 : wq.cell? ⟨b1, o1 + i, none⟩ = some (.int .u16 ((tC.getD i 0 : Nat) : Int)) := by rw [newCell (HUp.out _ HBi.out) _ _ hb1]; exact hc1 i (by have := HLN.out; omega)
                  have f2 : wq.cell? ⟨b2, o2 + i, none⟩ = some (.int .u16 ((tC.getD i 0 : Nat) : Int)) := by rw [newCell (HUp.out _ HBi.out) _ _ hb2]; exact hc2 i (by have := HLN.out; omega)
                  clear hc1 hc2
                  generalize tC.getD i 0 = ui at *
                  have t4 : ((ui : Int) != (ui : Int)) = false := by simp
                  go_wp2_with fail
                  go_quiet (fail)
                  have HBn : Hid (Below V.heap.size V (wq.drewN nq)) := below_drewN HBV.out nq
                  go_wp2_with fail
                  go_roundw
                  case rel => exact ⟨i + 1, by omega, by go_num, HBn.out⟩
                  case measure => simp [intOf]; omega
                · have i1 : ¬ (i : Int) < (m : Int) := by omega
                  go_wp2_with fail
                  go_roundw
                  case rel => exact ⟨c + 1, by omega, by go_num, HBi.out⟩
                  case measure => simp [intOf]; omega
          · as_aux_lemma =>
              have HV := HV2
              clear HV1 HV2
              generalize ((wr.alloc (Obj.cells #[.slice ua m uc, .int .i64 tn] 63)).alloc (Obj.cells #[.slice ta m tc, .int .i64 tn] 63)).drew = V at *
              clear z0 z1 z2 z3 x0 x1 xw yw
              obtain ⟨d0, d1, d2, d3⟩ := HV.out.1 V (Below.refl _ _)
              clear s0 s1 s2 s3 s4 n1 n2 hpl hql
              have y1 : ¬ wr.heap.size = wr.heap.size + 1 := by omega
              generalize wr.heap.size + 1 = yb at *
              generalize wr.heap.size = ya at *
              go_wp2_with fail
              go_loopw [9] (fun iv wr => ∃ i : Nat, i ≤ m ∧ iv = .int .i64 i ∧ Below V.heap.size V wr) (fun iv _ => m - (intOf iv).toNat)
              case atStart => exact ⟨0, by omega, rfl, Below.refl _ _⟩
              case round =>
                obtain ⟨i, hi, rfl, hb⟩ := hrel
                clear d0 d1 d2 d3
                rename World => wq
                have HBi : Hid (Below (N + 2) W wq) := HV.out.2.trans (hb.mono (by have := HV.out.2.size; have := HZ.out; omega))
                have HBV : Hid (Below V.heap.size V wq) := hb
                obtain ⟨d0, d1, d2, d3⟩ := HV.out.1 wq hb
                clear hb
                have i0 : (0 : Int) ≤ (i : Int) := by omega
                by_cases hil : i < m
                · have i1 : (i : Int) < (m : Int) := by omega
                  obtain ⟨b1, o1, rfl, hb1, hc1⟩ := HSL.out.form (by have := HLN.out; omega)
                  obtain ⟨b2, o2, rfl, hb2, hc2⟩ := HSM.out.form (by have := HLN.out; omega)
                  rw [HNN.out] at hb1 hb2
                  have f1 : wq.cell? ⟨b1, o1 + i, none⟩ = some (.int .u16 ((tC.getD i 0 : Nat) : Int)) := by rw [newCell (HUp.out _ HBi.out) _ _ hb1]; exact hc1 i (by have := HLN.out; omega)
                  have f2 : wq.cell? ⟨b2, o2 + i, none⟩ = some (.int .u16 ((tC.getD i 0 : Nat) : Int)) := by rw [newCell (HUp.out _ HBi.out) _ _ hb2]; exact hc2 i (by have := HLN.out; omega)
                  clear hc1 hc2
                  generalize tC.getD i 0 = ui at *
                  have t4 : ((ui : Int) != (ui : Int)) = false := by simp
                  go_wp2_with fail
                  go_quiet (fail)
                  have HBn : Hid (Below V.heap.size V (wq.drewN nq)) := below_drewN HBV.out nq
                  go_wp2_with fail
                  go_roundw
                  case rel => exact ⟨i + 1, by omega, by go_num, HBn.out⟩
                  case measure => simp [intOf]; omega
                · have i1 : ¬ (i : Int) < (m : Int) := by omega
                  go_wp2_with fail
                  go_roundw
                  case rel => exact ⟨c + 1, by omega, by go_num, HBi.out⟩
                  case measure => simp [intOf]; omega
        · have a1 : ¬ (c : Int) < (rl : Int) := by omega
          go_wp2_with fail
          go_roundw
          case rel => exact ⟨k + 1, by omega, by go_num, HB.out⟩
          case measure => simp [intOf]; omega
    · have b1 : ¬ (k : Int) < (n : Int) := by omega
      go_wp2_with fail
      go_ret
      exact ⟨rfl, by have := HUp.out _ HB.out; rw [HNN.out]; exact this⟩

end Go.Proofs.YtppanogpeengnaaDoor

namespace Go.Proofs.YtppanogpeengnaaDoor
open Go.RowKit L3

/-- two cells hold a table whose numbers lie in the blocks from lo to B -/
def Tg (w : World) (lo B : Nat) (x y : Value) (t : Px) : Prop := ∃ b o c, x = .slice (some ⟨b, o, none⟩) t.1.length c ∧ y = .int .i64 t.2 ∧ lo ≤ b ∧ b < B ∧ ∀ j, j < t.1.length → w.cell? ⟨b, o + j, none⟩ = some (.int .u16 (t.1.getD j 0 : Nat))
/-- a row of tables in the blocks from lo to B -/
def Rg (w : World) (lo B : Nat) (v : Value) (R : List Px) : Prop := ∃ b c, v = .slice (some ⟨b, 0, none⟩) R.length c ∧ lo ≤ b ∧ b < B ∧ ∀ (j : Nat) t, R[j]? = some t → ∃ x y, w.cell? ⟨b, j * 2, none⟩ = some x ∧ w.cell? ⟨b, j * 2 + 1, none⟩ = some y ∧ Tg w lo B x y t
theorem cellk {w w' : World} {b : Nat} (h : w'.heap[b]? = w.heap[b]?) (o : Nat) : w'.cell? ⟨b, o, none⟩ = w.cell? ⟨b, o, none⟩ := World.cell?_of_block (w := w) (a := ⟨b, o, none⟩) h
theorem frozenk {w w' : World} {b : Nat} (h : w'.heap[b]? = w.heap[b]?) (o : Nat) : w'.frozen? ⟨b, o, none⟩ = w.frozen? ⟨b, o, none⟩ := World.frozen?_of_block (w := w) (a := ⟨b, o, none⟩) h
theorem Tg.keep {w w' : World} {lo B lo' B' : Nat} {x y : Value} {t : Px} (h : Tg w lo B x y t) (hk : ∀ b, lo ≤ b → b < B → w'.heap[b]? = w.heap[b]?) (hl : lo' ≤ lo) (hB : B ≤ B') : Tg w' lo' B' x y t := by
  obtain ⟨b, o, c, h1, h2, h3, h4, h5⟩ := h
  exact ⟨b, o, c, h1, h2, by omega, by omega, fun j hj => by rw [cellk (hk b h3 h4)]; exact h5 j hj⟩
theorem Rg.keep {w w' : World} {lo B B' : Nat} {v : Value} {R : List Px} (h : Rg w lo B v R) (hk : ∀ b, lo ≤ b → b < B → w'.heap[b]? = w.heap[b]?) (hB : B ≤ B') : Rg w' lo B' v R := by
  obtain ⟨b, c, h1, h3, h4, h5⟩ := h
  refine ⟨b, c, h1, h3, by omega, fun j t ht => ?_⟩
  obtain ⟨x, y, g1, g2, g3⟩ := h5 j t ht
  exact ⟨x, y, by rw [cellk (hk b h3 h4)]; exact g1, by rw [cellk (hk b h3 h4)]; exact g2, g3.keep hk (Nat.le_refl _) hB⟩
theorem Rg.rv {w : World} {lo B : Nat} {v : Value} {R : List Px} (h : Rg w lo B v R) (hB : B ≤ w.heap.size) : Rv w v R := by
  obtain ⟨b, c, h1, h3, h4, h5⟩ := h
  refine ⟨_, c, h1, Or.inr ⟨b, rfl, by omega, fun j t ht => ?_⟩⟩
  obtain ⟨x, y, g1, g2, b', o, c', e1, e2, e3, e4, e5⟩ := h5 j t ht
  exact ⟨x, y, g1, g2, _, c', e1, e2, Or.inr ⟨b', o, rfl, by omega, e5⟩⟩
/-- what stays: all blocks but those of P -/
structure Kx (P : Nat → Prop) (w w' : World) : Prop where
  os : w'.os = w.os
  tape : w'.tape = w.tape
  output : w'.output = w.output
  size : w.heap.size ≤ w'.heap.size
  block : ∀ b, b < w.heap.size → ¬ P b → w'.heap[b]? = w.heap[b]?
theorem Kx.of {P : Nat → Prop} {w w' : World} (h : Below w.heap.size w w') : Kx P w w' := ⟨h.os, h.tape, h.output, h.size, fun b hb _ => h.block b hb⟩
theorem Kx.set {P : Nat → Prop} (w : World) (b o : Nat) (v : Value) (h : P b) : Kx P w (w.setCell ⟨b, o, none⟩ v) := ⟨rfl, rfl, rfl, by rw [setCell_size]; exact Nat.le_refl _, fun k _ hk => Below.heap_setCell _ _ _ _ (fun e => hk (by rw [e]; exact h))⟩
theorem Kx.trans {P : Nat → Prop} {a b c : World} (h : Kx P a b) (k : Kx P b c) : Kx P a c := ⟨k.os.trans h.os, k.tape.trans h.tape, k.output.trans h.output, Nat.le_trans h.size k.size, fun i hi hP => by rw [k.block i (Nat.lt_of_lt_of_le hi h.size) hP, h.block i hi hP]⟩
theorem Kx.below {P : Nat → Prop} {w w' : World} (h : Kx P w w') (hP : ∀ b, P b → w.heap.size ≤ b) : Below w.heap.size w w' := ⟨h.os, h.tape, h.output, h.size, fun k hk => h.block k hk (fun e => by have := hP k e; omega)⟩
theorem Kx.belowAt {P : Nat → Prop} {B : Nat} {w w' : World} (h : Kx P w w') (hB : B ≤ w.heap.size) (hP : ∀ b, P b → B ≤ b) : Below B w w' := ⟨h.os, h.tape, h.output, h.size, fun k hk => h.block k (by omega) (fun e => by have := hP k e; omega)⟩

/-- the copy, ahead of row k; N: where the call's own memory begins -/
structure Ci (w : World) (N n : Nat) (X : List (List Px)) (k : Nat) (wr : World) : Prop where
  hN : w.heap.size = N
  size : N + 4 ≤ wr.heap.size
  bel : Below N w wr
  box : wr.cell? ⟨N + 3, 0, none⟩ = some (.slice (some ⟨N + 2, 0, none⟩) n n)
  res : wr.cell? ⟨N + 1, 0, none⟩ = some (.slice none 0 0)
  rth : wr.frozen? ⟨N + 1, 0, none⟩ = false
  out : ∀ j, k ≤ j → j < n → wr.cell? ⟨N + 2, j, none⟩ = some (.slice none 0 0)
  th : ∀ j, wr.frozen? ⟨N + 2, j, none⟩ = false
  rows : ∀ (j : Nat) R, j < k → X[j]? = some R → ∃ x, wr.cell? ⟨N + 2, j, none⟩ = some x ∧ Rg wr (N + 4) wr.heap.size x R
/-- within row k, whose block is r, ahead of table c -/
structure Cj (w : World) (N n : Nat) (X : List (List Px)) (k : Nat) (R : List Px) (r c : Nat) (wr : World) : Prop where
  hN : w.heap.size = N
  lo : N + 4 ≤ r
  hi : r < wr.heap.size
  bel : Below N w wr
  box : wr.cell? ⟨N + 3, 0, none⟩ = some (.slice (some ⟨N + 2, 0, none⟩) n n)
  res : wr.cell? ⟨N + 1, 0, none⟩ = some (.slice none 0 0)
  rth : wr.frozen? ⟨N + 1, 0, none⟩ = false
  out : ∀ j, k + 1 ≤ j → j < n → wr.cell? ⟨N + 2, j, none⟩ = some (.slice none 0 0)
  th : ∀ j, wr.frozen? ⟨N + 2, j, none⟩ = false
  rows : ∀ (j : Nat) R, j < k → X[j]? = some R → ∃ x, wr.cell? ⟨N + 2, j, none⟩ = some x ∧ Rg wr (N + 4) r x R
  own : wr.cell? ⟨N + 2, k, none⟩ = some (.slice (some ⟨r, 0, none⟩) R.length R.length)
  rt : ∀ j, wr.frozen? ⟨r, j, none⟩ = false
  tabs : ∀ (j : Nat) t, j < c → R[j]? = some t → ∃ x y, wr.cell? ⟨r, j * 2, none⟩ = some x ∧ wr.cell? ⟨r, j * 2 + 1, none⟩ = some y ∧ Tg wr (r + 1) wr.heap.size x y t
  blank : ∀ j, c ≤ j → j < R.length → wr.cell? ⟨r, j * 2, none⟩ = some (.slice none 0 0) ∧ wr.cell? ⟨r, j * 2 + 1, none⟩ = some (.int .i64 0)
theorem Cj.done {w : World} {N n : Nat} {X : List (List Px)} {k : Nat} {R : List Px} {r : Nat} {wr : World} (h : Cj w N n X k R r R.length wr) (hR : X[k]? = some R) : Ci w N n X (k + 1) wr :=
  { hN := h.hN, size := by have := h.lo; have := h.hi; omega, bel := h.bel, box := h.box, res := h.res, rth := h.rth, out := h.out, th := h.th,
    rows := fun j R' hj hR' => by
      by_cases e : j = k
      · subst e
        rw [hR] at hR'
        obtain rfl := Option.some.inj hR'
        refine ⟨_, h.own, r, _, rfl, h.lo, h.hi, fun i t ht => ?_⟩
        obtain ⟨x, y, g1, g2, g3⟩ := h.tabs i t (List.getElem?_eq_some_iff.1 ht).1 ht
        exact ⟨x, y, g1, g2, g3.keep (fun _ _ _ => rfl) (by have := h.lo; omega) (Nat.le_refl _)⟩
      · obtain ⟨x, g1, g2⟩ := h.rows j R' (by omega) hR'
        exact ⟨x, g1, g2.keep (fun _ _ _ => rfl) (by have := h.hi; omega)⟩ }
/-- a row begins -/
theorem Ci.row {w : World} {N n : Nat} {X : List (List Px)} {k : Nat} {wr : World} (h : Ci w N n X k wr) (R : List Px) (hk : k < n) {rl : Nat} (hrl : R.length = rl) :
    Cj w N n X k R wr.heap.size 0 ((wr.alloc (.cells (madeCells #[.slice none 0 0, .int .i64 0] (rl * 2)) 63)).setCell ⟨N + 2, k, none⟩ (.slice (some ⟨wr.heap.size, 0, none⟩) rl rl)).drew := by
  subst hrl
  have hs := h.size
  have hkx : Kx (fun b => b = N + 2) wr ((wr.alloc (.cells (madeCells #[.slice none 0 0, .int .i64 0] (R.length * 2)) 63)).setCell ⟨N + 2, k, none⟩ (.slice (some ⟨wr.heap.size, 0, none⟩) R.length R.length)).drew := Kx.trans (Kx.trans (Kx.of (P := fun b => b = N + 2) (from_alloc wr (.cells (madeCells #[.slice none 0 0, .int .i64 0] (R.length * 2)) 63))) (Kx.set (P := fun b => b = N + 2) (wr.alloc (.cells (madeCells #[.slice none 0 0, .int .i64 0] (R.length * 2)) 63)) (N + 2) k (.slice (some ⟨wr.heap.size, 0, none⟩) R.length R.length) rfl)) (Kx.of (below_drew (Below.refl _ _)))
  have hsz : ((wr.alloc (.cells (madeCells #[.slice none 0 0, .int .i64 0] (R.length * 2)) 63)).setCell ⟨N + 2, k, none⟩ (.slice (some ⟨wr.heap.size, 0, none⟩) R.length R.length)).drew.heap.size = wr.heap.size + 1 := by
    show ((wr.alloc _).setCell _ _).heap.size = _
    rw [setCell_size]; simp
  have hnew : ((wr.alloc (.cells (madeCells #[.slice none 0 0, .int .i64 0] (R.length * 2)) 63)).setCell ⟨N + 2, k, none⟩ (.slice (some ⟨wr.heap.size, 0, none⟩) R.length R.length)).drew.heap[wr.heap.size]? = some (.cells (madeCells #[.slice none 0 0, .int .i64 0] (R.length * 2)) 63 (0, 0)) := by
    show ((wr.alloc _).setCell _ _).heap[wr.heap.size]? = _
    rw [Below.heap_setCell _ _ _ _ (by show wr.heap.size ≠ N + 2; omega)]
    exact heap_alloc_new wr _
  have hne : ∀ j, j ≠ k → ((wr.alloc (.cells (madeCells #[.slice none 0 0, .int .i64 0] (R.length * 2)) 63)).setCell ⟨N + 2, k, none⟩ (.slice (some ⟨wr.heap.size, 0, none⟩) R.length R.length)).drew.cell? ⟨N + 2, j, none⟩ = wr.cell? ⟨N + 2, j, none⟩ := fun j hj => by
    show ((wr.alloc _).setCell _ _).cell? _ = _
    rw [World.cell?_setCell_other _ _ _ _ (by simp <;> omega), newCell (from_alloc wr _) _ _ (by omega)]
  have hfr : ∀ a : Addr, a.block < wr.heap.size → ((wr.alloc (.cells (madeCells #[.slice none 0 0, .int .i64 0] (R.length * 2)) 63)).setCell ⟨N + 2, k, none⟩ (.slice (some ⟨wr.heap.size, 0, none⟩) R.length R.length)).drew.frozen? a = wr.frozen? a := fun a ha => by
    show ((wr.alloc _).setCell _ _).frozen? _ = _
    rw [World.frozen?_setCell]
    exact World.frozen?_of_block ((from_alloc wr _).block _ ha)
  have hold : ∀ b o, b < wr.heap.size → b ≠ N + 2 → ((wr.alloc (.cells (madeCells #[.slice none 0 0, .int .i64 0] (R.length * 2)) 63)).setCell ⟨N + 2, k, none⟩ (.slice (some ⟨wr.heap.size, 0, none⟩) R.length R.length)).drew.cell? ⟨b, o, none⟩ = wr.cell? ⟨b, o, none⟩ := fun b o hb hb2 => cellk (hkx.block b hb hb2) o
  have hmade : ∀ i, i < R.length * 2 → (madeCells #[Value.slice none 0 0, Value.int .i64 0] (R.length * 2))[i]? = some (#[Value.slice none 0 0, Value.int .i64 0][i % 2]!) := fun i hi => by simp [madeCells, hi]
  refine { hN := h.hN, lo := hs, hi := by rw [hsz]; omega, bel := h.bel.trans (hkx.belowAt (by have := h.hN; omega) (fun b e => by have := h.hN; omega)), box := by rw [hold _ _ (by omega) (by omega)]; exact h.box, res := by rw [hold _ _ (by omega) (by omega)]; exact h.res, rth := by rw [hfr _ (by show N + 1 < _; omega)]; exact h.rth, out := fun j hj hj2 => by rw [hne j (by omega)]; exact h.out j (by omega) hj2, th := fun j => by rw [hfr _ (by show N + 2 < _; omega)]; exact h.th j, rows := fun j R' hj hR' => ?_, own := ?_, rt := fun j => by unfold World.frozen?; rw [show (⟨wr.heap.size, j, none⟩ : Addr).block = wr.heap.size from rfl, hnew]; simp, tabs := fun j t hj => by omega, blank := fun j _ hj => ?_ }
  · obtain ⟨x, g1, g2⟩ := h.rows j R' hj hR'
    exact ⟨x, by rw [hne j (by omega)]; exact g1, g2.keep (fun b hb hb2 => hkx.block b hb2 (by omega)) (Nat.le_refl _)⟩
  · show ((wr.alloc _).setCell _ _).cell? _ = _
    exact World.cell?_setCell_same _ _ _ (by rw [newCell (from_alloc wr _) _ _ (by omega)]; exact h.out k (Nat.le_refl _) hk)
  · have m0 := hmade (j * 2) (by omega)
    have m1 := hmade (j * 2 + 1) (by omega)
    rw [show j * 2 % 2 = 0 by omega] at m0
    rw [show (j * 2 + 1) % 2 = 1 by omega] at m1
    exact ⟨by simp only [World.cell?, hnew]; simpa using m0, by simp only [World.cell?, hnew]; simpa using m1⟩

end Go.Proofs.YtppanogpeengnaaDoor

namespace Go.Proofs.YtppanogpeengnaaDoor
open Go.RowKit L3

theorem Cj.step {w : World} {N n : Nat} {X : List (List Px)} {k : Nat} {R : List Px} {r c : Nat} {wo w3 : World} (h : Cj w N n X k R r c wo) {tC : List Nat} {tn : Int} (hR : R[c]? = some (tC, tn)) (hb : Below wo.heap.size wo w3) {g m c' : Nat} (hm : tC.length = m) (ho : Ow w3 wo.heap.size g m c' tC) :
    Cj w N n X k R r (c + 1) ((w3.setCell ⟨r, c * 2, none⟩ (.slice (some ⟨g, 0, none⟩) m c')).setCell ⟨r, c * 2 + 1, none⟩ (.int .i64 tn)) := by
  subst hm
  have hlo := h.lo
  have hhi := h.hi
  have hcl := (List.getElem?_eq_some_iff.1 hR).1
  have hkx : Kx (fun b => b = r) wo ((w3.setCell ⟨r, c * 2, none⟩ (.slice (some ⟨g, 0, none⟩) tC.length c')).setCell ⟨r, c * 2 + 1, none⟩ (.int .i64 tn)) := Kx.trans (Kx.trans (Kx.of (P := fun b => b = r) hb) (Kx.set (P := fun b => b = r) w3 r (c * 2) _ rfl)) (Kx.set (P := fun b => b = r) _ r (c * 2 + 1) _ rfl)
  have hsz : ((w3.setCell ⟨r, c * 2, none⟩ (.slice (some ⟨g, 0, none⟩) tC.length c')).setCell ⟨r, c * 2 + 1, none⟩ (.int .i64 tn)).heap.size = w3.heap.size := by rw [setCell_size, setCell_size]
  have hold : ∀ b o, b < wo.heap.size → b ≠ r → ((w3.setCell ⟨r, c * 2, none⟩ (.slice (some ⟨g, 0, none⟩) tC.length c')).setCell ⟨r, c * 2 + 1, none⟩ (.int .i64 tn)).cell? ⟨b, o, none⟩ = wo.cell? ⟨b, o, none⟩ := fun b o hb hb2 => cellk (hkx.block b hb hb2) o
  have hfr : ∀ b o, b < wo.heap.size → ((w3.setCell ⟨r, c * 2, none⟩ (.slice (some ⟨g, 0, none⟩) tC.length c')).setCell ⟨r, c * 2 + 1, none⟩ (.int .i64 tn)).frozen? ⟨b, o, none⟩ = wo.frozen? ⟨b, o, none⟩ := fun b o hb2 => by
    rw [World.frozen?_setCell, World.frozen?_setCell]
    exact newFrozen hb _ _ hb2
  have hg := ho.lies
  have hoth : ∀ o, o ≠ c * 2 → o ≠ c * 2 + 1 → ((w3.setCell ⟨r, c * 2, none⟩ (.slice (some ⟨g, 0, none⟩) tC.length c')).setCell ⟨r, c * 2 + 1, none⟩ (.int .i64 tn)).cell? ⟨r, o, none⟩ = wo.cell? ⟨r, o, none⟩ := fun o h1 h2 => by
    rw [World.cell?_setCell_other _ _ _ _ (by simp <;> omega), World.cell?_setCell_other _ _ _ _ (by simp <;> omega), newCell hb _ _ hhi]
  have hbl := h.blank c (Nat.le_refl _) hcl
  have e1 : ((w3.setCell ⟨r, c * 2, none⟩ (.slice (some ⟨g, 0, none⟩) tC.length c')).setCell ⟨r, c * 2 + 1, none⟩ (.int .i64 tn)).cell? ⟨r, c * 2 + 1, none⟩ = some (.int .i64 tn) := World.cell?_setCell_same _ _ _ (by rw [World.cell?_setCell_other _ _ _ _ (by simp), newCell hb _ _ hhi]; exact hbl.2)
  have e0 : ((w3.setCell ⟨r, c * 2, none⟩ (.slice (some ⟨g, 0, none⟩) tC.length c')).setCell ⟨r, c * 2 + 1, none⟩ (.int .i64 tn)).cell? ⟨r, c * 2, none⟩ = some (.slice (some ⟨g, 0, none⟩) tC.length c') := by
    rw [World.cell?_setCell_other _ _ _ _ (by simp)]
    exact World.cell?_setCell_same _ _ _ (by rw [newCell hb _ _ hhi]; exact hbl.1)
  have hgc : ∀ j, j < tC.length → ((w3.setCell ⟨r, c * 2, none⟩ (.slice (some ⟨g, 0, none⟩) tC.length c')).setCell ⟨r, c * 2 + 1, none⟩ (.int .i64 tn)).cell? ⟨g, 0 + j, none⟩ = some (.int .u16 (tC.getD j 0 : Nat)) := fun j hj => by
    rw [Nat.zero_add, World.cell?_setCell_other _ _ _ _ (by simp <;> omega), World.cell?_setCell_other _ _ _ _ (by simp <;> omega)]
    exact ho.cell j hj
  refine { hN := h.hN, lo := hlo, hi := by rw [hsz]; have := hb.size; omega, bel := h.bel.trans (hkx.belowAt (by have := h.bel.size; have := h.hN; omega) (fun b e => by omega)), box := by rw [hold _ _ (by omega) (by omega)]; exact h.box, res := by rw [hold _ _ (by omega) (by omega)]; exact h.res, rth := by rw [hfr _ _ (by omega)]; exact h.rth, out := fun j hj hj2 => by rw [hold _ _ (by omega) (by omega)]; exact h.out j hj hj2, th := fun j => by rw [hfr _ _ (by omega)]; exact h.th j, rows := fun j R' hj hR' => ?_, own := by rw [hold _ _ (by omega) (by omega)]; exact h.own, rt := fun j => by rw [hfr _ _ hhi]; exact h.rt j, tabs := fun j t hj ht => ?_, blank := fun j hj hj2 => ?_ }
  · obtain ⟨x, g1, g2⟩ := h.rows j R' hj hR'
    exact ⟨x, by rw [hold _ _ (by omega) (by omega)]; exact g1, g2.keep (fun b hb1 hb2 => hkx.block b (by omega) (by omega)) (Nat.le_refl _)⟩
  · by_cases e : j = c
    · subst e
      rw [hR] at ht
      obtain rfl := Option.some.inj ht
      exact ⟨_, _, e0, e1, g, 0, c', rfl, rfl, by omega, by rw [hsz]; exact hg.2, hgc⟩
    · obtain ⟨x, y, g1, g2, g3⟩ := h.tabs j t (by omega) ht
      exact ⟨x, y, by rw [hoth _ (by omega) (by omega)]; exact g1, by rw [hoth _ (by omega) (by omega)]; exact g2, g3.keep (fun b hb1 hb2 => hkx.block b hb2 (by omega)) (Nat.le_refl _) (by rw [hsz]; exact hb.size)⟩
  · have := h.blank j (by omega) hj2
    exact ⟨by rw [hoth _ (by omega) (by omega)]; exact this.1, by rw [hoth _ (by omega) (by omega)]; exact this.2⟩
/-- a copy: a set of the same tables in new memory -/
def CpX (w w' : World) (e : Ending) (n : Nat) (X : List (List Px)) : Prop := ∃ b c, e = .returned (.agg #[.slice (some ⟨b, 0, none⟩) n c]) ∧ Gv w' (some ⟨b, 0, none⟩) X ∧ Below w.heap.size w w'

end Go.Proofs.YtppanogpeengnaaDoor

namespace Go.Proofs.YtppanogpeengnaaDoor
open Go.RowKit L3

theorem ci_start {w : World} {a : Option Addr} {cT n N : Nat} {X : List (List Px)} (hN : w.heap.size = N) : Ci w N n X 0 ((((w.alloc (.cells #[.slice a n cT] 25)).alloc (.cells #[.slice none 0 0] 25)).alloc (.cells (madeCells #[.slice none 0 0] n) 60)).alloc (.cells #[.slice (some ⟨N + 2, 0, none⟩) n n] 25)) := by
  subst hN
  obtain ⟨v1, hv1⟩ : ∃ v, w.alloc (.cells #[.slice a n cT] 25) = v := ⟨_, rfl⟩
  have s1 : v1.heap.size = w.heap.size + 1 := by rw [← hv1]; simp
  have b1 : Below w.heap.size w v1 := by rw [← hv1]; exact from_alloc _ _
  rw [hv1]
  obtain ⟨v2, hv2⟩ : ∃ v, v1.alloc (.cells #[.slice none 0 0] 25) = v := ⟨_, rfl⟩
  have s2 : v2.heap.size = w.heap.size + 2 := by rw [← hv2]; simp [s1]
  have b2 : Below v1.heap.size v1 v2 := by rw [← hv2]; exact from_alloc _ _
  have r2 : v2.heap[w.heap.size + 1]? = some (.cells #[.slice none 0 0] 25 (0, 0)) := by rw [← hv2, ← s1]; exact heap_alloc_new v1 _
  rw [hv2]
  obtain ⟨v3, hv3⟩ : ∃ v, v2.alloc (.cells (madeCells #[.slice none 0 0] n) 60) = v := ⟨_, rfl⟩
  have s3 : v3.heap.size = w.heap.size + 3 := by rw [← hv3]; simp [s2]
  have b3 : Below v2.heap.size v2 v3 := by rw [← hv3]; exact from_alloc _ _
  have r3 : v3.heap[w.heap.size + 2]? = some (.cells (madeCells #[.slice none 0 0] n) 60 (0, 0)) := by rw [← hv3, ← s2]; exact heap_alloc_new v2 _
  rw [hv3]
  obtain ⟨v4, hv4⟩ : ∃ v, v3.alloc (.cells #[.slice (some ⟨w.heap.size + 2, 0, none⟩) n n] 25) = v := ⟨_, rfl⟩
  have s4 : v4.heap.size = w.heap.size + 4 := by rw [← hv4]; simp [s3]
  have b4 : Below v3.heap.size v3 v4 := by rw [← hv4]; exact from_alloc _ _
  have r4 : v4.heap[w.heap.size + 3]? = some (.cells #[.slice (some ⟨w.heap.size + 2, 0, none⟩) n n] 25 (0, 0)) := by rw [← hv4, ← s3]; exact heap_alloc_new v3 _
  rw [hv4]
  have q2 : v4.heap[w.heap.size + 1]? = some (.cells #[.slice none 0 0] 25 (0, 0)) := by rw [b4.block _ (by omega), b3.block _ (by omega)]; exact r2
  have q3 : v4.heap[w.heap.size + 2]? = some (.cells (madeCells #[.slice none 0 0] n) 60 (0, 0)) := by rw [b4.block _ (by omega)]; exact r3
  have fz : ∀ (b o : Nat) (cs : Array Value) (ty : Nat), v4.heap[b]? = some (.cells cs ty (0, 0)) → v4.frozen? ⟨b, o, none⟩ = false := fun b o cs ty hh => by
    unfold World.frozen?
    rw [show (⟨b, o, none⟩ : Addr).block = b from rfl, hh]; simp
  exact { hN := rfl, size := by omega, bel := below_to (below_to (below_to b1 b2) b3) b4, box := by simp only [World.cell?, r4]; simp, res := by simp only [World.cell?, q2]; simp, rth := fz _ _ _ _ q2, out := fun j _ hj => by simp only [World.cell?, q3]; simp [madeCells, hj, Nat.mod_one], th := fun j => fz _ _ _ _ q3, rows := fun j R hj => by omega }

set_option maxRecDepth 100000 in
set_option maxHeartbeats 8000000 in
theorem scopy_g {w : World} {a : Option Addr} {cT n : Nat} {X : List (List Px)} (h : Gv w a X) (hn : X.length = n) (hs : Sml X) (hp : ∀ R ∈ X, ∀ t ∈ R, 0 < t.1.length) :
    Calls Tryd.prog 29 #[.agg #[.slice a n cT]] w fun e w' => CpX w w' e n X := by
  obtain ⟨i, hi, hz0, hz1, hz2⟩ := info_parts Tryd.inf60
  obtain ⟨i3, hi3, hy0, hy1, hy2⟩ := info_parts Tryd.inf63
  have n32 : (n : Int) ≤ 32 := by have := hs.n; omega
  have hmk : ∀ u : World, (Instr.makeSlice 23 (.int .i64 (n : Int)) (.int .i64 (n : Int))).run Tryd.prog u = .ok (.slice (some ⟨u.heap.size, 0, none⟩) n n) (u.alloc (.cells (madeCells #[.slice none 0 0] n) 60)) := fun u => by
    have h := run_make (P := Tryd.prog) u 23 60 i (.slice none 0 0) Tryd.underlying23 hi hz0 .i64 .i64 n n (by omega) (Int.le_refl _) (by rw [hz2]; omega) (by omega)
    simpa [hz1, Value.cells] using h
  have HMK : Hid (∀ (m : Nat), m ≤ 16 → ∀ u : World, (Instr.makeSlice 60 (.int .i64 (m : Int)) (.int .i64 (m : Int))).run Tryd.prog u = .ok (.slice (some ⟨u.heap.size, 0, none⟩) m m) (u.alloc (.cells (madeCells #[.slice none 0 0, .int .i64 0] (m * 2)) 63))) := fun m hm u => by
    have h := run_make (P := Tryd.prog) u 60 63 i3 (.agg #[.slice none 0 0, .int .i64 0]) Tryd.underlying60 hi3 hy0 .i64 .i64 m m (by omega) (Int.le_refl _) (by rw [hy2]; omega) (by omega)
    simpa [hy1, Value.cells] using h
  obtain ⟨N, hNN⟩ : ∃ N, w.heap.size = N := ⟨_, rfl⟩
  have HC : Hid (Ci w N n X 0 ((((w.alloc (.cells #[.slice a n cT] 25)).alloc (.cells #[.slice none 0 0] 25)).alloc (.cells (madeCells #[.slice none 0 0] n) 60)).alloc (.cells #[.slice (some ⟨N + 2, 0, none⟩) n n] 25))) := ci_start hNN
  have HNN : Hid (w.heap.size = N) := hNN
  have HG : Hid (Gv w a X) := h
  have HSm : Hid (Sml X) := hs
  have HP : Hid (∀ R ∈ X, ∀ t ∈ R, 0 < t.1.length) := hp
  have HN : Hid (X.length = n) := hn
  have k1 : (w.alloc (.cells #[.slice a n cT] 25)).cell? ⟨N, 0, none⟩ = some (.slice a n cT) := by rw [← hNN]; simp
  clear h hn hs hp
  go_enter Tryd.func29, Tryd.ntmps29
  go_wp2_with fail
  rw [show N + 1 + 1 + 1 = N + 3 from rfl, show N + 1 + 1 = N + 2 from rfl]
  generalize ((((w.alloc (.cells #[.slice a n cT] 25)).alloc (.cells #[.slice none 0 0] 25)).alloc (.cells (madeCells #[.slice none 0 0] n) 60)).alloc (.cells #[.slice (some ⟨N + 2, 0, none⟩) n n] 25)) = W at *
  clear hmk k1
  go_loopw [16] (fun iv wr => ∃ k : Nat, k ≤ n ∧ iv = .int .i64 k ∧ Ci w N n X k wr) (fun iv _ => n - (intOf iv).toNat)
  case atStart => exact ⟨0, by omega, rfl, HC.out⟩
  case round =>
    clear HC
    obtain ⟨k, hk, rfl, hci⟩ := hrel
    have HC : Hid (Ci w N n X k wr) := hci
    clear hci
    have b0 : 0 ≤ (k : Int) := by omega
    by_cases hlt : k < n
    · have b1 : (k : Int) < (n : Int) := by omega
      have hkl : k < X.length := by rw [HN.out]; exact hlt
      have hget : X[k]? = some (X[k]'hkl) := List.getElem?_eq_getElem _
      generalize X[k]'hkl = R at *
      have HR : Hid (X[k]? = some R) := hget
      have hm := List.mem_of_getElem? hget
      have hbw : Below w.heap.size w wr := by rw [HNN.out]; exact HC.out.bel
      obtain ⟨bt, ra, rc, rfl, hbl, ha1, ha2⟩ := (HG.out.to hbw).row hget
      have r16 := HSm.out.r R hm
      have HT16 : Hid (∀ t ∈ R, t.1.length ≤ 16 ∧ 0 < t.1.length) := fun t ht => ⟨HSm.out.t R hm t ht, HP.out R hm t ht⟩
      obtain ⟨rl, hrl⟩ : ∃ rl, R.length = rl := ⟨_, rfl⟩
      have HRl : Hid (R.length = rl) := hrl
      rw [hrl] at ha1 ha2 r16
      have HRw : Hid (Rv w (.slice ra rl rc) R) := by
        obtain ⟨bt', ra', rc', e, hb', g1, g2⟩ := HG.out.row hget
        simp only [Option.some.injEq, Addr.mk.injEq, and_true] at e
        subst e
        rw [newCell hbw _ _ hb', g1] at ha1
        simp only [Option.some.injEq, Value.slice.injEq] at ha1
        obtain ⟨rfl, _, rfl⟩ := ha1
        rw [hrl] at g2
        exact g2
      have HRow : Hid (Cj w N n X k R wr.heap.size 0 ((wr.alloc (.cells (madeCells #[.slice none 0 0, .int .i64 0] (rl * 2)) 63)).setCell ⟨N + 2, k, none⟩ (.slice (some ⟨wr.heap.size, 0, none⟩) rl rl)).drew) := HC.out.row R hlt hrl
      have mk := HMK.out rl r16
      have hs4 := HC.out.size
      have y3 := HC.out.box
      have ytl := HC.out.out k (Nat.le_refl _) hlt
      have yth := HC.out.th k
      have z3 : (wr.alloc (.cells (madeCells #[.slice none 0 0, .int .i64 0] (rl * 2)) 63)).cell? ⟨N + 3, 0, none⟩ = some (.slice (some ⟨N + 2, 0, none⟩) n n) := by rw [newCell (from_alloc wr _) _ _ (by omega)]; exact y3
      have ztl : (wr.alloc (.cells (madeCells #[.slice none 0 0, .int .i64 0] (rl * 2)) 63)).cell? ⟨N + 2, k, none⟩ = some (.slice none 0 0) := by rw [newCell (from_alloc wr _) _ _ (by omega)]; exact ytl
      have zth : (wr.alloc (.cells (madeCells #[.slice none 0 0, .int .i64 0] (rl * 2)) 63)).frozen? ⟨N + 2, k, none⟩ = false := by rw [newFrozen (from_alloc wr _) _ _ (by omega)]; exact yth
      clear hget hm hbw ha2 hrl hkl HC
      go_wp2_with fail
      go_region
      clear y3 ytl yth z3 ztl zth mk ha1 hbl hs4
      generalize ((wr.alloc (.cells (madeCells #[.slice none 0 0, .int .i64 0] (rl * 2)) 63)).setCell ⟨N + 2, k, none⟩ (.slice (some ⟨wr.heap.size, 0, none⟩) rl rl)).drew = V at *
      generalize wr.heap.size = r at *
      go_wp2_with fail
      go_loopw [30] (fun iv wr => ∃ c : Nat, c ≤ rl ∧ iv = .int .i64 c ∧ Cj w N n X k R r c wr) (fun iv _ => rl - (intOf iv).toNat)
      case atStart => exact ⟨0, by omega, rfl, HRow.out⟩
      case round =>
        clear HRow
        obtain ⟨c, hc, rfl, hcj⟩ := hrel
        have HJ : Hid (Cj w N n X k R r c wr) := hcj
        clear hcj
        have a0 : 0 ≤ (c : Int) := by omega
        by_cases hcl : c < rl
        · have a1 : (c : Int) < (rl : Int) := by omega
          have hgt : R[c]? = some (R[c]'(by rw [HRl.out]; exact hcl)) := List.getElem?_eq_getElem _
          generalize R[c]'(by rw [HRl.out]; exact hcl) = t at *
          have HGt : Hid (R[c]? = some t) := hgt
          have ht16 := HT16.out t (List.mem_of_getElem? hgt)
          obtain ⟨pb, ta, tc, rfl, hpl, g0, g1, gs⟩ := HRw.out.tab hgt
          obtain ⟨tC, tn⟩ := t
          simp only at g0 g1 gs ht16
          obtain ⟨m, hm2⟩ : ∃ m, tC.length = m := ⟨_, rfl⟩
          have HM : Hid (tC.length = m) := hm2
          rw [hm2] at g0 ht16
          have hbw : Below w.heap.size w wr := by rw [HNN.out]; exact HJ.out.bel
          have u0 : wr.cell? ⟨pb, c * 2, none⟩ = some (.slice ta m tc) := by rw [newCell hbw _ _ hpl]; exact g0
          have u1 : wr.cell? ⟨pb, c * 2 + 1, none⟩ = some (.int .i64 tn) := by rw [newCell hbw _ _ hpl]; exact g1
          have HSL : Hid (Sl (wr.alloc (.cells #[.slice ta m tc, .int .i64 tn] 63)) .u16 ta tC) := (Sl.to gs hbw).to (from_alloc _ _)
          have hlo := HJ.out.lo
          have hhi := HJ.out.hi
          have hb3 := HJ.out.box
          have hbk := HJ.out.own
          rw [HRl.out] at hbk
          obtain ⟨hz0', hz1'⟩ := HJ.out.blank c (Nat.le_refl _) (by rw [HRl.out]; exact hcl)
          have hf0 := HJ.out.rt (c * 2)
          have hf1 := HJ.out.rt (c * 2 + 1)
          have HBa : Hid (Below wr.heap.size wr (wr.alloc (.cells #[.slice ta m tc, .int .i64 tn] 63))) := from_alloc _ _
          have e0 : (wr.alloc (.cells #[.slice ta m tc, .int .i64 tn] 63)).cell? ⟨wr.heap.size, 0, none⟩ = some (.slice ta m tc) := by simp
          have e1 : (wr.alloc (.cells #[.slice ta m tc, .int .i64 tn] 63)).cell? ⟨wr.heap.size, 1, none⟩ = some (.int .i64 tn) := by simp
          have hxw : wr.heap.size < (wr.alloc (.cells #[.slice ta m tc, .int .i64 tn] 63)).heap.size := by simp
          have v3 : (wr.alloc (.cells #[.slice ta m tc, .int .i64 tn] 63)).cell? ⟨N + 3, 0, none⟩ = some (.slice (some ⟨N + 2, 0, none⟩) n n) := by rw [newCell HBa.out _ _ (by omega)]; exact hb3
          have vb : (wr.alloc (.cells #[.slice ta m tc, .int .i64 tn] 63)).cell? ⟨N + 2, k, none⟩ = some (.slice (some ⟨r, 0, none⟩) rl rl) := by rw [newCell HBa.out _ _ (by omega)]; exact hbk
          have vz0 : (wr.alloc (.cells #[.slice ta m tc, .int .i64 tn] 63)).cell? ⟨r, c * 2, none⟩ = some (.slice none 0 0) := by rw [newCell HBa.out _ _ hhi]; exact hz0'
          have vz1 : (wr.alloc (.cells #[.slice ta m tc, .int .i64 tn] 63)).cell? ⟨r, c * 2 + 1, none⟩ = some (.int .i64 0) := by rw [newCell HBa.out _ _ hhi]; exact hz1'
          have vf0 : (wr.alloc (.cells #[.slice ta m tc, .int .i64 tn] 63)).frozen? ⟨r, c * 2, none⟩ = false := by rw [newFrozen HBa.out _ _ hhi]; exact hf0
          have vf1 : (wr.alloc (.cells #[.slice ta m tc, .int .i64 tn] 63)).frozen? ⟨r, c * 2 + 1, none⟩ = false := by rw [newFrozen HBa.out _ _ hhi]; exact hf1
          have hpx : wr.heap.size ≠ r := by omega
          have hplt : r < (wr.alloc (.cells #[.slice ta m tc, .int .i64 tn] 63)).heap.size := by omega
          have HSt : Hid (∀ w3 g c', Below (wr.alloc (.cells #[.slice ta m tc, .int .i64 tn] 63)).heap.size (wr.alloc (.cells #[.slice ta m tc, .int .i64 tn] 63)) w3 → Ow w3 (wr.alloc (.cells #[.slice ta m tc, .int .i64 tn] 63)).heap.size g m c' tC → Cj w N n X k R r (c + 1) ((w3.setCell ⟨r, c * 2, none⟩ (.slice (some ⟨g, 0, none⟩) m c')).setCell ⟨r, c * 2 + 1, none⟩ (.int .i64 tn))) := fun w3 g c' hb ho => HJ.out.step HGt.out (below_to HBa.out hb) HM.out (ho.mono HBa.out.size)
          clear hgt gs g0 g1 hbw hm2 hb3 hbk hz0' hz1' hf0 hf1
          go_wp2_with fail
          have n1 : N + 3 ≠ r := by omega
          have n2 : N + 2 ≠ r := by omega
          clear u0 u1 HBa
          generalize (wr.alloc (.cells #[.slice ta m tc, .int .i64 tn] 63)) = V2 at *
          generalize wr.heap.size = x7 at *
          have HCL : Hid (∀ u, Below V2.heap.size V2 u → Calls Tryd.prog 54 #[.slice ta m tc] u fun e u' => ∃ g c', e = .returned (.slice (some ⟨g, 0, none⟩) m c') ∧ Ow u' V2.heap.size g m c' tC ∧ Below V2.heap.size V2 u' ∧ u'.cell? ⟨N + 3, 0, none⟩ = some (.slice (some ⟨N + 2, 0, none⟩) n n) ∧ u'.cell? ⟨N + 2, k, none⟩ = some (.slice (some ⟨r, 0, none⟩) rl rl) ∧ u'.cell? ⟨x7, 0, none⟩ = some (.slice ta m tc) ∧ u'.cell? ⟨x7, 1, none⟩ = some (.int .i64 tn) ∧ u'.cell? ⟨r, c * 2, none⟩ = some (.slice none 0 0) ∧ u'.cell? ⟨r, c * 2 + 1, none⟩ = some (.int .i64 0) ∧ u'.frozen? ⟨r, c * 2, none⟩ = false ∧ u'.frozen? ⟨r, c * 2 + 1, none⟩ = false) := fun u hu => by
            have h1 := clone_some (c := tc) (HSL.out.to hu) (by rw [HM.out]; omega) (by rw [HM.out]; omega)
            rw [HM.out] at h1
            refine h1.mono fun e u' h => ?_
            obtain ⟨g, c', h2, h3, h4⟩ := h
            have hb := below_to hu h4
            exact ⟨g, c', h2, h3.mono hu.size, hb, by rw [newCell hb _ _ (by omega)]; exact v3, by rw [newCell hb _ _ (by omega)]; exact vb, by rw [newCell hb _ _ hxw]; exact e0, by rw [newCell hb _ _ hxw]; exact e1, by rw [newCell hb _ _ hplt]; exact vz0, by rw [newCell hb _ _ hplt]; exact vz1, by rw [newFrozen hb _ _ hplt]; exact vf0, by rw [newFrozen hb _ _ hplt]; exact vf1⟩
          have hbd : Below V2.heap.size V2 V2.drew := below_drew (Below.refl _ _)
          have d3 : V2.drew.cell? ⟨N + 3, 0, none⟩ = some (.slice (some ⟨N + 2, 0, none⟩) n n) := v3
          have db : V2.drew.cell? ⟨N + 2, k, none⟩ = some (.slice (some ⟨r, 0, none⟩) rl rl) := vb
          have d7 : V2.drew.cell? ⟨x7, 0, none⟩ = some (.slice ta m tc) := e0
          have d8 : V2.drew.cell? ⟨x7, 1, none⟩ = some (.int .i64 tn) := e1
          clear v3 vb vz0 vz1 vf0 vf1 e0 e1
          go_region_held3 (fun u => u.cell? ⟨N + 3, 0, none⟩ = some (.slice (some ⟨N + 2, 0, none⟩) n n) ∧ u.cell? ⟨N + 2, k, none⟩ = some (.slice (some ⟨r, 0, none⟩) rl rl) ∧ u.cell? ⟨x7, 0, none⟩ = some (.slice ta m tc) ∧ u.cell? ⟨x7, 1, none⟩ = some (.int .i64 tn)) (((try dsimp only); first | assumption | (refine ⟨?_, ?_, ?_, ?_⟩ <;> first | assumption | go_keep) | go_keep)) ((go_at_call 54; refine (HCL.out _ (by (repeat (first | with_reducible assumption | with_reducible refine below_drew ?_ | with_reducible refine below_alloc ?_ ?_ _ | with_reducible refine below_set ?_ ?_ _ | exact Nat.le_refl _ | exact Below.size (by assumption))))).mono ?_; rintro e w3 ⟨g, c', rfl, ho, hbw, q3, qb, q7, q8, z0, z1, zf0, zf1⟩; have y3 : ((w3.setCell ⟨r, c * 2, none⟩ (.slice (some ⟨g, 0, none⟩) m c')).setCell ⟨r, c * 2 + 1, none⟩ (.int .i64 tn)).cell? ⟨N + 3, 0, none⟩ = some (.slice (some ⟨N + 2, 0, none⟩) n n) := far2 n1 q3; have yb : ((w3.setCell ⟨r, c * 2, none⟩ (.slice (some ⟨g, 0, none⟩) m c')).setCell ⟨r, c * 2 + 1, none⟩ (.int .i64 tn)).cell? ⟨N + 2, k, none⟩ = some (.slice (some ⟨r, 0, none⟩) rl rl) := far2 n2 qb; have y7 : ((w3.setCell ⟨r, c * 2, none⟩ (.slice (some ⟨g, 0, none⟩) m c')).setCell ⟨r, c * 2 + 1, none⟩ (.int .i64 tn)).cell? ⟨x7, 0, none⟩ = some (.slice ta m tc) := far2 hpx q7; have y8 : ((w3.setCell ⟨r, c * 2, none⟩ (.slice (some ⟨g, 0, none⟩) m c')).setCell ⟨r, c * 2 + 1, none⟩ (.int .i64 tn)).cell? ⟨x7, 1, none⟩ = some (.int .i64 tn) := far2 hpx q8))
          have HNx : Hid (Cj w N n X k R r (c + 1) ((w3.setCell ⟨r, c * 2, none⟩ (.slice (some ⟨g, 0, none⟩) m c')).setCell ⟨r, c * 2 + 1, none⟩ (.int .i64 tn))) := HSt.out w3 g c' hbw ho
          clear ho hbw q3 qb q7 q8 z0 z1 zf0 zf1 y3 yb y7 y8 HSt
          go_wp2_with fail
          go_roundw
          case rel => exact ⟨c + 1, by omega, by go_num, HNx.out⟩
          case measure => simp [intOf]; omega
        · have a3 : ¬ (c : Int) < (rl : Int) := by omega
          have HNx : Hid (Ci w N n X (k + 1) wr) := by
            have hj := HJ.out
            rw [show c = R.length by rw [HRl.out]; omega] at hj
            exact hj.done HR.out
          go_wp2_with fail
          go_roundw
          case rel => exact ⟨k + 1, by omega, by go_num, HNx.out⟩
          case measure => simp [intOf]; omega
    · have b1 : ¬ (k : Int) < (n : Int) := by omega
      obtain rfl : k = n := by omega
      have x2 := HC.out.res
      have x2f := HC.out.rth
      have x3 := HC.out.box
      have HF : Hid (CpX w (wr.setCell ⟨N + 1, 0, none⟩ (.slice (some ⟨N + 2, 0, none⟩) k k)) (.returned (.agg #[.slice (some ⟨N + 2, 0, none⟩) k k])) k X) := by
        have hs4 := HC.out.size
        have hkx := Kx.set (P := fun b => b = N + 1) wr (N + 1) 0 (.slice (some ⟨N + 2, 0, none⟩) k k) rfl
        refine ⟨N + 2, k, rfl, Or.inr ⟨N + 2, rfl, by rw [setCell_size]; omega, fun j R hR => ?_⟩, ?_⟩
        · obtain ⟨x, g1, g2⟩ := HC.out.rows j R (by have := (List.getElem?_eq_some_iff.1 hR).1; have := HN.out; omega) hR
          exact ⟨x, by rw [cellk (hkx.block _ (by omega) (by omega))]; exact g1, (g2.keep (fun b hb1 hb2 => hkx.block b hb2 (by omega)) (Nat.le_refl _)).rv (by rw [setCell_size]; exact Nat.le_refl _)⟩
        · rw [HNN.out]
          exact HC.out.bel.trans (hkx.belowAt (by omega) (fun b e => by omega))
      go_wp2_with fail
      refine bodyPost_ret (v := .agg #[.slice (some ⟨N + 2, 0, none⟩) k k]) (by simp [results, Tryd.results29, go_sem, x2]) rfl HF.out

end Go.Proofs.YtppanogpeengnaaDoor
