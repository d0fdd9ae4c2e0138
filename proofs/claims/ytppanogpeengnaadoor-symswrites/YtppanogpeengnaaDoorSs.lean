/- DERIVED. The walk of same, of two sets that have the same numbers. -/
import Derived.Test.YtppanogpeengnaaDoorSr
namespace Go.Proofs.YtppanogpeengnaaDoor
open Go.RowKit L3

/-- two tables in variables -/
def Tw (B : Nat) (W V : World) (a b : Nat) (va vb : Value) (n : Int) : Prop := (∀ v, Below V.heap.size V v → v.cell? ⟨a, 0, none⟩ = some va ∧ v.cell? ⟨a, 1, none⟩ = some (.int .i64 n) ∧ v.cell? ⟨b, 0, none⟩ = some vb ∧ v.cell? ⟨b, 1, none⟩ = some (.int .i64 n)) ∧ Below B W V

set_option maxRecDepth 100000 in
set_option maxHeartbeats 8000000 in
theorem same_yes {w : World} {lo bt lo2 bt2 : Nat} {K L : List (Nat × List Tb)} (h : St w lo bt K) (g : St w lo2 bt2 L) (ho : Okk K) (ha : Als K L) :
    Calls Tryd.prog 36 #[.agg #[.slice (some ⟨bt, 0, none⟩) 32 32], .agg #[.slice (some ⟨bt2, 0, none⟩) 32 32]] w fun e w' => e = .returned (.bool true) ∧ Below w.heap.size w w' := by
  have HST : Hid (St w lo bt K) := h
  have HSU : Hid (St w lo2 bt2 L) := g
  have HOK : Hid (Okk K) := ho
  have HAL : Hid (Als K L) := ha
  have HB0 : Hid (Below w.heap.size w ((w.alloc (.cells #[.slice (some ⟨bt, 0, none⟩) 32 32] 25)).alloc (.cells #[.slice (some ⟨bt2, 0, none⟩) 32 32] 25))) := to_alloc (from_alloc _ _) _
  have HX : Hid (∀ v, Below (w.heap.size + 2) ((w.alloc (.cells #[.slice (some ⟨bt, 0, none⟩) 32 32] 25)).alloc (.cells #[.slice (some ⟨bt2, 0, none⟩) 32 32] 25)) v → v.cell? ⟨w.heap.size, 0, none⟩ = some (.slice (some ⟨bt, 0, none⟩) 32 32) ∧ v.cell? ⟨w.heap.size + 1, 0, none⟩ = some (.slice (some ⟨bt2, 0, none⟩) 32 32)) := fun v hv => by
    rw [newCell hv _ _ (by omega), newCell hv _ _ (by omega)]
    constructor <;> simp [go_sem]
  have HB1 : Hid (Below (w.heap.size + 2) ((w.alloc (.cells #[.slice (some ⟨bt, 0, none⟩) 32 32] 25)).alloc (.cells #[.slice (some ⟨bt2, 0, none⟩) 32 32] 25)) ((w.alloc (.cells #[.slice (some ⟨bt, 0, none⟩) 32 32] 25)).alloc (.cells #[.slice (some ⟨bt2, 0, none⟩) 32 32] 25))) := Below.refl _ _
  have HZ : Hid (((w.alloc (.cells #[.slice (some ⟨bt, 0, none⟩) 32 32] 25)).alloc (.cells #[.slice (some ⟨bt2, 0, none⟩) 32 32] 25)).heap.size = w.heap.size + 2) := by show _ = _; simp
  clear h g ho ha
  go_enter Tryd.func36, Tryd.ntmps36
  go_wp2_with fail
  generalize (w.alloc (.cells #[.slice (some ⟨bt, 0, none⟩) 32 32] 25)).alloc (.cells #[.slice (some ⟨bt2, 0, none⟩) 32 32] 25) = W at *
  have HUp : Hid (∀ v, Below (w.heap.size + 2) W v → Below w.heap.size w v) := fun v hv => HB0.out.trans (hv.mono (by omega))
  obtain ⟨sy, hsy⟩ : ∃ sy, sy = w.heap.size + 1 := ⟨_, rfl⟩
  have HY : Hid (sy = w.heap.size + 1) := hsy
  rw [← hsy] at HX
  rw [← hsy]
  clear hsy
  go_loopw [5] (fun iv wr => ∃ k : Nat, k ≤ 32 ∧ iv = .int .i64 k ∧ Below (w.heap.size + 2) W wr) (fun iv _ => 32 - (intOf iv).toNat)
  case atStart => exact ⟨0, by omega, rfl, HB1.out⟩
  case round =>
    obtain ⟨k, hk, rfl, hb⟩ := hrel
    have HB : Hid (Below (w.heap.size + 2) W wr) := hb
    obtain ⟨x0, x1⟩ := HX.out _ hb
    clear hb HB0 HB1
    by_cases hlt : k < 32
    · have hkl : k < K.length := by rw [HOK.out.1]; exact hlt
      have hlL : k < L.length := by rw [HAL.out.1, HOK.out.1]; exact hlt
      have hget := List.getElem?_eq_getElem hkl
      have hgeL := List.getElem?_eq_getElem hlL
      have hoq := HOK.out.2 k _ hget
      have halq := HAL.out.2 k _ _ hget hgeL
      have hmem : K[k] ∈ K := List.getElem_mem _
      have hmeL : L[k] ∈ L := List.getElem_mem _
      have xb0 := HST.out.hd k _ hget
      have xb1 := HSU.out.hd k _ hgeL
      have hlie := (HST.out.lie _ hmem).2.1
      have hliL := (HSU.out.lie _ hmeL).2.1
      have HC0 : Hid (∀ (c : Nat) t, K[k].2[c]? = some t → w.cell? ⟨K[k].1, c * 2, none⟩ = some (.slice t.a t.C.length t.c) ∧ w.cell? ⟨K[k].1, c * 2 + 1, none⟩ = some (.int .i64 t.n) ∧ Sl w .u16 t.a t.C) := fun c t ht => ⟨HST.out.c0 _ hmem c t ht, HST.out.c1 _ hmem c t ht, HST.out.sl _ hmem t (List.mem_of_getElem? ht)⟩
      have HC1 : Hid (∀ (c : Nat) t, L[k].2[c]? = some t → w.cell? ⟨L[k].1, c * 2, none⟩ = some (.slice t.a t.C.length t.c) ∧ w.cell? ⟨L[k].1, c * 2 + 1, none⟩ = some (.int .i64 t.n) ∧ Sl w .u16 t.a t.C) := fun c t ht => ⟨HSU.out.c0 _ hmeL c t ht, HSU.out.c1 _ hmeL c t ht, HSU.out.sl _ hmeL t (List.mem_of_getElem? ht)⟩
      generalize K[k] = p at *
      generalize L[k] = q at *
      obtain ⟨pb, pt⟩ := p
      obtain ⟨qb, qt⟩ := q
      simp only at xb0 xb1 hlie hliL HC0 HC1 halq
      have HPL : Hid (pt.length = sC k) := hoq.1
      have HQL : Hid (qt.length = sC k) := halq.1.trans hoq.1
      have HPT : Hid (∀ t ∈ pt, t.C.length = sV k ∧ TOk t.C t.n) := hoq.2
      have HQT : Hid (∀ (c : Nat) s t, pt[c]? = some s → qt[c]? = some t → t.C = s.C ∧ t.n = s.n) := halq.2
      have xb : w.cell? ⟨bt, k, none⟩ = some (.slice (some ⟨pb, 0, none⟩) (sC k) (sC k)) := by rw [HPL.out] at xb0; exact xb0
      have yb : w.cell? ⟨bt2, k, none⟩ = some (.slice (some ⟨qb, 0, none⟩) (sC k) (sC k)) := by rw [HQL.out] at xb1; exact xb1
      have HXB : Hid (∀ v, Below (w.heap.size + 2) W v → v.cell? ⟨bt, k, none⟩ = some (.slice (some ⟨pb, 0, none⟩) (sC k) (sC k)) ∧ v.cell? ⟨bt2, k, none⟩ = some (.slice (some ⟨qb, 0, none⟩) (sC k) (sC k))) := fun v hv => by
        rw [newCell (HUp.out v hv) _ _ HST.out.blt, newCell (HUp.out v hv) _ _ HSU.out.blt]
        exact ⟨xb, yb⟩
      obtain ⟨xw, yw⟩ := HXB.out _ HB.out
      have b0 : 0 ≤ (k : Int) := by omega
      have b1 : (k : Int) < 32 := by omega
      have t1 : ((sC k : Int) != (sC k : Int)) = false := by simp
      clear hget hgeL hoq halq hmem hmeL xb0 xb1 hkl hlL xb yb
      go_wp2_with fail
      go_quiet (fail)
      have HBq : Hid (Below (w.heap.size + 2) W (wr.drewN nq)) := below_drewN HB.out nq
      go_wp2_with fail
      generalize wr.drewN nq = wo at *
      go_loopw [6] (fun iv wr => ∃ c : Nat, c ≤ sC k ∧ iv = .int .i64 c ∧ Below (w.heap.size + 2) W wr) (fun iv _ => sC k - (intOf iv).toNat)
      case atStart => exact ⟨0, by omega, rfl, HBq.out⟩
      case round =>
        obtain ⟨c, hc, rfl, hb⟩ := hrel
        clear HB HBq x0 x1 xw yw
        have HB : Hid (Below (w.heap.size + 2) W wr) := hb
        obtain ⟨x0, x1⟩ := HX.out _ hb
        obtain ⟨xw, yw⟩ := HXB.out _ hb
        clear hb
        by_cases hcl : c < sC k
        · have hcp : c < pt.length := by rw [HPL.out]; exact hcl
          have hcq : c < qt.length := by rw [HQL.out]; exact hcl
          have hgt := List.getElem?_eq_getElem hcp
          have hgq := List.getElem?_eq_getElem hcq
          obtain ⟨g0, g1, gs⟩ := HC0.out c _ hgt
          obtain ⟨k0, k1, ks⟩ := HC1.out c _ hgq
          have hok := (HPT.out _ (List.getElem_mem hcp)).1
          obtain ⟨e1, e2⟩ := HQT.out c _ _ hgt hgq
          generalize pt[c] = t at *
          generalize qt[c] = u at *
          obtain ⟨ta, tc, tC, tn⟩ := t
          obtain ⟨ua, uc, uC, un⟩ := u
          simp only at g0 g1 gs k0 k1 ks hok e1 e2
          subst e1 e2
          rw [hok] at g0 k0
          have z0 : wr.cell? ⟨pb, c * 2, none⟩ = some (.slice ta (sV k) tc) := by rw [newCell (HUp.out _ HB.out) _ _ hlie]; exact g0
          have z1 : wr.cell? ⟨pb, c * 2 + 1, none⟩ = some (.int .i64 un) := by rw [newCell (HUp.out _ HB.out) _ _ hlie]; exact g1
          have z2 : wr.cell? ⟨qb, c * 2, none⟩ = some (.slice ua (sV k) uc) := by rw [newCell (HUp.out _ HB.out) _ _ hliL]; exact k0
          have z3 : wr.cell? ⟨qb, c * 2 + 1, none⟩ = some (.int .i64 un) := by rw [newCell (HUp.out _ HB.out) _ _ hliL]; exact k1
          have HSL : Hid (Sl w .u16 ta uC) := gs
          have HSM : Hid (Sl w .u16 ua uC) := ks
          have HLN : Hid (uC.length = sV k) := hok
          have a0 : 0 ≤ (c : Int) := by omega
          have a1 : (c : Int) < (sC k : Int) := by omega
          have hv := (sV_le k hlt).2
          have hc14 := (sC_le k hlt).2
          have t2 : ((sV k : Int) != (sV k : Int)) = false := by simp
          have t3 : (un != un) = false := by simp
          have s0 : w.heap.size + 2 ≤ wr.heap.size := by have := HB.out.size; have := HZ.out; omega
          have hv2 := (sV_le k hlt).1
          obtain ⟨b1, o1, rfl, hb1, hc1⟩ : ∃ b o, ta = some ⟨b, o, none⟩ ∧ b < w.heap.size ∧ ∀ j, j < uC.length → w.cell? ⟨b, o + j, none⟩ = some (.int .u16 ((uC.getD j 0 : Nat) : Int)) := by
            rcases HSL.out with e | e
            · rw [e] at hok; simp at hok; omega
            · exact e
          obtain ⟨b2, o2, rfl, hb2, hc2⟩ : ∃ b o, ua = some ⟨b, o, none⟩ ∧ b < w.heap.size ∧ ∀ j, j < uC.length → w.cell? ⟨b, o + j, none⟩ = some (.int .u16 ((uC.getD j 0 : Nat) : Int)) := by
            rcases HSM.out with e | e
            · rw [e] at hok; simp at hok; omega
            · exact e
          have HC1' : Hid (∀ v, Below (w.heap.size + 2) W v → ∀ j, j < sV k → v.cell? ⟨b1, o1 + j, none⟩ = some (.int .u16 ((uC.getD j 0 : Nat) : Int))) := fun v hv j hj => by rw [newCell (HUp.out v hv) _ _ hb1]; exact hc1 j (by rw [hok]; exact hj)
          have HC2' : Hid (∀ v, Below (w.heap.size + 2) W v → ∀ j, j < sV k → v.cell? ⟨b2, o2 + j, none⟩ = some (.int .u16 ((uC.getD j 0 : Nat) : Int))) := fun v hv j hj => by rw [newCell (HUp.out v hv) _ _ hb2]; exact hc2 j (by rw [hok]; exact hj)
          clear hc1 hc2
          have s1 : bt < wr.heap.size := by have := HST.out.blt; omega
          have s2 : bt2 < wr.heap.size := by have := HSU.out.blt; omega
          have s3 : pb < wr.heap.size := by omega
          have s4 : qb < wr.heap.size := by omega
          have n1 : w.heap.size < wr.heap.size := by omega
          have n2 : sy < wr.heap.size := by have := HY.out; omega
          clear g0 g1 gs k0 k1 ks hgt hgq hok hcp hcq
          have HV1 : Hid (Tw (w.heap.size + 2) W ((wr.alloc (Obj.cells #[.slice (some ⟨b1, o1, none⟩) (sV k) tc, .int .i64 un] 63)).alloc (Obj.cells #[.slice (some ⟨b2, o2, none⟩) (sV k) uc, .int .i64 un] 63)).drew wr.heap.size (wr.heap.size + 1) (.slice (some ⟨b1, o1, none⟩) (sV k) tc) (.slice (some ⟨b2, o2, none⟩) (sV k) uc) un) := ⟨fun v hv => by
            have hv' : Below (wr.heap.size + 2) ((wr.alloc (Obj.cells #[.slice (some ⟨b1, o1, none⟩) (sV k) tc, .int .i64 un] 63)).alloc (Obj.cells #[.slice (some ⟨b2, o2, none⟩) (sV k) uc, .int .i64 un] 63)).drew v := hv.mono (by simp)
            rw [newCell hv' _ _ (by omega), newCell hv' _ _ (by omega), newCell hv' _ _ (by omega), newCell hv' _ _ (by omega)]; simp [go_sem], below_drew ((HB.out.alloc (by omega) _).alloc (by simp; omega) _)⟩
          have HV2 : Hid (Tw (w.heap.size + 2) W ((wr.alloc (Obj.cells #[.slice (some ⟨b2, o2, none⟩) (sV k) uc, .int .i64 un] 63)).alloc (Obj.cells #[.slice (some ⟨b1, o1, none⟩) (sV k) tc, .int .i64 un] 63)).drew (wr.heap.size + 1) wr.heap.size (.slice (some ⟨b1, o1, none⟩) (sV k) tc) (.slice (some ⟨b2, o2, none⟩) (sV k) uc) un) := ⟨fun v hv => by
            have hv' : Below (wr.heap.size + 2) ((wr.alloc (Obj.cells #[.slice (some ⟨b2, o2, none⟩) (sV k) uc, .int .i64 un] 63)).alloc (Obj.cells #[.slice (some ⟨b1, o1, none⟩) (sV k) tc, .int .i64 un] 63)).drew v := hv.mono (by simp)
            rw [newCell hv' _ _ (by omega), newCell hv' _ _ (by omega), newCell hv' _ _ (by omega), newCell hv' _ _ (by omega)]; simp [go_sem], below_drew ((HB.out.alloc (by omega) _).alloc (by simp; omega) _)⟩
          go_wp2_with fail
          go_region
          · as_aux_lemma =>
            have HV := HV1
            clear HV1 HV2
            generalize ((wr.alloc (Obj.cells #[.slice (some ⟨b1, o1, none⟩) (sV k) tc, .int .i64 un] 63)).alloc (Obj.cells #[.slice (some ⟨b2, o2, none⟩) (sV k) uc, .int .i64 un] 63)).drew = V at *
            clear z0 z1 z2 z3 x0 x1 xw yw
            obtain ⟨d0, d1, d2, d3⟩ := HV.out.1 V (Below.refl _ _)
            clear s0 s1 s2 s3 s4 n1 n2 hlie hliL hb1 hb2 hv2
            have y1 : ¬ wr.heap.size = wr.heap.size + 1 := by omega
            generalize wr.heap.size + 1 = yb at *
            generalize wr.heap.size = ya at *
            go_wp2_with fail
            go_loopw [9] (fun iv wr => ∃ i : Nat, i ≤ sV k ∧ iv = .int .i64 i ∧ Below V.heap.size V wr) (fun iv _ => sV k - (intOf iv).toNat)
            case atStart => exact ⟨0, by omega, rfl, Below.refl _ _⟩
            case round =>
              obtain ⟨i, hi, rfl, hb⟩ := hrel
              clear d0 d1 d2 d3
              rename World => wq
              have HBi : Hid (Below (w.heap.size + 2) W wq) := HV.out.2.trans (hb.mono (by have := HV.out.2.size; have := HZ.out; omega))
              have HBV : Hid (Below V.heap.size V wq) := hb
              obtain ⟨d0, d1, d2, d3⟩ := HV.out.1 wq hb
              clear hb
              have i0 : (0 : Int) ≤ (i : Int) := by omega
              by_cases hil : i < sV k
              · have i1 : (i : Int) < (sV k : Int) := by omega
                have f1 := HC1'.out wq HBi.out i hil
                have f2 := HC2'.out wq HBi.out i hil
                generalize uC.getD i 0 = ui at *
                have t4 : ((ui : Int) != (ui : Int)) = false := by simp
                go_wp2_with fail
                go_quiet (fail)
                have HBn : Hid (Below V.heap.size V (wq.drewN nq)) := below_drewN HBV.out nq
                go_wp2_with fail
                go_roundw
                case rel => exact ⟨i + 1, by omega, by go_num, HBn.out⟩
                case measure => simp [intOf]; omega
              · have i1 : ¬ (i : Int) < (sV k : Int) := by omega
                go_wp2_with fail
                go_roundw
                case rel => exact ⟨c + 1, by omega, by go_num, HBi.out⟩
                case measure => simp [intOf]; omega
          · as_aux_lemma =>
            have HV := HV2
            clear HV1 HV2
            generalize ((wr.alloc (Obj.cells #[.slice (some ⟨b2, o2, none⟩) (sV k) uc, .int .i64 un] 63)).alloc (Obj.cells #[.slice (some ⟨b1, o1, none⟩) (sV k) tc, .int .i64 un] 63)).drew = V at *
            clear z0 z1 z2 z3 x0 x1 xw yw
            obtain ⟨d0, d1, d2, d3⟩ := HV.out.1 V (Below.refl _ _)
            clear s0 s1 s2 s3 s4 n1 n2 hlie hliL hb1 hb2 hv2
            have y1 : ¬ wr.heap.size = wr.heap.size + 1 := by omega
            generalize wr.heap.size + 1 = yb at *
            generalize wr.heap.size = ya at *
            go_wp2_with fail
            go_loopw [9] (fun iv wr => ∃ i : Nat, i ≤ sV k ∧ iv = .int .i64 i ∧ Below V.heap.size V wr) (fun iv _ => sV k - (intOf iv).toNat)
            case atStart => exact ⟨0, by omega, rfl, Below.refl _ _⟩
            case round =>
              obtain ⟨i, hi, rfl, hb⟩ := hrel
              clear d0 d1 d2 d3
              rename World => wq
              have HBi : Hid (Below (w.heap.size + 2) W wq) := HV.out.2.trans (hb.mono (by have := HV.out.2.size; have := HZ.out; omega))
              have HBV : Hid (Below V.heap.size V wq) := hb
              obtain ⟨d0, d1, d2, d3⟩ := HV.out.1 wq hb
              clear hb
              have i0 : (0 : Int) ≤ (i : Int) := by omega
              by_cases hil : i < sV k
              · have i1 : (i : Int) < (sV k : Int) := by omega
                have f1 := HC1'.out wq HBi.out i hil
                have f2 := HC2'.out wq HBi.out i hil
                generalize uC.getD i 0 = ui at *
                have t4 : ((ui : Int) != (ui : Int)) = false := by simp
                go_wp2_with fail
                go_quiet (fail)
                have HBn : Hid (Below V.heap.size V (wq.drewN nq)) := below_drewN HBV.out nq
                go_wp2_with fail
                go_roundw
                case rel => exact ⟨i + 1, by omega, by go_num, HBn.out⟩
                case measure => simp [intOf]; omega
              · have i1 : ¬ (i : Int) < (sV k : Int) := by omega
                go_wp2_with fail
                go_roundw
                case rel => exact ⟨c + 1, by omega, by go_num, HBi.out⟩
                case measure => simp [intOf]; omega
        · have a1 : ¬ (c : Int) < (sC k : Int) := by omega
          have a0 : 0 ≤ (c : Int) := by omega
          go_wp2_with fail
          go_roundw
          case rel => exact ⟨k + 1, by omega, by go_num, HB.out⟩
          case measure => simp [intOf]; omega
    · have b1 : ¬ (k : Int) < 32 := by omega
      go_wp2_with fail
      go_ret
      exact ⟨rfl, HUp.out _ HB.out⟩
end Go.Proofs.YtppanogpeengnaaDoor
