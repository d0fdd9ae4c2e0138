/- DERIVED. Several texts in one: A list of tables of the call's own. The walk of the document's Average on three sets that may be. -/
import Derived.Test.YtppanogpeengnaaDoorWH
import Derived.Test.YtppanogpeengnaaDoorWJ
import Derived.Test.YtppanogpeengnaaDoorL3Mi
namespace Go.Proofs.YtppanogpeengnaaDoor
open Go.RowKit L3

/-- a list of tables of the call's own -/
structure Ot (w : World) (B : Nat) (v : Value) (L : List Tb) : Prop where
  own : w.ownsRow B 63 2 v L.length (tcs L)
theorem Ot.nil (w : World) (B : Nat) : Ot w B (.slice none 0 0) [] := ⟨World.ownsRow_nil _ _ _ _⟩
theorem Ot.form {w : World} {B : Nat} {v : Value} {L : List Tb} (h : Ot w B v L) : ∃ a c, v = .slice a L.length c := L2.own_slice h.own
theorem Ot.ts {w : World} {B n c : Nat} {a : Option Addr} {L : List Tb} (h : Ot w B (.slice a n c) L) (h0 : 0 < L.length) (hin : ∀ t, t ∈ L → t.In w) : ∃ g, a = some ⟨g, 0, none⟩ ∧ B ≤ g ∧ Ts w g 0 L := by
  obtain ⟨g, cap, hv, hB, hlt⟩ := h.own.form h0
  simp only [Value.slice.injEq] at hv
  obtain ⟨rfl, rfl, rfl⟩ := hv
  refine ⟨g, rfl, hB, hlt, fun j t ht => ?_, fun j t ht => ?_, hin⟩
  · have hj : j < L.length := (List.getElem?_eq_some_iff.1 ht).1
    rw [Nat.zero_add, h.own.cellAt _ (by omega)]; exact tcs_get0 L j t ht
  · have hj : j < L.length := (List.getElem?_eq_some_iff.1 ht).1
    rw [Nat.zero_add, h.own.cellAt _ (by omega)]; exact tcs_get1 L j t ht
/-- 'append(l, t)' -/
theorem wpList_append_tab (wr : World) {ops : Array Oper} {rest : List Oper} {o : Oper} {a : Act} {Q : Exit → Act → World → Prop} (hgd : o.guard = none) (s x : Operand)
    (ho : o.op = .call { callee := .builtin .append, args := #[s, x], argTypes := #[60, 60] })
    (B : Nat) (L : List Tb) (v : Value) (t : Tb) (hown : Ot wr B v L) (hB : B ≤ wr.heap.size) (hL : L.length < 1000000)
    (hs : a.eval s = v) (hx : a.eval x = .slice (some ⟨wr.heap.size, 0, none⟩) 1 1)
    (h : ∀ g cap w', Ot w' B (.slice (some ⟨g, 0, none⟩) (L.length + 1) cap) (L ++ [t]) → Below B wr w' → wpList Tryd.prog ops Q rest (a.put o.dst (.slice (some ⟨g, 0, none⟩) (L.length + 1) cap)) w') :
    wpList Tryd.prog ops Q (o :: rest) a (wr.alloc (.cells #[.slice t.a t.C.length t.c, .int .i64 t.n] 63)) := by
  obtain ⟨i, hi, hz0, hz1, hz2⟩ := info_parts Tryd.inf63
  have hnews : ∀ j u, (tcs [t])[j]? = some u → (wr.alloc (.cells #[.slice t.a t.C.length t.c, .int .i64 t.n] 63)).cell? ((⟨wr.heap.size, 0, none⟩ : Addr).add j) = some u := World.news_of_block (cs := #[.slice t.a t.C.length t.c, .int .i64 t.n]) (heap_alloc_new wr _)
  refine wpList_append_lies _ hgd s x 60 ho B 63 i (.agg #[.slice none 0 0, .int .i64 0]) 2 32 Tryd.underlying60 hi hz0 hz1 hz2 rfl (by omega) v L.length (tcs L) hs (hown.own.alloc _) ⟨wr.heap.size, 0, none⟩ 1 1 (tcs [t]) hx (by rfl) hnews (tcs_one _) (by omega) (by unfold maxLen; omega) (by omega) (by simp; omega) (wr.heap.size + 1) (by simp) ?_
  intro g cap w' hown' hgrow hat hlt
  have hk := grown_ke (from_alloc wr _) hgrow
  refine h g cap w' ⟨by rw [List.length_append, tcs_append]; exact hown'⟩ ⟨hk.os, hk.tape, hk.output, hk.size, fun k hk1 => hk.block k (by omega) (fun e => ?_)⟩
  have := (hown.own.lt k e).1
  omega
/-- the tables, ahead of set i -/
structure Oi (B : Nat) (wo : World) (Ls : List Tb) (sv iv : Value) (wr : World) : Prop where
  ex : ∃ i : Nat, i ≤ 3 ∧ iv = .int .i64 i ∧ Ot wr B sv (Ls.take i) ∧ Below B wo wr

end Go.Proofs.YtppanogpeengnaaDoor

namespace Go.Proofs.YtppanogpeengnaaDoor
open Go.RowKit L3

set_option maxRecDepth 100000 in
set_option maxHeartbeats 8000000 in
theorem ravg_ok {w : World} {b xn xc yn yc cl : Nat} {xa ya : Option Addr} {X Y : List (List Px)} (h : Tri w b xa ya xn xc yn yc X Y) :
    Calls Tryd.prog 31 #[.slice (some ⟨b, 0, none⟩) 3 cl] w fun e w' => AvYes w w' e (Y3 X Y) := by
  have HT : Hid (Tri w b xa ya xn xc yn yc X Y) := h
  have HCX : Hid (∀ u, Below w.heap.size w u → Calls Tryd.prog 28 #[.agg #[.slice xa xn xc]] u fun e u' => e = .returned (.int .i64 0) ∧ Below u.heap.size u u') := fun u hu => by
    have h := rscheck_g (cT := xc) (HT.out.gx.to hu) HT.out.nx HT.out.sx
    rwa [ckX_ok HT.out.ox] at h
  have HCY : Hid (∀ u, Below w.heap.size w u → Calls Tryd.prog 28 #[.agg #[.slice ya yn yc]] u fun e u' => e = .returned (.int .i64 0) ∧ Below u.heap.size u u') := fun u hu => by
    have h := rscheck_g (cT := yc) (HT.out.gy.to hu) HT.out.ny HT.out.sy
    rwa [ckX_ok HT.out.oy] at h
  have HRd : Hid (∀ u, Below w.heap.size w u → u.cell? ⟨b, 0, none⟩ = some (.slice xa xn xc) ∧ u.cell? ⟨b, 1, none⟩ = some (.slice ya yn yc) ∧ u.cell? ⟨b, 2, none⟩ = some (.slice xa xn xc)) := fun u hu => ⟨(HT.out.to hu).c0, (HT.out.to hu).c1, (HT.out.to hu).c2⟩
  have HA : Hid (Av w w.heap.size (w.alloc (.cells #[.slice none 0 0] 25))) := ⟨by simp, Nat.le_refl _, from_alloc _ _, by simp [go_sem], by simp [go_sem]⟩
  have HXn : Hid (xn = 32) := HT.out.nx.symm.trans HT.out.ox.1
  clear h
  go_enter Tryd.func31, Tryd.ntmps31
  go_wp2_with fail
  generalize (w.alloc (.cells #[.slice none 0 0] 25)) = W at *
  go_loopw [4] (fun iv wr => (iv = .int .i64 0 ∨ iv = .int .i64 1 ∨ iv = .int .i64 2 ∨ iv = .int .i64 3) ∧ Av w w.heap.size wr) (fun iv _ => 3 - (intOf iv).toNat)
  case atStart => exact ⟨Or.inl rfl, HA.out⟩
  case round =>
    clear HA
    obtain ⟨hiv, hav⟩ := hrel
    have HV : Hid (Av w w.heap.size wr) := hav
    clear hav
    obtain ⟨y0, y1, y2⟩ := HRd.out _ HV.out.bel
    have HX : Hid (Calls Tryd.prog 28 #[.agg #[.slice xa xn xc]] wr fun e u' => e = .returned (.int .i64 0) ∧ Av w w.heap.size u') := (HCX.out _ HV.out.bel).mono fun e u' h => ⟨h.1, HV.out.to h.2⟩
    have HY : Hid (Calls Tryd.prog 28 #[.agg #[.slice ya yn yc]] wr fun e u' => e = .returned (.int .i64 0) ∧ Av w w.heap.size u') := (HCY.out _ HV.out.bel).mono fun e u' h => ⟨h.1, HV.out.to h.2⟩
    rcases hiv with rfl | rfl | rfl | rfl
    · go_wp2_with (go_at_call 28; refine HX.out.mono ?_; rintro e w3 ⟨rfl, hav3⟩)
      go_roundw
      case rel => exact ⟨Or.inr (Or.inl rfl), hav3⟩
      case measure => simp [intOf]
    · go_wp2_with (go_at_call 28; refine HY.out.mono ?_; rintro e w3 ⟨rfl, hav3⟩)
      go_roundw
      case rel => exact ⟨Or.inr (Or.inr (Or.inl rfl)), hav3⟩
      case measure => simp [intOf]
    · go_wp2_with (go_at_call 28; refine HX.out.mono ?_; rintro e w3 ⟨rfl, hav3⟩)
      go_roundw
      case rel => exact ⟨Or.inr (Or.inr (Or.inr rfl)), hav3⟩
      case measure => simp [intOf]
    · clear HX HY HCX HCY y0 y1 y2 HRd
      have HB0 : Hid (Below wr.heap.size wr (wr.alloc (.cells #[.slice none 0 0] 25))) := from_alloc _ _
      have HVV : Hid (Av w w.heap.size (wr.alloc (.cells #[.slice none 0 0] 25))) := HV.out.to HB0.out
      have HVs : Hid ((wr.alloc (.cells #[.slice none 0 0] 25)).heap.size = wr.heap.size + 1) := by show _ = _; simp
      have HOl : Hid (w.heap.size < wr.heap.size) := HV.out.lt
      have HI0 : Hid (PIg (wr.alloc (.cells #[.slice none 0 0] 25)) wr.heap.size 32 (Y3 X Y) (.int .i64 0) (wr.alloc (.cells #[.slice none 0 0] 25))) := ⟨0, .slice none 0 0, [], fun _ => False, by omega, rfl, rfl, by simp, Gy.nil _ _, ⟨by simp [go_sem], by simp [go_sem], by simp⟩, Kr.refl _ _⟩
      clear HV HB0
      go_wp2_with fail
      generalize (wr.alloc (.cells #[.slice none 0 0] 25)) = V at *
      generalize wr.heap.size = ov at *
      generalize hw0 : wr = wr0 at *
      clear hw0
      go_loopw [6] (fun iv wr => PIg V ov 32 (Y3 X Y) iv wr) (fun iv _ => 32 - (intOf iv).toNat)
      case atStart => exact HI0.out
      case round =>
        clear HI0
        obtain ⟨k, Tv, L, D, hk, rfl, hL, hdn, hgs, hov, hkr⟩ := hrel
        obtain ⟨aT, cT2, rfl⟩ := hgs.form
        have HL : Hid (L.length = k) := hL
        have HDn : Hid ((L.map fun x => px x.2) = (Y3 X Y).take k) := hdn
        have HGs : Hid (Gy wr V.heap.size (.slice aT L.length cT2) L D) := hgs
        have HOv : Hid (Vr wr ov (.slice aT L.length cT2)) := hov
        have HKr : Hid (Kr ov V wr) := hkr
        have HRd : Hid (∀ v, Kr ov V v → Below w.heap.size w v) := fun v hv => HVV.out.bel.trans (hv.below (B := w.heap.size) (by have := HOl.out; omega) (by have := HVs.out; have := HOl.out; omega))
        clear hL hdn hgs hov hkr
        generalize hln : L.length = ln at *
        have HLn : Hid (L.length = ln) := hln
        clear hln
        have b0 : (0 : Int) ≤ (k : Int) := by omega
        by_cases hlt : k < 32
        · have b1 : (k : Int) < 32 := by omega
          have HK : Hid (k < 32) := hlt
          have HGK : Hid ((Y3 X Y)[k]? = some ((List.range (sC k)).map fun c => (F3 X Y k c, (0 : Int)))) := by show _ = _; rw [Y3, List.getElem?_map, List.getElem?_range hlt]; rfl
          have HPL : Hid (((List.range (sC k)).map fun c => (F3 X Y k c, (0 : Int))).length = sC k) := by show _ = _; simp
          have HRc : Hid (∀ c, c < sC k → ((List.range (sC k)).map fun c => (F3 X Y k c, (0 : Int)))[c]? = some (F3 X Y k c, (0 : Int))) := fun c hc => by rw [List.getElem?_map, List.getElem?_range hc]; rfl
          have hkl : k < X.length := by rw [HT.out.ox.1]; exact hlt
          have hget : X[k]? = some (X[k]'hkl) := List.getElem?_eq_getElem _
          obtain ⟨bt, ra, rc, hxa, hbl, ha1, -⟩ := HT.out.gx.row hget
          rw [(HT.out.ox.2 k _ hget).1] at ha1
          subst hxa
          have HSr : Hid (∀ v, Kr ov V v → v.cell? ⟨b, 0, none⟩ = some (.slice (some ⟨bt, 0, none⟩) xn xc) ∧ v.cell? ⟨bt, k, none⟩ = some (.slice ra (sC k) rc)) := fun v hv => by
            have hb := HRd.out v hv
            exact ⟨(HT.out.to hb).c0, by rw [newCell hb _ _ hbl]; exact ha1⟩
          generalize ((List.range (sC k)).map fun c => (F3 X Y k c, (0 : Int))) = R at *
          have HJ0 : Hid (PJg V ov (sC k) R (.slice aT ln cT2) L D (.slice none 0 0) (.int .i64 0) wr) := ⟨0, [], fun _ => False, by omega, rfl, rfl, by simp [px], Gr.nil _ _, fun _ h => h.elim, HGs.out, HOv.out, HKr.out⟩
          obtain ⟨x0, x1⟩ := HSr.out _ HKr.out
          have k1 : (k : Int) < (xn : Int) := by have := HXn.out; omega
          have hC1 := (sC_le k hlt).1
          have hC2 := (sC_le k hlt).2
          clear HGs HOv hget hkl hbl ha1
          go_wp2_with fail
          go_loopw [7, 8] (fun rv iv wr => PJg V ov (sC k) R (.slice aT ln cT2) L D rv iv wr) (fun _ iv _ => sC k - (intOf iv).toNat)
          case atStart => exact HJ0.out
          case round =>
            clear HJ0 HKr x0 x1
            obtain ⟨c, M, Dr, hc, rfl, hM, hMd, hgr, hdd, hgs, hov, hkr⟩ := hrel
            obtain ⟨ar, cr, rfl⟩ := hgr.form
            obtain ⟨x0, x1⟩ := HSr.out _ hkr
            have HM : Hid (M.length = c) := hM
            have HMd : Hid (px M = R.take c) := hMd
            have HGr : Hid (Gr wr V.heap.size (.slice ar M.length cr) M Dr) := hgr
            have HDD : Hid (∀ y, Dr y → ¬ D y) := hdd
            have HGs : Hid (Gy wr V.heap.size (.slice aT ln cT2) L D) := hgs
            have HOv : Hid (Vr wr ov (.slice aT ln cT2)) := hov
            have HKr : Hid (Kr ov V wr) := hkr
            have HDl : Hid (∀ y, Dr y → V.heap.size ≤ y) := fun y hy => (hgr.lt y hy).1
            clear hM hMd hgr hdd hgs hov hkr
            have c0 : (0 : Int) ≤ (c : Int) := by omega
            by_cases hcl : c < sC k
            · have c1 : (c : Int) < (sC k : Int) := by omega
              have HCl : Hid (c < sC k) := hcl
              obtain ⟨t0, g0, e0, k0, v0⟩ := src_of HT.out.lt HT.out.c0 HT.out.gx HT.out.nx HT.out.ox hlt hcl
              obtain ⟨t1, g1, e1, k1', v1⟩ := src_of HT.out.lt HT.out.c1 HT.out.gy HT.out.ny HT.out.oy hlt hcl
              obtain ⟨t2, g2, e2, k2, v2⟩ := src_of HT.out.lt HT.out.c2 HT.out.gx HT.out.nx HT.out.ox hlt hcl
              have HSrc : Hid (∀ (j : Nat) t, [t0, t1, t2][j]? = some t → Src w b k c j t) := fun j t ht => by
                match j, ht with
                | 0, ht => obtain rfl : t0 = t := by simpa using ht
                           exact g0
                | 1, ht => obtain rfl : t1 = t := by simpa using ht
                           exact g1
                | 2, ht => obtain rfl : t2 = t := by simpa using ht
                           exact g2
                | j + 3, ht => simp at ht
              have HVv : Hid (∀ t ∈ [t0, t1, t2], TOk t.C t.n ∧ t.C.length = sV k) := fun t ht => by
                simp only [List.mem_cons, List.not_mem_nil, or_false] at ht
                rcases ht with rfl | rfl | rfl
                · exact ⟨k0, v0⟩
                · exact ⟨k1', v1⟩
                · exact ⟨k2, v2⟩
              have HFv : Hid (av (sV k) ([t0, t1, t2].map Tb.C) = F3 X Y k c) := by show _ = _; simp only [List.map_cons, List.map_nil, e0, e1, e2]; rfl
              have HLl : Hid ([t0, t1, t2].length = 3) := rfl
              clear g0 e0 k0 v0 g1 e1 k1' v1 g2 e2 k2 v2
              generalize [t0, t1, t2] = Ls at *
              clear t0 t1 t2
              generalize hw1 : wr = wo at *
              clear hw1
              have HO0 : Hid (Oi wo.heap.size wo Ls (.slice none 0 0) (.int .i64 0) wo) := ⟨0, by omega, rfl, Ot.nil _ _, Below.refl _ _⟩
              go_wp2_with fail
              go_loopw [9, 10] (fun sv iv wr => Oi wo.heap.size wo Ls sv iv wr) (fun _ iv _ => 3 - (intOf iv).toNat)
              case atStart => exact HO0.out
              case round =>
                clear HO0 x0 x1
                obtain ⟨i, hi, rfl, hot, hbo⟩ := hrel
                obtain ⟨sa, sc, rfl⟩ := hot.form
                have HOt : Hid (Ot wr wo.heap.size (.slice sa (Ls.take i).length sc) (Ls.take i)) := hot
                have HBo : Hid (Below wo.heap.size wo wr) := hbo
                clear hot hbo
                have i0 : (0 : Int) ≤ (i : Int) := by omega
                by_cases hil : i < 3
                · have i1 : (i : Int) < 3 := by omega
                  have hgt : Ls[i]? = some (Ls[i]'(by rw [HLl.out]; exact hil)) := List.getElem?_eq_getElem _
                  generalize Ls[i]'(by rw [HLl.out]; exact hil) = t at *
                  have HGt : Hid (Ls[i]? = some t) := hgt
                  obtain ⟨bt', xn', xc', pb', rl', rc', s1, -, -, s4, s5, -, s7, s8, s9, -⟩ := (HSrc.out i t hgt).to (below_to (HRd.out _ HKr.out) HBo.out)
                  have q1 : (k : Int) < (xn' : Int) := by omega
                  have q2 : (c : Int) < (rl' : Int) := by omega
                  have HTl : Hid ((Ls.take i).length = i) := by show _ = _; rw [List.length_take, HLl.out]; omega
                  have HSz : Hid (wo.heap.size ≤ wr.heap.size ∧ (Ls.take i).length < 1000000) := ⟨HBo.out.size, by rw [HTl.out]; omega⟩
                  have HNx : Hid (∀ g cap w', Ot w' wo.heap.size (.slice (some ⟨g, 0, none⟩) ((Ls.take i).length + 1) cap) (Ls.take i ++ [t]) → Below wo.heap.size wr w' → Oi wo.heap.size wo Ls (.slice (some ⟨g, 0, none⟩) ((Ls.take i).length + 1) cap) (.int .i64 ((i : Int) + 1)) w') := fun g cap w' j1 j2 => ⟨i + 1, by omega, rfl, by rw [take_next Ls i HGt.out]; exact j1, HBo.out.trans j2⟩
                  clear hgt HBo s4 s7 HTl
                  generalize Ls.take i = Lp at *
                  go_wp2_with (at_builtin; refine wpList_append_tab _ (by rfl) _ _ (by rfl) wo.heap.size Lp _ t HOt.out HSz.out.1 HSz.out.2 (by rfl) (by rfl) ?_; intro g' cap' w6 j1 j2)
                  go_roundw
                  case rel => exact HNx.out _ _ _ j1 j2
                  case measure => simp [intOf]; omega
                · obtain rfl : i = 3 := by omega
                  have i1 : ¬ ((3 : Nat) : Int) < 3 := by omega
                  have hTk : Ls.take 3 = Ls := List.take_of_length_le (by rw [HLl.out]; exact Nat.le_refl _)
                  have hbw := below_to (HRd.out _ HKr.out) HBo.out
                  have hin : ∀ t ∈ Ls, t.In wr := fun t ht => by
                    obtain ⟨j, hj⟩ := List.getElem?_of_mem ht
                    obtain ⟨_, _, _, _, _, _, _, _, _, _, _, _, _, _, _, h⟩ := (HSrc.out j t hj).to hbw
                    exact h
                  have hot2 := HOt.out
                  rw [hTk] at hot2
                  obtain ⟨gs, rfl, hBg, hts⟩ := hot2.ts (by rw [HLl.out]; omega) hin
                  obtain ⟨u0, hu0⟩ : ∃ u0, Ls[0]? = some u0 := ⟨_, List.getElem?_eq_getElem (by rw [HLl.out]; omega)⟩
                  have HC : Hid (Calls Tryd.prog 58 #[.slice (some ⟨gs, 0, none⟩) (Ls.take 3).length sc] wr fun e w' => Tn wr w' e (F3 X Y k c) 0) := by
                    have h := raverage_some (c := sc) hts hu0 (by rw [HLl.out]; omega)
                    rw [(HVv.out _ (List.mem_of_getElem? hu0)).2, HFv.out] at h
                    show Calls _ _ _ _ _
                    rw [hTk]
                    refine h.mono fun e w' h => ?_
                    rcases h with h | h
                    · exact h.2
                    · exact absurd (fun t ht => HVv.out t ht) h.1
                  have HWl : Hid (V.heap.size ≤ wo.heap.size) := HKr.out.size
                  have HRl : Hid (M.length < 1000000) := by have := HM.out; show _ < _; omega
                  have HRcc := HRc.out c HCl.out
                  have HXc : Hid (R[c]? = some (F3 X Y k c, (0 : Int))) := HRcc
                  generalize F3 X Y k c = FC at *
                  have HRel : Hid (∀ w5 w6 g' cap' D' gt ct, Below wo.heap.size wo w5 → wo.heap.size ≤ gt → Gr w6 V.heap.size (.slice (some ⟨g', 0, none⟩) (M.length + 1) cap') (M ++ [⟨some ⟨gt, 0, none⟩, ct, FC, 0⟩]) D' → (∀ y, D' y → Dr y ∨ Tbk ⟨some ⟨gt, 0, none⟩, ct, FC, 0⟩ y ∨ w5.heap.size ≤ y) → Ke Dr w5 w6 → PJg V ov (sC k) R (.slice aT ln cT2) L D (.slice (some ⟨g', 0, none⟩) (M.length + 1) cap') (.int .i64 ((c : Int) + 1)) w6) := fun w5 w6 g' cap' D' gt ct i1 i3 i4 i5 i6 =>
                    PJg.next (t := ⟨some ⟨gt, 0, none⟩, ct, FC, 0⟩) HCl.out HM.out HMd.out HXc.out rfl HDD.out HGs.out HOv.out (by have := HVs.out; omega) HKr.out i1 (fun b hb => by
                      obtain ⟨_, o, e⟩ := hb
                      simp only [Option.some.injEq, Addr.mk.injEq, and_true] at e
                      omega) i4 i5 HDl.out i6
                  have HTb : Hid (∀ gt ct, wo.heap.size ≤ gt → ∀ b, Tbk ⟨some ⟨gt, 0, none⟩, ct, FC, 0⟩ b → V.heap.size ≤ b ∧ ¬ Dr b) := fun gt ct hgt b hb => by
                    obtain ⟨_, o, e⟩ := hb
                    simp only [Option.some.injEq, Addr.mk.injEq, and_true] at e
                    have h1 := HWl.out
                    exact ⟨by omega, fun e2 => by have := (HGr.out.lt b e2).2; omega⟩
                  have HAll : Hid (∀ w3 gt ct, Ow w3 wr.heap.size gt FC.length ct FC → Below wr.heap.size wr w3 → wo.heap.size ≤ gt ∧ Below wo.heap.size wo (w3.alloc (.cells #[.slice (some ⟨gt, 0, none⟩) FC.length ct, .int .i64 0] 63)) ∧ Gr (w3.alloc (.cells #[.slice (some ⟨gt, 0, none⟩) FC.length ct, .int .i64 0] 63)) V.heap.size (.slice ar M.length cr) M Dr ∧ Sl (w3.alloc (.cells #[.slice (some ⟨gt, 0, none⟩) FC.length ct, .int .i64 0] 63)) .u16 (some ⟨gt, 0, none⟩) FC ∧ (∀ j, (w3.alloc (.cells #[.slice (some ⟨gt, 0, none⟩) FC.length ct, .int .i64 0] 63)).frozen? ⟨gt, j, none⟩ = false) ∧ V.heap.size ≤ (w3.alloc (.cells #[.slice (some ⟨gt, 0, none⟩) FC.length ct, .int .i64 0] 63)).heap.size) := fun w3 gt ct ho hb => by
                    have h1 := ho.lies.1
                    have h2 := HBo.out.size
                    have h3 : Below wo.heap.size wo (w3.alloc (.cells #[.slice (some ⟨gt, 0, none⟩) FC.length ct, .int .i64 0] 63)) := to_alloc (below_to HBo.out hb) _
                    exact ⟨by omega, h3, HGr.out.to h3, ho.sl.to (from_alloc _ _), fun j => by rw [newFrozen (from_alloc w3 _) _ _ ho.lies.2]; exact ho.thaw j, Nat.le_trans HWl.out h3.size⟩
                  have HE : Hid (∀ (w3 : World) gt ct, (w3.alloc (.cells #[.slice (some ⟨gt, 0, none⟩) FC.length ct, .int .i64 0] 63)).cell? ⟨w3.heap.size, 0, none⟩ = some (.slice (some ⟨gt, 0, none⟩) FC.length ct) ∧ (w3.alloc (.cells #[.slice (some ⟨gt, 0, none⟩) FC.length ct, .int .i64 0] 63)).cell? ⟨w3.heap.size, 1, none⟩ = some (.int .i64 0)) := fun w3 gt ct => ⟨by simp [go_sem], by simp [go_sem]⟩
                  clear hTk hbw hin hot2 hBg hts hu0 HRcc HOt HSrc HVv HFv HLl HRc u0
                  generalize (Ls.take 3).length = l3 at *
                  go_upto_region 22 with (go_at_call 58; refine HC.out.mono ?_; rintro e w3 ⟨gt, ct, rfl, ho, hb3⟩; have HAA : Hid _ := HAll.out w3 gt ct ho hb3; obtain ⟨f0, f1⟩ := HE.out w3 gt ct; clear ho hb3)
                  generalize (w3.alloc (.cells #[.slice (some ⟨gt, 0, none⟩) FC.length ct, .int .i64 0] 63)) = w7 at *
                  go_wp2_with (at_builtin; refine wpList_append_row _ (by rfl) _ _ (by rfl) V.heap.size M _ Dr ⟨some ⟨gt, 0, none⟩, ct, FC, 0⟩ HAA.out.2.2.1 HAA.out.2.2.2.1 (HTb.out gt ct HAA.out.1) (tbk_thaw HAA.out.2.2.2.2.1) HAA.out.2.2.2.2.2 HRl.out (by rfl) (by rfl) ?_; intro g' cap' w6 D' j1 j2 j3)
                  have hcl := HCl.out
                  go_roundw
                  case rel => exact HRel.out _ _ _ _ _ gt ct HAA.out.2.1 HAA.out.1 j1 j2 j3
                  case measure => simp [intOf]; omega
            · obtain ⟨rl, hrl⟩ : ∃ rl, sC k = rl := ⟨_, rfl⟩
              rw [hrl] at hc hcl x1 HPL hC1 hC2
              obtain rfl : c = rl := by omega
              have c1 : ¬ (c : Int) < (c : Int) := by omega
              have o0 := HOv.out.c
              have HWl : Hid (V.heap.size ≤ wr.heap.size) := HKr.out.size
              have HLl : Hid (L.length < 1000000) := by have := HL.out; have := HLn.out; show _ < _; omega
              have HPx : Hid (px M = R) := by show _ = _; rw [HMd.out, List.take_of_length_le (by rw [HPL.out]; exact Nat.le_refl _)]
              have HRel : Hid (∀ g' cap' w6 D', Gy w6 V.heap.size (.slice (some ⟨g', 0, none⟩) (L.length + 1) cap') (L ++ [(.slice ar M.length cr, M)]) D' → (∀ y, D' y → D y ∨ Dr y ∨ wr.heap.size ≤ y) → Ke D wr w6 → Vr w6 ov (.slice aT ln cT2) ∧ PIg V ov 32 (Y3 X Y) (.int .i64 ((k : Int) + 1)) (w6.setCell ⟨ov, 0, none⟩ (.slice (some ⟨g', 0, none⟩) (L.length + 1) cap'))) := fun g' cap' w6 D' i1 i2 i3 => by
                have hnD : ∀ y, D y → V.heap.size ≤ y := fun y hy => (HGs.out.lt y hy).1
                have hoW := HVs.out
                have hv6 : Vr w6 ov (.slice aT ln cT2) := HOv.out.ke i3 (fun e => by have := hnD _ e; omega)
                refine ⟨hv6, ⟨k + 1, _, L ++ [(.slice ar M.length cr, M)], D', by have := HK.out; omega, rfl, by have := HL.out; have := HLn.out; simp; omega, ?_, ?_, hv6.set _, (HKr.out.ke i3 hnD).set _ _ (Or.inl rfl)⟩⟩
                · rw [take_next _ k HGK.out, ← HDn.out, List.map_append, List.map_cons, List.map_nil, HPx.out]
                · refine i1.ke (P := fun y => y = ov) (Ke.set _ _ _ _ rfl) ?_
                  rintro b rfl hb
                  have := (i1.lt _ hb).1
                  omega
              have HGr2 : Hid (Gr wr V.heap.size (.slice ar M.length cr) M Dr) := HGr.out
              clear HGr HOv
              go_wp2_with (at_builtin; refine wpList_append_set3 _ (by rfl) _ _ (by rfl) V.heap.size L _ D Dr ar cr M HGs.out HGr2.out HDD.out HWl.out HLl.out (by rfl) (by rfl) ?_; intro g' cap' w6 D' j1 j2 j3; obtain ⟨⟨v0, v1, -⟩, hPI⟩ := HRel.out g' cap' w6 D' j1 j2 j3)
              have hlt := HK.out
              go_roundw
              case rel => exact hPI
              case measure => simp [intOf]; omega
        · obtain rfl : k = 32 := by omega
          have b1 : ¬ ((32 : Nat) : Int) < 32 := by omega
          obtain rfl : ln = 32 := by have := HLn.out; have := HL.out; omega
          have o0 := HOv.out.c
          have hz := HVs.out
          have hol := HOl.out
          have r0 : wr.cell? ⟨w.heap.size, 0, none⟩ = some (.slice none 0 0) := by rw [HKr.out.cell _ _ (by omega) (by omega)]; exact HVV.out.res
          have r1 : wr.frozen? ⟨w.heap.size, 0, none⟩ = false := by rw [HKr.out.frozen _ _ (by omega) (by omega)]; exact HVV.out.rth
          have HFin : Hid (Gv (wr.setCell ⟨w.heap.size, 0, none⟩ (.slice aT 32 cT2)) aT (Y3 X Y) ∧ Below w.heap.size w (wr.setCell ⟨w.heap.size, 0, none⟩ (.slice aT 32 cT2))) := by
            have h0 : Gy (wr.setCell ⟨w.heap.size, 0, none⟩ (.slice aT 32 cT2)) V.heap.size (.slice aT 32 cT2) L D := HGs.out.ke (P := fun y => y = w.heap.size) (Ke.set _ _ _ _ rfl) (by
              rintro b rfl hb
              have := (HGs.out.lt _ hb).1
              omega)
            have h1 := h0.gv
            rw [HDn.out, List.take_of_length_le (by simp [Y3])] at h1
            exact ⟨h1, below_set (HRd.out _ HKr.out) (Nat.le_refl _) _⟩
          clear hz hol HGs HOv HKr HDn
          go_wp2_with fail
          refine bodyPost_ret (v := .tuple #[.agg #[.slice aT 32 cT2], .int .i64 0]) (by simp [results, Tryd.results31, go_sem, r0]) rfl ?_
          exact ⟨aT, cT2, rfl, HFin.out.1, HFin.out.2⟩

end Go.Proofs.YtppanogpeengnaaDoor
