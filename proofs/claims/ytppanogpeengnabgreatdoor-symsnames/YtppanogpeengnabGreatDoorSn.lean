/- DERIVED. A coder that reads: narrow, code. -/
import Derived.Test.YtppanogpeengnabGreatDoorSk
import Derived.Test.YtppanogpeengnabGreatDoorSm
namespace Go.Proofs.YtppanogpeengnabGreatDoor
open Go.RowKit L3
variable {Z : Nat → Option Obj}

theorem ke_of_kp {r : Nat} {w w' : World} (h : L2.Kp r w w') : Ke (fun b => b = r) w w' := ⟨h.os, h.tape, h.output, Nat.le_of_eq h.size.symm, fun k _ hk => h.block k hk⟩
/-- a coder that reads -/
structure CR (Z : Nat → Option Obj) (w : World) (lo x bt : Nat) (K : List (Nat × List Tb)) (ad : Bool) (n : Int) (xd b : Nat) (zs : List Nat) (q c g : Nat) : Prop where
  co : Co Z w lo x (.pointer none) (.pointer (some ⟨xd, 0, none⟩)) bt K ad n (fun e => e = xd ∨ e = b)
  dc : L2.Dc w xd b zs q c g
  dk : L2.Dk c g
  dlo : lo ≤ xd
  blt : b < w.heap.size
theorem CR.to {w w' : World} {lo x bt : Nat} {K : List (Nat × List Tb)} {ad : Bool} {n : Int} {xd b : Nat} {zs : List Nat} {q c g : Nat} (h : CR Z w lo x bt K ad n xd b zs q c g) (hb : Below w.heap.size w w') : CR Z w' lo x bt K ad n xd b zs q c g := ⟨h.co.to hb, h.dc.below hb, h.dk, h.dlo, Nat.lt_of_lt_of_le h.blt hb.size⟩
theorem CR.drewN {w : World} {lo x bt : Nat} {K : List (Nat × List Tb)} {ad : Bool} {n : Int} {xd b : Nat} {zs : List Nat} {q c g : Nat} (h : CR Z w lo x bt K ad n xd b zs q c g) (m : Nat) : CR Z (w.drewN m) lo x bt K ad n xd b zs q c g := h.to ⟨rfl, rfl, rfl, Nat.le_refl _, fun _ _ => rfl⟩
theorem CR.eng {w w' : World} {lo x bt : Nat} {K : List (Nat × List Tb)} {ad : Bool} {n : Int} {xd b : Nat} {zs : List Nat} {q c g q' c' g' : Nat} (h : CR Z w lo x bt K ad n xd b zs q c g) (hk : L2.Kp xd w w') (hd : L2.Dc w' xd b zs q' c' g') (hv : L2.Dk c' g') : CR Z w' lo x bt K ad n xd b zs q' c' g' :=
  ⟨h.co.ke (ke_of_kp hk) (fun _ e => Or.inl e) (fun _ e => Or.inl e), hd, hv, h.dlo, by rw [hk.size]; exact h.blt⟩
theorem CR.count {w : World} {lo x bt : Nat} {K : List (Nat × List Tb)} {ad : Bool} {n m : Int} {xd b : Nat} {zs : List Nat} {q c g : Nat} (h : CR Z w lo x bt K ad n xd b zs q c g) : CR Z (w.setCell ⟨x, 4, none⟩ (.int .i64 m)) lo x bt K ad m xd b zs q c g :=
  ⟨h.co.count, h.dc.carry (Below.heap_setCell _ _ _ _ (fun e => h.co.ex (Or.inl e.symm))) (fun _ => Below.heap_setCell _ _ _ _ (fun e => h.co.ex (Or.inr e.symm))) (by rw [setCell_size]; exact Nat.le_refl _), h.dk, h.dlo, by rw [setCell_size]; exact h.blt⟩
theorem CR.low {w w' : World} {lo x bt : Nat} {K : List (Nat × List Tb)} {ad : Bool} {n : Int} {xd b : Nat} {zs : List Nat} {q c g : Nat} (h : CR Z w lo x bt K ad n xd b zs q c g) (hk : L2.Kp xd w w') : Below lo w w' :=
  (ke_of_kp hk).below (fun k e => by subst e; exact h.dlo) (Nat.le_trans h.dlo (Nat.le_of_lt h.dc.low))

def NarR (Z : Nat → Option Obj) (w w' : World) (lo x bt : Nat) (K : List (Nat × List Tb)) (ad : Bool) (n : Int) (xd b : Nat) (zs : List Nat) (q c g a e : Nat) : Prop := CR Z w' lo x bt K ad n xd b zs (L2.dTake zs c g q a e).2.2 (L2.dTake zs c g q a e).1 (L2.dTake zs c g q a e).2.1 ∧ Below lo w w'

set_option maxRecDepth 100000 in
set_option maxHeartbeats 1000000 in
theorem narrow_r {w : World} {lo x bt : Nat} {K : List (Nat × List Tb)} {ad : Bool} {n : Int} {xd b : Nat} {zs : List Nat} {q c g : Nat} (h : CR Z w lo x bt K ad n xd b zs q c g) (pa pe : Nat) (hm : L2.dMay c g pa pe) :
    Calls Tryz.prog 46 #[.pointer (some ⟨x, 0, none⟩), .int .u32 pa, .int .u32 pe] w fun e w' => e = .returned (.tuple #[]) ∧ NarR Z w w' lo x bt K ad n xd b zs q c g pa pe := by
  have HCR : Hid (CR Z w lo x bt K ad n xd b zs q c g) := h
  have q0 := h.co.o
  have q1 := h.co.i
  have ok := L2.dTake_ok (q := q) h.dc.byt hm h.dk.below h.dk.least h.dk.most
  have HDK : Hid (L2.Dk (L2.dTake zs c g q pa pe).1 (L2.dTake zs c g q pa pe).2.1) := ⟨ok.1, ok.2.1, ok.2.2.1⟩
  have HM : Hid (L2.dMay c g pa pe) := hm
  clear h ok hm
  go_enter Tryz.func46, Tryz.ntmps46
  go_wp2_with fail
  refine (writes_r q0 q1).mono ?_
  rintro e w1 ⟨rfl, rfl⟩
  go_wp2_with fail
  refine (L2.take_yes HCR.out.dc HCR.out.dk pa pe HM.out).mono ?_
  rintro e w2 ⟨rfl, hd, hk⟩
  have HR : Hid (NarR Z w1 w2 lo x bt K ad n xd b zs q c g pa pe) := ⟨HCR.out.eng hk hd HDK.out, HCR.out.low hk⟩
  clear hd hk
  go_wp2_with fail
  go_end0
  exact ⟨rfl, HR.out⟩

def CodR (Z : Nat → Option Obj) (w w' : World) (lo x bt : Nat) (K : List (Nat × List Tb)) (ad : Bool) (n : Int) (xd b : Nat) (zs : List Nat) (q c g kk cx v pa pe : Nat) : Prop :=
  ∃ K', CR Z w' lo x bt K' ad n xd b zs (L2.dTake zs c g q pa pe).2.2 (L2.dTake zs c g q pa pe).1 (L2.dTake zs c g q pa pe).2.1 ∧ Adp K ad kk cx v K' ∧ Below lo w w'

set_option maxRecDepth 100000 in
set_option maxHeartbeats 4000000 in
theorem code_r {w : World} {lo x bt : Nat} {K : List (Nat × List Tb)} {ad : Bool} {n : Int} {xd b : Nat} {zs : List Nat} {q c g : Nat} (h : CR Z w lo x bt K ad n xd b zs q c g) {kk cx : Nat} {z : Int} {p : Nat × List Tb} {s : Tb} (hp : K[kk]? = some p) (hs : p.2[cx]? = some s) (hlo : lo ≤ w.heap.size) :
    Calls Tryz.prog 20 #[.pointer (some ⟨x, 0, none⟩), .pointer (some ⟨p.1, cx * 2, none⟩), .int .i64 z] w fun e w' => ∃ v, e = .returned (.int .i64 (v : Nat)) ∧ L3.Fd s.C (L2.dVal c g) v ∧ CodR Z w w' lo x bt K ad n xd b zs q c g kk cx v (eb s.C v) (ee s.C v) := by
  have hpK : p ∈ K := List.mem_of_getElem? hp
  have hcl : cx < p.2.length := (List.getElem?_eq_some_iff.1 hs).1
  have hsm : s ∈ p.2 := List.mem_of_getElem? hs
  have hok := (h.co.ok.2 kk p hp).2 s hsm
  have HTO : Hid (TOk s.C s.n) := hok.2
  have HLN : Hid (s.C.length = sV kk) := hok.1
  have HCR : Hid (CR Z w lo x bt K ad n xd b zs q c g) := h
  have HP : Hid (K[kk]? = some p) := hp
  have HS : Hid (p.2[cx]? = some s) := hs
  have q0 := h.co.o
  have q1 := h.co.i
  have HLo : Hid (lo ≤ w.heap.size) := hlo
  have HSL : Hid (∀ u q' c' g', CR Z u lo x bt K ad n xd b zs q' c' g' → Sl u .u16 s.a s.C ∧ u.cell? ⟨p.1, cx * 2, none⟩ = some (.slice s.a s.C.length s.c) ∧ u.cell? ⟨p.1, cx * 2 + 1, none⟩ = some (.int .i64 s.n) ∧ u.frozen? ⟨p.1, cx * 2, none⟩ = false ∧ u.frozen? ⟨p.1, cx * 2 + 1, none⟩ = false) := fun u q' c' g' hu => ⟨hu.co.st.sl p hpK s hsm, hu.co.st.c0 p hpK cx s hs, hu.co.st.c1 p hpK cx s hs, hu.co.st.th p hpK _, hu.co.st.th p hpK _⟩
  have hh16 := hok.2.hi
  clear h hok hs hp hlo
  obtain ⟨sa, sc, sC', sn⟩ := s
  simp only at HTO HLN HSL hh16
  go_enter Tryz.func20, Tryz.ntmps20
  go_wp2_with fail
  refine (writes_r q0 q1).mono ?_
  rintro e w1 ⟨rfl, rfl⟩
  go_wp2_with fail
  refine (L2.value_dc HCR.out.dc HCR.out.dk).mono ?_
  rintro e w2 ⟨rfl, m2, hm2⟩
  have HC2 : Hid (CR Z w2 lo x bt K ad n xd b zs q c g) := by show CR Z _ _ _ _ _ _ _ _ _ _ _ _ _; rw [hm2]; exact HCR.out.drewN m2
  have HB2 : Hid (Below w1.heap.size w1 w2) := by show Below _ _ _; rw [hm2]; exact ⟨rfl, rfl, rfl, Nat.le_refl _, fun _ _ => rfl⟩
  clear hm2 q0 q1
  obtain ⟨_, z0, z1, _, _⟩ := HSL.out _ _ _ _ HC2.out
  have HSl2 : Hid (Sl w2 .u16 sa sC') := (HSL.out _ _ _ _ HC2.out).1
  have HDl : Hid (L2.dVal c g < 32768) := L2.dVal_lt c g
  generalize hdv : L2.dVal c g = dv at *
  have HDv : Hid (L2.dVal c g = dv) := hdv
  clear hdv
  go_wp2_with fail
  refine (find_ok HSl2.out HTO.out HDl.out).mono ?_
  rintro e w3 ⟨v, rfl, hfd, hb3⟩
  have HFd : Hid (L3.Fd sC' dv v) := hfd
  have hv : v < sC'.length := hfd.1
  have hle := ee_le HTO.out hv
  have HC3 : Hid (CR Z w3 lo x bt K ad n xd b zs q c g) := HC2.out.to hb3
  have HB3 : Hid (Below w1.heap.size w1 w3) := below_to HB2.out hb3
  have HMay : Hid (L2.dMay c g (eb sC' v) (ee sC' v)) := ⟨by rw [HDv.out]; exact hfd.2.1, by rw [HDv.out]; exact hfd.2.2, hle⟩
  clear hb3 z0 z1 hfd
  obtain ⟨_, z0, z1, _, _⟩ := HSL.out _ _ _ _ HC3.out
  have HSl3 : Hid (Sl w3 .u16 sa sC') := (HSL.out _ _ _ _ HC3.out).1
  go_wp2_with fail
  refine (bounds_ok HSl3.out HTO.out hv).mono ?_
  rintro e w4 ⟨rfl, hb4⟩
  have HC4 : Hid (CR Z w4 lo x bt K ad n xd b zs q c g) := HC3.out.to hb4
  have HB4 : Hid (Below lo w1 w4) := (below_to HB3.out hb4).mono HLo.out
  clear hb4 z0 z1
  generalize hpa : eb sC' v = pa at *
  generalize hpe : ee sC' v = pe at *
  have HPA : Hid (eb sC' v = pa) := hpa
  have HPE : Hid (ee sC' v = pe) := hpe
  clear hpa hpe
  go_wp2_with fail
  refine (narrow_r HC4.out pa pe HMay.out).mono ?_
  rintro e w5 ⟨rfl, hc5, hb5⟩
  have HC5 : Hid _ := hc5
  have HB5 : Hid (Below lo w1 w5) := HB4.out.trans hb5
  clear hb5 hc5
  have q3 := HC5.out.co.a
  cases ad
  · go_wp2_with fail
    go_ret
    exact ⟨v, rfl, by rw [HDv.out]; exact HFd.out, by rw [HPA.out, HPE.out]; exact ⟨K, HC5.out, Or.inl ⟨rfl, rfl⟩, HB5.out⟩⟩
  · obtain ⟨hsl, z0, z1, zf0, zf1⟩ := HSL.out _ _ _ _ HC5.out
    have HSL5 : Hid (Sl w5 .u16 sa sC') := hsl
    clear hsl
    go_wp2_with fail
    refine (adapt_ok HSL5.out HTO.out hv).mono ?_
    rintro e w6 ⟨g6, c6, rfl, ho6, hb6⟩
    have HC6 : Hid _ := HC5.out.to hb6
    have HB6 : Hid (Below lo w1 w6) := HB5.out.trans (hb6.mono (Nat.le_trans HC5.out.co.xlo (Nat.le_of_lt HC5.out.co.low)))
    obtain ⟨_, y0, y1, yf0, yf1⟩ := HSL.out _ _ _ _ HC6.out
    have hgl : w5.heap.size ≤ g6 := ho6.lies.1
    have HTB : Hid (Co Z ((w6.setCell ⟨p.1, cx * 2, none⟩ (.slice (some ⟨g6, 0, none⟩) sC'.length c6)).setCell ⟨p.1, cx * 2 + 1, none⟩ (.int .i64 (adN sn))) lo x (.pointer none) (.pointer (some ⟨xd, 0, none⟩)) bt (K.set kk (p.1, p.2.set cx ⟨some ⟨g6, 0, none⟩, c6, L3.ad sC' sn v, adN sn⟩)) true n (fun e => e = xd ∨ e = b)) := by
      have := HC6.out.co.table HP.out hcl ⟨some ⟨g6, 0, none⟩, c6, L3.ad sC' sn v, adN sn⟩ ho6.sl ⟨by show (L3.ad sC' sn v).length = _; rw [ad_len]; exact HLN.out, ad_ok HTO.out v⟩ (fun b' o e1 _ => by
        simp only [Option.some.injEq, Addr.mk.injEq, and_true] at e1
        have h1 := HC5.out.co.low
        have h2 := HC5.out.co.xlo
        refine ⟨by omega, by omega, fun e2 => ?_, by have := HC5.out.co.st.blt; omega, fun q hq => by have := (HC5.out.co.st.lie q hq).2.1; omega⟩
        rcases e2 with e2 | e2
        · have := HC5.out.dc.low; omega
        · have := HC5.out.blt; omega) (fun b' o e1 _ => by
        simp only [Option.some.injEq, Addr.mk.injEq, and_true] at e1
        rcases hZ : Z b' with _ | ob
        · rfl
        · have := (Array.getElem?_eq_some_iff.1 (HC5.out.co.fr b' ob hZ).1).1; omega)
      simp only [ad_len] at this
      exact this
    have hpE : ∀ b', (b' = xd ∨ b' = b) → b' ≠ p.1 := fun b' hb' e => HC6.out.co.eb b' hb' (Or.inr ⟨p, hpK, Or.inl e⟩)
    have HDC : Hid (L2.Dc ((w6.setCell ⟨p.1, cx * 2, none⟩ (.slice (some ⟨g6, 0, none⟩) sC'.length c6)).setCell ⟨p.1, cx * 2 + 1, none⟩ (.int .i64 (adN sn))) xd b zs (L2.dTake zs c g q pa pe).2.2 (L2.dTake zs c g q pa pe).1 (L2.dTake zs c g q pa pe).2.1) := HC6.out.dc.carry (by rw [Below.heap_setCell _ _ _ _ (hpE xd (Or.inl rfl)), Below.heap_setCell _ _ _ _ (hpE xd (Or.inl rfl))]) (fun _ => by rw [Below.heap_setCell _ _ _ _ (hpE b (Or.inr rfl)), Below.heap_setCell _ _ _ _ (hpE b (Or.inr rfl))]) (by rw [setCell_size, setCell_size]; exact Nat.le_refl _)
    have hpl : lo ≤ p.1 := (HC6.out.co.st.lie p hpK).1
    have HB7 : Hid (Below lo w1 ((w6.setCell ⟨p.1, cx * 2, none⟩ (.slice (some ⟨g6, 0, none⟩) sC'.length c6)).setCell ⟨p.1, cx * 2 + 1, none⟩ (.int .i64 (adN sn)))) := below_set (below_set HB6.out hpl _) hpl _
    have HDK : Hid (L2.Dk (L2.dTake zs c g q pa pe).1 (L2.dTake zs c g q pa pe).2.1) := HC6.out.dk
    have HLX : Hid (lo ≤ xd) := HC6.out.dlo
    have HBL : Hid (b < ((w6.setCell ⟨p.1, cx * 2, none⟩ (.slice (some ⟨g6, 0, none⟩) sC'.length c6)).setCell ⟨p.1, cx * 2 + 1, none⟩ (.int .i64 (adN sn))).heap.size) := by show _ < _; rw [setCell_size, setCell_size]; exact HC6.out.blt
    rw [ad_len]
    clear ho6 hb6 HC5 HC6 HB5 HB6 z0 z1 zf0 zf1
    go_wp2_with fail
    go_ret
    exact ⟨v, rfl, by rw [HDv.out]; exact HFd.out, by rw [HPA.out, HPE.out]; exact ⟨_, ⟨HTB.out, HDC.out, HDK.out, HLX.out, HBL.out⟩, Or.inr ⟨rfl, p, ⟨sa, sc, sC', sn⟩, _, c6, HP.out, HS.out, rfl⟩, HB7.out⟩⟩

end Go.Proofs.YtppanogpeengnabGreatDoor
