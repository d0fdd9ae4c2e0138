/- DERIVED. Several texts in one: A coder that reads: narrow, code. A coder that reads: Symbol, bit, Bits, Count, Set. The walk of Reader. The walk of Reader, with where its bytes lie. -/
import Derived.Test.YtppanogpeengnaaDoorS2
namespace Go.Proofs.YtppanogpeengnaaDoor
open Go.RowKit L3
variable {Z : Nat → Option Obj}

theorem ke_of_kp {r : Nat} {w w' : World} (h : L2.Kp r w w') : Ke (fun b => b = r) w w' := ⟨h.os, h.tape, h.output, Nat.le_of_eq h.size.symm, fun k _ hk => h.block k hk⟩
/-- a coder that reads -/
structure CR (Z : Nat → Option Obj) (w : World) (lo x bt : Nat) (K : List (Nat × List Tb)) (ad : Bool) (n : Int) (xd b : Nat) (zs : List Nat) (q c g : Nat) : Prop where
  co : Co Z w lo x (.pointer none) (.pointer (some ⟨xd, 0, none⟩)) bt K ad n (fun e => e = xd ∨ e = b)
  dc : L2.Dc w xd b zs q c g
  dk : L2.Dk c g
  dlo : lo ≤ xd
  blt : b < w.heap.size
theorem CR.to {w w' : World} {lo x bt : Nat} {K : List (Nat × List Tb)} {ad : Bool} {n : Int} {xd b : Nat} {zs : List Nat} {q c g : Nat} (h : CR Z w lo x bt K ad n xd b zs q c g) (hb : Below w.heap.size w w') : CR Z w' lo x bt K ad n xd b zs q c g := ⟨h.co.to hb, h.dc.below hb, h.dk, h.dlo, Nat.lt_of_lt_of_le h.blt hb.size⟩
theorem CR.drewN {w : World} {lo x bt : Nat} {K : List (Nat × List Tb)} {ad : Bool} {n : Int} {xd b : Nat} {zs : List Nat} {q c g : Nat} (h : CR Z w lo x bt K ad n xd b zs q c g) (m : Nat) : CR Z (w.drewN m) lo x bt K ad n xd b zs q c g := h.to ⟨rfl, rfl, rfl, Nat.le_refl _, fun _ _ => rfl⟩
theorem CR.eng {w w' : World} {lo x bt : Nat} {K : List (Nat × List Tb)} {ad : Bool} {n : Int} {xd b : Nat} {zs : List Nat} {q c g q' c' g' : Nat} (h : CR Z w lo x bt K ad n xd b zs q c g) (hk : L2.Kp xd w w') (hd : L2.Dc w' xd b zs q' c' g') (hv : L2.Dk c' g') : CR Z w' lo x bt K ad n xd b zs q' c' g' :=
  ⟨h.co.ke (ke_of_kp hk) (fun _ e => Or.inl e) (fun _ e => Or.inl e), hd, hv, h.dlo, by rw [hk.size]; exact h.blt⟩
theorem CR.count {w : World} {lo x bt : Nat} {K : List (Nat × List Tb)} {ad : Bool} {n m : Int} {xd b : Nat} {zs : List Nat} {q c g : Nat} (h : CR Z w lo x bt K ad n xd b zs q c g) : CR Z (w.setCell ⟨x, 4, none⟩ (.int .i64 m)) lo x bt K ad m xd b zs q c g :=
  ⟨h.co.count, h.dc.carry (Below.heap_setCell _ _ _ _ (fun e => h.co.ex (Or.inl e.symm))) (fun _ => Below.heap_setCell _ _ _ _ (fun e => h.co.ex (Or.inr e.symm))) (by rw [setCell_size]; exact Nat.le_refl _), h.dk, h.dlo, by rw [setCell_size]; exact h.blt⟩
theorem CR.low {w w' : World} {lo x bt : Nat} {K : List (Nat × List Tb)} {ad : Bool} {n : Int} {xd b : Nat} {zs : List Nat} {q c g : Nat} (h : CR Z w lo x bt K ad n xd b zs q c g) (hk : L2.Kp xd w w') : Below lo w w' :=
  (ke_of_kp hk).below (fun k e => by subst e; exact h.dlo) (Nat.le_trans h.dlo (Nat.le_of_lt h.dc.low))

def NarR (Z : Nat → Option Obj) (w w' : World) (lo x bt : Nat) (K : List (Nat × List Tb)) (ad : Bool) (n : Int) (xd b : Nat) (zs : List Nat) (q c g a e : Nat) : Prop := CR Z w' lo x bt K ad n xd b zs (L2.dTake zs c g q a e).2.2 (L2.dTake zs c g q a e).1 (L2.dTake zs c g q a e).2.1 ∧ Below lo w w'

set_option maxRecDepth 100000 in
set_option maxHeartbeats 1000000 in
theorem narrow_r {w : World} {lo x bt : Nat} {K : List (Nat × List Tb)} {ad : Bool} {n : Int} {xd b : Nat} {zs : List Nat} {q c g : Nat} (h : CR Z w lo x bt K ad n xd b zs q c g) (pa pe : Nat) (hm : L2.dMay c g pa pe) :
    Calls Tryd.prog 83 #[.pointer (some ⟨x, 0, none⟩), .int .u32 pa, .int .u32 pe] w fun e w' => e = .returned (.tuple #[]) ∧ NarR Z w w' lo x bt K ad n xd b zs q c g pa pe := by
  have HCR : Hid (CR Z w lo x bt K ad n xd b zs q c g) := h
  have q0 := h.co.o
  have q1 := h.co.i
  have ok := L2.dTake_ok (q := q) h.dc.byt hm h.dk.below h.dk.least h.dk.most
  have HDK : Hid (L2.Dk (L2.dTake zs c g q pa pe).1 (L2.dTake zs c g q pa pe).2.1) := ⟨ok.1, ok.2.1, ok.2.2.1⟩
  have HM : Hid (L2.dMay c g pa pe) := hm
  clear h ok hm
  go_enter Tryd.func83, Tryd.ntmps83
  go_wp2_with fail
  refine (writes_r q0 q1).mono ?_
  rintro e w1 ⟨rfl, rfl⟩
  go_wp2_with fail
  refine (L2.take_yes HCR.out.dc HCR.out.dk pa pe HM.out).mono ?_
  rintro e w2 ⟨rfl, hd, hk⟩
  have HR : Hid (NarR Z w1 w2 lo x bt K ad n xd b zs q c g pa pe) := ⟨HCR.out.eng hk hd HDK.out, HCR.out.low hk⟩
  clear hd hk
  go_wp2_with fail
  go_end0
  exact ⟨rfl, HR.out⟩

def CodR (Z : Nat → Option Obj) (w w' : World) (lo x bt : Nat) (K : List (Nat × List Tb)) (ad : Bool) (n : Int) (xd b : Nat) (zs : List Nat) (q c g kk cx v pa pe : Nat) : Prop :=
  ∃ K', CR Z w' lo x bt K' ad n xd b zs (L2.dTake zs c g q pa pe).2.2 (L2.dTake zs c g q pa pe).1 (L2.dTake zs c g q pa pe).2.1 ∧ Adp K ad kk cx v K' ∧ Below lo w w'

set_option maxRecDepth 100000 in
set_option maxHeartbeats 4000000 in
theorem code_r {w : World} {lo x bt : Nat} {K : List (Nat × List Tb)} {ad : Bool} {n : Int} {xd b : Nat} {zs : List Nat} {q c g : Nat} (h : CR Z w lo x bt K ad n xd b zs q c g) {kk cx : Nat} {z : Int} {p : Nat × List Tb} {s : Tb} (hp : K[kk]? = some p) (hs : p.2[cx]? = some s) (hlo : lo ≤ w.heap.size) :
    Calls Tryd.prog 62 #[.pointer (some ⟨x, 0, none⟩), .pointer (some ⟨p.1, cx * 2, none⟩), .int .i64 z] w fun e w' => ∃ v, e = .returned (.int .i64 (v : Nat)) ∧ L3.Fd s.C (L2.dVal c g) v ∧ CodR Z w w' lo x bt K ad n xd b zs q c g kk cx v (eb s.C v) (ee s.C v) := by
  have hpK : p ∈ K := List.mem_of_getElem? hp
  have hcl : cx < p.2.length := (List.getElem?_eq_some_iff.1 hs).1
  have hsm : s ∈ p.2 := List.mem_of_getElem? hs
  have hok := (h.co.ok.2 kk p hp).2 s hsm
  have HTO : Hid (TOk s.C s.n) := hok.2
  have HLN : Hid (s.C.length = sV kk) := hok.1
  have HCR : Hid (CR Z w lo x bt K ad n xd b zs q c g) := h
  have HP : Hid (K[kk]? = some p) := hp
  have HS : Hid (p.2[cx]? = some s) := hs
  have q0 := h.co.o
  have q1 := h.co.i
  have HLo : Hid (lo ≤ w.heap.size) := hlo
  have HSL : Hid (∀ u q' c' g', CR Z u lo x bt K ad n xd b zs q' c' g' → Sl u .u16 s.a s.C ∧ u.cell? ⟨p.1, cx * 2, none⟩ = some (.slice s.a s.C.length s.c) ∧ u.cell? ⟨p.1, cx * 2 + 1, none⟩ = some (.int .i64 s.n) ∧ u.frozen? ⟨p.1, cx * 2, none⟩ = false ∧ u.frozen? ⟨p.1, cx * 2 + 1, none⟩ = false) := fun u q' c' g' hu => ⟨hu.co.st.sl p hpK s hsm, hu.co.st.c0 p hpK cx s hs, hu.co.st.c1 p hpK cx s hs, hu.co.st.th p hpK _, hu.co.st.th p hpK _⟩
  have hh16 := hok.2.hi
  clear h hok hs hp hlo
  obtain ⟨sa, sc, sC', sn⟩ := s
  simp only at HTO HLN HSL hh16
  go_enter Tryd.func62, Tryd.ntmps62
  go_wp2_with fail
  refine (writes_r q0 q1).mono ?_
  rintro e w1 ⟨rfl, rfl⟩
  go_wp2_with fail
  refine (L2.value_dc HCR.out.dc HCR.out.dk).mono ?_
  rintro e w2 ⟨rfl, m2, hm2⟩
  have HC2 : Hid (CR Z w2 lo x bt K ad n xd b zs q c g) := by show CR Z _ _ _ _ _ _ _ _ _ _ _ _ _; rw [hm2]; exact HCR.out.drewN m2
  have HB2 : Hid (Below w1.heap.size w1 w2) := by show Below _ _ _; rw [hm2]; exact ⟨rfl, rfl, rfl, Nat.le_refl _, fun _ _ => rfl⟩
  clear hm2 q0 q1
  obtain ⟨_, z0, z1, _, _⟩ := HSL.out _ _ _ _ HC2.out
  have HSl2 : Hid (Sl w2 .u16 sa sC') := (HSL.out _ _ _ _ HC2.out).1
  have HDl : Hid (L2.dVal c g < 32768) := L2.dVal_lt c g
  generalize hdv : L2.dVal c g = dv at *
  have HDv : Hid (L2.dVal c g = dv) := hdv
  clear hdv
  go_wp2_with fail
  refine (find_ok HSl2.out HTO.out HDl.out).mono ?_
  rintro e w3 ⟨v, rfl, hfd, hb3⟩
  have HFd : Hid (L3.Fd sC' dv v) := hfd
  have hv : v < sC'.length := hfd.1
  have hle := ee_le HTO.out hv
  have HC3 : Hid (CR Z w3 lo x bt K ad n xd b zs q c g) := HC2.out.to hb3
  have HB3 : Hid (Below w1.heap.size w1 w3) := below_to HB2.out hb3
  have HMay : Hid (L2.dMay c g (eb sC' v) (ee sC' v)) := ⟨by rw [HDv.out]; exact hfd.2.1, by rw [HDv.out]; exact hfd.2.2, hle⟩
  clear hb3 z0 z1 hfd
  obtain ⟨_, z0, z1, _, _⟩ := HSL.out _ _ _ _ HC3.out
  have HSl3 : Hid (Sl w3 .u16 sa sC') := (HSL.out _ _ _ _ HC3.out).1
  go_wp2_with fail
  refine (bounds_ok HSl3.out HTO.out hv).mono ?_
  rintro e w4 ⟨rfl, hb4⟩
  have HC4 : Hid (CR Z w4 lo x bt K ad n xd b zs q c g) := HC3.out.to hb4
  have HB4 : Hid (Below lo w1 w4) := (below_to HB3.out hb4).mono HLo.out
  clear hb4 z0 z1
  generalize hpa : eb sC' v = pa at *
  generalize hpe : ee sC' v = pe at *
  have HPA : Hid (eb sC' v = pa) := hpa
  have HPE : Hid (ee sC' v = pe) := hpe
  clear hpa hpe
  go_wp2_with fail
  refine (narrow_r HC4.out pa pe HMay.out).mono ?_
  rintro e w5 ⟨rfl, hc5, hb5⟩
  have HC5 : Hid _ := hc5
  have HB5 : Hid (Below lo w1 w5) := HB4.out.trans hb5
  clear hb5 hc5
  have q3 := HC5.out.co.a
  cases ad
  · go_wp2_with fail
    go_ret
    exact ⟨v, rfl, by rw [HDv.out]; exact HFd.out, by rw [HPA.out, HPE.out]; exact ⟨K, HC5.out, Or.inl ⟨rfl, rfl⟩, HB5.out⟩⟩
  · obtain ⟨hsl, z0, z1, zf0, zf1⟩ := HSL.out _ _ _ _ HC5.out
    have HSL5 : Hid (Sl w5 .u16 sa sC') := hsl
    clear hsl
    go_wp2_with fail
    refine (adapt_ok HSL5.out HTO.out hv).mono ?_
    rintro e w6 ⟨g6, c6, rfl, ho6, hb6⟩
    have HC6 : Hid _ := HC5.out.to hb6
    have HB6 : Hid (Below lo w1 w6) := HB5.out.trans (hb6.mono (Nat.le_trans HC5.out.co.xlo (Nat.le_of_lt HC5.out.co.low)))
    obtain ⟨_, y0, y1, yf0, yf1⟩ := HSL.out _ _ _ _ HC6.out
    have hgl : w5.heap.size ≤ g6 := ho6.lies.1
    have HTB : Hid (Co Z ((w6.setCell ⟨p.1, cx * 2, none⟩ (.slice (some ⟨g6, 0, none⟩) sC'.length c6)).setCell ⟨p.1, cx * 2 + 1, none⟩ (.int .i64 (adN sn))) lo x (.pointer none) (.pointer (some ⟨xd, 0, none⟩)) bt (K.set kk (p.1, p.2.set cx ⟨some ⟨g6, 0, none⟩, c6, L3.ad sC' sn v, adN sn⟩)) true n (fun e => e = xd ∨ e = b)) := by
      have := HC6.out.co.table HP.out hcl ⟨some ⟨g6, 0, none⟩, c6, L3.ad sC' sn v, adN sn⟩ ho6.sl ⟨by show (L3.ad sC' sn v).length = _; rw [ad_len]; exact HLN.out, ad_ok HTO.out v⟩ (fun b' o e1 _ => by
        simp only [Option.some.injEq, Addr.mk.injEq, and_true] at e1
        have h1 := HC5.out.co.low
        have h2 := HC5.out.co.xlo
        refine ⟨by omega, by omega, fun e2 => ?_, by have := HC5.out.co.st.blt; omega, fun q hq => by have := (HC5.out.co.st.lie q hq).2.1; omega⟩
        rcases e2 with e2 | e2
        · have := HC5.out.dc.low; omega
        · have := HC5.out.blt; omega) (fun b' o e1 _ => by
        simp only [Option.some.injEq, Addr.mk.injEq, and_true] at e1
        rcases hZ : Z b' with _ | ob
        · rfl
        · have := (Array.getElem?_eq_some_iff.1 (HC5.out.co.fr b' ob hZ).1).1; omega)
      simp only [ad_len] at this
      exact this
    have hpE : ∀ b', (b' = xd ∨ b' = b) → b' ≠ p.1 := fun b' hb' e => HC6.out.co.eb b' hb' (Or.inr ⟨p, hpK, Or.inl e⟩)
    have HDC : Hid (L2.Dc ((w6.setCell ⟨p.1, cx * 2, none⟩ (.slice (some ⟨g6, 0, none⟩) sC'.length c6)).setCell ⟨p.1, cx * 2 + 1, none⟩ (.int .i64 (adN sn))) xd b zs (L2.dTake zs c g q pa pe).2.2 (L2.dTake zs c g q pa pe).1 (L2.dTake zs c g q pa pe).2.1) := HC6.out.dc.carry (by rw [Below.heap_setCell _ _ _ _ (hpE xd (Or.inl rfl)), Below.heap_setCell _ _ _ _ (hpE xd (Or.inl rfl))]) (fun _ => by rw [Below.heap_setCell _ _ _ _ (hpE b (Or.inr rfl)), Below.heap_setCell _ _ _ _ (hpE b (Or.inr rfl))]) (by rw [setCell_size, setCell_size]; exact Nat.le_refl _)
    have hpl : lo ≤ p.1 := (HC6.out.co.st.lie p hpK).1
    have HB7 : Hid (Below lo w1 ((w6.setCell ⟨p.1, cx * 2, none⟩ (.slice (some ⟨g6, 0, none⟩) sC'.length c6)).setCell ⟨p.1, cx * 2 + 1, none⟩ (.int .i64 (adN sn)))) := below_set (below_set HB6.out hpl _) hpl _
    have HDK : Hid (L2.Dk (L2.dTake zs c g q pa pe).1 (L2.dTake zs c g q pa pe).2.1) := HC6.out.dk
    have HLX : Hid (lo ≤ xd) := HC6.out.dlo
    have HBL : Hid (b < ((w6.setCell ⟨p.1, cx * 2, none⟩ (.slice (some ⟨g6, 0, none⟩) sC'.length c6)).setCell ⟨p.1, cx * 2 + 1, none⟩ (.int .i64 (adN sn))).heap.size) := by show _ < _; rw [setCell_size, setCell_size]; exact HC6.out.blt
    rw [ad_len]
    clear ho6 hb6 HC5 HC6 HB5 HB6 z0 z1 zf0 zf1
    go_wp2_with fail
    go_ret
    exact ⟨v, rfl, by rw [HDv.out]; exact HFd.out, by rw [HPA.out, HPE.out]; exact ⟨_, ⟨HTB.out, HDC.out, HDK.out, HLX.out, HBL.out⟩, Or.inr ⟨rfl, p, ⟨sa, sc, sC', sn⟩, _, c6, HP.out, HS.out, rfl⟩, HB7.out⟩⟩

end Go.Proofs.YtppanogpeengnaaDoor

namespace Go.Proofs.YtppanogpeengnaaDoor
open Go.RowKit L3
variable {Z : Nat → Option Obj}

def SymR (Z : Nat → Option Obj) (w w' : World) (lo x bt : Nat) (K : List (Nat × List Tb)) (ad : Bool) (n : Int) (xd b : Nat) (zs : List Nat) (q c g kk cx v pa pe : Nat) : Prop :=
  ∃ K', CR Z w' lo x bt K' ad (n + 1) xd b zs (L2.dTake zs c g q pa pe).2.2 (L2.dTake zs c g q pa pe).1 (L2.dTake zs c g q pa pe).2.1 ∧ Adp K ad kk cx v K' ∧ Below lo w w'

set_option maxRecDepth 100000 in
set_option maxHeartbeats 4000000 in
theorem symbol_r {w : World} {lo x bt : Nat} {K : List (Nat × List Tb)} {ad : Bool} {n : Int} {xd b : Nat} {zs : List Nat} {q c g : Nat} (h : CR Z w lo x bt K ad n xd b zs q c g) (hsh : Sh w) (hn0 : 0 ≤ n) (hn1 : n ≤ 1152921504606846976) {kk cx : Nat} {z : Int} (hk : kk < 32) (hc : cx < sC kk) {p : Nat × List Tb} {s : Tb} (hp : K[kk]? = some p) (hs : p.2[cx]? = some s) :
    Calls Tryd.prog 35 #[.pointer (some ⟨x, 0, none⟩), .int .i64 kk, .int .i64 cx, .int .i64 z] w fun e w' => ∃ v, e = .returned (.tuple #[.int .i64 (v : Nat), .int .i64 0]) ∧ L3.Fd s.C (L2.dVal c g) v ∧ SymR Z w w' lo x bt K ad n xd b zs q c g kk cx v (eb s.C v) (ee s.C v) := by
  have hlo : lo ≤ w.heap.size := Nat.le_trans h.co.xlo (Nat.le_of_lt h.co.low)
  have HPL : Hid (p.2.length = sC kk) := (h.co.ok.2 kk p hp).1
  have HCR : Hid (CR Z w lo x bt K ad n xd b zs q c g) := h
  have HP : Hid (K[kk]? = some p) := hp
  have HS : Hid (p.2[cx]? = some s) := hs
  have q0 := h.co.o
  have q1 := h.co.i
  have b0 : ¬ (cx : Int) < 0 := by omega
  have b1 : ¬ (sC kk : Int) ≤ (cx : Int) := by omega
  have b4 : 0 ≤ (kk : Int) := by omega
  have b5 : (kk : Int) < 32 := by omega
  have b6 : 0 ≤ (cx : Int) := by omega
  have b7 : (cx : Int) < (sC kk : Int) := by omega
  clear h hp hs
  go_enter Tryd.func35, Tryd.ntmps35
  go_wp2_with fail
  refine (none_r q0 q1).mono ?_
  rintro e w1 ⟨rfl, rfl⟩
  go_wp2_with fail
  refine (shape_ok hsh hk).mono ?_
  rintro e w2 ⟨rfl, hb2⟩
  have HC2 : Hid (CR Z w2 lo x bt K ad n xd b zs q c g) := HCR.out.to hb2
  have HB2 : Hid (Below lo _ w2) := hb2.mono hlo
  have HS2 : Hid (lo ≤ w2.heap.size) := Nat.le_trans hlo hb2.size
  clear hb2 q0 q1
  have q0 := HC2.out.co.o
  have q1 := HC2.out.co.i
  have q2 := HC2.out.co.t
  have qt : w2.cell? ⟨bt, kk, none⟩ = some (.slice (some ⟨p.1, 0, none⟩) (sC kk) (sC kk)) := by have := HC2.out.co.st.hd kk p HP.out; rw [HPL.out] at this; exact this
  go_wp2_with fail
  refine (writes_r q0 q1).mono ?_
  rintro e w3 ⟨rfl, rfl⟩
  go_wp2_with fail
  refine (code_r HC2.out HP.out HS.out HS2.out).mono ?_
  rintro e w4 ⟨v, rfl, hfd, K', hc4, ha4, hb4⟩
  have HFd : Hid (L3.Fd s.C (L2.dVal c g) v) := hfd
  have HC4 : Hid (CR Z w4 lo x bt K' ad n xd b zs (L2.dTake zs c g q (eb s.C v) (ee s.C v)).2.2 (L2.dTake zs c g q (eb s.C v) (ee s.C v)).1 (L2.dTake zs c g q (eb s.C v) (ee s.C v)).2.1) := hc4
  have HB4 : Hid (Below lo _ w4) := HB2.out.trans hb4
  have HF : Hid (SymR Z _ (w4.setCell ⟨x, 4, none⟩ (.int .i64 (n + 1))) lo x bt K ad n xd b zs q c g kk cx v (eb s.C v) (ee s.C v)) := ⟨K', hc4.count, ha4, below_set HB4.out hc4.co.xlo _⟩
  clear hc4 ha4 hb4 q0 q1 q2 qt HC2 HB2 HB4 hfd
  have q4 := HC4.out.co.c
  have q5 := HC4.out.co.th
  go_wp2_with fail
  exact bodyPost_ret (v := .tuple #[.int .i64 v, .int .i64 0]) (by simp [results, Tryd.results35, go_sem]) rfl ⟨v, rfl, HFd.out, HF.out⟩

theorem u32_nat (a : Nat) (h : a < 4294967296) : IntKind.u32.wrap (a : Int) = (a : Int) := by rw [IntKind.wrap_u32]; omega
set_option maxRecDepth 100000 in
set_option maxHeartbeats 1000000 in
theorem bit_r {w : World} {lo x bt : Nat} {K : List (Nat × List Tb)} {ad : Bool} {n : Int} {xd b : Nat} {zs : List Nat} {q c g : Nat} (h : CR Z w lo x bt K ad n xd b zs q c g) {z : Int} {bb pa pe : Nat} (hb : bb = L2.dVal c g / 16384) (hpa : pa = 16384 * bb) (hpe : pe = pa + 16384) :
    Calls Tryd.prog 61 #[.pointer (some ⟨x, 0, none⟩), .int .i64 z] w fun e w' => e = .returned (.int .i64 (bb : Nat)) ∧ bb < 2 ∧ NarR Z w w' lo x bt K ad n xd b zs q c g pa pe := by
  have HCR : Hid (CR Z w lo x bt K ad n xd b zs q c g) := h
  have q0 := h.co.o
  have q1 := h.co.i
  have hlt := L2.dVal_lt c g
  have HMay : Hid (L2.dMay c g pa pe) := ⟨by omega, by omega, by omega⟩
  have HB2 : Hid (bb < 2) := by show _ < _; omega
  have HPA : Hid (pa = 16384 * bb) := hpa
  have HPE : Hid (pe = pa + 16384) := hpe
  have e1 : ((L2.dVal c g : Nat) : Int) / 16384 = (bb : Int) := by omega
  have e2 : (0 : Int) ≤ ((L2.dVal c g : Nat) : Int) := by omega
  have e3 : ((L2.dVal c g : Nat) : Int) < 32768 := by omega
  have e4 : (bb : Int) < 2 := by omega
  have e5 : (0 : Int) ≤ (bb : Int) := by omega
  clear h hpa hpe hb hlt
  generalize hdv : L2.dVal c g = dv at *
  have HDv : Hid (L2.dVal c g = dv) := hdv
  clear hdv
  go_enter Tryd.func61, Tryd.ntmps61
  go_wp2_with fail
  refine (writes_r q0 q1).mono ?_
  rintro e w1 ⟨rfl, rfl⟩
  go_wp2_with fail
  refine (L2.value_dc HCR.out.dc HCR.out.dk).mono ?_
  rintro e w2 ⟨rfl, m2, hm2⟩
  rw [HDv.out]
  have HC2 : Hid (CR Z w2 lo x bt K ad n xd b zs q c g) := by show CR Z _ _ _ _ _ _ _ _ _ _ _ _ _; rw [hm2]; exact HCR.out.drewN m2
  have HB2' : Hid (Below lo w1 w2) := by show Below _ _ _; rw [hm2]; exact ⟨rfl, rfl, rfl, Nat.le_refl _, fun _ _ => rfl⟩
  clear hm2 q0 q1
  go_wp2_with fail
  rw [show (16384 : Int) * (bb : Int) = (pa : Int) from by have := HPA.out; omega, show (pa : Int) + 16384 = (pe : Int) from by have := HPE.out; omega]
  refine (narrow_r HC2.out pa pe HMay.out).mono ?_
  rintro e w3 ⟨rfl, hc3, hb3⟩
  have HF : Hid (NarR Z w1 w3 lo x bt K ad n xd b zs q c g pa pe) := ⟨hc3, HB2'.out.trans hb3⟩
  clear hc3 hb3
  go_wp2_with fail
  go_ret
  exact ⟨rfl, HB2.out, HF.out⟩

/-- one bit more: the number, what was asked for, the code, the range -/
def st1 (zs : List Nat) (s : Nat × Nat × Nat × Nat) : Nat × Nat × Nat × Nat :=
  (2 * s.1 + L2.dVal s.2.2.1 s.2.2.2 / 16384,
   (L2.dTake zs s.2.2.1 s.2.2.2 s.2.1 (16384 * (L2.dVal s.2.2.1 s.2.2.2 / 16384)) (16384 * (L2.dVal s.2.2.1 s.2.2.2 / 16384) + 16384)).2.2,
   (L2.dTake zs s.2.2.1 s.2.2.2 s.2.1 (16384 * (L2.dVal s.2.2.1 s.2.2.2 / 16384)) (16384 * (L2.dVal s.2.2.1 s.2.2.2 / 16384) + 16384)).1,
   (L2.dTake zs s.2.2.1 s.2.2.2 s.2.1 (16384 * (L2.dVal s.2.2.1 s.2.2.2 / 16384)) (16384 * (L2.dVal s.2.2.1 s.2.2.2 / 16384) + 16384)).2.1)
theorem st1_eq (zs : List Nat) (s : Nat × Nat × Nat × Nat) (bb pa pe : Nat) (hb : bb = L2.dVal s.2.2.1 s.2.2.2 / 16384) (ha : pa = 16384 * bb) (he : pe = pa + 16384) :
    st1 zs s = (2 * s.1 + bb, (L2.dTake zs s.2.2.1 s.2.2.2 s.2.1 pa pe).2.2, (L2.dTake zs s.2.2.1 s.2.2.2 s.2.1 pa pe).1, (L2.dTake zs s.2.2.1 s.2.2.2 s.2.1 pa pe).2.1) := by
  unfold st1
  rw [← hb, ← ha, ← he]
/-- what is read behind i bits -/
def dBs (zs : List Nat) (q c g : Nat) : Nat → Nat × Nat × Nat × Nat
  | 0 => (0, q, c, g)
  | i + 1 => st1 zs (dBs zs q c g i)
theorem dBs_zero (zs : List Nat) (q c g : Nat) : dBs zs q c g 0 = (0, q, c, g) := rfl
theorem dBs_succ (zs : List Nat) (q c g i bb pa pe : Nat) (hb : bb = L2.dVal (dBs zs q c g i).2.2.1 (dBs zs q c g i).2.2.2 / 16384) (ha : pa = 16384 * bb) (he : pe = pa + 16384) :
    dBs zs q c g (i + 1) = (2 * (dBs zs q c g i).1 + bb, (L2.dTake zs (dBs zs q c g i).2.2.1 (dBs zs q c g i).2.2.2 (dBs zs q c g i).2.1 pa pe).2.2, (L2.dTake zs (dBs zs q c g i).2.2.1 (dBs zs q c g i).2.2.2 (dBs zs q c g i).2.1 pa pe).1, (L2.dTake zs (dBs zs q c g i).2.2.1 (dBs zs q c g i).2.2.2 (dBs zs q c g i).2.1 pa pe).2.1) := st1_eq zs _ bb pa pe hb ha he
theorem dBs_lt (zs : List Nat) (q c g i : Nat) : (dBs zs q c g i).1 < 2 ^ i := by
  induction i with
  | zero => rw [dBs_zero]; simp
  | succ i ih =>
    have h1 := L2.dVal_lt (dBs zs q c g i).2.2.1 (dBs zs q c g i).2.2.2
    obtain ⟨bb, hb⟩ : ∃ bb, bb = L2.dVal (dBs zs q c g i).2.2.1 (dBs zs q c g i).2.2.2 / 16384 := ⟨_, rfl⟩
    rw [dBs_succ zs q c g i bb _ _ hb rfl rfl, Nat.pow_succ]
    show 2 * (dBs zs q c g i).1 + bb < _
    omega

structure BrI (Z : Nat → Option Obj) (w : World) (lo x bt : Nat) (K : List (Nat × List Tb)) (ad : Bool) (cn : Int) (xd b : Nat) (zs : List Nat) (q c g n : Nat) (s i : Value) (wr : World) : Prop where
  ex : ∃ j : Nat, j ≤ n ∧ i = .int .i64 j ∧ s = .int .i64 (((dBs zs q c g j).1 : Nat) : Int) ∧ CR Z wr lo x bt K ad cn xd b zs (dBs zs q c g j).2.1 (dBs zs q c g j).2.2.1 (dBs zs q c g j).2.2.2 ∧ Below lo w wr
def BitR (Z : Nat → Option Obj) (w w' : World) (lo x bt : Nat) (K : List (Nat × List Tb)) (ad : Bool) (cn : Int) (xd b : Nat) (zs : List Nat) (q c g n : Nat) : Prop :=
  CR Z w' lo x bt K ad (cn + n) xd b zs (dBs zs q c g n).2.1 (dBs zs q c g n).2.2.1 (dBs zs q c g n).2.2.2 ∧ Below lo w w'

set_option maxRecDepth 100000 in
set_option maxHeartbeats 2000000 in
theorem bits_r {w : World} {lo x bt : Nat} {K : List (Nat × List Tb)} {ad : Bool} {cn : Int} {xd b : Nat} {zs : List Nat} {q c g : Nat} (h : CR Z w lo x bt K ad cn xd b zs q c g) (hn0 : 0 ≤ cn) (hn1 : cn ≤ 1152921504606846976) {n : Nat} {z : Int} (hn : n ≤ 30) :
    Calls Tryd.prog 34 #[.pointer (some ⟨x, 0, none⟩), .int .i64 n, .int .i64 z] w fun e w' => e = .returned (.tuple #[.int .i64 (((dBs zs q c g n).1 : Nat) : Int), .int .i64 0]) ∧ BitR Z w w' lo x bt K ad cn xd b zs q c g n := by
  have HCR : Hid (CR Z w lo x bt K ad cn xd b zs q c g) := h
  have q0 := h.co.o
  have q1 := h.co.i
  have b0 : ¬ (n : Int) < 0 := by omega
  have b1 : ¬ (30 : Int) < (n : Int) := by omega
  have b4 : (n : Int) ≤ 30 := by omega
  have HN : Hid (n ≤ 30) := hn
  clear h hn
  go_enter Tryd.func34, Tryd.ntmps34
  go_wp2_with fail
  refine (none_r q0 q1).mono ?_
  rintro e w1 ⟨rfl, rfl⟩
  go_wp2_with fail
  refine (writes_r q0 q1).mono ?_
  rintro e w2 ⟨rfl, rfl⟩
  go_wp2_with fail
  go_loopw [8, 33] (fun s i wr => BrI Z w2 lo x bt K ad cn xd b zs q c g n s i wr) (fun _ i _ => n - (intOf i).toNat)
  case atStart => exact ⟨⟨0, by omega, rfl, by rw [dBs_zero]; rfl, by rw [dBs_zero]; exact HCR.out, Below.refl _ _⟩⟩
  case round =>
    obtain ⟨j, hj, rfl, rfl, hc, hb⟩ := hrel
    have j0 : (0 : Int) ≤ (j : Int) := by omega
    by_cases hlt : j < n
    · have j1 : (j : Int) < (n : Int) := by omega
      have HB : Hid (Below lo w2 wr) := hb
      have HJ : Hid (j < n) := hlt
      obtain ⟨m, hm⟩ : ∃ m, m = n - 1 - j := ⟨_, rfl⟩
      have e1 : (n : Int) - 1 - (j : Int) = (m : Int) := by omega
      have m0 : (0 : Int) ≤ (m : Int) := by omega
      have m1 : (m : Int) < 64 := by omega
      obtain ⟨bb, hbb⟩ : ∃ bb, bb = L2.dVal (dBs zs q c g j).2.2.1 (dBs zs q c g j).2.2.2 / 16384 := ⟨_, rfl⟩
      obtain ⟨pa, ha⟩ : ∃ pa, pa = 16384 * bb := ⟨_, rfl⟩
      obtain ⟨pe, he⟩ : ∃ pe, pe = pa + 16384 := ⟨_, rfl⟩
      have hdl := L2.dVal_lt (dBs zs q c g j).2.2.1 (dBs zs q c g j).2.2.2
      have hb2 : bb < 2 := by omega
      have HSt : Hid (dBs zs q c g (j + 1) = (2 * (dBs zs q c g j).1 + bb, (L2.dTake zs (dBs zs q c g j).2.2.1 (dBs zs q c g j).2.2.2 (dBs zs q c g j).2.1 pa pe).2.2, (L2.dTake zs (dBs zs q c g j).2.2.1 (dBs zs q c g j).2.2.2 (dBs zs q c g j).2.1 pa pe).1, (L2.dTake zs (dBs zs q c g j).2.2.1 (dBs zs q c g j).2.2.2 (dBs zs q c g j).2.1 pa pe).2.1)) := dBs_succ zs q c g j bb pa pe hbb ha he
      have hnl := dBs_lt zs q c g j
      have hp30 : 2 ^ j ≤ 2 ^ 30 := Nat.pow_le_pow_right (by omega) (by have := HN.out; omega)
      have e4 := or_bit (dBs zs q c g j).1 bb (by omega) hb2
      have e5 : (((dBs zs q c g j).1 : Nat) : Int) * 2 = ((2 * (dBs zs q c g j).1 : Nat) : Int) := by omega
      have n0 : (0 : Int) ≤ (((dBs zs q c g j).1 : Nat) : Int) := by omega
      have n1 : (((dBs zs q c g j).1 : Nat) : Int) ≤ 1073741824 := by omega
      have n2 : ((2 * (dBs zs q c g j).1 : Nat) : Int) ≤ 2147483648 := by omega
      have n3 : (0 : Int) ≤ ((2 * (dBs zs q c g j).1 : Nat) : Int) := by omega
      have HCall : Hid (∀ z : Int, Calls Tryd.prog 61 #[.pointer (some ⟨x, 0, none⟩), .int .i64 z] wr fun e w' => e = .returned (.int .i64 (bb : Nat)) ∧ bb < 2 ∧ NarR Z wr w' lo x bt K ad cn xd b zs (dBs zs q c g j).2.1 (dBs zs q c g j).2.2.1 (dBs zs q c g j).2.2.2 pa pe) := fun z => bit_r hc hbb ha he
      have HR1 : Hid ((dBs zs q c g (j + 1)).1 = 2 * (dBs zs q c g j).1 + bb) := by show _ = _; rw [HSt.out]
      generalize hq2 : 2 * (dBs zs q c g j).1 = q2 at *
      generalize hq1 : (dBs zs q c g j).1 = q1' at *
      clear hc hb hlt hj hm hbb ha he hdl hnl hp30 hb2 hq1 hq2
      go_wp2_with fail
      refine (HCall.out _).mono ?_
      rintro e w3 ⟨rfl, -, hc3, hb3⟩
      have HC3 : Hid (CR Z w3 lo x bt K ad cn xd b zs (dBs zs q c g (j + 1)).2.1 (dBs zs q c g (j + 1)).2.2.1 (dBs zs q c g (j + 1)).2.2.2) := by show CR Z _ _ _ _ _ _ _ _ _ _ _ _ _; rw [HSt.out]; exact hc3
      have HB3 : Hid (Below lo w2 w3) := HB.out.trans hb3
      clear hc3 hb3
      go_wp2_with fail
      have hlt := HJ.out
      go_roundw
      case rel => exact ⟨⟨j + 1, by omega, by go_num, by rw [HR1.out]; rfl, HC3.out, HB3.out⟩⟩
      case measure => simp [intOf]; omega
    · obtain rfl : j = n := by omega
      have HC : Hid (CR Z wr lo x bt K ad cn xd b zs (dBs zs q c g j).2.1 (dBs zs q c g j).2.2.1 (dBs zs q c g j).2.2.2) := hc
      have HF : Hid (BitR Z w2 (wr.setCell ⟨x, 4, none⟩ (.int .i64 (cn + (j : Int)))) lo x bt K ad cn xd b zs q c g j) := ⟨hc.count, below_set hb hc.co.xlo _⟩
      have q4 := hc.co.c
      have q5 := hc.co.th
      clear hc hb
      go_wp2_with fail
      refine bodyPost_ret (v := .tuple #[.int .i64 (((dBs zs q c g j).1 : Nat) : Int), .int .i64 0]) (by simp [results, Tryd.results34, go_sem]) rfl ⟨rfl, ?_⟩
      exact HF.out

theorem count_r {w : World} {lo x bt : Nat} {K : List (Nat × List Tb)} {ad : Bool} {cn : Int} {xd b : Nat} {zs : List Nat} {q c g : Nat} (h : CR Z w lo x bt K ad cn xd b zs q c g) :
    Calls Tryd.prog 37 #[.pointer (some ⟨x, 0, none⟩)] w fun e w' => e = .returned (.int .i64 cn) ∧ w' = w := by
  have q0 := h.co.o
  have q1 := h.co.i
  have q4 := h.co.c
  clear h
  go_enter Tryd.func37, Tryd.ntmps37
  go_wp2_with fail
  refine (none_r q0 q1).mono ?_
  rintro e w1 ⟨rfl, rfl⟩
  go_wp2_with fail
  go_ret
  exact ⟨rfl, rfl⟩
theorem set_r {w : World} {lo x bt : Nat} {K : List (Nat × List Tb)} {ad : Bool} {cn : Int} {xd b : Nat} {zs : List Nat} {q c g : Nat} (h : CR Z w lo x bt K ad cn xd b zs q c g) (hsh : Sh w) :
    Calls Tryd.prog 16 #[.pointer (some ⟨x, 0, none⟩)] w fun e w' => SetN w w' e K := set_any h.co hsh fun _ hu => none_r (h.co.to hu).o (h.co.to hu).i

end Go.Proofs.YtppanogpeengnaaDoor

namespace Go.Proofs.YtppanogpeengnaaDoor
open Go.RowKit L3
variable {Z : Nat → Option Obj}

theorem src_to {w w' : World} {v : Value} {zs : List Nat} (h : L2.SrcOf w v zs) (hb : Below w.heap.size w w') : L2.SrcOf w' v zs := by
  rcases h with h | ⟨ad, c, h1, h2⟩
  · exact Or.inl h
  · exact Or.inr ⟨ad, c, h1, fun j hj => by
      have h3 := h2 j hj
      rw [World.cell?_of_block (hb.block _ (World.block_lt_of_cell? w _ h3))]
      exact h3⟩
theorem dc_base {w : World} {x b b' q c g : Nat} (h : L2.Dc w x b [] q c g) (hb : b' ≠ x) : L2.Dc w x b' [] q c g := by
  obtain ⟨v, h1, h2⟩ := h.data
  refine ⟨⟨v, h1, ?_⟩, h.code, h.rng, h.thaw0, h.thaw1, h.thaw2, h.low, hb, h.byt, h.len⟩
  rcases h2 with h2 | ⟨o, c', _, h3, h4, _⟩
  · exact Or.inl h2
  · refine Or.inl ⟨by simp, some ⟨b, o, none⟩, c', ?_⟩
    rw [h4]; simp
/-- a coder that has read nothing -/
def RdN (w w' : World) (e : Ending) (K : List (Nat × List Tb)) (ad : Bool) (zs : List Nat) : Prop :=
  ∃ x bt L xd b, e = .returned (.tuple #[.pointer (some ⟨x, 0, none⟩), .int .i64 0]) ∧ CR zn w' w.heap.size x bt L ad 0 xd b zs 4 (L2.dFirst zs) 4294967295 ∧ Als K L ∧ Below w.heap.size w w'
/-- the coder's block is laid -/
theorem cr_new {w u v : World} {bt xd b : Nat} {ad : Bool} {L : List (Nat × List Tb)} {zs : List Nat} (h0 : 0 < w.heap.size) (hw : Below w.heap.size w v) (hs : St v w.heap.size bt L) (hd : Dk w.heap.size L) (ho : Okk L) (he : L2.Dc v xd b zs 4 (L2.dFirst zs) 4294967295) (hl : w.heap.size ≤ xd) (hz : zs ≠ [] → b < v.heap.size) (hx : ¬ Bs bt L xd) (hb : zs ≠ [] → ¬ Bs bt L b)
    (hu : u = v.alloc (.cells #[.pointer none, .pointer (some ⟨xd, 0, none⟩), .slice (some ⟨bt, 0, none⟩) 32 32, .bool ad, .int .i64 0] 85)) : ∃ b', CR zn u w.heap.size v.heap.size bt L ad 0 xd b' zs 4 (L2.dFirst zs) 4294967295 := by
  subst hu
  have hbb : Below v.heap.size v (v.alloc (.cells #[.pointer none, .pointer (some ⟨xd, 0, none⟩), .slice (some ⟨bt, 0, none⟩) 32 32, .bool ad, .int .i64 0] 85)) := (Below.refl _ _).alloc (Nat.le_refl _) _
  have h0v : 0 < v.heap.size := Nat.lt_of_lt_of_le h0 hw.size
  have key : ∀ b', b' ≠ v.heap.size → b' < v.heap.size → ¬ Bs bt L b' → L2.Dc v xd b' zs 4 (L2.dFirst zs) 4294967295 → CR zn (v.alloc (.cells #[.pointer none, .pointer (some ⟨xd, 0, none⟩), .slice (some ⟨bt, 0, none⟩) 32 32, .bool ad, .int .i64 0] 85)) w.heap.size v.heap.size bt L ad 0 xd b' zs 4 (L2.dFirst zs) 4294967295 := fun b' n1 n2 n3 hd' => by
    refine ⟨⟨by simp [go_sem], by simp [go_sem], by simp [go_sem], by simp [go_sem], by simp [go_sem], by simp [go_sem], by simp, hw.size, hs.to hbb, ho, fun e => ?_, ?_, ?_, hd, fun y o hy => by cases hy⟩, hd'.below hbb, L2.dFirst_ok, hl, Nat.lt_of_lt_of_le n2 hbb.size⟩
    · have := hs.low e; omega
    · rintro (e | e)
      · have := he.low; omega
      · omega
    · rintro b'' (e | e)
      · subst e; exact hx
      · subst e; exact n3
  by_cases e : zs = []
  · subst e
    refine ⟨0, key 0 (by omega) h0v (fun e => ?_) (dc_base he (by omega))⟩
    exact st_apart hs hd h0 e
  · exact ⟨b, key b (by have := hz e; omega) (hz e) (hb e) he⟩

set_option maxRecDepth 100000 in
set_option maxHeartbeats 1000000 in
theorem reader_ok {w : World} {lo bt : Nat} {K : List (Nat × List Tb)} {ad : Bool} {vb : Value} {zs : List Nat} (hsh : Sh w) (h00 : 0 < w.heap.size) (hs : St w lo bt K) (ho : Okk K) (hv : L2.SrcOf w vb zs) (hz : ∀ i, zs.getD i 0 < 256) (hl : zs.length ≤ 140737488355328) :
    Calls Tryd.prog 24 #[vb, .agg #[.slice (some ⟨bt, 0, none⟩) 32 32], .bool ad] w fun e w' => RdN w w' e K ad zs := by
  have HB : Hid (Below w.heap.size w (w.alloc (.cells #[.slice (some ⟨bt, 0, none⟩) 32 32] 25))) := (Below.refl _ _).alloc (Nat.le_refl _) _
  have c0 : (w.alloc (.cells #[.slice (some ⟨bt, 0, none⟩) 32 32] 25)).cell? ⟨w.heap.size, 0, none⟩ = some (.slice (some ⟨bt, 0, none⟩) 32 32) := by simp [go_sem]
  have HZ : Hid (w.heap.size < (w.alloc (.cells #[.slice (some ⟨bt, 0, none⟩) 32 32] 25)).heap.size) := by show _ < _; simp
  have HSt : Hid (∀ v, Below w.heap.size w v → St v lo bt K) := fun v hv => hs.to hv
  have HSh : Hid (∀ v, Below w.heap.size w v → Sh v) := fun v hv => hsh.to hv
  have HSr : Hid (∀ v, Below w.heap.size w v → L2.SrcOf v vb zs) := fun v hv' => src_to hv hv'
  have HO : Hid (Okk K) := ho
  have HBt : Hid (∀ i, zs.getD i 0 < 256) := hz
  have HLl : Hid (zs.length ≤ 140737488355328) := hl
  have H00 : Hid (0 < w.heap.size) := h00
  clear hsh hs ho hv hz hl h00
  go_enter Tryd.func24, Tryd.ntmps24
  go_wp2_with fail
  generalize (w.alloc (.cells #[.slice (some ⟨bt, 0, none⟩) 32 32] 25)) = V at *
  refine (scheck_ok (HSh.out _ HB.out) (HSt.out _ HB.out) HO.out).mono ?_
  rintro e w1 ⟨rfl, hb1⟩
  have HB1 : Hid (Below w.heap.size w w1) := HB.out.trans (hb1.mono (Nat.le_of_lt HZ.out))
  have d0 : w1.cell? ⟨w.heap.size, 0, none⟩ = some (.slice (some ⟨bt, 0, none⟩) 32 32) := by rw [newCell hb1 _ _ HZ.out]; exact c0
  have HZ1 : Hid (w.heap.size < w1.heap.size) := Nat.lt_of_lt_of_le HZ.out hb1.size
  clear hb1 c0
  go_wp2_with fail
  have HK : Hid (∀ v : World, Below w1.heap.size w1 v → v.cell? ⟨w.heap.size, 0, none⟩ = some (.slice (some ⟨bt, 0, none⟩) 32 32)) := fun v hv => by rw [newCell hv _ _ HZ1.out]; exact d0
  have HUp : Hid (∀ v : World, Below w1.heap.size w1 v → Below w.heap.size w v) := fun v hv => HB1.out.trans (hv.mono (Nat.le_of_lt HZ1.out))
  have HCp : Hid (∀ v : World, Below w1.heap.size w1 v → Calls Tryd.prog 29 #[.agg #[.slice (some ⟨bt, 0, none⟩) 32 32]] v fun e w' => Cset v w' e K) := fun v hv => scopy_ok (HSh.out _ (HUp.out v hv)) (HSt.out _ (HUp.out v hv)) HO.out
  have HRd : Hid (∀ v : World, Below w1.heap.size w1 v → Calls Tryd.prog 50 #[vb] v fun e w' => ∃ x, e = .returned (.pointer (some ⟨x, 0, none⟩)) ∧ L2.DcMade v w' zs x) := fun v hv => L2.read_core (HSr.out _ (HUp.out v hv)) HBt.out HLl.out
  have hbd : Below w1.heap.size w1 w1.drew := below_drew (Below.refl _ _)
  have HA : Hid (∀ wA wB xd b2 L2', L2.DcMade w1.drew wA zs xd → St wB wA.heap.size b2 L2' → Als K L2' → Dk wA.heap.size L2' → Below wA.heap.size wA wB → RdN w (wB.alloc (.cells #[.pointer none, .pointer (some ⟨xd, 0, none⟩), .slice (some ⟨b2, 0, none⟩) 32 32, .bool ad, .int .i64 0] 85)) (.returned (.tuple #[.pointer (some ⟨wB.heap.size, 0, none⟩), .int .i64 0])) K ad zs) := fun wA wB xd b2 L2' h1 h3 h4 h5 h6 => by
    obtain ⟨b, hdc, hx, hb', hzz, h2⟩ := h1
    have z1 := HZ1.out
    have z2 := h2.size
    have z3 : w1.drew.heap.size = w1.heap.size := rfl
    have z4 := hdc.low
    have hb : Below w.heap.size w wB := (HUp.out _ (hbd.trans (h2.mono (by omega)))).trans (h6.mono (by omega))
    obtain ⟨b', hcr⟩ := cr_new (ad := ad) H00.out hb (h3.weak (by omega)) (h5.weak (by omega)) (HO.out.als h4) (hdc.below h6) (by omega) (fun e => Nat.lt_of_lt_of_le (hzz e) h6.size) (st_apart h3 h5 z4) (fun e => st_apart h3 h5 (hzz e)) rfl
    exact ⟨wB.heap.size, b2, L2', xd, b', rfl, hcr, h4, to_alloc hb _⟩
  have HB2 : Hid (∀ wA wB xd b2 L2', St wB w1.drew.heap.size b2 L2' → Als K L2' → Dk w1.drew.heap.size L2' → Below w1.drew.heap.size w1.drew wB → L2.DcMade wB wA zs xd → RdN w (wA.alloc (.cells #[.pointer none, .pointer (some ⟨xd, 0, none⟩), .slice (some ⟨b2, 0, none⟩) 32 32, .bool ad, .int .i64 0] 85)) (.returned (.tuple #[.pointer (some ⟨wA.heap.size, 0, none⟩), .int .i64 0])) K ad zs) := fun wA wB xd b2 L2' h3 h4 h5 h6 h1 => by
    obtain ⟨b, hdc, hx, hb', hzz, h2⟩ := h1
    have z1 := HZ1.out
    have z2 := h6.size
    have z3 : w1.drew.heap.size = w1.heap.size := rfl
    have hb : Below w.heap.size w wA := (HUp.out _ (hbd.trans (h6.mono (by omega)))).trans (h2.mono (by omega))
    obtain ⟨b'', hcr⟩ := cr_new (ad := ad) H00.out hb ((h3.to h2).weak (by omega)) (h5.weak (by omega)) (HO.out.als h4) hdc (by omega) hzz (fun e => by have := h3.low e; omega) (fun _ e => by have := h3.low e; omega) rfl
    exact ⟨wA.heap.size, b2, L2', xd, b'', rfl, hcr, h4, to_alloc hb _⟩
  go_region_held3 (fun v => v.cell? ⟨w.heap.size, 0, none⟩ = some (.slice (some ⟨bt, 0, none⟩) 32 32))
    ((exact HK.out _ (by first | assumption | (refine to_alloc ?_ _; assumption))))
    (first
      | (go_at_call 50; refine (HRd.out _ (by assumption)).mono ?_; rintro e wA ⟨xd, rfl, hdA⟩; have hbA := Exists.elim hdA (fun _ h => h.2.2.2.2); have hzA := below_to (by assumption) hbA)
      | (go_at_call 29; refine (HCp.out _ (by assumption)).mono ?_; rintro e wB ⟨b2, L2', rfl, hs2, ha2, hd2, hbB⟩; have hzB := below_to (by assumption) hbB))
  all_goals
    go_wp2_with fail
    refine bodyPost_ret (v := .tuple #[.pointer (some ⟨_, 0, none⟩), .int .i64 0]) (by simp [results, Tryd.results24, go_sem]; rfl) rfl ?_
    first
      | exact HA.out _ _ _ _ _ hdA hs2 ha2 hd2 hbB
      | exact HB2.out _ _ _ _ _ hs2 ha2 hd2 hbB hdA

end Go.Proofs.YtppanogpeengnaaDoor

namespace Go.Proofs.YtppanogpeengnaaDoor
open Go.RowKit L3

/-- a coder that has read nothing; where its bytes lie -/
def RdM (w w' : World) (e : Ending) (K : List (Nat × List Tb)) (ad : Bool) (zs : List Nat) : Prop :=
  ∃ x bt L xd b, e = .returned (.tuple #[.pointer (some ⟨x, 0, none⟩), .int .i64 0]) ∧ CR zn w' w.heap.size x bt L ad 0 xd b zs 4 (L2.dFirst zs) 4294967295 ∧ Als K L ∧ Below w.heap.size w w' ∧ (b = 0 ∨ w.heap.size ≤ b)
/-- the coder's block is laid -/
theorem cr_new2 {w u v : World} {bt xd b : Nat} {ad : Bool} {L : List (Nat × List Tb)} {zs : List Nat} (h0 : 0 < w.heap.size) (hw : Below w.heap.size w v) (hs : St v w.heap.size bt L) (hd : Dk w.heap.size L) (ho : Okk L) (he : L2.Dc v xd b zs 4 (L2.dFirst zs) 4294967295) (hl : w.heap.size ≤ xd) (hz : zs ≠ [] → b < v.heap.size) (hx : ¬ Bs bt L xd) (hb : zs ≠ [] → ¬ Bs bt L b)
    (hu : u = v.alloc (.cells #[.pointer none, .pointer (some ⟨xd, 0, none⟩), .slice (some ⟨bt, 0, none⟩) 32 32, .bool ad, .int .i64 0] 85)) : ∃ b', CR zn u w.heap.size v.heap.size bt L ad 0 xd b' zs 4 (L2.dFirst zs) 4294967295 ∧ (b' = 0 ∨ b' = b) := by
  subst hu
  have hbb : Below v.heap.size v (v.alloc (.cells #[.pointer none, .pointer (some ⟨xd, 0, none⟩), .slice (some ⟨bt, 0, none⟩) 32 32, .bool ad, .int .i64 0] 85)) := (Below.refl _ _).alloc (Nat.le_refl _) _
  have h0v : 0 < v.heap.size := Nat.lt_of_lt_of_le h0 hw.size
  have key : ∀ b', b' ≠ v.heap.size → b' < v.heap.size → ¬ Bs bt L b' → L2.Dc v xd b' zs 4 (L2.dFirst zs) 4294967295 → CR zn (v.alloc (.cells #[.pointer none, .pointer (some ⟨xd, 0, none⟩), .slice (some ⟨bt, 0, none⟩) 32 32, .bool ad, .int .i64 0] 85)) w.heap.size v.heap.size bt L ad 0 xd b' zs 4 (L2.dFirst zs) 4294967295 := fun b' n1 n2 n3 hd' => by
    refine ⟨⟨by simp [go_sem], by simp [go_sem], by simp [go_sem], by simp [go_sem], by simp [go_sem], by simp [go_sem], by simp, hw.size, hs.to hbb, ho, fun e => ?_, ?_, ?_, hd, fun y o hy => by cases hy⟩, hd'.below hbb, L2.dFirst_ok, hl, Nat.lt_of_lt_of_le n2 hbb.size⟩
    · have := hs.low e; omega
    · rintro (e | e)
      · have := he.low; omega
      · omega
    · rintro b'' (e | e)
      · subst e; exact hx
      · subst e; exact n3
  by_cases e : zs = []
  · subst e
    refine ⟨0, key 0 (by omega) h0v (fun e => ?_) (dc_base he (by omega)), Or.inl rfl⟩
    exact st_apart hs hd h0 e
  · exact ⟨b, key b (by have := hz e; omega) (hz e) (hb e) he, Or.inr rfl⟩

set_option maxRecDepth 100000 in
set_option maxHeartbeats 1000000 in
theorem reader_core {w : World} {lo bt : Nat} {K : List (Nat × List Tb)} {ad : Bool} {vb : Value} {zs : List Nat} (hsh : Sh w) (h00 : 0 < w.heap.size) (hs : St w lo bt K) (ho : Okk K) (hv : L2.SrcOf w vb zs) (hz : ∀ i, zs.getD i 0 < 256) (hl : zs.length ≤ 140737488355328) :
    Calls Tryd.prog 24 #[vb, .agg #[.slice (some ⟨bt, 0, none⟩) 32 32], .bool ad] w fun e w' => RdM w w' e K ad zs := by
  have HB : Hid (Below w.heap.size w (w.alloc (.cells #[.slice (some ⟨bt, 0, none⟩) 32 32] 25))) := (Below.refl _ _).alloc (Nat.le_refl _) _
  have c0 : (w.alloc (.cells #[.slice (some ⟨bt, 0, none⟩) 32 32] 25)).cell? ⟨w.heap.size, 0, none⟩ = some (.slice (some ⟨bt, 0, none⟩) 32 32) := by simp [go_sem]
  have HZ : Hid (w.heap.size < (w.alloc (.cells #[.slice (some ⟨bt, 0, none⟩) 32 32] 25)).heap.size) := by show _ < _; simp
  have HSt : Hid (∀ v, Below w.heap.size w v → St v lo bt K) := fun v hv => hs.to hv
  have HSh : Hid (∀ v, Below w.heap.size w v → Sh v) := fun v hv => hsh.to hv
  have HSr : Hid (∀ v, Below w.heap.size w v → L2.SrcOf v vb zs) := fun v hv' => src_to hv hv'
  have HO : Hid (Okk K) := ho
  have HBt : Hid (∀ i, zs.getD i 0 < 256) := hz
  have HLl : Hid (zs.length ≤ 140737488355328) := hl
  have H00 : Hid (0 < w.heap.size) := h00
  clear hsh hs ho hv hz hl h00
  go_enter Tryd.func24, Tryd.ntmps24
  go_wp2_with fail
  generalize (w.alloc (.cells #[.slice (some ⟨bt, 0, none⟩) 32 32] 25)) = V at *
  refine (scheck_ok (HSh.out _ HB.out) (HSt.out _ HB.out) HO.out).mono ?_
  rintro e w1 ⟨rfl, hb1⟩
  have HB1 : Hid (Below w.heap.size w w1) := HB.out.trans (hb1.mono (Nat.le_of_lt HZ.out))
  have d0 : w1.cell? ⟨w.heap.size, 0, none⟩ = some (.slice (some ⟨bt, 0, none⟩) 32 32) := by rw [newCell hb1 _ _ HZ.out]; exact c0
  have HZ1 : Hid (w.heap.size < w1.heap.size) := Nat.lt_of_lt_of_le HZ.out hb1.size
  clear hb1 c0
  go_wp2_with fail
  have HK : Hid (∀ v : World, Below w1.heap.size w1 v → v.cell? ⟨w.heap.size, 0, none⟩ = some (.slice (some ⟨bt, 0, none⟩) 32 32)) := fun v hv => by rw [newCell hv _ _ HZ1.out]; exact d0
  have HUp : Hid (∀ v : World, Below w1.heap.size w1 v → Below w.heap.size w v) := fun v hv => HB1.out.trans (hv.mono (Nat.le_of_lt HZ1.out))
  have HCp : Hid (∀ v : World, Below w1.heap.size w1 v → Calls Tryd.prog 29 #[.agg #[.slice (some ⟨bt, 0, none⟩) 32 32]] v fun e w' => Cset v w' e K) := fun v hv => scopy_ok (HSh.out _ (HUp.out v hv)) (HSt.out _ (HUp.out v hv)) HO.out
  have HRd : Hid (∀ v : World, Below w1.heap.size w1 v → Calls Tryd.prog 50 #[vb] v fun e w' => ∃ x, e = .returned (.pointer (some ⟨x, 0, none⟩)) ∧ L2.DcMade v w' zs x) := fun v hv => L2.read_core (HSr.out _ (HUp.out v hv)) HBt.out HLl.out
  have hbd : Below w1.heap.size w1 w1.drew := below_drew (Below.refl _ _)
  have HA : Hid (∀ wA wB xd b2 L2', L2.DcMade w1.drew wA zs xd → St wB wA.heap.size b2 L2' → Als K L2' → Dk wA.heap.size L2' → Below wA.heap.size wA wB → RdM w (wB.alloc (.cells #[.pointer none, .pointer (some ⟨xd, 0, none⟩), .slice (some ⟨b2, 0, none⟩) 32 32, .bool ad, .int .i64 0] 85)) (.returned (.tuple #[.pointer (some ⟨wB.heap.size, 0, none⟩), .int .i64 0])) K ad zs) := fun wA wB xd b2 L2' h1 h3 h4 h5 h6 => by
    obtain ⟨b, hdc, hx, hb', hzz, h2⟩ := h1
    have z1 := HZ1.out
    have z2 := h2.size
    have z3 : w1.drew.heap.size = w1.heap.size := rfl
    have z4 := hdc.low
    have hb : Below w.heap.size w wB := (HUp.out _ (hbd.trans (h2.mono (by omega)))).trans (h6.mono (by omega))
    obtain ⟨b', hcr, hb0⟩ := cr_new2 (ad := ad) H00.out hb (h3.weak (by omega)) (h5.weak (by omega)) (HO.out.als h4) (hdc.below h6) (by omega) (fun e => Nat.lt_of_lt_of_le (hzz e) h6.size) (st_apart h3 h5 z4) (fun e => st_apart h3 h5 (hzz e)) rfl
    exact ⟨wB.heap.size, b2, L2', xd, b', rfl, hcr, h4, to_alloc hb _, by rcases hb0 with e | e; exact Or.inl e; exact Or.inr (by omega)⟩
  have HB2 : Hid (∀ wA wB xd b2 L2', St wB w1.drew.heap.size b2 L2' → Als K L2' → Dk w1.drew.heap.size L2' → Below w1.drew.heap.size w1.drew wB → L2.DcMade wB wA zs xd → RdM w (wA.alloc (.cells #[.pointer none, .pointer (some ⟨xd, 0, none⟩), .slice (some ⟨b2, 0, none⟩) 32 32, .bool ad, .int .i64 0] 85)) (.returned (.tuple #[.pointer (some ⟨wA.heap.size, 0, none⟩), .int .i64 0])) K ad zs) := fun wA wB xd b2 L2' h3 h4 h5 h6 h1 => by
    obtain ⟨b, hdc, hx, hb', hzz, h2⟩ := h1
    have z1 := HZ1.out
    have z2 := h6.size
    have z3 : w1.drew.heap.size = w1.heap.size := rfl
    have hb : Below w.heap.size w wA := (HUp.out _ (hbd.trans (h6.mono (by omega)))).trans (h2.mono (by omega))
    obtain ⟨b'', hcr, hb0⟩ := cr_new2 (ad := ad) H00.out hb ((h3.to h2).weak (by omega)) (h5.weak (by omega)) (HO.out.als h4) hdc (by omega) hzz (fun e => by have := h3.low e; omega) (fun _ e => by have := h3.low e; omega) rfl
    exact ⟨wA.heap.size, b2, L2', xd, b'', rfl, hcr, h4, to_alloc hb _, by rcases hb0 with e | e; exact Or.inl e; exact Or.inr (by omega)⟩
  go_region_held3 (fun v => v.cell? ⟨w.heap.size, 0, none⟩ = some (.slice (some ⟨bt, 0, none⟩) 32 32))
    ((exact HK.out _ (by first | assumption | (refine to_alloc ?_ _; assumption))))
    (first
      | (go_at_call 50; refine (HRd.out _ (by assumption)).mono ?_; rintro e wA ⟨xd, rfl, hdA⟩; have hbA := Exists.elim hdA (fun _ h => h.2.2.2.2); have hzA := below_to (by assumption) hbA)
      | (go_at_call 29; refine (HCp.out _ (by assumption)).mono ?_; rintro e wB ⟨b2, L2', rfl, hs2, ha2, hd2, hbB⟩; have hzB := below_to (by assumption) hbB))
  all_goals
    go_wp2_with fail
    refine bodyPost_ret (v := .tuple #[.pointer (some ⟨_, 0, none⟩), .int .i64 0]) (by simp [results, Tryd.results24, go_sem]; rfl) rfl ?_
    first
      | exact HA.out _ _ _ _ _ hdA hs2 ha2 hd2 hbB
      | exact HB2.out _ _ _ _ _ hs2 ha2 hd2 hbB hdA

end Go.Proofs.YtppanogpeengnaaDoor
