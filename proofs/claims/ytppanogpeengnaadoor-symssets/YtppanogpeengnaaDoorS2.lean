/- DERIVED. Several texts in one: A coder that writes: narrow, code. A coder that writes: Symbol, bit, Bits, Bytes; Set and Count of any coder. A coder that writes: Bits. A coder that writes: Count, Set, Bytes; Writer. The walk of Writer. -/
import Derived.Test.YtppanogpeengnaaDoorS1
import Derived.Test.YtppanogpeengnaaDoorE1
import Derived.Test.YtppanogpeengnaaDoorL2DcC
namespace Go.Proofs.YtppanogpeengnaaDoor
open Go.RowKit L3
variable {Z : Nat → Option Obj}

theorem Bs.set {bt k c : Nat} {K : List (Nat × List Tb)} {p : Nat × List Tb} (hk : K[k]? = some p) {t : Tb} {b : Nat} (h : Bs bt (K.set k (p.1, p.2.set c t)) b) : Bs bt K b ∨ (t.C ≠ [] ∧ ∃ o, t.a = some ⟨b, o, none⟩) := by
  rcases h with e | ⟨q, hq, h⟩
  · exact Or.inl (Or.inl e)
  · rcases St.mem_set hk hq with e | e
    · subst e
      have hpK : p ∈ K := List.mem_of_getElem? hk
      rcases h with e | ⟨s, hs, h1, h2⟩
      · exact Or.inl (Or.inr ⟨p, hpK, Or.inl e⟩)
      · rcases List.mem_or_eq_of_mem_set hs with e | e
        · exact Or.inl (Or.inr ⟨p, hpK, Or.inr ⟨s, e, h1, h2⟩⟩)
        · subst e; exact Or.inr ⟨h1, h2⟩
    · exact Or.inl (Or.inr ⟨q, e, h⟩)
/-- a table that may be is laid into the set -/
theorem Okk.put {K : List (Nat × List Tb)} (h : Okk K) {k c : Nat} {p : Nat × List Tb} (hk : K[k]? = some p) {t : Tb} (ht : t.C.length = sV k ∧ TOk t.C t.n) : Okk (K.set k (p.1, p.2.set c t)) :=
  ⟨by rw [List.length_set]; exact h.1, fun j q hq => by
    rw [List.getElem?_set] at hq
    by_cases e : k = j
    · subst e
      rw [if_pos rfl, if_pos (List.getElem?_eq_some_iff.1 hk).1] at hq
      simp at hq; subst hq
      obtain ⟨h1, h2⟩ := h.2 k p hk
      refine ⟨by simp only [List.length_set]; exact h1, fun s hs => ?_⟩
      rcases List.mem_or_eq_of_mem_set hs with e | e
      · exact h2 s e
      · subst e; exact ht
    · rw [if_neg e] at hq; exact h.2 j q hq⟩
theorem Co.table {w : World} {lo x bt : Nat} {po pi : Value} {K : List (Nat × List Tb)} {ad : Bool} {n : Int} {E : Nat → Prop} (h : Co Z w lo x po pi bt K ad n E) {k c : Nat} {p : Nat × List Tb} (hk : K[k]? = some p) (hc : c < p.2.length) (t : Tb) (hs : Sl w .u16 t.a t.C) (ht : t.C.length = sV k ∧ TOk t.C t.n)
    (hp : ∀ b o, t.a = some ⟨b, o, none⟩ → t.C ≠ [] → lo ≤ b ∧ b ≠ x ∧ ¬ E b ∧ b ≠ bt ∧ ∀ q ∈ K, b ≠ q.1) (hz : ∀ b o, t.a = some ⟨b, o, none⟩ → t.C ≠ [] → Z b = none) :
    Co Z ((w.setCell ⟨p.1, c * 2, none⟩ (.slice t.a t.C.length t.c)).setCell ⟨p.1, c * 2 + 1, none⟩ (.int .i64 t.n)) lo x po pi bt (K.set k (p.1, p.2.set c t)) ad n E := by
  have hpK : p ∈ K := List.mem_of_getElem? hk
  have hxp : x ≠ p.1 := fun e => h.bx (Or.inr ⟨p, hpK, Or.inl e⟩)
  have oth : ∀ j, ((w.setCell ⟨p.1, c * 2, none⟩ (.slice t.a t.C.length t.c)).setCell ⟨p.1, c * 2 + 1, none⟩ (.int .i64 t.n)).cell? ⟨x, j, none⟩ = w.cell? ⟨x, j, none⟩ := fun j => by
    rw [World.cell?_setCell_other _ _ _ _ (fun e => hxp (by simp only [Addr.mk.injEq] at e; exact e.1.symm)), World.cell?_setCell_other _ _ _ _ (fun e => hxp (by simp only [Addr.mk.injEq] at e; exact e.1.symm))]
  refine ⟨by rw [oth]; exact h.o, by rw [oth]; exact h.i, by rw [oth]; exact h.t, by rw [oth]; exact h.a, by rw [oth]; exact h.c, by simpa using h.th, by rw [setCell_size, setCell_size]; exact h.low, h.xlo, h.st.put hk hc t hs (fun b o h1 h2 => (hp b o h1 h2).2.2.2), h.ok.put hk ht, fun e => ?_, h.ex, fun b hb e => ?_, fun q hq => ?_, fun y o hy => ?_⟩
  · rcases Bs.set hk e with e2 | ⟨e2, o, e3⟩
    · exact h.bx e2
    · exact (hp x o e3 e2).2.1 rfl
  · rcases Bs.set hk e with e2 | ⟨e2, o, e3⟩
    · exact h.eb b hb e2
    · exact (hp b o e3 e2).2.2.1 hb
  · rcases St.mem_set hk hq with e | e
    · subst e
      refine ⟨(h.dk p hpK).1, fun s hs b o h1 h2 => ?_⟩
      rcases List.mem_or_eq_of_mem_set hs with e | e
      · exact (h.dk p hpK).2 s e b o h1 h2
      · subst e; exact (hp b o h1 h2).1
    · exact h.dk q e
  · obtain ⟨f1, f2, f3, f4⟩ := h.fr y o hy
    have hy2 : y ≠ p.1 := fun e => f4 (Or.inr ⟨p, hpK, Or.inl e⟩)
    refine ⟨by rw [Below.heap_setCell _ _ _ _ hy2, Below.heap_setCell _ _ _ _ hy2]; exact f1, f2, f3, fun e => ?_⟩
    rcases Bs.set hk e with e2 | ⟨e2, o', e3⟩
    · exact f4 e2
    · rw [hz y o' e3 e2] at hy; cases hy

/-- a coder that writes -/
structure CW (Z : Nat → Option Obj) (w : World) (lo x bt : Nat) (K : List (Nat × List Tb)) (ad : Bool) (n : Int) (xe : Nat) (d : Value) (T g k : Nat) : Prop where
  co : Co Z w lo x (.pointer (some ⟨xe, 0, none⟩)) (.pointer none) bt K ad n (fun b => b = xe ∨ d.ownBlock = some b)
  en : L2.EnS w lo xe d T g k
  ev : L2.Ev T g k
theorem CW.to {w w' : World} {lo x bt : Nat} {K : List (Nat × List Tb)} {ad : Bool} {n : Int} {xe : Nat} {d : Value} {T g k : Nat} (h : CW Z w lo x bt K ad n xe d T g k) (hb : Below w.heap.size w w') : CW Z w' lo x bt K ad n xe d T g k := ⟨h.co.to hb, h.en.below hb, h.ev⟩
theorem CW.eng {w w' : World} {lo x bt : Nat} {K : List (Nat × List Tb)} {ad : Bool} {n : Int} {xe : Nat} {d d' : Value} {T g k T' g' k' : Nat} (h : CW Z w lo x bt K ad n xe d T g k) (hk : L2.Kw xe d d' w w') (he : L2.EnS w' lo xe d' T' g' k') (hv : L2.Ev T' g' k') : CW Z w' lo x bt K ad n xe d' T' g' k' :=
  ⟨h.co.ke (P := fun b => b = xe ∨ d.ownBlock = some b) ⟨hk.os, hk.tape, hk.output, hk.size, fun i hi hP => hk.block i hi (fun e => hP (Or.inl e)) (fun e => hP (Or.inr e))⟩ (fun _ e => e) (fun b e => by
    rcases e with e | e
    · exact Or.inl (Or.inl e)
    · rcases hk.new b e with e2 | e2
      · exact Or.inl (Or.inr e2)
      · exact Or.inr e2), he, hv⟩

def NarW (Z : Nat → Option Obj) (w w' : World) (lo x bt : Nat) (K : List (Nat × List Tb)) (ad : Bool) (n : Int) (xe : Nat) (T g k a b : Nat) : Prop := ∃ d', CW Z w' lo x bt K ad n xe d' (L2.ePut T g k a b).1 (L2.ePut T g k a b).2.1 (L2.ePut T g k a b).2.2 ∧ Below lo w w'

set_option maxRecDepth 100000 in
set_option maxHeartbeats 1000000 in
theorem narrow_w {w : World} {lo x bt : Nat} {K : List (Nat × List Tb)} {ad : Bool} {n : Int} {xe : Nat} {d : Value} {T g k : Nat} (h : CW Z w lo x bt K ad n xe d T g k) (hkb : k ≤ 1099511626000) (a b : Nat) (hab : a < b) (hb : b ≤ 32768) :
    Calls Tryd.prog 83 #[.pointer (some ⟨x, 0, none⟩), .int .u32 a, .int .u32 b] w fun e w' => e = .returned (.tuple #[]) ∧ NarW Z w w' lo x bt K ad n xe T g k a b := by
  have HCW : Hid (CW Z w lo x bt K ad n xe d T g k) := h
  have q0 := h.co.o
  have HEV : Hid _ := (L2.ePut_ok h.ev hab hb).1
  clear h
  go_enter Tryd.func83, Tryd.ntmps83
  go_wp2_with fail
  refine (writes_w q0).mono ?_
  rintro e w1 ⟨rfl, rfl⟩
  go_wp2_with fail
  refine (L2.put_yes HCW.out.en HCW.out.ev hkb a b hab hb).mono ?_
  rintro e w2 ⟨rfl, d', he, hk⟩
  have HR : Hid (NarW Z _ w2 lo x bt K ad n xe T g k a b) := ⟨d', HCW.out.eng hk he HEV.out, HCW.out.en.kwBelow hk⟩
  clear he hk
  go_wp2_with fail
  exact bodyPost_ret (v := .tuple #[]) (by simp [results, Tryd.results83, go_sem]) rfl ⟨rfl, HR.out⟩

/-- what becomes of a set where a value of a table was coded -/
def Adp (K : List (Nat × List Tb)) (ad : Bool) (kk c v : Nat) (K' : List (Nat × List Tb)) : Prop :=
  (ad = false ∧ K' = K) ∨ (ad = true ∧ ∃ p s a' c', K[kk]? = some p ∧ p.2[c]? = some s ∧ K' = K.set kk (p.1, p.2.set c ⟨a', c', L3.ad s.C s.n v, adN s.n⟩))
def CodW (Z : Nat → Option Obj) (w w' : World) (lo x bt : Nat) (K : List (Nat × List Tb)) (ad : Bool) (n : Int) (xe : Nat) (T g k kk c v a b : Nat) : Prop :=
  ∃ d' K', CW Z w' lo x bt K' ad n xe d' (L2.ePut T g k a b).1 (L2.ePut T g k a b).2.1 (L2.ePut T g k a b).2.2 ∧ Adp K ad kk c v K' ∧ Below lo w w'

set_option maxRecDepth 100000 in
set_option maxHeartbeats 4000000 in
theorem code_w {w : World} {lo x bt : Nat} {K : List (Nat × List Tb)} {ad : Bool} {n : Int} {xe : Nat} {d : Value} {T g k : Nat} (h : CW Z w lo x bt K ad n xe d T g k) (hkb : k ≤ 1099511626000) {kk c v : Nat} {p : Nat × List Tb} {s : Tb} (hp : K[kk]? = some p) (hs : p.2[c]? = some s) (hv : v < s.C.length) (hlo : lo ≤ w.heap.size) :
    Calls Tryd.prog 62 #[.pointer (some ⟨x, 0, none⟩), .pointer (some ⟨p.1, c * 2, none⟩), .int .i64 v] w fun e w' => e = .returned (.int .i64 v) ∧ CodW Z w w' lo x bt K ad n xe T g k kk c v (eb s.C v) (ee s.C v) := by
  have hpK : p ∈ K := List.mem_of_getElem? hp
  have hcl : c < p.2.length := (List.getElem?_eq_some_iff.1 hs).1
  have hsm : s ∈ p.2 := List.mem_of_getElem? hs
  have hok := (h.co.ok.2 kk p hp).2 s hsm
  have HTO : Hid (TOk s.C s.n) := hok.2
  have HLN : Hid (s.C.length = sV kk) := hok.1
  have hee := eb_ee hok.2 hv
  have hle := ee_le hok.2 hv
  have HCW : Hid (CW Z w lo x bt K ad n xe d T g k) := h
  have HP : Hid (K[kk]? = some p) := hp
  have HS : Hid (p.2[c]? = some s) := hs
  have q0 := h.co.o
  have z0 := h.co.st.c0 p hpK c s hs
  have z1 := h.co.st.c1 p hpK c s hs
  have HSL : Hid (∀ u d' T' g' k', CW Z u lo x bt K ad n xe d' T' g' k' → Sl u .u16 s.a s.C ∧ u.cell? ⟨p.1, c * 2, none⟩ = some (.slice s.a s.C.length s.c) ∧ u.cell? ⟨p.1, c * 2 + 1, none⟩ = some (.int .i64 s.n) ∧ u.frozen? ⟨p.1, c * 2, none⟩ = false ∧ u.frozen? ⟨p.1, c * 2 + 1, none⟩ = false) := fun u d' T' g' k' hu => ⟨hu.co.st.sl p hpK s hsm, hu.co.st.c0 p hpK c s hs, hu.co.st.c1 p hpK c s hs, hu.co.st.th p hpK _, hu.co.st.th p hpK _⟩
  have hh16 := hok.2.hi
  clear h hok hs hp
  obtain ⟨sa, sc, sC', sn⟩ := s
  simp only at HTO HLN hee hle z0 z1 HSL hv hh16
  generalize hpa : eb sC' v = pa at *
  generalize hpe : ee sC' v = pe at *
  have HPA : Hid (eb sC' v = pa) := hpa
  have HPE : Hid (ee sC' v = pe) := hpe
  clear hpa hpe
  go_enter Tryd.func62, Tryd.ntmps62
  go_wp2_with fail
  refine (writes_w q0).mono ?_
  rintro e w1 ⟨rfl, rfl⟩
  go_wp2_with fail
  refine (bounds_ok (HSL.out _ _ _ _ _ HCW.out).1 HTO.out hv).mono ?_
  rintro e w2 ⟨rfl, hb2⟩
  rw [HPA.out, HPE.out]
  have HC2 : Hid (CW Z w2 lo x bt K ad n xe d T g k) := HCW.out.to hb2
  have HB2 : Hid (Below lo _ w2) := hb2.mono hlo
  clear hb2 q0 z0 z1
  go_wp2_with fail
  refine (narrow_w HC2.out hkb pa pe (by omega) hle).mono ?_
  rintro e w3 ⟨rfl, d', hc3, hb3⟩
  have HC3 : Hid _ := hc3
  have HB3 : Hid (Below lo _ w3) := HB2.out.trans hb3
  clear hb3 hc3 HC2 HB2
  have q3 := HC3.out.co.a
  cases ad
  · go_wp2_with fail
    go_ret
    exact ⟨rfl, d', K, HC3.out, Or.inl ⟨rfl, rfl⟩, HB3.out⟩
  · obtain ⟨hsl, z0, z1, zf0, zf1⟩ := HSL.out _ _ _ _ _ HC3.out
    have HSL3 : Hid (Sl w3 .u16 sa sC') := hsl
    clear hsl
    go_wp2_with fail
    refine (adapt_ok HSL3.out HTO.out hv).mono ?_
    rintro e w4 ⟨g4, c4, rfl, ho4, hb4⟩
    have HC4 : Hid _ := HC3.out.to hb4
    have HB4 : Hid (Below lo _ w4) := HB3.out.trans (hb4.mono (Nat.le_trans HC3.out.co.xlo (Nat.le_of_lt HC3.out.co.low)))
    obtain ⟨_, y0, y1, yf0, yf1⟩ := HSL.out _ _ _ _ _ HC4.out
    have hgl : w3.heap.size ≤ g4 := ho4.lies.1
    have HTB : Hid (Co Z ((w4.setCell ⟨p.1, c * 2, none⟩ (.slice (some ⟨g4, 0, none⟩) sC'.length c4)).setCell ⟨p.1, c * 2 + 1, none⟩ (.int .i64 (adN sn))) lo x (.pointer (some ⟨xe, 0, none⟩)) (.pointer none) bt (K.set kk (p.1, p.2.set c ⟨some ⟨g4, 0, none⟩, c4, L3.ad sC' sn v, adN sn⟩)) true n (fun b => b = xe ∨ d'.ownBlock = some b)) := by
      have := HC4.out.co.table HP.out hcl ⟨some ⟨g4, 0, none⟩, c4, L3.ad sC' sn v, adN sn⟩ ho4.sl ⟨by show (L3.ad sC' sn v).length = _; rw [ad_len]; exact HLN.out, ad_ok HTO.out v⟩ (fun b o e1 _ => by
        simp only [Option.some.injEq, Addr.mk.injEq, and_true] at e1
        have h1 := HC3.out.co.low
        have h2 := HC3.out.co.xlo
        refine ⟨by omega, by omega, fun e2 => ?_, by have := HC3.out.co.st.blt; omega, fun q hq => by have := (HC3.out.co.st.lie q hq).2.1; omega⟩
        rcases e2 with e2 | e2
        · have := HC3.out.en.lies.2; omega
        · have := (HC3.out.en.own_lt b e2).2.1; omega) (fun b o e1 _ => by
        simp only [Option.some.injEq, Addr.mk.injEq, and_true] at e1
        rcases hZ : Z b with _ | ob
        · rfl
        · have := (Array.getElem?_eq_some_iff.1 (HC3.out.co.fr b ob hZ).1).1; omega)
      simp only [ad_len] at this
      exact this
    have hpE : ∀ b, (b = xe ∨ d'.ownBlock = some b) → b ≠ p.1 := fun b hb e => HC4.out.co.eb b hb (Or.inr ⟨p, hpK, Or.inl e⟩)
    have HEN : Hid (L2.EnS ((w4.setCell ⟨p.1, c * 2, none⟩ (.slice (some ⟨g4, 0, none⟩) sC'.length c4)).setCell ⟨p.1, c * 2 + 1, none⟩ (.int .i64 (adN sn))) lo xe d' (L2.ePut T g k pa pe).1 (L2.ePut T g k pa pe).2.1 (L2.ePut T g k pa pe).2.2) := HC4.out.en.carry (by rw [Below.heap_setCell _ _ _ _ (hpE xe (Or.inl rfl)), Below.heap_setCell _ _ _ _ (hpE xe (Or.inl rfl))]) (fun b hb => by rw [Below.heap_setCell _ _ _ _ (hpE b (Or.inr hb)), Below.heap_setCell _ _ _ _ (hpE b (Or.inr hb))]) (by rw [setCell_size, setCell_size]; exact Nat.le_refl _)
    have hpl : lo ≤ p.1 := (HC4.out.co.st.lie p hpK).1
    have HB5 : Hid (Below lo _ ((w4.setCell ⟨p.1, c * 2, none⟩ (.slice (some ⟨g4, 0, none⟩) sC'.length c4)).setCell ⟨p.1, c * 2 + 1, none⟩ (.int .i64 (adN sn)))) := below_set (below_set HB4.out hpl _) hpl _
    have HEV : Hid _ := HC4.out.ev
    rw [ad_len]
    clear ho4 hb4 HC3 HC4 HB3 HB4 z0 z1 zf0 zf1
    go_wp2_with fail
    go_ret
    exact ⟨rfl, d', _, ⟨HTB.out, HEN.out, HEV.out⟩, Or.inr ⟨rfl, p, ⟨sa, sc, sC', sn⟩, _, c4, HP.out, HS.out, rfl⟩, HB5.out⟩

end Go.Proofs.YtppanogpeengnaaDoor

namespace Go.Proofs.YtppanogpeengnaaDoor
open Go.RowKit L3
variable {Z : Nat → Option Obj}

/-- the table of a kind and context -/
theorem Co.at {w : World} {lo x bt : Nat} {po pi : Value} {K : List (Nat × List Tb)} {ad : Bool} {n : Int} {E : Nat → Prop} (h : Co Z w lo x po pi bt K ad n E) {kk c : Nat} (hk : kk < 32) (hc : c < sC kk) :
    ∃ p s, K[kk]? = some p ∧ p.2[c]? = some s ∧ p.2.length = sC kk ∧ s.C.length = sV kk ∧ TOk s.C s.n := by
  have hkl : kk < K.length := by rw [h.ok.1]; exact hk
  have hp := List.getElem?_eq_getElem hkl
  obtain ⟨h1, h2⟩ := h.ok.2 kk _ hp
  have hcl : c < K[kk].2.length := by rw [h1]; exact hc
  have hs := List.getElem?_eq_getElem hcl
  exact ⟨_, _, hp, hs, h1, (h2 _ (List.getElem_mem _)).1, (h2 _ (List.getElem_mem _)).2⟩
def SymW (Z : Nat → Option Obj) (w w' : World) (lo x bt : Nat) (K : List (Nat × List Tb)) (ad : Bool) (n : Int) (xe : Nat) (T g k kk c v a b : Nat) : Prop :=
  ∃ d' K', CW Z w' lo x bt K' ad (n + 1) xe d' (L2.ePut T g k a b).1 (L2.ePut T g k a b).2.1 (L2.ePut T g k a b).2.2 ∧ Adp K ad kk c v K' ∧ Below lo w w'
theorem CW.count {w : World} {lo x bt : Nat} {K : List (Nat × List Tb)} {ad : Bool} {n m : Int} {xe : Nat} {d : Value} {T g k : Nat} (h : CW Z w lo x bt K ad n xe d T g k) : CW Z (w.setCell ⟨x, 4, none⟩ (.int .i64 m)) lo x bt K ad m xe d T g k :=
  ⟨h.co.count, h.en.carry (Below.heap_setCell _ _ _ _ (fun e => h.co.ex (Or.inl e.symm))) (fun b hb => Below.heap_setCell _ _ _ _ (fun e => h.co.ex (Or.inr (by have e' : b = x := e; rw [← e']; exact hb)))) (by rw [setCell_size]; exact Nat.le_refl _), h.ev⟩

set_option maxRecDepth 100000 in
set_option maxHeartbeats 4000000 in
theorem symbol_w {w : World} {lo x bt : Nat} {K : List (Nat × List Tb)} {ad : Bool} {n : Int} {xe : Nat} {d : Value} {T g k : Nat} (h : CW Z w lo x bt K ad n xe d T g k) (hsh : Sh w) (hkb : k ≤ 1099511626000) (hn0 : 0 ≤ n) (hn1 : n ≤ 1152921504606846976) {kk c v : Nat} (hk : kk < 32) (hc : c < sC kk) (hv : v < sV kk) {p : Nat × List Tb} {s : Tb} (hp : K[kk]? = some p) (hs : p.2[c]? = some s) :
    Calls Tryd.prog 35 #[.pointer (some ⟨x, 0, none⟩), .int .i64 kk, .int .i64 c, .int .i64 v] w fun e w' => e = .returned (.tuple #[.int .i64 v, .int .i64 0]) ∧ SymW Z w w' lo x bt K ad n xe T g k kk c v (eb s.C v) (ee s.C v) := by
  have hlo : lo ≤ w.heap.size := Nat.le_trans h.co.xlo (Nat.le_of_lt h.co.low)
  have hsv : s.C.length = sV kk := ((h.co.ok.2 kk p hp).2 s (List.mem_of_getElem? hs)).1
  have HPL : Hid (p.2.length = sC kk) := (h.co.ok.2 kk p hp).1
  have HCW : Hid (CW Z w lo x bt K ad n xe d T g k) := h
  have HP : Hid (K[kk]? = some p) := hp
  have HS : Hid (p.2[c]? = some s) := hs
  have HSV : Hid (v < s.C.length) := by unfold Hid; rw [hsv]; exact hv
  have q0 := h.co.o
  have b0 : ¬ (c : Int) < 0 := by omega
  have b1 : ¬ (sC kk : Int) ≤ (c : Int) := by omega
  have b2 : ¬ (v : Int) < 0 := by omega
  have b3 : ¬ (sV kk : Int) ≤ (v : Int) := by omega
  have b4 : 0 ≤ (kk : Int) := by omega
  have b5 : (kk : Int) < 32 := by omega
  have b6 : 0 ≤ (c : Int) := by omega
  have b7 : (c : Int) < (sC kk : Int) := by omega
  clear h hp hs hsv
  go_enter Tryd.func35, Tryd.ntmps35
  go_wp2_with fail
  refine (none_w q0).mono ?_
  rintro e w1 ⟨rfl, rfl⟩
  go_wp2_with fail
  refine (shape_ok hsh hk).mono ?_
  rintro e w2 ⟨rfl, hb2⟩
  have HC2 : Hid (CW Z w2 lo x bt K ad n xe d T g k) := HCW.out.to hb2
  have HB2 : Hid (Below lo _ w2) := hb2.mono hlo
  have HS2 : Hid (lo ≤ w2.heap.size) := Nat.le_trans hlo hb2.size
  clear hb2 q0
  have q0 := HC2.out.co.o
  have q2 := HC2.out.co.t
  have qt : w2.cell? ⟨bt, kk, none⟩ = some (.slice (some ⟨p.1, 0, none⟩) (sC kk) (sC kk)) := by have := HC2.out.co.st.hd kk p HP.out; rw [HPL.out] at this; exact this
  go_wp2_with fail
  refine (writes_w q0).mono ?_
  rintro e w3 ⟨rfl, rfl⟩
  go_wp2_with fail
  refine (code_w HC2.out hkb HP.out HS.out HSV.out HS2.out).mono ?_
  rintro e w4 ⟨rfl, d', K', hc4, ha4, hb4⟩
  have HC4 : Hid (CW Z w4 lo x bt K' ad n xe d' (L2.ePut T g k (eb s.C v) (ee s.C v)).1 (L2.ePut T g k (eb s.C v) (ee s.C v)).2.1 (L2.ePut T g k (eb s.C v) (ee s.C v)).2.2) := hc4
  have HB4 : Hid (Below lo _ w4) := HB2.out.trans hb4
  have HF : Hid (SymW Z _ (w4.setCell ⟨x, 4, none⟩ (.int .i64 (n + 1))) lo x bt K ad n xe T g k kk c v (eb s.C v) (ee s.C v)) := ⟨d', K', hc4.count, ha4, below_set HB4.out hc4.co.xlo _⟩
  clear hc4 ha4 hb4 q0 q2 qt HC2 HB2 HB4
  have q4 := HC4.out.co.c
  have q5 := HC4.out.co.th
  go_wp2_with fail
  exact bodyPost_ret (v := .tuple #[.int .i64 v, .int .i64 0]) (by simp [results, Tryd.results35, go_sem]) rfl ⟨rfl, HF.out⟩

set_option maxRecDepth 100000 in
set_option maxHeartbeats 400000 in
theorem bit_w {w : World} {lo x bt : Nat} {K : List (Nat × List Tb)} {ad : Bool} {n : Int} {xe : Nat} {d : Value} {T g k : Nat} (h : CW Z w lo x bt K ad n xe d T g k) (hkb : k ≤ 1099511626000) {b pa pe : Nat} (hb : b < 2) (hpa : pa = 16384 * b) (hpe : pe = pa + 16384) :
    Calls Tryd.prog 61 #[.pointer (some ⟨x, 0, none⟩), .int .i64 b] w fun e w' => e = .returned (.int .i64 b) ∧ NarW Z w w' lo x bt K ad n xe T g k pa pe := by
  have HCW : Hid (CW Z w lo x bt K ad n xe d T g k) := h
  have q0 := h.co.o
  have HPA : Hid (pa = 16384 * b) := hpa
  have HPE : Hid (pe = pa + 16384) := hpe
  clear h hpa hpe
  go_enter Tryd.func61, Tryd.ntmps61
  go_wp2_with fail
  refine (writes_w q0).mono ?_
  rintro e w1 ⟨rfl, rfl⟩
  go_wp2_with fail
  rw [show (16384 : Int) * (b : Int) = (pa : Int) from by have := HPA.out; omega, show (pa : Int) + 16384 = (pe : Int) from by have := HPE.out; omega]
  refine (narrow_w HCW.out hkb pa pe (by have := HPE.out; omega) (by have := HPA.out; have := HPE.out; omega)).mono ?_
  rintro e w2 ⟨rfl, hn⟩
  have HN : Hid (NarW Z _ w2 lo x bt K ad n xe T g k pa pe) := hn
  clear hn
  go_wp2_with fail
  go_ret
  exact ⟨rfl, HN.out⟩

end Go.Proofs.YtppanogpeengnaaDoor

namespace Go.Proofs.YtppanogpeengnaaDoor
open Go.RowKit L3
variable {Z : Nat → Option Obj}

theorem and_one (a : Nat) (_h : a < 4294967296) : bits .and .i64 (a : Int) 1 = ((a % 2 : Nat) : Int) := by
  unfold bits
  simp only []
  have e : ((BitVec.ofInt 64 (a : Int) &&& BitVec.ofInt 64 1).toNat : Int) = ((a % 2 : Nat) : Int) := by
    rw [BitVec.toNat_and, BitVec.toNat_ofInt, BitVec.toNat_ofInt]
    rw [show ((1 : Int) % (2 ^ 64 : Nat)).toNat = 2 ^ 1 - 1 from by decide, Nat.and_two_pow_sub_one_eq_mod]
    omega
  show IntKind.i64.wrap ((BitVec.ofInt 64 (a : Int) &&& BitVec.ofInt 64 1).toNat : Int) = _
  rw [e, IntKind.wrap_i64]; omega
theorem or_bit (a b : Nat) (h : a < 4294967296) (hb : b < 2) : bits .or .i64 ((2 * a : Nat) : Int) (b : Int) = ((2 * a + b : Nat) : Int) := by
  unfold bits
  simp only []
  have e : ((BitVec.ofInt 64 ((2 * a : Nat) : Int) ||| BitVec.ofInt 64 (b : Int)).toNat : Int) = ((2 * a + b : Nat) : Int) := by
    rw [BitVec.toNat_or, BitVec.toNat_ofInt, BitVec.toNat_ofInt]
    rw [show (((2 * a : Nat) : Int) % (2 ^ 64 : Nat)).toNat = 2 ^ 1 * a from by omega, show (((b : Nat) : Int) % (2 ^ 64 : Nat)).toNat = b from by omega]
    rw [← Nat.two_pow_add_eq_or_of_lt (by omega)]
  show IntKind.i64.wrap ((BitVec.ofInt 64 ((2 * a : Nat) : Int) ||| BitVec.ofInt 64 (b : Int)).toNat : Int) = _
  rw [e, IntKind.wrap_i64]; omega

/-- the bit that comes at place i of n -/
def bitA (v n i : Nat) : Nat := v / 2 ^ (n - 1 - i) % 2
theorem bitA_lt (v n i : Nat) : bitA v n i < 2 := Nat.mod_lt _ (by omega)
/-- the state behind i bits -/
def eBs (T g k v n : Nat) : Nat → Nat × Nat × Nat
  | 0 => (T, g, k)
  | i + 1 => L2.ePut (eBs T g k v n i).1 (eBs T g k v n i).2.1 (eBs T g k v n i).2.2 (16384 * bitA v n i) (16384 * bitA v n i + 16384)
theorem eBs_succ (T g k v n i pa pe : Nat) (ha : pa = 16384 * bitA v n i) (he : pe = pa + 16384) : eBs T g k v n (i + 1) = L2.ePut (eBs T g k v n i).1 (eBs T g k v n i).2.1 (eBs T g k v n i).2.2 pa pe := by rw [he, ha, eBs]
theorem eBs_zero (T g k v n : Nat) : eBs T g k v n 0 = (T, g, k) := by rw [eBs]
theorem eBs_ok {T g k : Nat} (h : L2.Ev T g k) (v n : Nat) (i : Nat) : L2.Ev (eBs T g k v n i).1 (eBs T g k v n i).2.1 (eBs T g k v n i).2.2 ∧ (eBs T g k v n i).2.2 ≤ k + 2 * i := by
  induction i with
  | zero => rw [eBs_zero]; exact ⟨h, by simp⟩
  | succ i ih =>
    obtain ⟨h1, h2⟩ := ih
    have hb := bitA_lt v n i
    obtain ⟨pa, ha⟩ : ∃ pa, pa = 16384 * bitA v n i := ⟨_, rfl⟩
    obtain ⟨pe, he⟩ : ∃ pe, pe = pa + 16384 := ⟨_, rfl⟩
    rw [eBs_succ T g k v n i pa pe ha he]
    obtain ⟨h3, _, h5⟩ := L2.ePut_ok h1 (lo := pa) (hi := pe) (by omega) (by omega)
    exact ⟨h3, by omega⟩
theorem half_step (v n i : Nat) (h : i < n) : v / 2 ^ (n - (i + 1)) = 2 * (v / 2 ^ (n - i)) + bitA v n i := by
  unfold bitA
  rw [show n - 1 - i = n - (i + 1) from by omega, show n - i = (n - (i + 1)) + 1 from by omega, Nat.pow_succ, ← Nat.div_div_eq_div_mul]
  omega

structure BtI (Z : Nat → Option Obj) (w : World) (lo x bt : Nat) (K : List (Nat × List Tb)) (ad : Bool) (cn : Int) (xe : Nat) (T g k v n : Nat) (s i : Value) (wr : World) : Prop where
  ex : ∃ (j : Nat) (d' : Value), j ≤ n ∧ i = .int .i64 j ∧ s = .int .i64 ((v / 2 ^ (n - j) : Nat) : Int) ∧ CW Z wr lo x bt K ad cn xe d' (eBs T g k v n j).1 (eBs T g k v n j).2.1 (eBs T g k v n j).2.2 ∧ Below lo w wr
def BitW (Z : Nat → Option Obj) (w w' : World) (lo x bt : Nat) (K : List (Nat × List Tb)) (ad : Bool) (cn : Int) (xe : Nat) (T g k v n : Nat) : Prop :=
  ∃ d', CW Z w' lo x bt K ad (cn + n) xe d' (eBs T g k v n n).1 (eBs T g k v n n).2.1 (eBs T g k v n n).2.2 ∧ Below lo w w'

set_option maxRecDepth 100000 in
set_option maxHeartbeats 2000000 in
theorem bits_w {w : World} {lo x bt : Nat} {K : List (Nat × List Tb)} {ad : Bool} {cn : Int} {xe : Nat} {d : Value} {T g k : Nat} (h : CW Z w lo x bt K ad cn xe d T g k) (hkb : k ≤ 1099511625000) (hn0 : 0 ≤ cn) (hn1 : cn ≤ 1152921504606846976) {v n P : Nat} (hn : n ≤ 30) (hP : P = 2 ^ n) (hv : v < P) :
    Calls Tryd.prog 34 #[.pointer (some ⟨x, 0, none⟩), .int .i64 n, .int .i64 v] w fun e w' => e = .returned (.tuple #[.int .i64 v, .int .i64 0]) ∧ BitW Z w w' lo x bt K ad cn xe T g k v n := by
  have HCW : Hid (CW Z w lo x bt K ad cn xe d T g k) := h
  have q0 := h.co.o
  have HEv : Hid (L2.Ev T g k) := h.ev
  have hp30 : P ≤ 2 ^ 30 := by rw [hP]; exact Nat.pow_le_pow_right (by omega) hn
  have hP1 : (1 : Int) * 2 ^ n = (P : Int) := by rw [hP]; simp
  have HP : Hid (P = 2 ^ n) := hP
  have b0 : ¬ (n : Int) < 0 := by omega
  have b1 : ¬ (30 : Int) < (n : Int) := by omega
  have b2 : ¬ (v : Int) < 0 := by omega
  have b3 : ¬ (P : Int) ≤ (v : Int) := by omega
  have b4 : (n : Int) ≤ 30 := by omega
  have b7 : ¬ P ≤ v := by omega
  have b5 : (P : Int) ≤ 1073741824 := by omega
  have b6 : (0 : Int) ≤ (P : Int) := by omega
  have HV : Hid (v < 1073741824) := by show _ < _; omega
  have HVn : Hid (v < 2 ^ n) := by show _ < _; rw [← hP]; exact hv
  have HN : Hid (n ≤ 30) := hn
  clear h hp30 hP hv hn
  go_enter Tryd.func34, Tryd.ntmps34
  go_wp2_with fail
  refine (none_w q0).mono ?_
  rintro e w1 ⟨rfl, rfl⟩
  go_wp2_with fail
  refine (writes_w q0).mono ?_
  rintro e w2 ⟨rfl, rfl⟩
  go_wp2_with fail
  go_loopw [8, 33] (fun s i wr => BtI Z w2 lo x bt K ad cn xe T g k v n s i wr) (fun _ i _ => n - (intOf i).toNat)
  case atStart =>
    refine ⟨⟨0, d, by omega, rfl, ?_, by rw [eBs_zero]; exact HCW.out, Below.refl _ _⟩⟩
    rw [Nat.sub_zero, Nat.div_eq_of_lt HVn.out]; rfl
  case round =>
    obtain ⟨j, d', hj, rfl, rfl, hc, hb⟩ := hrel
    have j0 : (0 : Int) ≤ (j : Int) := by omega
    by_cases hlt : j < n
    · have j1 : (j : Int) < (n : Int) := by omega
      have HC : Hid (CW Z wr lo x bt K ad cn xe d' (eBs T g k v n j).1 (eBs T g k v n j).2.1 (eBs T g k v n j).2.2) := hc
      have HB : Hid (Below lo w2 wr) := hb
      have HJ : Hid (j < n) := hlt
      obtain ⟨m, hm⟩ : ∃ m, m = n - 1 - j := ⟨_, rfl⟩
      have e1 : (n : Int) - 1 - (j : Int) = (m : Int) := by omega
      have m0 : (0 : Int) ≤ (m : Int) := by omega
      have m1 : (m : Int) < 64 := by omega
      have e2 : (v : Int) / 2 ^ m = ((v / 2 ^ m : Nat) : Int) := by simp
      have hvm : v / 2 ^ m ≤ v := Nat.div_le_self _ _
      have e3 := and_one (v / 2 ^ m) (by have := HV.out; omega)
      have hbit : v / 2 ^ m % 2 = bitA v n j := by rw [hm]; rfl
      rw [hbit] at e3
      have hhalf := half_step v n j hlt
      have hnm : v / 2 ^ (n - j) ≤ v := Nat.div_le_self _ _
      have e4 := or_bit (v / 2 ^ (n - j)) (bitA v n j) (by have := HV.out; omega) (bitA_lt v n j)
      rw [← hhalf] at e4
      have e5 : ((v / 2 ^ (n - j) : Nat) : Int) * 2 = ((2 * (v / 2 ^ (n - j)) : Nat) : Int) := by omega
      have n0 : (0 : Int) ≤ ((v / 2 ^ (n - j) : Nat) : Int) := by omega
      have n1 : ((v / 2 ^ (n - j) : Nat) : Int) ≤ 1073741824 := by have := HV.out; omega
      have n2 : ((2 * (v / 2 ^ (n - j)) : Nat) : Int) ≤ 2147483648 := by have := HV.out; omega
      have n3 : (0 : Int) ≤ ((2 * (v / 2 ^ (n - j)) : Nat) : Int) := by omega
      obtain ⟨pa, ha⟩ : ∃ pa, pa = 16384 * bitA v n j := ⟨_, rfl⟩
      obtain ⟨pe, he⟩ : ∃ pe, pe = pa + 16384 := ⟨_, rfl⟩
      have HSt : Hid (eBs T g k v n (j + 1) = L2.ePut (eBs T g k v n j).1 (eBs T g k v n j).2.1 (eBs T g k v n j).2.2 pa pe) := eBs_succ T g k v n j pa pe ha he
      have HCall : Hid (Calls Tryd.prog 61 #[.pointer (some ⟨x, 0, none⟩), .int .i64 (bitA v n j : Nat)] wr fun e w' => e = .returned (.int .i64 (bitA v n j : Nat)) ∧ NarW Z wr w' lo x bt K ad cn xe (eBs T g k v n j).1 (eBs T g k v n j).2.1 (eBs T g k v n j).2.2 pa pe) := bit_w hc (by have := (eBs_ok HEv.out v n j).2; have := HN.out; omega) (bitA_lt v n j) ha he
      generalize bitA v n j = bb at *
      generalize hq2 : 2 * (v / 2 ^ (n - j)) = q2 at *
      generalize hq1 : v / 2 ^ (n - j) = q1 at *
      generalize hq3 : v / 2 ^ (n - (j + 1)) = q3 at *
      have HQ3 : Hid (v / 2 ^ (n - (j + 1)) = q3) := hq3
      generalize v / 2 ^ m = vm at *
      clear hc hb hlt hj hm hbit hhalf hnm hvm ha he hq1 hq2 hq3
      go_wp2_with fail
      refine HCall.out.mono ?_
      rintro e w3 ⟨rfl, d3, hc3, hb3⟩
      have HC3 : Hid (CW Z w3 lo x bt K ad cn xe d3 (eBs T g k v n (j + 1)).1 (eBs T g k v n (j + 1)).2.1 (eBs T g k v n (j + 1)).2.2) := by show CW Z _ _ _ _ _ _ _ _ _ _ _ _; rw [HSt.out]; exact hc3
      have HB3 : Hid (Below lo w2 w3) := HB.out.trans hb3
      clear hc3 hb3
      go_wp2_with fail
      have hlt := HJ.out
      go_roundw
      case rel => exact ⟨⟨j + 1, d3, by omega, by go_num, by rw [HQ3.out], HC3.out, HB3.out⟩⟩
      case measure => simp [intOf]; omega
    · obtain rfl : j = n := by omega
      have HC : Hid (CW Z wr lo x bt K ad cn xe d' (eBs T g k v j j).1 (eBs T g k v j j).2.1 (eBs T g k v j j).2.2) := hc
      have HF : Hid (BitW Z w2 (wr.setCell ⟨x, 4, none⟩ (.int .i64 (cn + (j : Int)))) lo x bt K ad cn xe T g k v j) := ⟨d', hc.count, below_set hb hc.co.xlo _⟩
      have q4 := hc.co.c
      have q5 := hc.co.th
      have e0 : v / 2 ^ (j - j) = v := by rw [Nat.sub_self, Nat.pow_zero, Nat.div_one]
      rw [e0]
      clear hc hb e0
      go_wp2_with fail
      refine bodyPost_ret (v := .tuple #[.int .i64 v, .int .i64 0]) (by simp [results, Tryd.results34, go_sem]) rfl ⟨rfl, ?_⟩
      exact HF.out

end Go.Proofs.YtppanogpeengnaaDoor

namespace Go.Proofs.YtppanogpeengnaaDoor
open Go.RowKit L3
variable {Z : Nat → Option Obj}

theorem count_w {w : World} {lo x bt : Nat} {K : List (Nat × List Tb)} {ad : Bool} {cn : Int} {xe : Nat} {d : Value} {T g k : Nat} (h : CW Z w lo x bt K ad cn xe d T g k) :
    Calls Tryd.prog 37 #[.pointer (some ⟨x, 0, none⟩)] w fun e w' => e = .returned (.int .i64 cn) ∧ w' = w := by
  have q0 := h.co.o
  have q4 := h.co.c
  clear h
  go_enter Tryd.func37, Tryd.ntmps37
  go_wp2_with fail
  refine (none_w q0).mono ?_
  rintro e w1 ⟨rfl, rfl⟩
  go_wp2_with fail
  go_ret
  exact ⟨rfl, rfl⟩
/-- a set that is answered -/
def SetN (w w' : World) (e : Ending) (K : List (Nat × List Tb)) : Prop := ∃ bt L, e = .returned (.tuple #[.agg #[.slice (some ⟨bt, 0, none⟩) 32 32], .int .i64 0]) ∧ St w' w.heap.size bt L ∧ Als K L ∧ Dk w.heap.size L ∧ Below w.heap.size w w'
theorem St.weak {w : World} {lo lo' bt : Nat} {K : List (Nat × List Tb)} (h : St w lo bt K) (hl : lo' ≤ lo) : St w lo' bt K :=
  ⟨Nat.le_trans hl h.blo, h.blt, h.bth, h.tl, h.hd, fun p hp => ⟨Nat.le_trans hl (h.lie p hp).1, (h.lie p hp).2⟩, h.inj, h.th, h.c0, h.c1, h.sl, h.ap⟩
theorem Dk.weak {B B' : Nat} {K : List (Nat × List Tb)} (h : Dk B K) (hl : B' ≤ B) : Dk B' K := fun p hp => ⟨Nat.le_trans hl (h p hp).1, fun t ht b o h1 h2 => Nat.le_trans hl ((h p hp).2 t ht b o h1 h2)⟩
set_option maxRecDepth 100000 in
set_option maxHeartbeats 400000 in
theorem set_any {w : World} {lo x bt : Nat} {po pi : Value} {K : List (Nat × List Tb)} {ad : Bool} {cn : Int} {E : Nat → Prop} (h : Co Z w lo x po pi bt K ad cn E) (hsh : Sh w)
    (hno : ∀ u : World, Below w.heap.size w u → Calls Tryd.prog 43 #[.pointer (some ⟨x, 0, none⟩)] u fun e w' => e = .returned (.bool false) ∧ w' = u) :
    Calls Tryd.prog 16 #[.pointer (some ⟨x, 0, none⟩)] w fun e w' => SetN w w' e K := by
  have HC : Hid (∀ v, Below w.heap.size w v → Co Z v lo x po pi bt K ad cn E) := fun v hv => h.to hv
  have HSh : Hid (∀ v, Below w.heap.size w v → Sh v) := fun v hv => hsh.to hv
  have HN : Hid (∀ u : World, Below w.heap.size w u → Calls Tryd.prog 43 #[.pointer (some ⟨x, 0, none⟩)] u fun e w' => e = .returned (.bool false) ∧ w' = u) := hno
  have HX : Hid (x < w.heap.size) := h.low
  clear h hsh hno
  go_enter Tryd.func16, Tryd.ntmps16
  go_wp2_with fail
  have HB1 : Hid (Below w.heap.size w (w.alloc (.cells #[.slice none 0 0] 25))) := (Below.refl _ _).alloc (Nat.le_refl _) _
  have HZ : Hid (w.heap.size < (w.alloc (.cells #[.slice none 0 0] 25)).heap.size) := by show _ < _; simp
  have c0 : (w.alloc (.cells #[.slice none 0 0] 25)).cell? ⟨w.heap.size, 0, none⟩ = some (.slice none 0 0) := by simp [go_sem]
  have c1 : (w.alloc (.cells #[.slice none 0 0] 25)).frozen? ⟨w.heap.size, 0, none⟩ = false := by simp [go_sem]
  generalize (w.alloc (.cells #[.slice none 0 0] 25)) = V at *
  refine (HN.out _ HB1.out).mono ?_
  rintro e w1 ⟨rfl, rfl⟩
  have q2 := (HC.out _ HB1.out).t
  go_wp2_with fail
  refine (scopy_ok (HSh.out _ HB1.out) (HC.out _ HB1.out).st (HC.out _ HB1.out).ok).mono ?_
  rintro e w2 ⟨b2, L2', rfl, hs2, ha2, hd2, hb2⟩
  have d0 : w2.cell? ⟨w.heap.size, 0, none⟩ = some (.slice none 0 0) := by rw [newCell hb2 _ _ HZ.out]; exact c0
  have d1 : w2.frozen? ⟨w.heap.size, 0, none⟩ = false := by rw [newFrozen hb2 _ _ HZ.out]; exact c1
  have HW : Hid (w.heap.size < w1.heap.size) := HZ.out
  have HS2 : Hid (St w2 w1.heap.size b2 L2') := hs2
  have HA2 : Hid (Als K L2') := ha2
  have HD2 : Hid (Dk w1.heap.size L2') := hd2
  have HB2 : Hid (Below w.heap.size w w2) := HB1.out.trans (hb2.mono (Nat.le_of_lt HZ.out))
  clear hs2 ha2 hd2 hb2 c0 c1 q2
  go_wp2_with fail
  have HS3 : Hid (St (w2.setCell ⟨w.heap.size, 0, none⟩ (.slice (some ⟨b2, 0, none⟩) 32 32)) w.heap.size b2 L2') := by
    refine ((HS2.out.ke (P := fun b => b = w.heap.size) (Ke.set _ _ _ _ rfl) ?_).weak (Nat.le_of_lt HW.out))
    rintro b rfl hb
    rcases hb with e | ⟨p, hp, e | ⟨t, ht, h1, o, h2⟩⟩
    · have := HS2.out.blo; have := HW.out; omega
    · have := (HS2.out.lie p hp).1; have := HW.out; omega
    · have := (HD2.out p hp).2 t ht _ o h2 h1; have := HW.out; omega
  refine bodyPost_ret (v := .tuple #[.agg #[.slice (some ⟨b2, 0, none⟩) 32 32], .int .i64 0]) (by simp [results, Tryd.results16, go_sem, d0]) rfl ?_
  exact ⟨b2, L2', rfl, HS3.out, HA2.out, HD2.out.weak (Nat.le_of_lt HW.out), below_set HB2.out (by simp) _⟩
theorem set_w {w : World} {lo x bt : Nat} {K : List (Nat × List Tb)} {ad : Bool} {cn : Int} {xe : Nat} {d : Value} {T g k : Nat} (h : CW Z w lo x bt K ad cn xe d T g k) (hsh : Sh w) :
    Calls Tryd.prog 16 #[.pointer (some ⟨x, 0, none⟩)] w fun e w' => SetN w w' e K := set_any h.co hsh fun _ hu => none_w (h.co.to hu).o
theorem bytes_w {w : World} {lo x bt : Nat} {K : List (Nat × List Tb)} {ad : Bool} {cn : Int} {xe : Nat} {d : Value} {T g k : Nat} (h : CW Z w lo x bt K ad cn xe d T g k) (hkb : k ≤ 1099511626000) :
    Calls Tryd.prog 18 #[.pointer (some ⟨x, 0, none⟩)] w fun e w' => ∃ v, e = .returned (.tuple #[v, .int .i64 0]) ∧ L2.ByNew w w' v T k := by
  have q0 := h.co.o
  have HC : Hid (Calls Tryd.prog 45 #[.pointer (some ⟨xe, 0, none⟩)] w fun e w' => ∃ v, e = .returned v ∧ L2.ByNew w w' v T k) := L2.bytes_ens h.en h.ev hkb
  clear h
  go_enter Tryd.func18, Tryd.ntmps18
  go_wp2_with fail
  refine (none_w q0).mono ?_
  rintro e w1 ⟨rfl, rfl⟩
  go_wp2_with fail
  refine (writes_w q0).mono ?_
  rintro e w2 ⟨rfl, rfl⟩
  go_wp2_with fail
  refine HC.out.mono ?_
  rintro e w3 ⟨v, rfl, hv⟩
  have HV : Hid (L2.ByNew w2 w3 v T k) := hv
  clear hv
  go_wp2_with fail
  go_ret2
  exact ⟨v, rfl, HV.out⟩

/-- a coder that has written nothing -/
def WrN (w w' : World) (e : Ending) (K : List (Nat × List Tb)) (ad : Bool) : Prop :=
  ∃ x bt L xe, e = .returned (.tuple #[.pointer (some ⟨x, 0, none⟩), .int .i64 0]) ∧ CW zn w' w.heap.size x bt L ad 0 xe (.slice none 0 0) 0 4294967295 0 ∧ Als K L ∧ Below w.heap.size w w'
theorem Okk.als {K L : List (Nat × List Tb)} (h : Okk K) (ha : Als K L) : Okk L := by
  refine ⟨ha.1.trans h.1, fun j q hq => ?_⟩
  have hj : j < K.length := by rw [← ha.1]; exact (List.getElem?_eq_some_iff.1 hq).1
  have hp := List.getElem?_eq_getElem hj
  obtain ⟨h1, h2⟩ := h.2 j _ hp
  obtain ⟨a1, a2⟩ := ha.2 j _ q hp hq
  refine ⟨a1.trans h1, fun t ht => ?_⟩
  obtain ⟨c, hc, rfl⟩ := List.getElem_of_mem ht
  have hcp : c < K[j].2.length := by rw [← a1]; exact hc
  obtain ⟨e1, e2⟩ := a2 c _ _ (List.getElem?_eq_getElem hcp) (List.getElem?_eq_getElem hc)
  obtain ⟨b1, b2⟩ := h2 _ (List.getElem_mem hcp)
  exact ⟨by rw [e1]; exact b1, by rw [e1, e2]; exact b2⟩
theorem st_apart {w : World} {lo bt b : Nat} {L : List (Nat × List Tb)} (h : St w lo bt L) (hd : Dk lo L) (hb : b < lo) : ¬ Bs bt L b := by
  rintro (e | ⟨p, hp, e | ⟨t, ht, h1, o, h2⟩⟩)
  · have := h.blo; omega
  · have := (h.lie p hp).1; omega
  · have := (hd p hp).2 t ht _ o h2 h1; omega
/-- the coder's block is laid -/
theorem cw_new {w u v : World} {bt xe : Nat} {ad : Bool} {L : List (Nat × List Tb)} (hw : Below w.heap.size w v) (hs : St v w.heap.size bt L) (hd : Dk w.heap.size L) (ho : Okk L) (he : L2.En v w.heap.size xe (.slice none 0 0) [] 0 4294967295) (hx : ¬ Bs bt L xe)
    (hu : u = v.alloc (.cells #[.pointer (some ⟨xe, 0, none⟩), .pointer none, .slice (some ⟨bt, 0, none⟩) 32 32, .bool ad, .int .i64 0] 85)) : CW zn u w.heap.size v.heap.size bt L ad 0 xe (.slice none 0 0) 0 4294967295 0 := by
  subst hu
  have hb : Below v.heap.size v (v.alloc (.cells #[.pointer (some ⟨xe, 0, none⟩), .pointer none, .slice (some ⟨bt, 0, none⟩) 32 32, .bool ad, .int .i64 0] 85)) := (Below.refl _ _).alloc (Nat.le_refl _) _
  have hen : L2.EnS v w.heap.size xe (.slice none 0 0) 0 4294967295 0 := ⟨[], 0, he, rfl, by simp [L2.pre], by omega⟩
  refine ⟨⟨by simp [go_sem], by simp [go_sem], by simp [go_sem], by simp [go_sem], by simp [go_sem], by simp [go_sem], by simp, hw.size, hs.to hb, ho, fun e => ?_, ?_, ?_, hd, fun y o hy => by cases hy⟩, hen.below hb, L2.Ev.first⟩
  · have := hs.low e; omega
  · rintro (e | e)
    · have := he.lies.2; omega
    · simp [Value.ownBlock] at e
  · rintro b (e | e)
    · subst e; exact hx
    · simp [Value.ownBlock] at e

end Go.Proofs.YtppanogpeengnaaDoor

namespace Go.Proofs.YtppanogpeengnaaDoor
open Go.RowKit L3

theorem en_base {w : World} {B B' x low g : Nat} (h : L2.En w B x (.slice none 0 0) [] low g) (hb : B' ≤ x) : L2.En w B' x (.slice none 0 0) [] low g :=
  ⟨h.data, World.ownsRow_nil _ _ _ _, h.apart, h.low, h.rng, h.thaw0, h.thaw1, h.thaw2, ⟨hb, h.lies.2⟩, h.byt⟩
theorem en_to {w w' : World} {B x low g : Nat} (h : L2.En w B x (.slice none 0 0) [] low g) (hb : Below w.heap.size w w') : L2.En w' B x (.slice none 0 0) [] low g :=
  ⟨by rw [newCell hb _ _ h.lies.2]; exact h.data, World.ownsRow_nil _ _ _ _, h.apart, by rw [newCell hb _ _ h.lies.2]; exact h.low, by rw [newCell hb _ _ h.lies.2]; exact h.rng, by rw [newFrozen hb _ _ h.lies.2]; exact h.thaw0, by rw [newFrozen hb _ _ h.lies.2]; exact h.thaw1, by rw [newFrozen hb _ _ h.lies.2]; exact h.thaw2, ⟨h.lies.1, Nat.lt_of_lt_of_le h.lies.2 hb.size⟩, h.byt⟩

set_option maxRecDepth 100000 in
set_option maxHeartbeats 1000000 in
theorem writer_ok {w : World} {lo bt : Nat} {K : List (Nat × List Tb)} {ad : Bool} (hsh : Sh w) (hs : St w lo bt K) (ho : Okk K) :
    Calls Tryd.prog 11 #[.agg #[.slice (some ⟨bt, 0, none⟩) 32 32], .bool ad] w fun e w' => WrN w w' e K ad := by
  have HB : Hid (Below w.heap.size w (w.alloc (.cells #[.slice (some ⟨bt, 0, none⟩) 32 32] 25))) := (Below.refl _ _).alloc (Nat.le_refl _) _
  have c0 : (w.alloc (.cells #[.slice (some ⟨bt, 0, none⟩) 32 32] 25)).cell? ⟨w.heap.size, 0, none⟩ = some (.slice (some ⟨bt, 0, none⟩) 32 32) := by simp [go_sem]
  have HZ : Hid (w.heap.size < (w.alloc (.cells #[.slice (some ⟨bt, 0, none⟩) 32 32] 25)).heap.size) := by show _ < _; simp
  have HSt : Hid (∀ v, Below w.heap.size w v → St v lo bt K) := fun v hv => hs.to hv
  have HSh : Hid (∀ v, Below w.heap.size w v → Sh v) := fun v hv => hsh.to hv
  have HO : Hid (Okk K) := ho
  clear hsh hs ho
  go_enter Tryd.func11, Tryd.ntmps11
  go_wp2_with fail
  generalize (w.alloc (.cells #[.slice (some ⟨bt, 0, none⟩) 32 32] 25)) = V at *
  refine (scheck_ok (HSh.out _ HB.out) (HSt.out _ HB.out) HO.out).mono ?_
  rintro e w1 ⟨rfl, hb1⟩
  have HB1 : Hid (Below w.heap.size w w1) := HB.out.trans (hb1.mono (Nat.le_of_lt HZ.out))
  have d0 : w1.cell? ⟨w.heap.size, 0, none⟩ = some (.slice (some ⟨bt, 0, none⟩) 32 32) := by rw [newCell hb1 _ _ HZ.out]; exact c0
  have HZ1 : Hid (w.heap.size < w1.heap.size) := Nat.lt_of_lt_of_le HZ.out hb1.size
  clear hb1 c0
  go_wp2_with fail
  have HK : Hid (∀ v : World, Below w1.heap.size w1 v → v.cell? ⟨w.heap.size, 0, none⟩ = some (.slice (some ⟨bt, 0, none⟩) 32 32)) := fun v hv => by rw [newCell hv _ _ HZ1.out]; exact d0
  have HCp : Hid (∀ v : World, Below w1.heap.size w1 v → Calls Tryd.prog 29 #[.agg #[.slice (some ⟨bt, 0, none⟩) 32 32]] v fun e w' => Cset v w' e K) := fun v hv => scopy_ok (HSh.out _ (HB1.out.trans (hv.mono (Nat.le_of_lt HZ1.out)))) (HSt.out _ (HB1.out.trans (hv.mono (Nat.le_of_lt HZ1.out)))) HO.out
  have hbd : Below w1.heap.size w1 w1.drew := below_drew (Below.refl _ _)
  have HA : Hid (∀ wA wB b2 L2', L2.En wA w1.drew.heap.size w1.drew.heap.size (.slice none 0 0) [] 0 4294967295 → Below w1.drew.heap.size w1.drew wA → St wB wA.heap.size b2 L2' → Als K L2' → Dk wA.heap.size L2' → Below wA.heap.size wA wB → WrN w (wB.alloc (.cells #[.pointer (some ⟨w1.drew.heap.size, 0, none⟩), .pointer none, .slice (some ⟨b2, 0, none⟩) 32 32, .bool ad, .int .i64 0] 85)) (.returned (.tuple #[.pointer (some ⟨wB.heap.size, 0, none⟩), .int .i64 0])) K ad) := fun wA wB b2 L2' h1 h2 h3 h4 h5 h6 => by
    have z1 := HZ1.out
    have z2 := h2.size
    have z3 : w1.drew.heap.size = w1.heap.size := rfl
    have hb : Below w.heap.size w wB := (HB1.out.trans ((hbd.trans (h2.mono (by omega))).mono (Nat.le_of_lt z1))).trans (h6.mono (by omega))
    exact ⟨wB.heap.size, b2, L2', _, rfl, cw_new hb (h3.weak (by omega)) (h5.weak (by omega)) (HO.out.als h4) (en_base (en_to h1 h6) (by omega)) (st_apart h3 h5 h1.lies.2) rfl, h4, to_alloc hb _⟩
  have HB2 : Hid (∀ wA wB b2 L2', St wB w1.drew.heap.size b2 L2' → Als K L2' → Dk w1.drew.heap.size L2' → Below w1.drew.heap.size w1.drew wB → L2.En wA wB.heap.size wB.heap.size (.slice none 0 0) [] 0 4294967295 → Below wB.heap.size wB wA → WrN w (wA.alloc (.cells #[.pointer (some ⟨wB.heap.size, 0, none⟩), .pointer none, .slice (some ⟨b2, 0, none⟩) 32 32, .bool ad, .int .i64 0] 85)) (.returned (.tuple #[.pointer (some ⟨wA.heap.size, 0, none⟩), .int .i64 0])) K ad) := fun wA wB b2 L2' h3 h4 h5 h6 h1 h2 => by
    have z1 := HZ1.out
    have z2 := h6.size
    have z3 : w1.drew.heap.size = w1.heap.size := rfl
    have hb : Below w.heap.size w wA := (HB1.out.trans ((hbd.trans (h6.mono (by omega))).mono (Nat.le_of_lt z1))).trans (h2.mono (by omega))
    exact ⟨wA.heap.size, b2, L2', _, rfl, cw_new hb ((h3.to h2).weak (by omega)) (h5.weak (by omega)) (HO.out.als h4) (en_base h1 (by omega)) (fun e => by have := h3.low e; omega) rfl, h4, to_alloc hb _⟩
  go_region_held3 (fun v => v.cell? ⟨w.heap.size, 0, none⟩ = some (.slice (some ⟨bt, 0, none⟩) 32 32))
    ((exact HK.out _ (by first | assumption | (refine to_alloc ?_ _; assumption))))
    (first
      | (go_at_call 41; refine (L2.new_any _).mono ?_; rintro e wA ⟨rfl, heA, hbA⟩; have hzA := below_to (by assumption) hbA)
      | (go_at_call 29; refine (HCp.out _ (by assumption)).mono ?_; rintro e wB ⟨b2, L2', rfl, hs2, ha2, hd2, hbB⟩; have hzB := below_to (by assumption) hbB))
  all_goals
    go_wp2_with fail
    refine bodyPost_ret (v := .tuple #[.pointer (some ⟨_, 0, none⟩), .int .i64 0]) (by simp [results, Tryd.results11, go_sem]; rfl) rfl ?_
    first
      | exact HA.out _ _ _ _ heA hbA hs2 ha2 hd2 hbB
      | exact HB2.out _ _ _ _ hs2 ha2 hd2 hbB heA hbA

end Go.Proofs.YtppanogpeengnaaDoor
