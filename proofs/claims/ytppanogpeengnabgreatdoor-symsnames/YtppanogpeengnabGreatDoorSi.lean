/- DERIVED. A coder that writes: narrow, code. -/
import Derived.Test.YtppanogpeengnabGreatDoorSg
import Derived.Test.YtppanogpeengnabGreatDoorL2EnE
import Derived.Test.YtppanogpeengnabGreatDoorL2DcC
namespace Go.Proofs.YtppanogpeengnabGreatDoor
open Go.RowKit L3
variable {Z : Nat → Option Obj}

theorem Bs.set {bt k c : Nat} {K : List (Nat × List Tb)} {p : Nat × List Tb} (hk : K[k]? = some p) {t : Tb} {b : Nat} (h : Bs bt (K.set k (p.1, p.2.set c t)) b) : Bs bt K b ∨ (t.C ≠ [] ∧ ∃ o, t.a = some ⟨b, o, none⟩) := by
  rcases h with e | ⟨q, hq, h⟩
  · exact Or.inl (Or.inl e)
  · rcases St.mem_set hk hq with e | e
    · subst e
      have hpK : p ∈ K := List.mem_of_getElem? hk
      rcases h with e | ⟨s, hs, h1, h2⟩
      · exact Or.inl (Or.inr ⟨p, hpK, Or.inl e⟩)
      · rcases List.mem_or_eq_of_mem_set hs with e | e
        · exact Or.inl (Or.inr ⟨p, hpK, Or.inr ⟨s, e, h1, h2⟩⟩)
        · subst e; exact Or.inr ⟨h1, h2⟩
    · exact Or.inl (Or.inr ⟨q, e, h⟩)
/-- a table that may be is laid into the set -/
theorem Okk.put {K : List (Nat × List Tb)} (h : Okk K) {k c : Nat} {p : Nat × List Tb} (hk : K[k]? = some p) {t : Tb} (ht : t.C.length = sV k ∧ TOk t.C t.n) : Okk (K.set k (p.1, p.2.set c t)) :=
  ⟨by rw [List.length_set]; exact h.1, fun j q hq => by
    rw [List.getElem?_set] at hq
    by_cases e : k = j
    · subst e
      rw [if_pos rfl, if_pos (List.getElem?_eq_some_iff.1 hk).1] at hq
      simp at hq; subst hq
      obtain ⟨h1, h2⟩ := h.2 k p hk
      refine ⟨by simp only [List.length_set]; exact h1, fun s hs => ?_⟩
      rcases List.mem_or_eq_of_mem_set hs with e | e
      · exact h2 s e
      · subst e; exact ht
    · rw [if_neg e] at hq; exact h.2 j q hq⟩
theorem Co.table {w : World} {lo x bt : Nat} {po pi : Value} {K : List (Nat × List Tb)} {ad : Bool} {n : Int} {E : Nat → Prop} (h : Co Z w lo x po pi bt K ad n E) {k c : Nat} {p : Nat × List Tb} (hk : K[k]? = some p) (hc : c < p.2.length) (t : Tb) (hs : Sl w .u16 t.a t.C) (ht : t.C.length = sV k ∧ TOk t.C t.n)
    (hp : ∀ b o, t.a = some ⟨b, o, none⟩ → t.C ≠ [] → lo ≤ b ∧ b ≠ x ∧ ¬ E b ∧ b ≠ bt ∧ ∀ q ∈ K, b ≠ q.1) (hz : ∀ b o, t.a = some ⟨b, o, none⟩ → t.C ≠ [] → Z b = none) :
    Co Z ((w.setCell ⟨p.1, c * 2, none⟩ (.slice t.a t.C.length t.c)).setCell ⟨p.1, c * 2 + 1, none⟩ (.int .i64 t.n)) lo x po pi bt (K.set k (p.1, p.2.set c t)) ad n E := by
  have hpK : p ∈ K := List.mem_of_getElem? hk
  have hxp : x ≠ p.1 := fun e => h.bx (Or.inr ⟨p, hpK, Or.inl e⟩)
  have oth : ∀ j, ((w.setCell ⟨p.1, c * 2, none⟩ (.slice t.a t.C.length t.c)).setCell ⟨p.1, c * 2 + 1, none⟩ (.int .i64 t.n)).cell? ⟨x, j, none⟩ = w.cell? ⟨x, j, none⟩ := fun j => by
    rw [World.cell?_setCell_other _ _ _ _ (fun e => hxp (by simp only [Addr.mk.injEq] at e; exact e.1.symm)), World.cell?_setCell_other _ _ _ _ (fun e => hxp (by simp only [Addr.mk.injEq] at e; exact e.1.symm))]
  refine ⟨by rw [oth]; exact h.o, by rw [oth]; exact h.i, by rw [oth]; exact h.t, by rw [oth]; exact h.a, by rw [oth]; exact h.c, by simpa using h.th, by rw [setCell_size, setCell_size]; exact h.low, h.xlo, h.st.put hk hc t hs (fun b o h1 h2 => (hp b o h1 h2).2.2.2), h.ok.put hk ht, fun e => ?_, h.ex, fun b hb e => ?_, fun q hq => ?_, fun y o hy => ?_⟩
  · rcases Bs.set hk e with e2 | ⟨e2, o, e3⟩
    · exact h.bx e2
    · exact (hp x o e3 e2).2.1 rfl
  · rcases Bs.set hk e with e2 | ⟨e2, o, e3⟩
    · exact h.eb b hb e2
    · exact (hp b o e3 e2).2.2.1 hb
  · rcases St.mem_set hk hq with e | e
    · subst e
      refine ⟨(h.dk p hpK).1, fun s hs b o h1 h2 => ?_⟩
      rcases List.mem_or_eq_of_mem_set hs with e | e
      · exact (h.dk p hpK).2 s e b o h1 h2
      · subst e; exact (hp b o h1 h2).1
    · exact h.dk q e
  · obtain ⟨f1, f2, f3, f4⟩ := h.fr y o hy
    have hy2 : y ≠ p.1 := fun e => f4 (Or.inr ⟨p, hpK, Or.inl e⟩)
    refine ⟨by rw [Below.heap_setCell _ _ _ _ hy2, Below.heap_setCell _ _ _ _ hy2]; exact f1, f2, f3, fun e => ?_⟩
    rcases Bs.set hk e with e2 | ⟨e2, o', e3⟩
    · exact f4 e2
    · rw [hz y o' e3 e2] at hy; cases hy

/-- a coder that writes -/
structure CW (Z : Nat → Option Obj) (w : World) (lo x bt : Nat) (K : List (Nat × List Tb)) (ad : Bool) (n : Int) (xe : Nat) (d : Value) (T g k : Nat) : Prop where
  co : Co Z w lo x (.pointer (some ⟨xe, 0, none⟩)) (.pointer none) bt K ad n (fun b => b = xe ∨ d.ownBlock = some b)
  en : L2.EnS w lo xe d T g k
  ev : L2.Ev T g k
theorem CW.to {w w' : World} {lo x bt : Nat} {K : List (Nat × List Tb)} {ad : Bool} {n : Int} {xe : Nat} {d : Value} {T g k : Nat} (h : CW Z w lo x bt K ad n xe d T g k) (hb : Below w.heap.size w w') : CW Z w' lo x bt K ad n xe d T g k := ⟨h.co.to hb, h.en.below hb, h.ev⟩
theorem CW.eng {w w' : World} {lo x bt : Nat} {K : List (Nat × List Tb)} {ad : Bool} {n : Int} {xe : Nat} {d d' : Value} {T g k T' g' k' : Nat} (h : CW Z w lo x bt K ad n xe d T g k) (hk : L2.Kw xe d d' w w') (he : L2.EnS w' lo xe d' T' g' k') (hv : L2.Ev T' g' k') : CW Z w' lo x bt K ad n xe d' T' g' k' :=
  ⟨h.co.ke (P := fun b => b = xe ∨ d.ownBlock = some b) ⟨hk.os, hk.tape, hk.output, hk.size, fun i hi hP => hk.block i hi (fun e => hP (Or.inl e)) (fun e => hP (Or.inr e))⟩ (fun _ e => e) (fun b e => by
    rcases e with e | e
    · exact Or.inl (Or.inl e)
    · rcases hk.new b e with e2 | e2
      · exact Or.inl (Or.inr e2)
      · exact Or.inr e2), he, hv⟩

def NarW (Z : Nat → Option Obj) (w w' : World) (lo x bt : Nat) (K : List (Nat × List Tb)) (ad : Bool) (n : Int) (xe : Nat) (T g k a b : Nat) : Prop := ∃ d', CW Z w' lo x bt K ad n xe d' (L2.ePut T g k a b).1 (L2.ePut T g k a b).2.1 (L2.ePut T g k a b).2.2 ∧ Below lo w w'

set_option maxRecDepth 100000 in
set_option maxHeartbeats 1000000 in
theorem narrow_w {w : World} {lo x bt : Nat} {K : List (Nat × List Tb)} {ad : Bool} {n : Int} {xe : Nat} {d : Value} {T g k : Nat} (h : CW Z w lo x bt K ad n xe d T g k) (hkb : k ≤ 1099511626000) (a b : Nat) (hab : a < b) (hb : b ≤ 32768) :
    Calls Tryz.prog 46 #[.pointer (some ⟨x, 0, none⟩), .int .u32 a, .int .u32 b] w fun e w' => e = .returned (.tuple #[]) ∧ NarW Z w w' lo x bt K ad n xe T g k a b := by
  have HCW : Hid (CW Z w lo x bt K ad n xe d T g k) := h
  have q0 := h.co.o
  have HEV : Hid _ := (L2.ePut_ok h.ev hab hb).1
  clear h
  go_enter Tryz.func46, Tryz.ntmps46
  go_wp2_with fail
  refine (writes_w q0).mono ?_
  rintro e w1 ⟨rfl, rfl⟩
  go_wp2_with fail
  refine (L2.put_yes HCW.out.en HCW.out.ev hkb a b hab hb).mono ?_
  rintro e w2 ⟨rfl, d', he, hk⟩
  have HR : Hid (NarW Z _ w2 lo x bt K ad n xe T g k a b) := ⟨d', HCW.out.eng hk he HEV.out, HCW.out.en.kwBelow hk⟩
  clear he hk
  go_wp2_with fail
  exact bodyPost_ret (v := .tuple #[]) (by simp [results, Tryz.results46, go_sem]) rfl ⟨rfl, HR.out⟩

/-- what becomes of a set where a value of a table was coded -/
def Adp (K : List (Nat × List Tb)) (ad : Bool) (kk c v : Nat) (K' : List (Nat × List Tb)) : Prop :=
  (ad = false ∧ K' = K) ∨ (ad = true ∧ ∃ p s a' c', K[kk]? = some p ∧ p.2[c]? = some s ∧ K' = K.set kk (p.1, p.2.set c ⟨a', c', L3.ad s.C s.n v, adN s.n⟩))
def CodW (Z : Nat → Option Obj) (w w' : World) (lo x bt : Nat) (K : List (Nat × List Tb)) (ad : Bool) (n : Int) (xe : Nat) (T g k kk c v a b : Nat) : Prop :=
  ∃ d' K', CW Z w' lo x bt K' ad n xe d' (L2.ePut T g k a b).1 (L2.ePut T g k a b).2.1 (L2.ePut T g k a b).2.2 ∧ Adp K ad kk c v K' ∧ Below lo w w'

set_option maxRecDepth 100000 in
set_option maxHeartbeats 4000000 in
theorem code_w {w : World} {lo x bt : Nat} {K : List (Nat × List Tb)} {ad : Bool} {n : Int} {xe : Nat} {d : Value} {T g k : Nat} (h : CW Z w lo x bt K ad n xe d T g k) (hkb : k ≤ 1099511626000) {kk c v : Nat} {p : Nat × List Tb} {s : Tb} (hp : K[kk]? = some p) (hs : p.2[c]? = some s) (hv : v < s.C.length) (hlo : lo ≤ w.heap.size) :
    Calls Tryz.prog 20 #[.pointer (some ⟨x, 0, none⟩), .pointer (some ⟨p.1, c * 2, none⟩), .int .i64 v] w fun e w' => e = .returned (.int .i64 v) ∧ CodW Z w w' lo x bt K ad n xe T g k kk c v (eb s.C v) (ee s.C v) := by
  have hpK : p ∈ K := List.mem_of_getElem? hp
  have hcl : c < p.2.length := (List.getElem?_eq_some_iff.1 hs).1
  have hsm : s ∈ p.2 := List.mem_of_getElem? hs
  have hok := (h.co.ok.2 kk p hp).2 s hsm
  have HTO : Hid (TOk s.C s.n) := hok.2
  have HLN : Hid (s.C.length = sV kk) := hok.1
  have hee := eb_ee hok.2 hv
  have hle := ee_le hok.2 hv
  have HCW : Hid (CW Z w lo x bt K ad n xe d T g k) := h
  have HP : Hid (K[kk]? = some p) := hp
  have HS : Hid (p.2[c]? = some s) := hs
  have q0 := h.co.o
  have z0 := h.co.st.c0 p hpK c s hs
  have z1 := h.co.st.c1 p hpK c s hs
  have HSL : Hid (∀ u d' T' g' k', CW Z u lo x bt K ad n xe d' T' g' k' → Sl u .u16 s.a s.C ∧ u.cell? ⟨p.1, c * 2, none⟩ = some (.slice s.a s.C.length s.c) ∧ u.cell? ⟨p.1, c * 2 + 1, none⟩ = some (.int .i64 s.n) ∧ u.frozen? ⟨p.1, c * 2, none⟩ = false ∧ u.frozen? ⟨p.1, c * 2 + 1, none⟩ = false) := fun u d' T' g' k' hu => ⟨hu.co.st.sl p hpK s hsm, hu.co.st.c0 p hpK c s hs, hu.co.st.c1 p hpK c s hs, hu.co.st.th p hpK _, hu.co.st.th p hpK _⟩
  have hh16 := hok.2.hi
  clear h hok hs hp
  obtain ⟨sa, sc, sC', sn⟩ := s
  simp only at HTO HLN hee hle z0 z1 HSL hv hh16
  generalize hpa : eb sC' v = pa at *
  generalize hpe : ee sC' v = pe at *
  have HPA : Hid (eb sC' v = pa) := hpa
  have HPE : Hid (ee sC' v = pe) := hpe
  clear hpa hpe
  go_enter Tryz.func20, Tryz.ntmps20
  go_wp2_with fail
  refine (writes_w q0).mono ?_
  rintro e w1 ⟨rfl, rfl⟩
  go_wp2_with fail
  refine (bounds_ok (HSL.out _ _ _ _ _ HCW.out).1 HTO.out hv).mono ?_
  rintro e w2 ⟨rfl, hb2⟩
  rw [HPA.out, HPE.out]
  have HC2 : Hid (CW Z w2 lo x bt K ad n xe d T g k) := HCW.out.to hb2
  have HB2 : Hid (Below lo _ w2) := hb2.mono hlo
  clear hb2 q0 z0 z1
  go_wp2_with fail
  refine (narrow_w HC2.out hkb pa pe (by omega) hle).mono ?_
  rintro e w3 ⟨rfl, d', hc3, hb3⟩
  have HC3 : Hid _ := hc3
  have HB3 : Hid (Below lo _ w3) := HB2.out.trans hb3
  clear hb3 hc3 HC2 HB2
  have q3 := HC3.out.co.a
  cases ad
  · go_wp2_with fail
    go_ret
    exact ⟨rfl, d', K, HC3.out, Or.inl ⟨rfl, rfl⟩, HB3.out⟩
  · obtain ⟨hsl, z0, z1, zf0, zf1⟩ := HSL.out _ _ _ _ _ HC3.out
    have HSL3 : Hid (Sl w3 .u16 sa sC') := hsl
    clear hsl
    go_wp2_with fail
    refine (adapt_ok HSL3.out HTO.out hv).mono ?_
    rintro e w4 ⟨g4, c4, rfl, ho4, hb4⟩
    have HC4 : Hid _ := HC3.out.to hb4
    have HB4 : Hid (Below lo _ w4) := HB3.out.trans (hb4.mono (Nat.le_trans HC3.out.co.xlo (Nat.le_of_lt HC3.out.co.low)))
    obtain ⟨_, y0, y1, yf0, yf1⟩ := HSL.out _ _ _ _ _ HC4.out
    have hgl : w3.heap.size ≤ g4 := ho4.lies.1
    have HTB : Hid (Co Z ((w4.setCell ⟨p.1, c * 2, none⟩ (.slice (some ⟨g4, 0, none⟩) sC'.length c4)).setCell ⟨p.1, c * 2 + 1, none⟩ (.int .i64 (adN sn))) lo x (.pointer (some ⟨xe, 0, none⟩)) (.pointer none) bt (K.set kk (p.1, p.2.set c ⟨some ⟨g4, 0, none⟩, c4, L3.ad sC' sn v, adN sn⟩)) true n (fun b => b = xe ∨ d'.ownBlock = some b)) := by
      have := HC4.out.co.table HP.out hcl ⟨some ⟨g4, 0, none⟩, c4, L3.ad sC' sn v, adN sn⟩ ho4.sl ⟨by show (L3.ad sC' sn v).length = _; rw [ad_len]; exact HLN.out, ad_ok HTO.out v⟩ (fun b o e1 _ => by
        simp only [Option.some.injEq, Addr.mk.injEq, and_true] at e1
        have h1 := HC3.out.co.low
        have h2 := HC3.out.co.xlo
        refine ⟨by omega, by omega, fun e2 => ?_, by have := HC3.out.co.st.blt; omega, fun q hq => by have := (HC3.out.co.st.lie q hq).2.1; omega⟩
        rcases e2 with e2 | e2
        · have := HC3.out.en.lies.2; omega
        · have := (HC3.out.en.own_lt b e2).2.1; omega) (fun b o e1 _ => by
        simp only [Option.some.injEq, Addr.mk.injEq, and_true] at e1
        rcases hZ : Z b with _ | ob
        · rfl
        · have := (Array.getElem?_eq_some_iff.1 (HC3.out.co.fr b ob hZ).1).1; omega)
      simp only [ad_len] at this
      exact this
    have hpE : ∀ b, (b = xe ∨ d'.ownBlock = some b) → b ≠ p.1 := fun b hb e => HC4.out.co.eb b hb (Or.inr ⟨p, hpK, Or.inl e⟩)
    have HEN : Hid (L2.EnS ((w4.setCell ⟨p.1, c * 2, none⟩ (.slice (some ⟨g4, 0, none⟩) sC'.length c4)).setCell ⟨p.1, c * 2 + 1, none⟩ (.int .i64 (adN sn))) lo xe d' (L2.ePut T g k pa pe).1 (L2.ePut T g k pa pe).2.1 (L2.ePut T g k pa pe).2.2) := HC4.out.en.carry (by rw [Below.heap_setCell _ _ _ _ (hpE xe (Or.inl rfl)), Below.heap_setCell _ _ _ _ (hpE xe (Or.inl rfl))]) (fun b hb => by rw [Below.heap_setCell _ _ _ _ (hpE b (Or.inr hb)), Below.heap_setCell _ _ _ _ (hpE b (Or.inr hb))]) (by rw [setCell_size, setCell_size]; exact Nat.le_refl _)
    have hpl : lo ≤ p.1 := (HC4.out.co.st.lie p hpK).1
    have HB5 : Hid (Below lo _ ((w4.setCell ⟨p.1, c * 2, none⟩ (.slice (some ⟨g4, 0, none⟩) sC'.length c4)).setCell ⟨p.1, c * 2 + 1, none⟩ (.int .i64 (adN sn)))) := below_set (below_set HB4.out hpl _) hpl _
    have HEV : Hid _ := HC4.out.ev
    rw [ad_len]
    clear ho4 hb4 HC3 HC4 HB3 HB4 z0 z1 zf0 zf1
    go_wp2_with fail
    go_ret
    exact ⟨rfl, d', _, ⟨HTB.out, HEN.out, HEV.out⟩, Or.inr ⟨rfl, p, ⟨sa, sc, sC', sn⟩, _, c4, HP.out, HS.out, rfl⟩, HB5.out⟩

end Go.Proofs.YtppanogpeengnabGreatDoor
