/- DERIVED. The five ways to spoil a set. -/
import Derived.Test.YtppanogpeengnaaDoorZv
namespace Go.Proofs.YtppanogpeengnaaDoor
open Go.RowKit L3

/-- where both sets lie, ahead of what is spoilt -/
structure Cmm (w2 X : World) (xb yb bt cT bt3 cT3 : Nat) : Prop where
  bel : Below w2.heap.size w2 X
  cx : X.cell? ⟨xb, 0, none⟩ = some (.slice (some ⟨bt, 0, none⟩) 32 cT)
  cy : X.cell? ⟨yb, 0, none⟩ = some (.slice (some ⟨bt3, 0, none⟩) 32 cT3)
  lx : xb < X.heap.size
  ly : yb < X.heap.size
theorem Tp.sp0 {w2 X : World} {xb yb bt cT bt3 cT3 k c pb qk tb tf tc : Nat} {tn : Int} {q : Nat → Nat} {K : List (Nat × List Tb)} {p : Nat × List Tb} {t : Tb} (h : Tp X w2.heap.size bt3 k c pb qk tb tf tc tn q K p t) (m : Cmm w2 X xb yb bt cT bt3 cT3) (hx : xb ≠ bt3) (hy : yb ≠ bt3) (hc : c < sC k) :
    ∀ u, u = X.setCell ⟨bt3, k, none⟩ (.slice (some ⟨pb, 0, none⟩) c qk) ∨ u = (X.setCell ⟨bt3, k, none⟩ (.slice (some ⟨pb, 0, none⟩) c qk)).drew → Sp w2 xb yb bt cT u := by
  obtain rfl := h.ep
  obtain rfl := h.eq
  have hlp := h.lp
  have hs := okk_smk h.ok
  have hpK := List.mem_of_getElem? h.hk
  refine sp_set m.bel h.b1.1 hx hy m.cx m.cy m.lx m.ly (h.su.cut h.hk (by omega)) (smk_set hs k ?_ ?_) (by rw [List.length_set]; exact h.ok.1) (okx_row (k := k) (p := (p.1, p.2.take c)) (List.getElem?_set_self (List.getElem?_eq_some_iff.1 h.hk).1) ?_)
  · have := hs.r p hpK
    simp only [List.length_take]; omega
  · exact fun s hs' => hs.t p hpK s (List.mem_of_mem_take hs')
  · simp only [List.length_take]; omega
theorem Tp.sp1 {w2 X : World} {xb yb bt cT bt3 cT3 k c pb qk tb tf tc j : Nat} {tn : Int} {q : Nat → Nat} {K : List (Nat × List Tb)} {p : Nat × List Tb} {t t' : Tb} {v : Value} (h : Tp X w2.heap.size bt3 k c pb qk tb tf tc tn q K p t) (m : Cmm w2 X xb yb bt cT bt3 cT3) (hx : xb ≠ pb) (hy : yb ≠ pb) (hj : j = c * 2 ∨ j = c * 2 + 1)
    (h0 : (X.setCell ⟨pb, j, none⟩ v).cell? ⟨pb, c * 2, none⟩ = some (.slice t'.a t'.C.length t'.c)) (h1 : (X.setCell ⟨pb, j, none⟩ v).cell? ⟨pb, c * 2 + 1, none⟩ = some (.int .i64 t'.n)) (hs : Sl X .u16 t'.a t'.C) (ha : ∀ b o, t'.a = some ⟨b, o, none⟩ → b = tb) (hl : 0 < t'.C.length ∧ t'.C.length ≤ 16) (hno : ¬ (t'.C.length = sV k ∧ TOk t'.C t'.n)) :
    ∀ u, u = X.setCell ⟨pb, j, none⟩ v ∨ u = (X.setCell ⟨pb, j, none⟩ v).drew → Sp w2 xb yb bt cT u := by
  obtain rfl := h.ep
  have hsm := okk_smk h.ok
  have hpK := List.mem_of_getElem? h.hk
  have hcl := (List.getElem?_eq_some_iff.1 h.hc).1
  refine sp_set m.bel h.b1.2.1 hx hy m.cx m.cy m.lx m.ly (h.su.tab h.hk h.hc hj h0 h1 hs (fun b o e _ => by rw [ha b o e]; exact h.nt.2 p hpK)) (smk_set hsm k ?_ ?_) (by rw [List.length_set]; exact h.ok.1) (okx_tab (k := k) (c := c) (p := (p.1, p.2.set c t')) (List.getElem?_set_self (List.getElem?_eq_some_iff.1 h.hk).1) (List.getElem?_set_self hcl) hno)
  · have := hsm.r p hpK
    simp only [List.length_set]; omega
  · intro s hs'
    rcases List.mem_or_eq_of_mem_set hs' with e | rfl
    · exact hsm.t p hpK s e
    · exact hl
theorem Tp.slT {w2 X : World} {bt3 k c pb qk tb tf tc : Nat} {tn : Int} {q : Nat → Nat} {K : List (Nat × List Tb)} {p : Nat × List Tb} {t : Tb} (h : Tp X w2.heap.size bt3 k c pb qk tb tf tc tn q K p t) : tb < X.heap.size ∧ ∀ j, j < t.C.length → X.cell? ⟨tb, tf + j, none⟩ = some (.int .u16 (t.C.getD j 0 : Nat)) := by
  have hpK := List.mem_of_getElem? h.hk
  rcases h.su.sl p hpK t (List.mem_of_getElem? h.hc) with e | ⟨b, o, e, hl, hc⟩
  · have := h.tk.lo; rw [e] at this; simp at this
  · have e2 := h.ea.symm.trans e
    simp only [Option.some.injEq, Addr.mk.injEq, and_true] at e2
    obtain ⟨rfl, rfl⟩ := e2
    exact ⟨hl, hc⟩
/-- the first number is left out -/
theorem Tp.sp1a {w2 X : World} {xb yb bt cT bt3 cT3 k c pb qk tb tf tc : Nat} {tn : Int} {q : Nat → Nat} {K : List (Nat × List Tb)} {p : Nat × List Tb} {t : Tb} (h : Tp X w2.heap.size bt3 k c pb qk tb tf tc tn q K p t) (m : Cmm w2 X xb yb bt cT bt3 cT3) (hx : xb ≠ pb) (hy : yb ≠ pb) :
    ∀ u, u = X.setCell ⟨pb, c * 2, none⟩ (.slice (some ⟨tb, tf + 1, none⟩) (sV k - 1) (tc - 1)) ∨ u = (X.setCell ⟨pb, c * 2, none⟩ (.slice (some ⟨tb, tf + 1, none⟩) (sV k - 1) (tc - 1))).drew → Sp w2 xb yb bt cT u := by
  have hl := h.lt
  have hlo := h.tk.lo
  have hhi := h.tk.hi
  obtain ⟨s1, s2⟩ := h.slT
  refine h.sp1 m hx hy (Or.inl rfl) (t' := ⟨some ⟨tb, tf + 1, none⟩, tc - 1, t.C.drop 1, tn⟩) ?_ ?_ ?_ ?_ ?_ ?_
  · rw [World.cell?_setCell_same _ _ _ h.f2]
    simp only [List.length_drop, hl]
  · rw [cell_far (Or.inr (by omega))]; exact h.f3
  · refine Or.inr ⟨tb, tf + 1, rfl, s1, fun j hj => ?_⟩
    simp only [List.length_drop] at hj
    have := s2 (j + 1) (by omega)
    rw [show tf + 1 + j = tf + (j + 1) from by omega, this]
    congr 2
    simp [List.getD_eq_getElem?_getD]
  · intro b o e
    simp only [Option.some.injEq, Addr.mk.injEq, and_true] at e
    exact e.1.symm
  · simp only [List.length_drop]; omega
  · rintro ⟨e, _⟩
    simp only [List.length_drop] at e
    omega
/-- the same of a table that has room for one alone (there is none such: it is not asked here) -/
theorem Tp.sp1b {w2 X : World} {xb yb bt cT bt3 cT3 k c pb qk tb tf tc d : Nat} {tn : Int} {q : Nat → Nat} {K : List (Nat × List Tb)} {p : Nat × List Tb} {t : Tb} (h : Tp X w2.heap.size bt3 k c pb qk tb tf tc tn q K p t) (m : Cmm w2 X xb yb bt cT bt3 cT3) (hx : xb ≠ pb) (hy : yb ≠ pb) :
    ∀ u, u = X.setCell ⟨pb, c * 2, none⟩ (.slice (some ⟨tb, tf, none⟩) (sV k - 1) d) ∨ u = (X.setCell ⟨pb, c * 2, none⟩ (.slice (some ⟨tb, tf, none⟩) (sV k - 1) d)).drew → Sp w2 xb yb bt cT u := by
  have hl := h.lt
  have hlo := h.tk.lo
  have hhi := h.tk.hi
  obtain ⟨s1, s2⟩ := h.slT
  refine h.sp1 m hx hy (Or.inl rfl) (t' := ⟨some ⟨tb, tf, none⟩, d, t.C.take (sV k - 1), tn⟩) ?_ ?_ ?_ ?_ ?_ ?_
  · rw [World.cell?_setCell_same _ _ _ h.f2]
    simp only [List.length_take, hl]
    congr 2
    omega
  · rw [cell_far (Or.inr (by omega))]; exact h.f3
  · refine Or.inr ⟨tb, tf, rfl, s1, fun j hj => ?_⟩
    simp only [List.length_take] at hj
    rw [s2 j (by omega)]
    congr 2
    rw [List.getD_eq_getElem?_getD, List.getD_eq_getElem?_getD, List.getElem?_take_of_lt (by omega)]
  · intro b o e
    simp only [Option.some.injEq, Addr.mk.injEq, and_true] at e
    exact e.1.symm
  · simp only [List.length_take]; omega
  · rintro ⟨e, _⟩
    simp only [List.length_take] at e
    omega
/-- the count is 33 -/
theorem Tp.sp2 {w2 X : World} {xb yb bt cT bt3 cT3 k c pb qk tb tf tc : Nat} {tn : Int} {q : Nat → Nat} {K : List (Nat × List Tb)} {p : Nat × List Tb} {t : Tb} (h : Tp X w2.heap.size bt3 k c pb qk tb tf tc tn q K p t) (m : Cmm w2 X xb yb bt cT bt3 cT3) (hx : xb ≠ pb) (hy : yb ≠ pb) :
    ∀ u, u = X.setCell ⟨pb, c * 2 + 1, none⟩ (.int .i64 33) ∨ u = (X.setCell ⟨pb, c * 2 + 1, none⟩ (.int .i64 33)).drew → Sp w2 xb yb bt cT u := by
  have hl := h.lt
  have hlo := h.tk.lo
  have hhi := h.tk.hi
  obtain ⟨s1, s2⟩ := h.slT
  refine h.sp1 m hx hy (Or.inr rfl) (t' := ⟨some ⟨tb, tf, none⟩, tc, t.C, 33⟩) ?_ ?_ ?_ ?_ ?_ ?_
  · rw [cell_far (Or.inr (by omega)), h.f2, ← hl]
  · rw [World.cell?_setCell_same _ _ _ h.f3]
  · exact Or.inr ⟨tb, tf, rfl, s1, s2⟩
  · intro b o e
    simp only [Option.some.injEq, Addr.mk.injEq, and_true] at e
    exact e.1.symm
  · show 0 < t.C.length ∧ t.C.length ≤ 16
    exact ⟨by omega, by omega⟩
  · rintro ⟨_, e⟩
    have := e.n1
    simp at this
/-- the first number is above all -/
theorem Tp.sp3 {w2 X : World} {xb yb bt cT bt3 cT3 k c pb qk tb tf tc : Nat} {tn : Int} {q : Nat → Nat} {K : List (Nat × List Tb)} {p : Nat × List Tb} {t : Tb} (h : Tp X w2.heap.size bt3 k c pb qk tb tf tc tn q K p t) (m : Cmm w2 X xb yb bt cT bt3 cT3) (hx : xb ≠ tb) (hy : yb ≠ tb) :
    ∀ u, u = X.setCell ⟨tb, tf, none⟩ (.int .u16 32769) ∨ u = (X.setCell ⟨tb, tf, none⟩ (.int .u16 32769)).drew → Sp w2 xb yb bt cT u := by
  refine sp_set m.bel h.b1.2.2 hx hy m.cx m.cy m.lx m.ly (h.su.num h.f4 h.nt.1 h.nt.2) (smk_num (okk_smk h.ok) tb tf) (by rw [List.length_map]; exact h.ok.1) (okx_tab (k := k) (c := c) (p := (p.1, p.2.map (nT tb tf))) (t := nT tb tf t) (by rw [List.getElem?_map, h.hk]; rfl) (by rw [List.getElem?_map, h.hc]; rfl) ?_)
  rintro ⟨_, e⟩
  have h1 := tok_le e
  have h2 : (nC tb tf t).getD 0 0 = 32769 := by
    rw [nC_get tb tf t (by have := h.tk.lo; omega), h.ea]
    simp
  have h3 : (nT tb tf t).C.getD 0 0 = 32769 := h2
  omega

end Go.Proofs.YtppanogpeengnaaDoor
