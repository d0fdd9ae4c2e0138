/- DERIVED. What is left where a set was spoilt. -/
import Derived.Test.YtppanogpeengnaaDoorZu
import Derived.Test.YtppanogpeengnaaDoorS4
namespace Go.Proofs.YtppanogpeengnaaDoor
open Go.RowKit L3

theorem doAt_to {W u : World} {a : Option Addr} {L : List Dx} (h : DoAt W a L) (hb : Below W.heap.size W u) : DoAt u a L := by
  rcases h with e | ⟨b, off, h1, h2, h3⟩
  · exact Or.inl e
  · refine Or.inr ⟨b, off, h1, Nat.lt_of_lt_of_le h2 hb.size, fun j hj => ?_⟩
    rw [newCell hb _ _ h2, newCell hb _ _ h2, newCell hb _ _ h2, newCell hb _ _ h2, newCell hb _ _ h2]
    exact h3 j hj
/-- behind what is spoilt, or is not -/
structure Sp (w2 : World) (xb yb bt cT : Nat) (T : World) : Prop where
  ex : ∃ ya yn yc Y, T.cell? ⟨yb, 0, none⟩ = some (.slice ya yn yc) ∧ Yy T ya yn Y
  cx : T.cell? ⟨xb, 0, none⟩ = some (.slice (some ⟨bt, 0, none⟩) 32 cT)
  bel : Below w2.heap.size w2 T
  lx : xb < T.heap.size
  ly : yb < T.heap.size

theorem Sp.to {w2 : World} {xb yb bt cT : Nat} {T T' : World} (h : Sp w2 xb yb bt cT T) (hb : Below T.heap.size T T') : Sp w2 xb yb bt cT T' := by
  obtain ⟨⟨ya, yn, yc, Y, cy, hy⟩, cx, hbl, hlx, hly⟩ := h
  exact ⟨⟨ya, yn, yc, Y, by rw [newCell hb _ _ hly]; exact cy, hy.to hb⟩, by rw [newCell hb _ _ hlx]; exact cx, below_to hbl hb, Nat.lt_of_lt_of_le hlx hb.size, Nat.lt_of_lt_of_le hly hb.size⟩
/-- a cell of the set was written -/
theorem sp_set {w2 X : World} {xb yb bt cT bt3 cT3 b o : Nat} {v : Value} {q : Nat → Nat} {K : List (Nat × List Tb)} (hbel : Below w2.heap.size w2 X) (hb : w2.heap.size ≤ b) (hbx : xb ≠ b) (hby : yb ≠ b) (cx : X.cell? ⟨xb, 0, none⟩ = some (.slice (some ⟨bt, 0, none⟩) 32 cT)) (cy : X.cell? ⟨yb, 0, none⟩ = some (.slice (some ⟨bt3, 0, none⟩) 32 cT3)) (lx : xb < X.heap.size) (ly : yb < X.heap.size)
    (hsw : Sw (X.setCell ⟨b, o, none⟩ v) bt3 q K) (hs : Smk K) (hn : K.length = 32) (hno : ¬ okX (pX K)) : ∀ u, u = X.setCell ⟨b, o, none⟩ v ∨ u = (X.setCell ⟨b, o, none⟩ v).drew → Sp w2 xb yb bt cT u := by
  have h : Sp w2 xb yb bt cT (X.setCell ⟨b, o, none⟩ v) := ⟨⟨_, 32, cT3, pX K, by rw [cell_far (Or.inl hby)]; exact cy, hsw.ry hs hn, fun e => absurd e hno⟩, by rw [cell_far (Or.inl hbx)]; exact cx, below_set hbel hb _, by rw [setCell_size]; exact lx, by rw [setCell_size]; exact ly⟩
  rintro u (rfl | rfl)
  · exact h
  · exact h.to (below_drew (Below.refl _ _))
theorem gv_take {w : World} {a : Option Addr} {Y : List (List Px)} (h : Gv w a Y) (k : Nat) : Gv w a (Y.take k) := by
  rcases h with e | ⟨b, e, hl, h3⟩
  · exact Or.inl (by rw [e]; simp)
  · refine Or.inr ⟨b, e, hl, fun j R hR => ?_⟩
    rw [List.getElem?_take] at hR
    split at hR
    · exact h3 j R hR
    · cases hR
/-- the set was cut short -/
theorem sp_cut {w2 X : World} {xb yb bt cT bt3 cT3 lo3 k : Nat} {B3 : Nat → Prop} {S3 : Sx} (hbel : Below w2.heap.size w2 X) (hb : w2.heap.size ≤ yb) (hxy : xb ≠ yb) (cx : X.cell? ⟨xb, 0, none⟩ = some (.slice (some ⟨bt, 0, none⟩) 32 cT)) (cy : X.cell? ⟨yb, 0, none⟩ = some (.slice (some ⟨bt3, 0, none⟩) 32 cT3)) (lx : xb < X.heap.size) (ly : yb < X.heap.size)
    (hz : Hu X lo3 bt3 B3 S3) (hyB : ¬ B3 yb) (hk : k < 32) : Sp w2 xb yb bt cT (X.setCell ⟨yb, 0, none⟩ (.slice (some ⟨bt3, 0, none⟩) k cT3)) := by
  have h3 := (hz.ke (P := fun y => y = yb) (Ke.set _ _ ⟨yb, 0, none⟩ (.slice (some ⟨bt3, 0, none⟩) k cT3) rfl) (fun b e => by rw [e]; exact hyB)).ry
  refine ⟨⟨_, k, cT3, S3.take k, World.cell?_setCell_same _ _ _ cy, ⟨gv_take h3.1.gv k, by rw [List.length_take, h3.1.len]; omega, ⟨by rw [List.length_take]; have := h3.1.sm.n; omega, fun R hR => h3.1.sm.r R (List.mem_of_mem_take hR), fun R hR => h3.1.sm.t R (List.mem_of_mem_take hR)⟩, fun R hR => h3.1.ps R (List.mem_of_mem_take hR)⟩, fun e => ?_⟩, by rw [cell_far (Or.inl hxy)]; exact cx, below_set hbel hb _, by rw [setCell_size]; exact lx, by rw [setCell_size]; exact ly⟩
  have := e.1
  rw [List.length_take, h3.1.len] at this
  omega
/-- a set's table by its place: where it lies and what may be written -/
structure Tp (X : World) (lo bt3 k c pb qk tb tf tc : Nat) (tn : Int) (q : Nat → Nat) (K : List (Nat × List Tb)) (p : Nat × List Tb) (t : Tb) : Prop where
  su : Su X lo bt3 q K
  ok : Okk K
  hk : K[k]? = some p
  hc : p.2[c]? = some t
  lp : p.2.length = sC k
  lt : t.C.length = sV k
  tk : TOk t.C t.n
  ep : p.1 = pb
  eq : q k = qk
  ea : t.a = some ⟨tb, tf, none⟩
  ec : t.c = tc
  en : t.n = tn
  f1 : X.cell? ⟨bt3, k, none⟩ = some (.slice (some ⟨pb, 0, none⟩) (sC k) qk)
  f2 : X.cell? ⟨pb, c * 2, none⟩ = some (.slice (some ⟨tb, tf, none⟩) (sV k) tc)
  f3 : X.cell? ⟨pb, c * 2 + 1, none⟩ = some (.int .i64 tn)
  f4 : X.cell? ⟨tb, tf, none⟩ = some (.int .u16 (t.C.getD 0 0 : Nat))
  z1 : X.frozen? ⟨bt3, k, none⟩ = false
  z2 : ∀ j, X.frozen? ⟨pb, j, none⟩ = false
  z4 : X.frozen? ⟨tb, tf, none⟩ = false
  rm : sC k ≤ qk
  b1 : lo ≤ bt3 ∧ lo ≤ pb ∧ lo ≤ tb
  nt : tb ≠ bt3 ∧ ∀ r ∈ K, tb ≠ r.1
theorem Tp.to {X X' : World} {lo bt3 k c pb qk tb tf tc : Nat} {tn : Int} {q : Nat → Nat} {K : List (Nat × List Tb)} {p : Nat × List Tb} {t : Tb} (h : Tp X lo bt3 k c pb qk tb tf tc tn q K p t) (hb : Below X.heap.size X X') : Tp X' lo bt3 k c pb qk tb tf tc tn q K p t := by
  have hpK := List.mem_of_getElem? h.hk
  have lb := h.su.blt
  have lp : pb < X.heap.size := by rw [← h.ep]; exact (h.su.lie p hpK).2.1
  have lt : tb < X.heap.size := World.block_lt_of_cell? X _ h.f4
  exact ⟨h.su.to hb, h.ok, h.hk, h.hc, h.lp, h.lt, h.tk, h.ep, h.eq, h.ea, h.ec, h.en, by rw [newCell hb _ _ lb]; exact h.f1, by rw [newCell hb _ _ lp]; exact h.f2, by rw [newCell hb _ _ lp]; exact h.f3, by rw [newCell hb _ _ lt]; exact h.f4, by rw [newFrozen hb _ _ lb]; exact h.z1, fun j => by rw [newFrozen hb _ _ lp]; exact h.z2 j, by rw [newFrozen hb _ _ lt]; exact h.z4, h.rm, h.b1, h.nt⟩
theorem Hz.tp {X : World} {lo bt3 : Nat} {B3 : Nat → Prop} {S3 : Sx} (h : Hz X lo bt3 B3 S3) {k c : Nat} (hk : k < 32) (hc : c < sC k) : ∃ pb qk tb tf tc tn q K p t, Tp X lo bt3 k c pb qk tb tf tc tn q K p t ∧ B3 bt3 ∧ B3 pb ∧ B3 tb := by
  obtain ⟨q, K, h1, h2, h3, h4, rfl, h6, h7⟩ := h
  have hkl : k < K.length := by rw [h2.1]; exact hk
  obtain ⟨p, hp⟩ : ∃ p, K[k]? = some p := ⟨_, List.getElem?_eq_getElem hkl⟩
  obtain ⟨o1, o2⟩ := h2.2 k p hp
  obtain ⟨t, ht⟩ : ∃ t, p.2[c]? = some t := ⟨_, List.getElem?_eq_getElem (by rw [o1]; exact hc)⟩
  have hpK := List.mem_of_getElem? hp
  have htp := List.mem_of_getElem? ht
  obtain ⟨o3, o4⟩ := o2 t htp
  have hne : t.C ≠ [] := fun e => by have := o4.lo; rw [e] at this; simp at this
  rcases h1.sl p hpK t htp with e | ⟨tb, tf, ea, hl, hc0⟩
  · exact absurd e hne
  · have hT : Tbk t tb := ⟨hne, tf, ea⟩
    have f1 := h1.hd k p hp
    rw [o1] at f1
    have f2 := h1.c0 p hpK c t ht
    rw [ea, o3] at f2
    have f4 := hc0 0 (by have := o4.lo; omega)
    rw [Nat.add_zero] at f4
    exact ⟨p.1, q k, tb, tf, t.c, t.n, q, K, p, t, ⟨h1, h2, hp, ht, o1, o3, o4, rfl, rfl, ea, rfl, rfl, f1, f2, h1.c1 p hpK c t ht, f4, h1.bth k, h1.th p hpK, h6 p hpK t htp tb hT tf, by have := h7 k p hp; rw [o1] at this; exact this, ⟨h1.blo, (h1.lie p hpK).1, (h3 p hpK).2 t htp tb tf ea hne⟩, h1.ap p hpK t htp tb tf ea hne⟩, Or.inl rfl, Or.inr ⟨p, hpK, Or.inl rfl⟩, Or.inr ⟨p, hpK, Or.inr ⟨t, htp, hT⟩⟩⟩

end Go.Proofs.YtppanogpeengnaaDoor
