/- DERIVED. Several texts in one: The document's coder that writes, in memory; its Symbol. The document's coder that writes: Bits, Bytes. The document's Writer. The document's coder that reads, in memory; its Symbol. The document's coder that reads: Bits, Reader. -/
import Derived.Test.YtkmnpechhdendaaGreatDoorS4
import Derived.Test.YtkmnpechhdendaaGreatDoorMF
import Derived.Test.YtkmnpechhdendaaGreatDoorS5
import Derived.Test.YtkmnpechhdendaaGreatDoorMB
import Derived.Test.YtkmnpechhdendaaGreatDoorL3Mh
import Derived.Deep.RegionHeld3
import Derived.Deep.DeepCutAuto
namespace Go.Proofs.YtkmnpechhdendaaGreatDoor
open Go.RowKit L3

/-- a table of a set in memory: where it lies, and what becomes of the set where another one is laid there -/
structure Tu (w : World) (lo bt : Nat) (B : Nat → Prop) (S : Sx) (kk c pb tc cq : Nat) (ta : Option Addr) : Prop where
  own : B pb
  ne : pb ≠ bt
  ob : B bt
  top : ∀ (P : Nat → Prop) v, Ke P w v → (∀ b, P b → ¬ B b) → v.cell? ⟨bt, kk, none⟩ = some (.slice (some ⟨pb, 0, none⟩) (sC kk) cq)
  c0 : ∀ (P : Nat → Prop) v, Ke P w v → (∀ b, P b → ¬ B b) → v.cell? ⟨pb, c * 2, none⟩ = some (.slice ta (sV kk) tc)
  c1 : ∀ (P : Nat → Prop) v, Ke P w v → (∀ b, P b → ¬ B b) → v.cell? ⟨pb, c * 2 + 1, none⟩ = some (.int .i64 (tb S kk c).2)
  th : ∀ (P : Nat → Prop) v j, Ke P w v → (∀ b, P b → ¬ B b) → v.frozen? ⟨pb, j, none⟩ = false
  sl : ∀ (P : Nat → Prop) v, Ke P w v → (∀ b, P b → ¬ B b) → Sl v .u16 ta (tb S kk c).1
  put : ∀ (P : Nat → Prop) v g cap C n, Ke P w v → (∀ b, P b → ¬ B b) → Sl v .u16 (some ⟨g, 0, none⟩) C → w.heap.size ≤ g → C.length = sV kk → TOk C n → ∃ B', Hu ((v.setCell ⟨pb, c * 2, none⟩ (.slice (some ⟨g, 0, none⟩) (sV kk) cap)).setCell ⟨pb, c * 2 + 1, none⟩ (.int .i64 n)) lo bt B' (S.set kk ((S.getD kk []).set c (C, n))) ∧ (∀ y, B' y → B y ∨ y = g) ∧ Ke B v ((v.setCell ⟨pb, c * 2, none⟩ (.slice (some ⟨g, 0, none⟩) (sV kk) cap)).setCell ⟨pb, c * 2 + 1, none⟩ (.int .i64 n))
theorem Hu.at {w : World} {lo bt : Nat} {B : Nat → Prop} {S : Sx} (h : Hu w lo bt B S) {kk c : Nat} (hk : kk < 32) (hc : c < sC kk) : ∃ pb tc cq ta, Tu w lo bt B S kk c pb tc cq ta := by
  obtain ⟨q, L, h1, h2, h3, rfl, rfl⟩ := h
  have hkl : kk < L.length := by rw [h2.1]; exact hk
  have hp := List.getElem?_eq_getElem hkl
  obtain ⟨o1, o2⟩ := h2.2 kk _ hp
  have hcl : c < L[kk].2.length := by rw [o1]; exact hc
  have hs := List.getElem?_eq_getElem hcl
  have hpK : L[kk] ∈ L := List.getElem_mem hkl
  have hsm : L[kk].2[c] ∈ L[kk].2 := List.getElem_mem hcl
  obtain ⟨o3, o4⟩ := o2 _ hsm
  have et := ab_tb hp hs
  refine ⟨L[kk].1, L[kk].2[c].c, q kk, L[kk].2[c].a, Or.inr ⟨_, hpK, Or.inl rfl⟩, (h1.lie _ hpK).2.2, Or.inl rfl, fun P v hv hP => ?_, fun P v hv hP => ?_, fun P v hv hP => ?_, fun P v j hv hP => (h1.ke hv hP).th _ hpK j, fun P v hv hP => ?_, fun P v g cap C n hv hP hsl hg hC hT => ?_⟩
  · have := (h1.ke hv hP).hd kk _ hp; rw [o1] at this; exact this
  · have := (h1.ke hv hP).c0 _ hpK c _ hs; rw [o3] at this; exact this
  · rw [et]; exact (h1.ke hv hP).c1 _ hpK c _ hs
  · rw [et]; exact (h1.ke hv hP).sl _ hpK _ hsm
  · have hlo : lo ≤ w.heap.size := Nat.le_trans h1.blo (Nat.le_of_lt h1.blt)
    have hne : ∀ b o, (some ⟨g, 0, none⟩ : Option Addr) = some ⟨b, o, none⟩ → C ≠ [] → b ≠ bt ∧ ∀ q ∈ L, b ≠ q.1 := fun b o e _ => by
      simp only [Option.some.injEq, Addr.mk.injEq, and_true] at e
      refine ⟨by have := h1.blt; omega, fun q hq => by have := (h1.lie q hq).2.1; omega⟩
    have hput := (h1.ke hv hP).put hp hcl ⟨some ⟨g, 0, none⟩, cap, C, n⟩ hsl hne
    simp only [hC] at hput
    refine ⟨_, ⟨_, _, hput, h2.put hp ⟨hC, hT⟩, fun q hq => ?_, by rw [ab_set hp], rfl⟩, fun y hy => ?_, ?_⟩
    · rcases St.mem_set hp hq with e | e
      · subst e
        refine ⟨(h3 _ hpK).1, fun t ht b o e1 e2 => ?_⟩
        rcases List.mem_or_eq_of_mem_set ht with e | e
        · exact (h3 _ hpK).2 t e b o e1 e2
        · subst e
          simp only [Option.some.injEq, Addr.mk.injEq, and_true] at e1
          omega
      · exact h3 q e
    · rcases Bs.set hp hy with e | ⟨_, o, e⟩
      · exact Or.inl e
      · simp only [Option.some.injEq, Addr.mk.injEq, and_true] at e
        exact Or.inr (by omega)
    · have hB : Bs bt L L[kk].1 := Or.inr ⟨_, hpK, Or.inl rfl⟩
      exact Ke.trans (Ke.set _ _ _ _ hB) (Ke.set _ _ _ _ hB) (fun _ e => e) (fun _ _ e => e)


/-- the document's coder that writes: in block x, driven by the encoder in block xe -/
structure FW (w : World) (lo x bt cT : Nat) (B : Nat → Prop) (xe : Nat) (d : Value) (S : Sx) (ad : Bool) (n : Int) (T g k : Nat) : Prop where
  c0 : w.cell? ⟨x, 0, none⟩ = some (.pointer (some ⟨xe, 0, none⟩))
  c2 : w.cell? ⟨x, 2, none⟩ = some (.slice (some ⟨bt, 0, none⟩) 32 cT)
  c3 : w.cell? ⟨x, 3, none⟩ = some (.bool ad)
  c4 : w.cell? ⟨x, 4, none⟩ = some (.int .i64 n)
  th : w.frozen? ⟨x, 4, none⟩ = false
  low : x < w.heap.size
  xlo : lo ≤ x
  hu : Hu w lo bt B S
  en : L2.EfS w lo xe d T g k
  ev : L2.Ev T g k
  bx : ¬ B x
  ex : x ≠ xe ∧ d.ownBlock ≠ some x
  eb : ¬ B xe ∧ ∀ b, d.ownBlock = some b → ¬ B b
def Of (x : Nat) (B : Nat → Prop) (xe : Nat) (d : Value) (y : Nat) : Prop := y = x ∨ (y = xe ∨ d.ownBlock = some y) ∨ B y
theorem FW.ke {P : Nat → Prop} {w w' : World} {lo x bt cT : Nat} {B : Nat → Prop} {xe : Nat} {d : Value} {S : Sx} {ad : Bool} {n : Int} {T g k : Nat} (h : FW w lo x bt cT B xe d S ad n T g k) (hk : Ke P w w') (hP : ∀ b, P b → ¬ Of x B xe d b) : FW w' lo x bt cT B xe d S ad n T g k := by
  have nx : ¬ P x := fun e => hP x e (Or.inl rfl)
  exact ⟨by rw [hk.cell _ _ h.low nx]; exact h.c0, by rw [hk.cell _ _ h.low nx]; exact h.c2, by rw [hk.cell _ _ h.low nx]; exact h.c3, by rw [hk.cell _ _ h.low nx]; exact h.c4, by rw [hk.frozen _ _ h.low nx]; exact h.th, Nat.lt_of_lt_of_le h.low hk.size, h.xlo, h.hu.ke hk (fun b hb e => hP b hb (Or.inr (Or.inr e))), h.en.carry (hk.block xe h.en.lies.2 (fun e => hP xe e (Or.inr (Or.inl (Or.inl rfl))))) (fun b hb => hk.block b (h.en.own_lt b hb).2.1 (fun e => hP b e (Or.inr (Or.inl (Or.inr hb))))) hk.size, h.ev, h.bx, h.ex, h.eb⟩
theorem FW.to {w w' : World} {lo x bt cT : Nat} {B : Nat → Prop} {xe : Nat} {d : Value} {S : Sx} {ad : Bool} {n : Int} {T g k : Nat} (h : FW w lo x bt cT B xe d S ad n T g k) (hb : Below w.heap.size w w') : FW w' lo x bt cT B xe d S ad n T g k := h.ke (P := fun _ => False) (Ke.of hb) (fun _ e => e.elim)
theorem FW.lt {w : World} {lo x bt cT : Nat} {B : Nat → Prop} {xe : Nat} {d : Value} {S : Sx} {ad : Bool} {n : Int} {T g k : Nat} (h : FW w lo x bt cT B xe d S ad n T g k) {y : Nat} (hy : Of x B xe d y) : lo ≤ y ∧ y < w.heap.size := by
  rcases hy with rfl | (rfl | e) | e
  · exact ⟨h.xlo, h.low⟩
  · exact h.en.lies
  · exact ⟨(h.en.own_lt y e).1, (h.en.own_lt y e).2.1⟩
  · exact ⟨h.hu.ge e, h.hu.lt e⟩
/-- the encoder goes on -/
theorem FW.eng {w w' : World} {lo x bt cT : Nat} {B : Nat → Prop} {xe : Nat} {d d' : Value} {S : Sx} {ad : Bool} {n : Int} {T g k T' g' k' : Nat} (h : FW w lo x bt cT B xe d S ad n T g k) (hk : L2.Kw xe d d' w w') (he : L2.EfS w' lo xe d' T' g' k') (hv : L2.Ev T' g' k') : FW w' lo x bt cT B xe d' S ad n T' g' k' ∧ Trn (Of x B xe d) (Of x B xe d') w w' := by
  have hke : Ke (fun b => b = xe ∨ d.ownBlock = some b) w w' := ⟨hk.os, hk.tape, hk.output, hk.size, fun i hi hP => hk.block i hi (fun e => hP (Or.inl e)) (fun e => hP (Or.inr e))⟩
  have nx : ¬ (x = xe ∨ d.ownBlock = some x) := fun e => by rcases e with e | e; exact h.ex.1 e; exact h.ex.2 e
  have hnew : ∀ b, d'.ownBlock = some b → d.ownBlock = some b ∨ w.heap.size ≤ b := hk.new
  refine ⟨⟨by rw [hke.cell _ _ h.low nx]; exact h.c0, by rw [hke.cell _ _ h.low nx]; exact h.c2, by rw [hke.cell _ _ h.low nx]; exact h.c3, by rw [hke.cell _ _ h.low nx]; exact h.c4, by rw [hke.frozen _ _ h.low nx]; exact h.th, Nat.lt_of_lt_of_le h.low hke.size, h.xlo, h.hu.ke hke (fun b hb e => by rcases hb with rfl | hb; exact h.eb.1 e; exact h.eb.2 b hb e), he, hv, h.bx, ⟨h.ex.1, fun e => ?_⟩, h.eb.1, fun b hb e => ?_⟩, ⟨⟨hke.os, hke.tape, hke.output, hke.size, fun i hi hP => hke.block i hi (fun e => hP (Or.inr (Or.inl e)))⟩, fun y hy => ?_⟩⟩
  · rcases hnew x e with e2 | e2
    · exact h.ex.2 e2
    · have := h.low; omega
  · rcases hnew b hb with e2 | e2
    · exact h.eb.2 b e2 e
    · have := h.hu.lt e; omega
  · rcases hy with e | (e | e) | e
    · exact Or.inl (Or.inl e)
    · exact Or.inl (Or.inr (Or.inl (Or.inl e)))
    · rcases hnew y e with e2 | e2
      · exact Or.inl (Or.inr (Or.inl (Or.inr e2)))
      · exact Or.inr e2
    · exact Or.inl (Or.inr (Or.inr e))
theorem FW.count {w : World} {lo x bt cT : Nat} {B : Nat → Prop} {xe : Nat} {d : Value} {S : Sx} {ad : Bool} {n m : Int} {T g k : Nat} (h : FW w lo x bt cT B xe d S ad n T g k) : FW (w.setCell ⟨x, 4, none⟩ (.int .i64 m)) lo x bt cT B xe d S ad m T g k := by
  have oth : ∀ j, j ≠ 4 → (w.setCell ⟨x, 4, none⟩ (.int .i64 m)).cell? ⟨x, j, none⟩ = w.cell? ⟨x, j, none⟩ := fun j hj => World.cell?_setCell_other _ _ _ _ (fun e => hj (by simp only [Addr.mk.injEq, true_and, and_true] at e; exact e.symm))
  exact ⟨by rw [oth 0 (by omega)]; exact h.c0, by rw [oth 2 (by omega)]; exact h.c2, by rw [oth 3 (by omega)]; exact h.c3, World.cell?_setCell_same _ _ _ h.c4, by simpa using h.th, by rw [setCell_size]; exact h.low, h.xlo, h.hu.ke (P := fun b => b = x) (Ke.set _ _ _ _ rfl) (fun b e => by subst e; exact h.bx), h.en.carry (Below.heap_setCell _ _ _ _ (fun e => h.ex.1 e.symm)) (fun b hb => Below.heap_setCell _ _ _ _ (fun e => h.ex.2 (by have e' : b = x := e; rw [← e']; exact hb))) (by rw [setCell_size]; exact Nat.le_refl _), h.ev, h.bx, h.ex, h.eb⟩

/-- by its own blocks and plain numbers -/
structure Fw (w : World) (lo x : Nat) (O : Nat → Prop) (S : Sx) (ad : Bool) (n : Int) (T g k : Nat) : Prop where
  ex : ∃ bt cT B xe d, FW w lo x bt cT B xe d S ad n T g k ∧ O = Of x B xe d
theorem Fw.ke {P : Nat → Prop} {w w' : World} {lo x : Nat} {O : Nat → Prop} {S : Sx} {ad : Bool} {n : Int} {T g k : Nat} (h : Fw w lo x O S ad n T g k) (hk : Ke P w w') (hP : ∀ b, P b → ¬ O b) : Fw w' lo x O S ad n T g k := by
  obtain ⟨bt, cT, B, xe, d, h, rfl⟩ := h; exact ⟨bt, cT, B, xe, d, h.ke hk hP, rfl⟩
theorem Fw.to {w w' : World} {lo x : Nat} {O : Nat → Prop} {S : Sx} {ad : Bool} {n : Int} {T g k : Nat} (h : Fw w lo x O S ad n T g k) (hb : Below w.heap.size w w') : Fw w' lo x O S ad n T g k := h.ke (P := fun _ => False) (Ke.of hb) (fun _ e => e.elim)
theorem Fw.lt {w : World} {lo x : Nat} {O : Nat → Prop} {S : Sx} {ad : Bool} {n : Int} {T g k : Nat} (h : Fw w lo x O S ad n T g k) {y : Nat} (hy : O y) : lo ≤ y ∧ y < w.heap.size := by
  obtain ⟨bt, cT, B, xe, d, h, rfl⟩ := h; exact h.lt hy
theorem Fw.ev {w : World} {lo x : Nat} {O : Nat → Prop} {S : Sx} {ad : Bool} {n : Int} {T g k : Nat} (h : Fw w lo x O S ad n T g k) : L2.Ev T g k := by obtain ⟨_, _, _, _, _, h, _⟩ := h; exact h.ev
theorem Fw.ok {w : World} {lo x : Nat} {O : Nat → Prop} {S : Sx} {ad : Bool} {n : Int} {T g k : Nat} (h : Fw w lo x O S ad n T g k) : OkS S := by obtain ⟨_, _, _, _, _, h, _⟩ := h; exact h.hu.ok
theorem Trn.to {O O' : Nat → Prop} {a b c : World} (h : Trn O O' a b) (hb : Below b.heap.size b c) : Trn O O' a c := h.trans (Trn.of hb)
theorem Trn.set {O : Nat → Prop} {w : World} (a : Addr) (v : Value) (h : O a.block) : Trn O O w (w.setCell a v) := ⟨Ke.set _ _ _ _ h, fun _ e => Or.inl e⟩
/-- what a step leaves -/
def StF (w w' : World) (lo x : Nat) (O : Nat → Prop) (S : Sx) (ad : Bool) (n : Int) (T g k : Nat) : Prop := ∃ O', Fw w' lo x O' S ad n T g k ∧ Trn O O' w w'

set_option maxRecDepth 100000 in
set_option maxHeartbeats 8000000 in
theorem rsymbol_f {w : World} {lo x : Nat} {O : Nat → Prop} {S : Sx} {ad : Bool} {n : Int} {T g k : Nat} (h : Fw w lo x O S ad n T g k) (hkb : k ≤ 1099511626000) (hn0 : 0 ≤ n) (hn1 : n ≤ 1152921504606846976) {kk c v : Nat} (hk : kk < 32) (hc : c < sC kk) (hv : v < sV kk) {pa pe : Nat} (hpa : pa = eb (tb S kk c).1 v) (hpe : pe = ee (tb S kk c).1 v) :
    Calls Tryz.prog 47 #[.pointer (some ⟨x, 0, none⟩), .int .i64 kk, .int .i64 c, .int .i64 v] w fun e w' => e = .returned (.tuple #[.int .i64 v, .int .i64 0]) ∧ StF w w' lo x O (upd S ad kk c v) ad (n + 1) (L2.ePut T g k pa pe).1 (L2.ePut T g k pa pe).2.1 (L2.ePut T g k pa pe).2.2 := by
  obtain ⟨bt, cT, B, xe, d, h, rfl⟩ := h
  obtain ⟨ep, hep⟩ : ∃ ep, ep = L2.ePut T g k pa pe := ⟨_, rfl⟩
  rw [← hep]
  have HEp : Hid (ep = L2.ePut T g k pa pe) := hep
  have HF : Hid (FW w lo x bt cT B xe d S ad n T g k) := h
  have htk := h.hu.ok.at hk hc
  have HTk : Hid ((tb S kk c).1.length = sV kk ∧ TOk (tb S kk c).1 (tb S kk c).2) := htk
  have hee := eb_ee htk.2 (s := v) (by rw [htk.1]; exact hv)
  have hle := ee_le htk.2 (i := v) (by rw [htk.1]; exact hv)
  have HPE : Hid (pa < pe ∧ pe ≤ 32768) := ⟨by omega, by omega⟩
  have HEv : Hid (L2.Ev ep.1 ep.2.1 ep.2.2) := by show L2.Ev _ _ _; rw [hep]; exact (L2.ePut_ok h.ev (by omega) (by omega)).1
  have HVl : Hid (v < sV kk) := hv
  have HBo : Hid (∀ u ta tc, Sl u .u16 ta (tb S kk c).1 → Calls Tryz.prog 74 #[.agg #[.slice ta (sV kk) tc, .int .i64 (tb S kk c).2], .int .i64 v] u fun e w' => e = .returned (.tuple #[.int .u32 pa, .int .u32 pe, .int .i64 0]) ∧ Below u.heap.size u w') := fun u ta tc hs => by
    have := rbounds_ok (c := tc) hs htk.2 (i := v) (by rw [htk.1]; exact hv)
    rw [htk.1] at this
    rw [hpa, hpe]
    exact this
  have HAd : Hid (∀ u ta tc, Sl u .u16 ta (tb S kk c).1 → Calls Tryz.prog 79 #[.agg #[.slice ta (sV kk) tc, .int .i64 (tb S kk c).2], .int .i64 v] u fun e w' => ∃ g4 c4, e = .returned (.tuple #[.agg #[.slice (some ⟨g4, 0, none⟩) (sV kk) c4, .int .i64 (adN (tb S kk c).2)], .int .i64 0]) ∧ Sl w' .u16 (some ⟨g4, 0, none⟩) (L3.ad (tb S kk c).1 (tb S kk c).2 v) ∧ u.heap.size ≤ g4 ∧ Below u.heap.size u w') := fun u ta tc hs => by
    have h := radapt_ok (c := tc) hs htk.2 (s := v) (by rw [htk.1]; exact hv)
    rw [htk.1] at h
    refine h.mono ?_
    rintro e w' ⟨g4, c4, rfl, ho, hb⟩
    rw [ad_len, htk.1] at ho ⊢
    exact ⟨g4, c4, rfl, by have := ho.sl; exact this, ho.lies.1, hb⟩
  have HAl : Hid ((L3.ad (tb S kk c).1 (tb S kk c).2 v).length = sV kk ∧ TOk (L3.ad (tb S kk c).1 (tb S kk c).2 v) (adN (tb S kk c).2)) := ⟨by rw [ad_len]; exact htk.1, ad_ok htk.2 v⟩
  have HUt : Hid (upd S true kk c v = S.set kk ((S.getD kk []).set c (L3.ad (tb S kk c).1 (tb S kk c).2 v, adN (tb S kk c).2))) := upd_true S kk c v
  have HUf : Hid (upd S false kk c v = S) := rfl
  have HTu : Hid (∀ u, FW u lo x bt cT B xe d S ad n T g k → ∃ pb tc cq ta, Tu u lo bt B S kk c pb tc cq ta) := fun u hu => hu.hu.at hk hc
  have b0 : ¬ (c : Int) < 0 := by omega
  have b1 : ¬ (sC kk : Int) ≤ (c : Int) := by omega
  have b2 : ¬ (v : Int) < 0 := by omega
  have b3 : ¬ (sV kk : Int) ≤ (v : Int) := by omega
  have b4 : 0 ≤ (kk : Int) := by omega
  have b5 : (kk : Int) < 32 := by omega
  have b6 : 0 ≤ (c : Int) := by omega
  have b7 : (c : Int) < (sC kk : Int) := by omega
  clear htk hee hle hpa hpe h hc hv hep
  go_enter Tryz.func47, Tryz.ntmps47
  go_wp2_with fail
  refine (rshape_ok hk).mono ?_
  rintro e w1 ⟨rfl, hb1⟩
  have HF1 : Hid (FW w1 lo x bt cT B xe d S ad n T g k) := HF.out.to hb1
  have HT1 : Hid (Trn (Of x B xe d) (Of x B xe d) w w1) := Trn.of hb1
  clear hb1
  have q0 := HF1.out.c0
  have q2 := HF1.out.c2
  obtain ⟨pb, tc, cq, ta, hta⟩ := HTu.out w1 HF1.out
  have HTa : Hid (Tu w1 lo bt B S kk c pb tc cq ta) := hta
  have p0 := hta.top (fun _ => False) w1 (Ke.refl _ _) (fun _ e => e.elim)
  have p1 := hta.c0 (fun _ => False) w1 (Ke.refl _ _) (fun _ e => e.elim)
  have p2 := hta.c1 (fun _ => False) w1 (Ke.refl _ _) (fun _ e => e.elim)
  generalize hC' : (L3.ad (tb S kk c).1 (tb S kk c).2 v) = C' at *
  generalize hn' : adN (tb S kk c).2 = n' at *
  generalize htn : (tb S kk c).2 = tn at *
  have HTn : Hid ((tb S kk c).2 = tn) := htn
  clear hta hC' hn' htn
  have HB2 : Hid (Below w1.heap.size w1 (w1.alloc (.cells #[.slice ta (sV kk) tc, .int .i64 tn] 71))) := from_alloc _ _
  have HX2 : Hid (∀ u, Ke (Of x B xe d) (w1.alloc (.cells #[.slice ta (sV kk) tc, .int .i64 tn] 71)) u → u.cell? ⟨w1.heap.size, 0, none⟩ = some (.slice ta (sV kk) tc) ∧ u.cell? ⟨w1.heap.size, 1, none⟩ = some (.int .i64 tn)) := fun u hu => by
    have hnO : ¬ Of x B xe d w1.heap.size := fun e => by have := (HF1.out.lt e).2; omega
    rw [hu.cell _ _ (by simp) hnO, hu.cell _ _ (by simp) hnO]
    simp [go_sem]
  have HF2 : Hid (FW (w1.alloc (.cells #[.slice ta (sV kk) tc, .int .i64 tn] 71)) lo x bt cT B xe d S ad n T g k) := HF1.out.to HB2.out
  have q0b := HF2.out.c0
  go_upto_region 7 with fail
  generalize hw2 : w1.alloc (.cells #[.slice ta (sV kk) tc, .int .i64 tn] 71) = w2 at *
  obtain ⟨s0, s1⟩ := HX2.out w2 (Ke.refl _ _)
  clear q0 q2 p0 p1 p2 hw2
  go_wp2_with fail
  refine (HBo.out _ _ _ (HTa.out.sl (fun _ => False) _ (Ke.of HB2.out) (fun _ e => e.elim))).mono ?_
  rintro e w3 ⟨rfl, hb3⟩
  have HF3 : Hid (FW w3 lo x bt cT B xe d S ad n T g k) := HF2.out.to hb3
  have HB3 : Hid (Below w2.heap.size w2 w3) := hb3
  have r0 := HF3.out.c0
  clear hb3 q0b s0 s1
  go_wp2_with fail
  refine (L2.rput_yes HF3.out.en HF3.out.ev hkb pa pe HPE.out.1 HPE.out.2).mono ?_
  rintro e w4 ⟨rfl, d', he4, hk4⟩
  rw [← HEp.out] at he4
  obtain ⟨hf4, ht4⟩ := HF3.out.eng hk4 he4 HEv.out
  have HF4 : Hid (FW w4 lo x bt cT B xe d' S ad n ep.1 ep.2.1 ep.2.2) := hf4
  have HT4 : Hid (Trn (Of x B xe d) (Of x B xe d') w w4) := ((HT1.out.to HB2.out).to HB3.out).trans ht4
  have HK4 : Hid (Ke (fun y => y = xe ∨ d.ownBlock = some y) w1 w4) := by
    have hke : Ke (fun b => b = xe ∨ d.ownBlock = some b) w3 w4 := ⟨hk4.os, hk4.tape, hk4.output, hk4.size, fun i hi hP => hk4.block i hi (fun e => hP (Or.inl e)) (fun e => hP (Or.inr e))⟩
    exact Ke.trans (Ke.of (P := fun _ => False) (below_to HB2.out HB3.out)) hke (fun _ e => e.elim) (fun _ _ e => e)
  obtain ⟨s0, s1⟩ := HX2.out w4 (Ke.trans (Ke.of (P := fun _ => False) HB3.out) ht4.ke (fun _ e => e.elim) (fun _ _ e => e))
  have r3 := HF4.out.c3
  have r4 := HF4.out.c4
  have r5 := HF4.out.th
  clear he4 hk4 hf4 ht4 r0
  cases ad
  · have HFin : Hid (StF w (w4.setCell ⟨x, 4, none⟩ (.int .i64 (n + 1))) lo x (Of x B xe d) (upd S false kk c v) false (n + 1) ep.1 ep.2.1 ep.2.2) := ⟨_, ⟨bt, cT, B, xe, d', by rw [HUf.out]; exact HF4.out.count, rfl⟩, HT4.out.trans (Trn.set _ _ (Or.inl rfl))⟩
    go_wp2_with fail
    refine bodyPost_ret (v := .tuple #[.int .i64 v, .int .i64 0]) (by simp [results, Tryz.results47, go_sem]) rfl ⟨rfl, ?_⟩
    exact HFin.out
  · have HEB : Hid (∀ b, (b = xe ∨ d.ownBlock = some b) → ¬ B b) := fun b e => by
      rcases e with rfl | e
      · exact HF.out.eb.1
      · exact HF.out.eb.2 b e
    have HS4 : Hid (Sl w4 .u16 ta (tb S kk c).1) := HTa.out.sl _ w4 HK4.out HEB.out
    go_wp2_with fail
    refine (HAd.out _ _ _ HS4.out).mono ?_
    rintro e w5 ⟨g5, c5, rfl, hs5, hg5, hb5⟩
    have HB6 : Hid (Below w4.heap.size w4 (w5.alloc (.cells #[.slice (some ⟨g5, 0, none⟩) (sV kk) c5, .int .i64 n'] 71))) := to_alloc hb5 _
    have HK6 : Hid (Ke (fun y => y = xe ∨ d.ownBlock = some y) w1 (w5.alloc (.cells #[.slice (some ⟨g5, 0, none⟩) (sV kk) c5, .int .i64 n'] 71))) := Ke.trans HK4.out (Ke.of (P := fun _ => False) HB6.out) (fun _ e => e) (fun _ _ e => e.elim)
    have HS6 : Hid (Sl (w5.alloc (.cells #[.slice (some ⟨g5, 0, none⟩) (sV kk) c5, .int .i64 n'] 71)) .u16 (some ⟨g5, 0, none⟩) C') := hs5.to (from_alloc _ _)
    have HG6 : Hid (w4.heap.size ≤ g5) := hg5
    have HN6 : Hid (w4.heap.size ≤ w5.heap.size ∧ w5.heap.size < (w5.alloc (.cells #[.slice (some ⟨g5, 0, none⟩) (sV kk) c5, .int .i64 n'] 71)).heap.size) := ⟨hb5.size, by simp⟩
    have HX6 : Hid ((w5.alloc (.cells #[.slice (some ⟨g5, 0, none⟩) (sV kk) c5, .int .i64 n'] 71)).cell? ⟨w5.heap.size, 0, none⟩ = some (.slice (some ⟨g5, 0, none⟩) (sV kk) c5) ∧ (w5.alloc (.cells #[.slice (some ⟨g5, 0, none⟩) (sV kk) c5, .int .i64 n'] 71)).cell? ⟨w5.heap.size, 1, none⟩ = some (.int .i64 n')) := by constructor <;> simp [go_sem]
    have HF6 : Hid (FW (w5.alloc (.cells #[.slice (some ⟨g5, 0, none⟩) (sV kk) c5, .int .i64 n'] 71)) lo x bt cT B xe d' S true n ep.1 ep.2.1 ep.2.2) := HF4.out.to HB6.out
    clear hs5 hg5 hb5 s0 s1 r3 r4 r5 HAd
    go_wp2_with fail
    generalize w5.alloc (.cells #[.slice (some ⟨g5, 0, none⟩) (sV kk) c5, .int .i64 n'] 71) = U at *
    generalize w5.heap.size = nx at *
    have HPl : Hid (pb < w1.heap.size ∧ pb ≠ x ∧ pb ≠ bt ∧ bt ≠ x) := ⟨HF1.out.hu.lt HTa.out.own, fun e => HF1.out.bx (by rw [← e]; exact HTa.out.own), HTa.out.ne, fun e => HF1.out.bx (by rw [← e]; exact HTa.out.ob)⟩
    have HNl : Hid (w1.heap.size ≤ nx ∧ nx < U.heap.size ∧ x < U.heap.size ∧ bt < U.heap.size ∧ pb < U.heap.size ∧ bt < w1.heap.size) := by
      have h1 := HK4.out.size
      have h2 := HK6.out.size
      have h3 := HN6.out
      have h4 := HF1.out.low
      have h5 := HF1.out.hu.lt HTa.out.ob
      have h6 := HPl.out.1
      exact ⟨by omega, by omega, by omega, by omega, by omega, by omega⟩
    have HTop : Hid (U.cell? ⟨bt, kk, none⟩ = some (.slice (some ⟨pb, 0, none⟩) (sC kk) cq)) := HTa.out.top _ U HK6.out HEB.out
    have HKq : Hid (∀ u, Ke (fun y => y = pb) U u → u.cell? ⟨x, 2, none⟩ = some (.slice (some ⟨bt, 0, none⟩) 32 cT) ∧ u.cell? ⟨bt, kk, none⟩ = some (.slice (some ⟨pb, 0, none⟩) (sC kk) cq) ∧ u.cell? ⟨nx, 0, none⟩ = some (.slice (some ⟨g5, 0, none⟩) (sV kk) c5) ∧ u.cell? ⟨nx, 1, none⟩ = some (.int .i64 n')) := fun u hu => by
      have h1 := HNl.out
      have h2 := HPl.out
      rw [hu.cell x 2 (by omega) (by omega), hu.cell bt kk (by omega) (by omega), hu.cell nx 0 (by omega) (by omega), hu.cell nx 1 (by omega) (by omega)]
      exact ⟨HF6.out.c2, HTop.out, HX6.out.1, HX6.out.2⟩
    have HFin : Hid (∀ u, u = (U.drew.setCell ⟨pb, c * 2, none⟩ (.slice (some ⟨g5, 0, none⟩) (sV kk) c5)).setCell ⟨pb, c * 2 + 1, none⟩ (.int .i64 n') → u.cell? ⟨x, 4, none⟩ = some (.int .i64 n) ∧ u.frozen? ⟨x, 4, none⟩ = false ∧ StF w (u.setCell ⟨x, 4, none⟩ (.int .i64 (n + 1))) lo x (Of x B xe d) (upd S true kk c v) true (n + 1) ep.1 ep.2.1 ep.2.2) := fun u hu => by
      obtain ⟨B', t1, t2, t3⟩ := HTa.out.put _ U.drew g5 c5 C' n' (Ke.trans HK6.out (Ke.of (P := fun _ => False) (below_drew (Below.refl _ _))) (fun _ e => e) (fun _ _ e => e.elim)) HEB.out (HS6.out.to (below_drew (Below.refl _ _))) (by have := HK4.out.size; have := HG6.out; omega) HAl.out.1 HAl.out.2
      rw [← hu, ← HUt.out] at t1
      rw [← hu] at t3
      have hf := HF6.out.to (w' := U.drew) (below_drew (Below.refl _ _))
      have hl := HPl.out
      have hg6 := HG6.out
      have hkp : Ke (fun y => y = pb) U.drew u := by
        rw [hu]
        exact Ke.trans (Ke.set (fun y => y = pb) _ ⟨pb, c * 2, none⟩ _ rfl) (Ke.set (fun y => y = pb) _ ⟨pb, c * 2 + 1, none⟩ _ rfl) (fun _ e => e) (fun _ _ e => e)
      have hx4 : x < w4.heap.size := HF4.out.low
      have hne : xe ≠ pb := fun e => HF4.out.eb.1 (by rw [e]; exact HTa.out.own)
      have hno : ∀ b, d'.ownBlock = some b → b ≠ pb := fun b hb e => HF4.out.eb.2 b hb (by rw [e]; exact HTa.out.own)
      have hFu : FW u lo x bt cT B' xe d' (upd S true kk c v) true n ep.1 ep.2.1 ep.2.2 := by
        refine ⟨by rw [hkp.cell _ _ hf.low (Ne.symm hl.2.1)]; exact hf.c0, by rw [hkp.cell _ _ hf.low (Ne.symm hl.2.1)]; exact hf.c2, by rw [hkp.cell _ _ hf.low (Ne.symm hl.2.1)]; exact hf.c3, by rw [hkp.cell _ _ hf.low (Ne.symm hl.2.1)]; exact hf.c4, by rw [hkp.frozen _ _ hf.low (Ne.symm hl.2.1)]; exact hf.th, Nat.lt_of_lt_of_le hf.low hkp.size, hf.xlo, t1, hf.en.carry (hkp.block xe hf.en.lies.2 hne) (fun b hb => hkp.block b (hf.en.own_lt b hb).2.1 (hno b hb)) hkp.size, hf.ev, fun e => ?_, hf.ex, fun e => ?_, fun b hb e => ?_⟩
        · rcases t2 x e with e | e
          · exact hf.bx e
          · omega
        · rcases t2 xe e with e | e
          · exact hf.eb.1 e
          · have := HF4.out.en.lies.2; omega
        · rcases t2 b e with e | e
          · exact hf.eb.2 b hb e
          · have := (HF4.out.en.own_lt b hb).2.1; omega
      refine ⟨hFu.c4, hFu.th, _, ⟨bt, cT, B', xe, d', hFu.count, rfl⟩, (HT4.out.trans ⟨?_, fun y hy => ?_⟩).trans (Trn.set _ _ (Or.inl rfl))⟩
      · exact Ke.trans (Ke.of (P := fun _ => False) (below_drew HB6.out)) t3 (fun _ e => e.elim) (fun _ _ e => Or.inr (Or.inr e))
      · rcases hy with e | e | e
        · exact Or.inl (Or.inl e)
        · exact Or.inl (Or.inr (Or.inl e))
        · rcases t2 y e with e | e
          · exact Or.inl (Or.inr (Or.inr e))
          · exact Or.inr (by omega)
    have p4 : U.drew.cell? ⟨pb, c * 2, none⟩ = some (.slice ta (sV kk) tc) := HTa.out.c0 _ U HK6.out HEB.out
    have p5 : U.drew.cell? ⟨pb, c * 2 + 1, none⟩ = some (.int .i64 tn) := by rw [← HTn.out]; exact HTa.out.c1 _ U HK6.out HEB.out
    have p6 : U.drew.frozen? ⟨pb, c * 2, none⟩ = false := HTa.out.th _ U _ HK6.out HEB.out
    have p7 : U.drew.frozen? ⟨pb, c * 2 + 1, none⟩ = false := HTa.out.th _ U _ HK6.out HEB.out
    have p8 : U.cell? ⟨pb, c * 2, none⟩ = some (.slice ta (sV kk) tc) := p4
    have p9 : U.cell? ⟨pb, c * 2 + 1, none⟩ = some (.int .i64 tn) := p5
    have p10 : U.frozen? ⟨pb, c * 2, none⟩ = false := p6
    have p11 : U.frozen? ⟨pb, c * 2 + 1, none⟩ = false := p7
    go_region_held3 (fun u => u.cell? ⟨x, 2, none⟩ = some (.slice (some ⟨bt, 0, none⟩) 32 cT) ∧ u.cell? ⟨bt, kk, none⟩ = some (.slice (some ⟨pb, 0, none⟩) (sC kk) cq) ∧ u.cell? ⟨nx, 0, none⟩ = some (.slice (some ⟨g5, 0, none⟩) (sV kk) c5) ∧ u.cell? ⟨nx, 1, none⟩ = some (.int .i64 n'))
      ((exact HKq.out _ (by first | exact ke_drew _ _ | exact ke_two _ _ _ _ _ _)))
      ((fail))
    all_goals
      obtain ⟨y0, y1, hfin⟩ := HFin.out (((U.setCell ⟨pb, c * 2, none⟩ (.slice (some ⟨g5, 0, none⟩) (sV kk) c5)).setCell ⟨pb, c * 2 + 1, none⟩ (.int .i64 n')).drew) rfl
      have HFn : Hid _ := hfin
      clear hfin p4 p5 p6 p7 p8 p9 p10 p11
      generalize ((U.setCell ⟨pb, c * 2, none⟩ (.slice (some ⟨g5, 0, none⟩) (sV kk) c5)).setCell ⟨pb, c * 2 + 1, none⟩ (.int .i64 n')).drew = U2 at *
      go_wp2_with fail
      refine bodyPost_ret (v := .tuple #[.int .i64 v, .int .i64 0]) (by simp [results, Tryz.results47, go_sem]) rfl ⟨rfl, ?_⟩
      exact HFn.out

/-- refused: the kind -/
theorem rsymbol_kind {w : World} {x : Nat} {kk c v : Int} (hk : kk < 0 ∨ 32 ≤ kk) : Calls Tryz.prog 47 #[.pointer (some ⟨x, 0, none⟩), .int .i64 kk, .int .i64 c, .int .i64 v] w fun e w' => e = .returned (.tuple #[.int .i64 0, .int .i64 41]) ∧ Below w.heap.size w w' := by
  go_enter Tryz.func47, Tryz.ntmps47
  go_wp2_with fail
  refine (rshape_no hk).mono ?_
  rintro e w1 ⟨rfl, hb1⟩
  have HB : Hid (Below w.heap.size w w1) := hb1
  clear hb1
  go_wp2_with fail
  refine bodyPost_ret (v := .tuple #[.int .i64 0, .int .i64 41]) (by simp [results, Tryz.results47, go_sem]) rfl ⟨rfl, HB.out⟩
set_option maxHeartbeats 2000000 in
/-- refused: the context, or the value -/
theorem rsymbol_arg {w : World} {x xe : Nat} {kk : Nat} {c v : Int} (hx : w.cell? ⟨x, 0, none⟩ = some (.pointer (some ⟨xe, 0, none⟩))) (hlt : x < w.heap.size) (hk : kk < 32) (h : c < 0 ∨ (sC kk : Int) ≤ c ∨ v < 0 ∨ (sV kk : Int) ≤ v) : Calls Tryz.prog 47 #[.pointer (some ⟨x, 0, none⟩), .int .i64 kk, .int .i64 c, .int .i64 v] w fun e w' => e = .returned (.tuple #[.int .i64 0, .int .i64 2]) ∧ Below w.heap.size w w' := by
  by_cases h1 : c < 0
  · go_enter Tryz.func47, Tryz.ntmps47
    go_wp2_with fail
    refine (rshape_ok hk).mono ?_
    rintro e w1 ⟨rfl, hb1⟩
    have HB : Hid (Below w.heap.size w w1) := hb1
    clear hb1
    go_wp2_with fail
    refine bodyPost_ret (v := .tuple #[.int .i64 0, .int .i64 2]) (by simp [results, Tryz.results47, go_sem]) rfl ⟨rfl, HB.out⟩
  · by_cases h2 : (sC kk : Int) ≤ c
    · go_enter Tryz.func47, Tryz.ntmps47
      go_wp2_with fail
      refine (rshape_ok hk).mono ?_
      rintro e w1 ⟨rfl, hb1⟩
      have HB : Hid (Below w.heap.size w w1) := hb1
      clear hb1
      go_wp2_with fail
      refine bodyPost_ret (v := .tuple #[.int .i64 0, .int .i64 2]) (by simp [results, Tryz.results47, go_sem]) rfl ⟨rfl, HB.out⟩
    · by_cases h3 : v < 0
      · go_enter Tryz.func47, Tryz.ntmps47
        go_wp2_with fail
        refine (rshape_ok hk).mono ?_
        rintro e w1 ⟨rfl, hb1⟩
        have HB : Hid (Below w.heap.size w w1) := hb1
        have q0 : w1.cell? ⟨x, 0, none⟩ = some (.pointer (some ⟨xe, 0, none⟩)) := by rw [newCell hb1 _ _ hlt]; exact hx
        clear hb1 hx
        go_wp2_with fail
        refine bodyPost_ret (v := .tuple #[.int .i64 0, .int .i64 2]) (by simp [results, Tryz.results47, go_sem]) rfl ⟨rfl, HB.out⟩
      · have h4 : (sV kk : Int) ≤ v := by omega
        go_enter Tryz.func47, Tryz.ntmps47
        go_wp2_with fail
        refine (rshape_ok hk).mono ?_
        rintro e w1 ⟨rfl, hb1⟩
        have HB : Hid (Below w.heap.size w w1) := hb1
        have q0 : w1.cell? ⟨x, 0, none⟩ = some (.pointer (some ⟨xe, 0, none⟩)) := by rw [newCell hb1 _ _ hlt]; exact hx
        clear hb1 hx
        go_wp2_with fail
        refine bodyPost_ret (v := .tuple #[.int .i64 0, .int .i64 2]) (by simp [results, Tryz.results47, go_sem]) rfl ⟨rfl, HB.out⟩

end Go.Proofs.YtkmnpechhdendaaGreatDoor

namespace Go.Proofs.YtkmnpechhdendaaGreatDoor
open Go.RowKit L3

theorem rput_f {w : World} {lo x bt cT : Nat} {B : Nat → Prop} {xe : Nat} {d : Value} {S : Sx} {ad : Bool} {n : Int} {T g k : Nat} (h : FW w lo x bt cT B xe d S ad n T g k) (hkb : k ≤ 1099511626000) (pa pe : Nat) (h1 : pa < pe) (h2 : pe ≤ 32768) {ep : Nat × Nat × Nat} (he : ep = L2.ePut T g k pa pe) :
    Calls Tryz.prog 75 #[.pointer (some ⟨xe, 0, none⟩), .int .u32 pa, .int .u32 pe] w fun e w' => e = .returned (.int .i64 0) ∧ StF w w' lo x (Of x B xe d) S ad n ep.1 ep.2.1 ep.2.2 := by
  refine (L2.rput_yes h.en h.ev hkb pa pe h1 h2).mono ?_
  rintro e w' ⟨rfl, d', h3, h4⟩
  rw [← he] at h3
  obtain ⟨h5, h6⟩ := h.eng h4 h3 (by rw [he]; exact (L2.ePut_ok h.ev h1 h2).1)
  exact ⟨rfl, _, ⟨bt, cT, B, xe, d', h5, rfl⟩, h6⟩
structure BfI (w : World) (lo x : Nat) (O : Nat → Prop) (S : Sx) (ad : Bool) (cn : Int) (T g k v n : Nat) (s i : Value) (wr : World) : Prop where
  ex : ∃ (j : Nat) (O' : Nat → Prop), j ≤ n ∧ i = .int .i64 ((n : Int) - 1 - (j : Int)) ∧ s = .int .i64 ((v / 2 ^ (n - j) : Nat) : Int) ∧ Fw wr lo x O' S ad cn (eBs T g k v n j).1 (eBs T g k v n j).2.1 (eBs T g k v n j).2.2 ∧ Trn O O' w wr

set_option maxRecDepth 100000 in
set_option maxHeartbeats 4000000 in
theorem rbits_f {w : World} {lo x : Nat} {O : Nat → Prop} {S : Sx} {ad : Bool} {cn : Int} {T g k : Nat} (h : Fw w lo x O S ad cn T g k) (hkb : k ≤ 1099511625000) (hn0 : 0 ≤ cn) (hn1 : cn ≤ 1152921504606846976) {v n P : Nat} (hn : n ≤ 30) (hP : P = 2 ^ n) (hv : v < P) :
    Calls Tryz.prog 50 #[.pointer (some ⟨x, 0, none⟩), .int .i64 n, .int .i64 v] w fun e w' => e = .returned (.tuple #[.int .i64 v, .int .i64 0]) ∧ StF w w' lo x O S ad (cn + n) (eBs T g k v n n).1 (eBs T g k v n n).2.1 (eBs T g k v n n).2.2 := by
  have HF : Hid (Fw w lo x O S ad cn T g k) := h
  have HEv : Hid (L2.Ev T g k) := h.ev
  have q0 : ∃ xe, w.cell? ⟨x, 0, none⟩ = some (.pointer (some ⟨xe, 0, none⟩)) := by obtain ⟨_, _, _, xe, _, h, _⟩ := h; exact ⟨xe, h.c0⟩
  obtain ⟨xe0, q0⟩ := q0
  have hp30 : P ≤ 2 ^ 30 := by rw [hP]; exact Nat.pow_le_pow_right (by omega) hn
  have hP1 : (1 : Int) * 2 ^ n = (P : Int) := by rw [hP]; simp
  have b0 : ¬ (n : Int) < 0 := by omega
  have b1 : ¬ (30 : Int) < (n : Int) := by omega
  have b2 : ¬ (v : Int) < 0 := by omega
  have b3 : ¬ (P : Int) ≤ (v : Int) := by omega
  have b4 : (n : Int) ≤ 30 := by omega
  have b7 : ¬ P ≤ v := by omega
  have b5 : (P : Int) ≤ 1073741824 := by omega
  have b6 : (0 : Int) ≤ (P : Int) := by omega
  have HV : Hid (v < 1073741824) := by show _ < _; omega
  have HVn : Hid (v < 2 ^ n) := by show _ < _; rw [← hP]; exact hv
  have HN : Hid (n ≤ 30) := hn
  clear h hp30 hP hv hn
  go_enter Tryz.func50, Tryz.ntmps50
  go_wp2_with fail
  go_loopw [8, 9] (fun s i wr => BfI w lo x O S ad cn T g k v n s i wr) (fun _ i _ => (intOf i + 1).toNat)
  case atStart =>
    refine ⟨0, O, by omega, by go_num, ?_, by rw [eBs_zero]; exact HF.out, Trn.of (Below.refl _ _)⟩
    rw [Nat.sub_zero, Nat.div_eq_of_lt HVn.out]; rfl
  case round =>
    obtain ⟨j, O', hj, rfl, rfl, hf, ht⟩ := hrel
    by_cases hlt : j < n
    · obtain ⟨m, hm⟩ : ∃ m, m = n - 1 - j := ⟨_, rfl⟩
      have e1 : (n : Int) - 1 - (j : Int) = (m : Int) := by omega
      rw [e1]
      have m0 : (0 : Int) ≤ (m : Int) := by omega
      have m1 : (m : Int) < 64 := by omega
      have m2 : ¬ (m : Int) < 0 := by omega
      obtain ⟨vm, hvmd⟩ : ∃ vm, vm = v / 2 ^ m := ⟨_, rfl⟩
      have e2 : (v : Int) / 2 ^ m = (vm : Int) := by rw [hvmd]; simp
      have hvm : vm ≤ v := by rw [hvmd]; exact Nat.div_le_self _ _
      have hbit : vm % 2 = bitA v n j := by rw [hvmd, hm]; rfl
      have e3 : (vm : Int).tmod 2 = ((bitA v n j : Nat) : Int) := by rw [Int.tmod_eq_emod_of_nonneg (by omega)]; omega
      have e3b : (vm : Int) % 2 = ((bitA v n j : Nat) : Int) := by omega
      have hhalf := half_step v n j hlt
      have hnm : v / 2 ^ (n - j) ≤ v := Nat.div_le_self _ _
      have hb2 := bitA_lt v n j
      have e5 : ((v / 2 ^ (n - j) : Nat) : Int) * 2 + ((bitA v n j : Nat) : Int) = ((v / 2 ^ (n - (j + 1)) : Nat) : Int) := by omega
      have n0 : (0 : Int) ≤ ((v / 2 ^ (n - j) : Nat) : Int) := by omega
      have n1 : ((v / 2 ^ (n - j) : Nat) : Int) ≤ 1073741824 := by have := HV.out; omega
      have n2 : (vm : Int) ≤ 1073741824 := by have := HV.out; omega
      have n3 : (0 : Int) ≤ (vm : Int) := by omega
      have n4 : ((bitA v n j : Nat) : Int) < 2 := by omega
      have n5 : (0 : Int) ≤ ((bitA v n j : Nat) : Int) := by omega
      have n6 : ((v / 2 ^ (n - (j + 1)) : Nat) : Int) ≤ 2147483648 := by have := HV.out; have := Nat.div_le_self v (2 ^ (n - (j + 1))); omega
      obtain ⟨pa, ha⟩ : ∃ pa, pa = 16384 * bitA v n j := ⟨_, rfl⟩
      obtain ⟨pe, he⟩ : ∃ pe, pe = pa + 16384 := ⟨_, rfl⟩
      have HPa : Hid (((bitA v n j : Nat) : Int) * 16384 = (pa : Int) ∧ (((bitA v n j : Nat) : Int) + 1) * 16384 = (pe : Int)) := ⟨by omega, by omega⟩
      have HSt : Hid (eBs T g k v n (j + 1) = L2.ePut (eBs T g k v n j).1 (eBs T g k v n j).2.1 (eBs T g k v n j).2.2 pa pe) := eBs_succ T g k v n j pa pe ha he
      obtain ⟨bt, cT, B, xe, d, hf, rfl⟩ := hf
      have q1 := hf.c0
      have HCall : Hid (Calls Tryz.prog 75 #[.pointer (some ⟨xe, 0, none⟩), .int .u32 pa, .int .u32 pe] wr fun e w' => e = .returned (.int .i64 0) ∧ StF wr w' lo x (Of x B xe d) S ad cn (eBs T g k v n (j + 1)).1 (eBs T g k v n (j + 1)).2.1 (eBs T g k v n (j + 1)).2.2) := rput_f hf (by have := (eBs_ok HEv.out v n j).2; have := HN.out; omega) pa pe (by omega) (by omega) HSt.out
      have HTr : Hid (Trn O (Of x B xe d) w wr) := ht
      have HJ : Hid (j < n ∧ (m : Int) - 1 = (n : Int) - 1 - ((j + 1 : Nat) : Int)) := ⟨hlt, by omega⟩
      have HQ3 : Hid (((v / 2 ^ (n - j) : Nat) : Int) * 2 + ((bitA v n j : Nat) : Int) = ((v / 2 ^ (n - (j + 1)) : Nat) : Int)) := e5
      generalize bitA v n j = bb at *
      generalize v / 2 ^ (n - j) = q1v at *
      generalize hq3 : v / 2 ^ (n - (j + 1)) = q3 at *
      have HQe : Hid (v / 2 ^ (n - (j + 1)) = q3) := hq3
      clear hf ht hm hbit hhalf hnm hvm ha he hq3 hb2 hlt hj e1 hvmd
      go_wp2_with fail
      rw [HPa.out.1, HPa.out.2]
      refine HCall.out.mono ?_
      rintro e w3 ⟨rfl, O3, hf3, ht3⟩
      have HF3 : Hid (Fw w3 lo x O3 S ad cn (eBs T g k v n (j + 1)).1 (eBs T g k v n (j + 1)).2.1 (eBs T g k v n (j + 1)).2.2) := hf3
      have HT3 : Hid (Trn O O3 w w3) := HTr.out.trans ht3
      clear hf3 ht3 q1
      go_wp2_with fail
      have hlt := HJ.out
      go_roundw
      case rel => exact ⟨⟨j + 1, O3, by omega, by rw [← hlt.2], by rw [HQe.out], HF3.out, HT3.out⟩⟩
      case measure => simp [intOf]
    · obtain rfl : j = n := by omega
      have e1 : (j : Int) - 1 - (j : Int) = -1 := by omega
      rw [e1]
      obtain ⟨bt, cT, B, xe, d, hf, rfl⟩ := hf
      have q4 := hf.c4
      have q5 := hf.th
      have HFin : Hid (StF w (wr.setCell ⟨x, 4, none⟩ (.int .i64 (cn + (j : Int)))) lo x O S ad (cn + j) (eBs T g k v j j).1 (eBs T g k v j j).2.1 (eBs T g k v j j).2.2) := ⟨_, ⟨bt, cT, B, xe, d, hf.count, rfl⟩, ht.trans (Trn.set _ _ (Or.inl rfl))⟩
      have e0 : v / 2 ^ (j - j) = v := by rw [Nat.sub_self, Nat.pow_zero, Nat.div_one]
      rw [e0]
      clear hf ht e0 e1
      go_wp2_with fail
      refine bodyPost_ret (v := .tuple #[.int .i64 v, .int .i64 0]) (by simp [results, Tryz.results50, go_sem]) rfl ⟨rfl, ?_⟩
      exact HFin.out
set_option maxHeartbeats 2000000 in
/-- refused -/
theorem rbits_arg {w : World} {x xe : Nat} {n v : Int} (hx : w.cell? ⟨x, 0, none⟩ = some (.pointer (some ⟨xe, 0, none⟩))) (h : n < 0 ∨ 30 < n ∨ v < 0 ∨ ((2 ^ n.toNat : Nat) : Int) ≤ v) : Calls Tryz.prog 50 #[.pointer (some ⟨x, 0, none⟩), .int .i64 n, .int .i64 v] w fun e w' => e = .returned (.tuple #[.int .i64 0, .int .i64 2]) ∧ w' = w := by
  by_cases h1 : n < 0
  · go_enter Tryz.func50, Tryz.ntmps50
    go_wp2_with fail
    refine bodyPost_ret (v := .tuple #[.int .i64 0, .int .i64 2]) (by simp [results, Tryz.results50, go_sem]) rfl ⟨rfl, rfl⟩
  · by_cases h2 : 30 < n
    · go_enter Tryz.func50, Tryz.ntmps50
      go_wp2_with fail
      refine bodyPost_ret (v := .tuple #[.int .i64 0, .int .i64 2]) (by simp [results, Tryz.results50, go_sem]) rfl ⟨rfl, rfl⟩
    · by_cases h3 : v < 0
      · go_enter Tryz.func50, Tryz.ntmps50
        go_wp2_with fail
        refine bodyPost_ret (v := .tuple #[.int .i64 0, .int .i64 2]) (by simp [results, Tryz.results50, go_sem]) rfl ⟨rfl, rfl⟩
      · obtain ⟨m, rfl⟩ : ∃ m : Nat, n = (m : Int) := ⟨n.toNat, by omega⟩
        have hm : m ≤ 30 := by omega
        obtain ⟨P, hP⟩ : ∃ P, P = 2 ^ m := ⟨_, rfl⟩
        have h5 : (P : Int) ≤ v := by have h' : ((2 ^ (m : Int).toNat : Nat) : Int) ≤ v := by omega
                                      rw [Int.toNat_natCast, ← hP] at h'; exact h'
        have hp30 : P ≤ 2 ^ 30 := by rw [hP]; exact Nat.pow_le_pow_right (by omega) hm
        have hP1 : (1 : Int) * 2 ^ m = (P : Int) := by rw [hP]; simp
        have b5 : (P : Int) ≤ 1073741824 := by omega
        have b6 : (0 : Int) ≤ (P : Int) := by omega
        have b4 : (m : Int) < 64 := by omega
        have b8 : (0 : Int) ≤ (m : Int) := by omega
        clear hP hp30 h hm
        go_enter Tryz.func50, Tryz.ntmps50
        go_wp2_with fail
        refine bodyPost_ret (v := .tuple #[.int .i64 0, .int .i64 2]) (by simp [results, Tryz.results50, go_sem]) rfl ⟨rfl, rfl⟩

set_option maxHeartbeats 1000000 in
theorem rbytes_f {w : World} {lo x : Nat} {O : Nat → Prop} {S : Sx} {ad : Bool} {cn : Int} {T g k : Nat} (h : Fw w lo x O S ad cn T g k) (hkb : k ≤ 1099511626000) :
    Calls Tryz.prog 18 #[.pointer (some ⟨x, 0, none⟩)] w fun e w' => ∃ v, e = .returned (.tuple #[v, .int .i64 0]) ∧ L2.ByNew w w' v T k := by
  obtain ⟨bt, cT, B, xe, d, h, rfl⟩ := h
  have q0 := h.c0
  have HC : Hid (Calls Tryz.prog 57 #[.pointer (some ⟨xe, 0, none⟩)] w fun e w' => ∃ v, e = .returned v ∧ L2.ByNew w w' v T k) := L2.rbytes_efs h.en h.ev hkb
  clear h
  go_enter Tryz.func18, Tryz.ntmps18
  go_wp2_with fail
  refine HC.out.mono ?_
  rintro e w3 ⟨v, rfl, hv⟩
  have HV : Hid (L2.ByNew w w3 v T k) := hv
  clear hv
  go_wp2_with fail
  go_ret2
  exact ⟨v, rfl, HV.out⟩

end Go.Proofs.YtkmnpechhdendaaGreatDoor

namespace Go.Proofs.YtkmnpechhdendaaGreatDoor
open Go.RowKit L3

theorem ef_base {w : World} {B B' x low g : Nat} (h : L2.Ef w B x (.slice none 0 0) [] low g) (hb : B' ≤ x) : L2.Ef w B' x (.slice none 0 0) [] low g :=
  ⟨h.data, World.ownsRow_nil _ _ _ _, h.apart, h.low, h.rng, h.thaw0, h.thaw1, h.thaw2, ⟨hb, h.lies.2⟩, h.byt⟩
theorem fw_new {w v : World} {bt cT xe : Nat} {B : Nat → Prop} {S : Sx} {ad : Bool} (hw : Below w.heap.size w v) (hu : Hu v w.heap.size bt B S) (he : L2.Ef v w.heap.size xe (.slice none 0 0) [] 0 4294967295) (hx : ¬ B xe) :
    Fw (v.alloc (.cells #[.pointer (some ⟨xe, 0, none⟩), .pointer none, .slice (some ⟨bt, 0, none⟩) 32 cT, .bool ad, .int .i64 0] 46)) w.heap.size v.heap.size (Of v.heap.size B xe (.slice none 0 0)) S ad 0 0 4294967295 0 := by
  have hb : Below v.heap.size v (v.alloc (.cells #[.pointer (some ⟨xe, 0, none⟩), .pointer none, .slice (some ⟨bt, 0, none⟩) 32 cT, .bool ad, .int .i64 0] 46)) := from_alloc _ _
  have hen : L2.EfS v w.heap.size xe (.slice none 0 0) 0 4294967295 0 := ⟨[], 0, he, rfl, by simp [L2.pre], by omega⟩
  refine ⟨bt, cT, B, xe, .slice none 0 0, ⟨by simp [go_sem], by simp [go_sem], by simp [go_sem], by simp [go_sem], by simp [go_sem], by simp, hw.size, hu.to hb, hen.below hb, L2.Ev.first, fun e => ?_, ⟨?_, by simp [Value.ownBlock]⟩, hx, fun b e => by simp [Value.ownBlock] at e⟩, rfl⟩
  · have := hu.lt e; omega
  · have := he.lies.2; omega
def FwN (w w' : World) (e : Ending) (S : Sx) (ad : Bool) : Prop := ∃ x O, e = .returned (.tuple #[.pointer (some ⟨x, 0, none⟩), .int .i64 0]) ∧ Fw w' w.heap.size x O S ad 0 0 4294967295 0 ∧ Below w.heap.size w w'

set_option maxRecDepth 100000 in
set_option maxHeartbeats 2000000 in
theorem rwriter_u {w : World} {lo bt cT : Nat} {B : Nat → Prop} {S : Sx} {ad : Bool} (h : Hu w lo bt B S) :
    Calls Tryz.prog 8 #[.agg #[.slice (some ⟨bt, 0, none⟩) 32 cT], .bool ad] w fun e w' => FwN w w' e S ad := by
  obtain ⟨q, K, hs, ho, hd, rfl, rfl⟩ := h
  have HB : Hid (Below w.heap.size w (w.alloc (.cells #[.slice (some ⟨bt, 0, none⟩) 32 cT] 29))) := from_alloc _ _
  have c0 : (w.alloc (.cells #[.slice (some ⟨bt, 0, none⟩) 32 cT] 29)).cell? ⟨w.heap.size, 0, none⟩ = some (.slice (some ⟨bt, 0, none⟩) 32 cT) := by simp [go_sem]
  have HZ : Hid (w.heap.size < (w.alloc (.cells #[.slice (some ⟨bt, 0, none⟩) 32 cT] 29)).heap.size) := by show _ < _; simp
  have HSt : Hid (∀ v, Below w.heap.size w v → Su v lo bt q K) := fun v hv => hs.to hv
  have HO : Hid (Okk K) := ho
  clear hs ho hd
  go_enter Tryz.func8, Tryz.ntmps8
  go_wp2_with fail
  generalize (w.alloc (.cells #[.slice (some ⟨bt, 0, none⟩) 32 cT] 29)) = V at *
  refine (rscheck_u (HSt.out _ HB.out) HO.out).mono ?_
  rintro e w1 ⟨rfl, hb1⟩
  have HB1 : Hid (Below w.heap.size w w1) := below_to HB.out hb1
  have d0 : w1.cell? ⟨w.heap.size, 0, none⟩ = some (.slice (some ⟨bt, 0, none⟩) 32 cT) := by rw [newCell hb1 _ _ HZ.out]; exact c0
  have HZ1 : Hid (w.heap.size < w1.heap.size) := Nat.lt_of_lt_of_le HZ.out hb1.size
  clear hb1 c0
  go_wp2_with fail
  have HK : Hid (∀ v : World, Below w1.heap.size w1 v → v.cell? ⟨w.heap.size, 0, none⟩ = some (.slice (some ⟨bt, 0, none⟩) 32 cT)) := fun v hv => by rw [newCell hv _ _ HZ1.out]; exact d0
  have HCp : Hid (∀ v : World, Below w1.heap.size w1 v → Calls Tryz.prog 34 #[.agg #[.slice (some ⟨bt, 0, none⟩) 32 cT]] v fun e w' => Hun v w' e (ab K)) := fun v hv => rcopy_u (HSt.out _ (below_to HB1.out hv)) HO.out
  have hbd : Below w1.heap.size w1 w1.drew := below_drew (Below.refl _ _)
  have HA : Hid (∀ wA wB b2 c2 B2, L2.Ef wA w1.drew.heap.size w1.drew.heap.size (.slice none 0 0) [] 0 4294967295 → Below w1.drew.heap.size w1.drew wA → Hu wB wA.heap.size b2 B2 (ab K) → Below wA.heap.size wA wB → FwN w (wB.alloc (.cells #[.pointer (some ⟨w1.drew.heap.size, 0, none⟩), .pointer none, .slice (some ⟨b2, 0, none⟩) 32 c2, .bool ad, .int .i64 0] 46)) (.returned (.tuple #[.pointer (some ⟨wB.heap.size, 0, none⟩), .int .i64 0])) (ab K) ad) := fun wA wB b2 c2 B2 h1 h2 h3 h4 => by
    have z1 := HZ1.out
    have z2 := h2.size
    have z3 : w1.drew.heap.size = w1.heap.size := rfl
    have hb : Below w.heap.size w wB := below_to (below_to (below_to HB1.out hbd) h2) h4
    exact ⟨wB.heap.size, _, rfl, fw_new hb (h3.weak (by omega)) (ef_base (h1.below h4) (by omega)) (fun e => by have := h3.ge e; have := h1.lies.2; omega), to_alloc hb _⟩
  have HB2 : Hid (∀ wA wB b2 c2 B2, Hu wB w1.drew.heap.size b2 B2 (ab K) → Below w1.drew.heap.size w1.drew wB → L2.Ef wA wB.heap.size wB.heap.size (.slice none 0 0) [] 0 4294967295 → Below wB.heap.size wB wA → FwN w (wA.alloc (.cells #[.pointer (some ⟨wB.heap.size, 0, none⟩), .pointer none, .slice (some ⟨b2, 0, none⟩) 32 c2, .bool ad, .int .i64 0] 46)) (.returned (.tuple #[.pointer (some ⟨wA.heap.size, 0, none⟩), .int .i64 0])) (ab K) ad) := fun wA wB b2 c2 B2 h3 h4 h1 h2 => by
    have z1 := HZ1.out
    have z2 := h4.size
    have z3 : w1.drew.heap.size = w1.heap.size := rfl
    have hb : Below w.heap.size w wA := below_to (below_to (below_to HB1.out hbd) h4) h2
    exact ⟨wA.heap.size, _, rfl, fw_new hb ((h3.to h2).weak (by omega)) (ef_base h1 (by omega)) (fun e => by have := h3.lt e; omega), to_alloc hb _⟩
  go_region_held3 (fun v => v.cell? ⟨w.heap.size, 0, none⟩ = some (.slice (some ⟨bt, 0, none⟩) 32 cT))
    ((exact HK.out _ (by first | assumption | (refine to_alloc ?_ _; assumption))))
    (first
      | (go_at_call 33; refine (L2.rnew_any _).mono ?_; rintro e wA ⟨rfl, heA, hbA⟩; have hzA := below_to (by assumption) hbA)
      | (go_at_call 34; refine (HCp.out _ (by assumption)).mono ?_; rintro e wB ⟨b2, c2, B2, rfl, hs2, hbB⟩; have hzB := below_to (by assumption) hbB))
  all_goals
    go_wp2_with fail
    refine bodyPost_ret (v := .tuple #[.pointer (some ⟨_, 0, none⟩), .int .i64 0]) (by simp [results, Tryz.results8, go_sem]; rfl) rfl ?_
    first
      | exact HA.out _ _ _ _ _ heA hbA hs2 hbB
      | exact HB2.out _ _ _ _ _ hs2 hbB heA hbA

end Go.Proofs.YtkmnpechhdendaaGreatDoor

namespace Go.Proofs.YtkmnpechhdendaaGreatDoor
open Go.RowKit L3

/-- the document's coder that reads: in block x, driven by the decoder in block xd -/
structure FR (w : World) (lo x bt cT : Nat) (B : Nat → Prop) (xd b : Nat) (zs : List Nat) (S : Sx) (ad : Bool) (n : Int) (p c g : Nat) : Prop where
  c0 : w.cell? ⟨x, 0, none⟩ = some (.pointer none)
  c1 : w.cell? ⟨x, 1, none⟩ = some (.pointer (some ⟨xd, 0, none⟩))
  c2 : w.cell? ⟨x, 2, none⟩ = some (.slice (some ⟨bt, 0, none⟩) 32 cT)
  c3 : w.cell? ⟨x, 3, none⟩ = some (.bool ad)
  c4 : w.cell? ⟨x, 4, none⟩ = some (.int .i64 n)
  th : w.frozen? ⟨x, 4, none⟩ = false
  low : x < w.heap.size
  xlo : lo ≤ x
  hu : Hu w lo bt B S
  df : L2.Df w xd b zs p c g
  dk : L2.Dk c g
  dlo : lo ≤ xd
  blt : zs ≠ [] → lo ≤ b ∧ b < w.heap.size
  bx : ¬ B x
  ex : x ≠ xd ∧ (zs ≠ [] → x ≠ b)
  eb : ¬ B xd ∧ (zs ≠ [] → ¬ B b)
def Or (x : Nat) (B : Nat → Prop) (xd b : Nat) (zs : List Nat) (y : Nat) : Prop := y = x ∨ (y = xd ∨ (zs ≠ [] ∧ y = b)) ∨ B y
theorem FR.ke {P : Nat → Prop} {w w' : World} {lo x bt cT : Nat} {B : Nat → Prop} {xd b : Nat} {zs : List Nat} {S : Sx} {ad : Bool} {n : Int} {p c g : Nat} (h : FR w lo x bt cT B xd b zs S ad n p c g) (hk : Ke P w w') (hP : ∀ y, P y → ¬ Or x B xd b zs y) : FR w' lo x bt cT B xd b zs S ad n p c g := by
  have nx : ¬ P x := fun e => hP x e (Or.inl rfl)
  exact ⟨by rw [hk.cell _ _ h.low nx]; exact h.c0, by rw [hk.cell _ _ h.low nx]; exact h.c1, by rw [hk.cell _ _ h.low nx]; exact h.c2, by rw [hk.cell _ _ h.low nx]; exact h.c3, by rw [hk.cell _ _ h.low nx]; exact h.c4, by rw [hk.frozen _ _ h.low nx]; exact h.th, Nat.lt_of_lt_of_le h.low hk.size, h.xlo, h.hu.ke hk (fun b hb e => hP b hb (Or.inr (Or.inr e))), h.df.carry (hk.block xd h.df.low (fun e => hP xd e (Or.inr (Or.inl (Or.inl rfl))))) (fun h0 hl => hk.block b hl (fun e => hP b e (Or.inr (Or.inl (Or.inr ⟨h0, rfl⟩))))) hk.size, h.dk, h.dlo, fun h0 => ⟨(h.blt h0).1, Nat.lt_of_lt_of_le (h.blt h0).2 hk.size⟩, h.bx, h.ex, h.eb⟩
theorem FR.to {w w' : World} {lo x bt cT : Nat} {B : Nat → Prop} {xd b : Nat} {zs : List Nat} {S : Sx} {ad : Bool} {n : Int} {p c g : Nat} (h : FR w lo x bt cT B xd b zs S ad n p c g) (hb : Below w.heap.size w w') : FR w' lo x bt cT B xd b zs S ad n p c g := h.ke (P := fun _ => False) (Ke.of hb) (fun _ e => e.elim)
theorem FR.lt {w : World} {lo x bt cT : Nat} {B : Nat → Prop} {xd b : Nat} {zs : List Nat} {S : Sx} {ad : Bool} {n : Int} {p c g : Nat} (h : FR w lo x bt cT B xd b zs S ad n p c g) {y : Nat} (hy : Or x B xd b zs y) : lo ≤ y ∧ y < w.heap.size := by
  rcases hy with rfl | (rfl | ⟨h0, rfl⟩) | e
  · exact ⟨h.xlo, h.low⟩
  · exact ⟨h.dlo, h.df.low⟩
  · exact h.blt h0
  · exact ⟨h.hu.ge e, h.hu.lt e⟩
/-- the decoder goes on -/
theorem FR.eng {w w' : World} {lo x bt cT : Nat} {B : Nat → Prop} {xd b : Nat} {zs : List Nat} {S : Sx} {ad : Bool} {n : Int} {p c g p' c' g' : Nat} (h : FR w lo x bt cT B xd b zs S ad n p c g) (hk : L2.Kp xd w w') (hd : L2.Df w' xd b zs p' c' g') (hv : L2.Dk c' g') : FR w' lo x bt cT B xd b zs S ad n p' c' g' ∧ Trn (Or x B xd b zs) (Or x B xd b zs) w w' := by
  have hke := ke_of_kp hk
  have nx : ¬ x = xd := h.ex.1
  exact ⟨⟨by rw [hke.cell _ _ h.low nx]; exact h.c0, by rw [hke.cell _ _ h.low nx]; exact h.c1, by rw [hke.cell _ _ h.low nx]; exact h.c2, by rw [hke.cell _ _ h.low nx]; exact h.c3, by rw [hke.cell _ _ h.low nx]; exact h.c4, by rw [hke.frozen _ _ h.low nx]; exact h.th, Nat.lt_of_lt_of_le h.low hke.size, h.xlo, h.hu.ke hke (fun y hy e => by subst hy; exact h.eb.1 e), hd, hv, h.dlo, fun h0 => ⟨(h.blt h0).1, Nat.lt_of_lt_of_le (h.blt h0).2 hke.size⟩, h.bx, h.ex, h.eb⟩, ⟨⟨hke.os, hke.tape, hke.output, hke.size, fun i hi hP => hke.block i hi (fun e => hP (Or.inr (Or.inl (Or.inl e))))⟩, fun _ e => Or.inl e⟩⟩
theorem FR.count {w : World} {lo x bt cT : Nat} {B : Nat → Prop} {xd b : Nat} {zs : List Nat} {S : Sx} {ad : Bool} {n m : Int} {p c g : Nat} (h : FR w lo x bt cT B xd b zs S ad n p c g) : FR (w.setCell ⟨x, 4, none⟩ (.int .i64 m)) lo x bt cT B xd b zs S ad m p c g := by
  have oth : ∀ j, j ≠ 4 → (w.setCell ⟨x, 4, none⟩ (.int .i64 m)).cell? ⟨x, j, none⟩ = w.cell? ⟨x, j, none⟩ := fun j hj => World.cell?_setCell_other _ _ _ _ (fun e => hj (by simp only [Addr.mk.injEq, true_and, and_true] at e; exact e.symm))
  exact ⟨by rw [oth 0 (by omega)]; exact h.c0, by rw [oth 1 (by omega)]; exact h.c1, by rw [oth 2 (by omega)]; exact h.c2, by rw [oth 3 (by omega)]; exact h.c3, World.cell?_setCell_same _ _ _ h.c4, by simpa using h.th, by rw [setCell_size]; exact h.low, h.xlo, h.hu.ke (P := fun b => b = x) (Ke.set _ _ _ _ rfl) (fun b e => by subst e; exact h.bx), h.df.carry (Below.heap_setCell _ _ _ _ (fun e => h.ex.1 e.symm)) (fun h0 _ => Below.heap_setCell _ _ _ _ (fun e => h.ex.2 h0 e.symm)) (by rw [setCell_size]; exact Nat.le_refl _), h.dk, h.dlo, fun h0 => by rw [setCell_size]; exact h.blt h0, h.bx, h.ex, h.eb⟩

/-- by its own blocks and plain numbers -/
structure Fr (w : World) (lo x : Nat) (O : Nat → Prop) (S : Sx) (ad : Bool) (n : Int) (zs : List Nat) (p c g : Nat) : Prop where
  ex : ∃ bt cT B xd b, FR w lo x bt cT B xd b zs S ad n p c g ∧ O = Or x B xd b zs
theorem Fr.ke {P : Nat → Prop} {w w' : World} {lo x : Nat} {O : Nat → Prop} {S : Sx} {ad : Bool} {n : Int} {zs : List Nat} {p c g : Nat} (h : Fr w lo x O S ad n zs p c g) (hk : Ke P w w') (hP : ∀ y, P y → ¬ O y) : Fr w' lo x O S ad n zs p c g := by
  obtain ⟨bt, cT, B, xd, b, h, rfl⟩ := h; exact ⟨bt, cT, B, xd, b, h.ke hk hP, rfl⟩
theorem Fr.to {w w' : World} {lo x : Nat} {O : Nat → Prop} {S : Sx} {ad : Bool} {n : Int} {zs : List Nat} {p c g : Nat} (h : Fr w lo x O S ad n zs p c g) (hb : Below w.heap.size w w') : Fr w' lo x O S ad n zs p c g := h.ke (P := fun _ => False) (Ke.of hb) (fun _ e => e.elim)
theorem Fr.lt {w : World} {lo x : Nat} {O : Nat → Prop} {S : Sx} {ad : Bool} {n : Int} {zs : List Nat} {p c g : Nat} (h : Fr w lo x O S ad n zs p c g) {y : Nat} (hy : O y) : lo ≤ y ∧ y < w.heap.size := by
  obtain ⟨bt, cT, B, xd, b, h, rfl⟩ := h; exact h.lt hy
/-- what a step leaves -/
def StG (w w' : World) (lo x : Nat) (O : Nat → Prop) (S : Sx) (ad : Bool) (n : Int) (zs : List Nat) (p c g : Nat) : Prop := ∃ O', Fr w' lo x O' S ad n zs p c g ∧ Trn O O' w w'

set_option maxRecDepth 100000 in
set_option maxHeartbeats 8000000 in
theorem rsymbol_g {w : World} {lo x : Nat} {O : Nat → Prop} {S : Sx} {ad : Bool} {n : Int} {zs : List Nat} {p cd g : Nat} (h : Fr w lo x O S ad n zs p cd g) (hqb : p + 2 < 1099511627776) (hn0 : 0 ≤ n) (hn1 : n ≤ 1152921504606846976) {kk c v : Nat} {z : Int} (hk : kk < 32) (hc : c < sC kk) (hf : L3.Fd (tb S kk c).1 (L2.dVal cd g) v) {pa pe : Nat} (hpa : pa = eb (tb S kk c).1 v) (hpe : pe = ee (tb S kk c).1 v) :
    Calls Tryz.prog 47 #[.pointer (some ⟨x, 0, none⟩), .int .i64 kk, .int .i64 c, .int .i64 z] w fun e w' => e = .returned (.tuple #[.int .i64 v, .int .i64 0]) ∧ StG w w' lo x O (upd S ad kk c v) ad (n + 1) zs (L2.dTake zs cd g p pa pe).2.2 (L2.dTake zs cd g p pa pe).1 (L2.dTake zs cd g p pa pe).2.1 := by
  obtain ⟨bt, cT, B, xd, b, h, rfl⟩ := h
  obtain ⟨ep, hep⟩ : ∃ ep, ep = L2.dTake zs cd g p pa pe := ⟨_, rfl⟩
  rw [← hep]
  have HEp : Hid (ep = L2.dTake zs cd g p pa pe) := hep
  have HF : Hid (FR w lo x bt cT B xd b zs S ad n p cd g) := h
  have htk := h.hu.ok.at hk hc
  have HTk : Hid ((tb S kk c).1.length = sV kk ∧ TOk (tb S kk c).1 (tb S kk c).2) := htk
  have hv : v < sV kk := by rw [← htk.1]; exact hf.1
  have hee := eb_ee htk.2 (s := v) (by rw [htk.1]; exact hv)
  have hle := ee_le htk.2 (i := v) (by rw [htk.1]; exact hv)
  have HPE : Hid (pa < pe ∧ pe ≤ 32768) := ⟨by omega, by omega⟩
  have hmay : L2.dMay cd g pa pe := ⟨by rw [hpa]; exact hf.2.1, by rw [hpe]; exact hf.2.2, by omega⟩
  have HMay : Hid (L2.dMay cd g pa pe) := hmay
  have HEv : Hid (L2.Dk ep.1 ep.2.1) := by
    show L2.Dk _ _
    rw [hep]
    have ok := L2.dTake_ok (q := p) h.df.byt hmay h.dk.below h.dk.least h.dk.most
    exact ⟨ok.1, ok.2.1, ok.2.2.1⟩
  have HFi : Hid (∀ u ta tc, Sl u .u16 ta (tb S kk c).1 → Calls Tryz.prog 77 #[.agg #[.slice ta (sV kk) tc, .int .i64 (tb S kk c).2], .int .u32 (L2.dVal cd g : Nat)] u fun e w' => e = .returned (.tuple #[.int .i64 v, .int .i64 0]) ∧ Below u.heap.size u w') := fun u ta tc hs => by
    have := rfind_is (c := tc) hs htk.2 hf
    rw [htk.1] at this
    exact this
  have HVl : Hid (v < sV kk) := hv
  have HBo : Hid (∀ u ta tc, Sl u .u16 ta (tb S kk c).1 → Calls Tryz.prog 74 #[.agg #[.slice ta (sV kk) tc, .int .i64 (tb S kk c).2], .int .i64 v] u fun e w' => e = .returned (.tuple #[.int .u32 pa, .int .u32 pe, .int .i64 0]) ∧ Below u.heap.size u w') := fun u ta tc hs => by
    have := rbounds_ok (c := tc) hs htk.2 (i := v) (by rw [htk.1]; exact hv)
    rw [htk.1] at this
    rw [hpa, hpe]
    exact this
  have HAd : Hid (∀ u ta tc, Sl u .u16 ta (tb S kk c).1 → Calls Tryz.prog 79 #[.agg #[.slice ta (sV kk) tc, .int .i64 (tb S kk c).2], .int .i64 v] u fun e w' => ∃ g4 c4, e = .returned (.tuple #[.agg #[.slice (some ⟨g4, 0, none⟩) (sV kk) c4, .int .i64 (adN (tb S kk c).2)], .int .i64 0]) ∧ Sl w' .u16 (some ⟨g4, 0, none⟩) (L3.ad (tb S kk c).1 (tb S kk c).2 v) ∧ u.heap.size ≤ g4 ∧ Below u.heap.size u w') := fun u ta tc hs => by
    have h := radapt_ok (c := tc) hs htk.2 (s := v) (by rw [htk.1]; exact hv)
    rw [htk.1] at h
    refine h.mono ?_
    rintro e w' ⟨g4, c4, rfl, ho, hb⟩
    rw [ad_len, htk.1] at ho ⊢
    exact ⟨g4, c4, rfl, by have := ho.sl; exact this, ho.lies.1, hb⟩
  have HAl : Hid ((L3.ad (tb S kk c).1 (tb S kk c).2 v).length = sV kk ∧ TOk (L3.ad (tb S kk c).1 (tb S kk c).2 v) (adN (tb S kk c).2)) := ⟨by rw [ad_len]; exact htk.1, ad_ok htk.2 v⟩
  have HUt : Hid (upd S true kk c v = S.set kk ((S.getD kk []).set c (L3.ad (tb S kk c).1 (tb S kk c).2 v, adN (tb S kk c).2))) := upd_true S kk c v
  have HUf : Hid (upd S false kk c v = S) := rfl
  have HTu : Hid (∀ u, FR u lo x bt cT B xd b zs S ad n p cd g → ∃ pb tc cq ta, Tu u lo bt B S kk c pb tc cq ta) := fun u hu => hu.hu.at hk hc
  have b0 : ¬ (c : Int) < 0 := by omega
  have b1 : ¬ (sC kk : Int) ≤ (c : Int) := by omega
  have b4 : 0 ≤ (kk : Int) := by omega
  have b5 : (kk : Int) < 32 := by omega
  have b6 : 0 ≤ (c : Int) := by omega
  have b7 : (c : Int) < (sC kk : Int) := by omega
  clear htk hee hle hpa hpe h hc hv hep hf hmay
  go_enter Tryz.func47, Tryz.ntmps47
  go_wp2_with fail
  refine (rshape_ok hk).mono ?_
  rintro e w1 ⟨rfl, hb1⟩
  have HF1 : Hid (FR w1 lo x bt cT B xd b zs S ad n p cd g) := HF.out.to hb1
  have HT1 : Hid (Trn (Or x B xd b zs) (Or x B xd b zs) w w1) := Trn.of hb1
  clear hb1
  have q0 := HF1.out.c0
  have q2 := HF1.out.c2
  obtain ⟨pb, tc, cq, ta, hta⟩ := HTu.out w1 HF1.out
  have HTa : Hid (Tu w1 lo bt B S kk c pb tc cq ta) := hta
  have p0 := hta.top (fun _ => False) w1 (Ke.refl _ _) (fun _ e => e.elim)
  have p1 := hta.c0 (fun _ => False) w1 (Ke.refl _ _) (fun _ e => e.elim)
  have p2 := hta.c1 (fun _ => False) w1 (Ke.refl _ _) (fun _ e => e.elim)
  generalize hC' : (L3.ad (tb S kk c).1 (tb S kk c).2 v) = C' at *
  generalize hn' : adN (tb S kk c).2 = n' at *
  generalize htn : (tb S kk c).2 = tn at *
  have HTn : Hid ((tb S kk c).2 = tn) := htn
  clear hta hC' hn' htn
  have HB2 : Hid (Below w1.heap.size w1 (w1.alloc (.cells #[.slice ta (sV kk) tc, .int .i64 tn] 71))) := from_alloc _ _
  have HX2 : Hid (∀ u, Ke (Or x B xd b zs) (w1.alloc (.cells #[.slice ta (sV kk) tc, .int .i64 tn] 71)) u → u.cell? ⟨w1.heap.size, 0, none⟩ = some (.slice ta (sV kk) tc) ∧ u.cell? ⟨w1.heap.size, 1, none⟩ = some (.int .i64 tn)) := fun u hu => by
    have hnO : ¬ Or x B xd b zs w1.heap.size := fun e => by have := (HF1.out.lt e).2; omega
    rw [hu.cell _ _ (by simp) hnO, hu.cell _ _ (by simp) hnO]
    simp [go_sem]
  have HF2 : Hid (FR (w1.alloc (.cells #[.slice ta (sV kk) tc, .int .i64 tn] 71)) lo x bt cT B xd b zs S ad n p cd g) := HF1.out.to HB2.out
  have q0b := HF2.out.c0
  have q1b := HF2.out.c1
  go_upto_region 7 with fail
  generalize hw2 : w1.alloc (.cells #[.slice ta (sV kk) tc, .int .i64 tn] 71) = w2 at *
  obtain ⟨s0, s1⟩ := HX2.out w2 (Ke.refl _ _)
  clear q0 q2 p0 p1 p2 hw2
  go_wp2_with fail
  refine (L2.value_df HF2.out.df HF2.out.dk).mono ?_
  rintro e wv ⟨rfl, mv, hmv⟩
  have hbv : Below w2.heap.size w2 wv := by rw [hmv]; exact below_drewN (Below.refl _ _) mv
  have HBv : Hid (Below w2.heap.size w2 wv) := hbv
  have HFv : Hid (FR wv lo x bt cT B xd b zs S ad n p cd g) := HF2.out.to hbv
  clear hmv hbv s0 s1 q0b q1b
  obtain ⟨s0, s1⟩ := HX2.out wv (Ke.of HBv.out)
  generalize hdv : L2.dVal cd g = dv at *
  clear hdv
  go_wp2_with fail
  refine (HFi.out _ _ _ (HTa.out.sl (fun _ => False) _ (Ke.of (below_to HB2.out HBv.out)) (fun _ e => e.elim))).mono ?_
  rintro e wf ⟨rfl, hbf⟩
  have HBf : Hid (Below w2.heap.size w2 wf) := below_to HBv.out hbf
  clear hbf s0 s1
  obtain ⟨s0, s1⟩ := HX2.out wf (Ke.of HBf.out)
  go_wp2_with fail
  refine (HBo.out _ _ _ (HTa.out.sl (fun _ => False) _ (Ke.of (below_to HB2.out HBf.out)) (fun _ e => e.elim))).mono ?_
  rintro e w3 ⟨rfl, hb3⟩
  have HB3 : Hid (Below w2.heap.size w2 w3) := below_to HBf.out hb3
  have HF3 : Hid (FR w3 lo x bt cT B xd b zs S ad n p cd g) := HF2.out.to HB3.out
  have r0 := HF3.out.c0
  have r1 := HF3.out.c1
  clear hb3 s0 s1
  go_wp2_with fail
  refine (L2.rtake_yes HF3.out.df HF3.out.dk hqb pa pe HMay.out).mono ?_
  rintro e w4 ⟨rfl, he4, hk4⟩
  rw [← HEp.out] at he4
  obtain ⟨hf4, ht4⟩ := HF3.out.eng hk4 he4 HEv.out
  have HF4 : Hid (FR w4 lo x bt cT B xd b zs S ad n ep.2.2 ep.1 ep.2.1) := hf4
  have HT4 : Hid (Trn (Or x B xd b zs) (Or x B xd b zs) w w4) := ((HT1.out.to HB2.out).to HB3.out).trans ht4
  have HK4 : Hid (Ke (fun y => y = xd) w1 w4) := Ke.trans (Ke.of (P := fun _ => False) (below_to HB2.out HB3.out)) (ke_of_kp hk4) (fun _ e => e.elim) (fun _ _ e => e)
  obtain ⟨s0, s1⟩ := HX2.out w4 (Ke.trans (Ke.of (P := fun _ => False) HB3.out) ht4.ke (fun _ e => e.elim) (fun _ _ e => e))
  have r3 := HF4.out.c3
  have r4 := HF4.out.c4
  have r5 := HF4.out.th
  clear he4 hk4 hf4 ht4 r0 r1
  cases ad
  · have HFin : Hid (StG w (w4.setCell ⟨x, 4, none⟩ (.int .i64 (n + 1))) lo x (Or x B xd b zs) (upd S false kk c v) false (n + 1) zs ep.2.2 ep.1 ep.2.1) := ⟨_, ⟨bt, cT, B, xd, b, by rw [HUf.out]; exact HF4.out.count, rfl⟩, HT4.out.trans (Trn.set _ _ (Or.inl rfl))⟩
    go_wp2_with fail
    refine bodyPost_ret (v := .tuple #[.int .i64 v, .int .i64 0]) (by simp [results, Tryz.results47, go_sem]) rfl ⟨rfl, ?_⟩
    exact HFin.out
  · have HEB : Hid (∀ y, y = xd → ¬ B y) := fun y e => by subst e; exact HF.out.eb.1
    have HS4 : Hid (Sl w4 .u16 ta (tb S kk c).1) := HTa.out.sl _ w4 HK4.out HEB.out
    go_wp2_with fail
    refine (HAd.out _ _ _ HS4.out).mono ?_
    rintro e w5 ⟨g5, c5, rfl, hs5, hg5, hb5⟩
    have HB6 : Hid (Below w4.heap.size w4 (w5.alloc (.cells #[.slice (some ⟨g5, 0, none⟩) (sV kk) c5, .int .i64 n'] 71))) := to_alloc hb5 _
    have HK6 : Hid (Ke (fun y => y = xd) w1 (w5.alloc (.cells #[.slice (some ⟨g5, 0, none⟩) (sV kk) c5, .int .i64 n'] 71))) := Ke.trans HK4.out (Ke.of (P := fun _ => False) HB6.out) (fun _ e => e) (fun _ _ e => e.elim)
    have HS6 : Hid (Sl (w5.alloc (.cells #[.slice (some ⟨g5, 0, none⟩) (sV kk) c5, .int .i64 n'] 71)) .u16 (some ⟨g5, 0, none⟩) C') := hs5.to (from_alloc _ _)
    have HG6 : Hid (w4.heap.size ≤ g5) := hg5
    have HN6 : Hid (w4.heap.size ≤ w5.heap.size ∧ w5.heap.size < (w5.alloc (.cells #[.slice (some ⟨g5, 0, none⟩) (sV kk) c5, .int .i64 n'] 71)).heap.size) := ⟨hb5.size, by simp⟩
    have HX6 : Hid ((w5.alloc (.cells #[.slice (some ⟨g5, 0, none⟩) (sV kk) c5, .int .i64 n'] 71)).cell? ⟨w5.heap.size, 0, none⟩ = some (.slice (some ⟨g5, 0, none⟩) (sV kk) c5) ∧ (w5.alloc (.cells #[.slice (some ⟨g5, 0, none⟩) (sV kk) c5, .int .i64 n'] 71)).cell? ⟨w5.heap.size, 1, none⟩ = some (.int .i64 n')) := by constructor <;> simp [go_sem]
    have HF6 : Hid (FR (w5.alloc (.cells #[.slice (some ⟨g5, 0, none⟩) (sV kk) c5, .int .i64 n'] 71)) lo x bt cT B xd b zs S true n ep.2.2 ep.1 ep.2.1) := HF4.out.to HB6.out
    clear hs5 hg5 hb5 s0 s1 r3 r4 r5 HAd
    go_wp2_with fail
    generalize w5.alloc (.cells #[.slice (some ⟨g5, 0, none⟩) (sV kk) c5, .int .i64 n'] 71) = U at *
    generalize w5.heap.size = nx at *
    have HPl : Hid (pb < w1.heap.size ∧ pb ≠ x ∧ pb ≠ bt ∧ bt ≠ x) := ⟨HF1.out.hu.lt HTa.out.own, fun e => HF1.out.bx (by rw [← e]; exact HTa.out.own), HTa.out.ne, fun e => HF1.out.bx (by rw [← e]; exact HTa.out.ob)⟩
    have HNl : Hid (w1.heap.size ≤ nx ∧ nx < U.heap.size ∧ x < U.heap.size ∧ bt < U.heap.size ∧ pb < U.heap.size ∧ bt < w1.heap.size) := by
      have h1 := HK4.out.size
      have h2 := HK6.out.size
      have h3 := HN6.out
      have h4 := HF1.out.low
      have h5 := HF1.out.hu.lt HTa.out.ob
      have h6 := HPl.out.1
      exact ⟨by omega, by omega, by omega, by omega, by omega, by omega⟩
    have HTop : Hid (U.cell? ⟨bt, kk, none⟩ = some (.slice (some ⟨pb, 0, none⟩) (sC kk) cq)) := HTa.out.top _ U HK6.out HEB.out
    have HKq : Hid (∀ u, Ke (fun y => y = pb) U u → u.cell? ⟨x, 2, none⟩ = some (.slice (some ⟨bt, 0, none⟩) 32 cT) ∧ u.cell? ⟨bt, kk, none⟩ = some (.slice (some ⟨pb, 0, none⟩) (sC kk) cq) ∧ u.cell? ⟨nx, 0, none⟩ = some (.slice (some ⟨g5, 0, none⟩) (sV kk) c5) ∧ u.cell? ⟨nx, 1, none⟩ = some (.int .i64 n')) := fun u hu => by
      have h1 := HNl.out
      have h2 := HPl.out
      rw [hu.cell x 2 (by omega) (by omega), hu.cell bt kk (by omega) (by omega), hu.cell nx 0 (by omega) (by omega), hu.cell nx 1 (by omega) (by omega)]
      exact ⟨HF6.out.c2, HTop.out, HX6.out.1, HX6.out.2⟩
    have HFin : Hid (∀ u, u = (U.drew.setCell ⟨pb, c * 2, none⟩ (.slice (some ⟨g5, 0, none⟩) (sV kk) c5)).setCell ⟨pb, c * 2 + 1, none⟩ (.int .i64 n') → u.cell? ⟨x, 4, none⟩ = some (.int .i64 n) ∧ u.frozen? ⟨x, 4, none⟩ = false ∧ StG w (u.setCell ⟨x, 4, none⟩ (.int .i64 (n + 1))) lo x (Or x B xd b zs) (upd S true kk c v) true (n + 1) zs ep.2.2 ep.1 ep.2.1) := fun u hu => by
      obtain ⟨B', t1, t2, t3⟩ := HTa.out.put _ U.drew g5 c5 C' n' (Ke.trans HK6.out (Ke.of (P := fun _ => False) (below_drew (Below.refl _ _))) (fun _ e => e) (fun _ _ e => e.elim)) HEB.out (HS6.out.to (below_drew (Below.refl _ _))) (by have := HK4.out.size; have := HG6.out; omega) HAl.out.1 HAl.out.2
      rw [← hu, ← HUt.out] at t1
      rw [← hu] at t3
      have hf := HF6.out.to (w' := U.drew) (below_drew (Below.refl _ _))
      have hl := HPl.out
      have hg6 := HG6.out
      have hkp : Ke (fun y => y = pb) U.drew u := by
        rw [hu]
        exact Ke.trans (Ke.set (fun y => y = pb) _ ⟨pb, c * 2, none⟩ _ rfl) (Ke.set (fun y => y = pb) _ ⟨pb, c * 2 + 1, none⟩ _ rfl) (fun _ e => e) (fun _ _ e => e)
      have hx4 : x < w4.heap.size := HF4.out.low
      have hne : xd ≠ pb := fun e => HF4.out.eb.1 (by rw [e]; exact HTa.out.own)
      have hno : zs ≠ [] → b ≠ pb := fun h0 e => HF4.out.eb.2 h0 (by rw [e]; exact HTa.out.own)
      have hFu : FR u lo x bt cT B' xd b zs (upd S true kk c v) true n ep.2.2 ep.1 ep.2.1 := by
        refine ⟨by rw [hkp.cell _ _ hf.low (Ne.symm hl.2.1)]; exact hf.c0, by rw [hkp.cell _ _ hf.low (Ne.symm hl.2.1)]; exact hf.c1, by rw [hkp.cell _ _ hf.low (Ne.symm hl.2.1)]; exact hf.c2, by rw [hkp.cell _ _ hf.low (Ne.symm hl.2.1)]; exact hf.c3, by rw [hkp.cell _ _ hf.low (Ne.symm hl.2.1)]; exact hf.c4, by rw [hkp.frozen _ _ hf.low (Ne.symm hl.2.1)]; exact hf.th, Nat.lt_of_lt_of_le hf.low hkp.size, hf.xlo, t1, hf.df.carry (hkp.block xd hf.df.low hne) (fun h0 hlb => hkp.block b hlb (hno h0)) hkp.size, hf.dk, hf.dlo, fun h0 => ⟨(hf.blt h0).1, Nat.lt_of_lt_of_le (hf.blt h0).2 hkp.size⟩, fun e => ?_, hf.ex, fun e => ?_, fun h0 e => ?_⟩
        · rcases t2 x e with e | e
          · exact hf.bx e
          · omega
        · rcases t2 xd e with e | e
          · exact hf.eb.1 e
          · have := HF4.out.df.low; omega
        · rcases t2 b e with e | e
          · exact hf.eb.2 h0 e
          · have := (HF4.out.blt h0).2; omega
      refine ⟨hFu.c4, hFu.th, _, ⟨bt, cT, B', xd, b, hFu.count, rfl⟩, (HT4.out.trans ⟨?_, fun y hy => ?_⟩).trans (Trn.set _ _ (Or.inl rfl))⟩
      · exact Ke.trans (Ke.of (P := fun _ => False) (below_drew HB6.out)) t3 (fun _ e => e.elim) (fun _ _ e => Or.inr (Or.inr e))
      · rcases hy with e | e | e
        · exact Or.inl (Or.inl e)
        · exact Or.inl (Or.inr (Or.inl e))
        · rcases t2 y e with e | e
          · exact Or.inl (Or.inr (Or.inr e))
          · exact Or.inr (by omega)
    have p4 : U.drew.cell? ⟨pb, c * 2, none⟩ = some (.slice ta (sV kk) tc) := HTa.out.c0 _ U HK6.out HEB.out
    have p5 : U.drew.cell? ⟨pb, c * 2 + 1, none⟩ = some (.int .i64 tn) := by rw [← HTn.out]; exact HTa.out.c1 _ U HK6.out HEB.out
    have p6 : U.drew.frozen? ⟨pb, c * 2, none⟩ = false := HTa.out.th _ U _ HK6.out HEB.out
    have p7 : U.drew.frozen? ⟨pb, c * 2 + 1, none⟩ = false := HTa.out.th _ U _ HK6.out HEB.out
    have p8 : U.cell? ⟨pb, c * 2, none⟩ = some (.slice ta (sV kk) tc) := p4
    have p9 : U.cell? ⟨pb, c * 2 + 1, none⟩ = some (.int .i64 tn) := p5
    have p10 : U.frozen? ⟨pb, c * 2, none⟩ = false := p6
    have p11 : U.frozen? ⟨pb, c * 2 + 1, none⟩ = false := p7
    go_region_held3 (fun u => u.cell? ⟨x, 2, none⟩ = some (.slice (some ⟨bt, 0, none⟩) 32 cT) ∧ u.cell? ⟨bt, kk, none⟩ = some (.slice (some ⟨pb, 0, none⟩) (sC kk) cq) ∧ u.cell? ⟨nx, 0, none⟩ = some (.slice (some ⟨g5, 0, none⟩) (sV kk) c5) ∧ u.cell? ⟨nx, 1, none⟩ = some (.int .i64 n'))
      ((exact HKq.out _ (by first | exact ke_drew _ _ | exact ke_two _ _ _ _ _ _)))
      ((fail))
    all_goals
      obtain ⟨y0, y1, hfin⟩ := HFin.out (((U.setCell ⟨pb, c * 2, none⟩ (.slice (some ⟨g5, 0, none⟩) (sV kk) c5)).setCell ⟨pb, c * 2 + 1, none⟩ (.int .i64 n')).drew) rfl
      have HFn : Hid _ := hfin
      clear hfin p4 p5 p6 p7 p8 p9 p10 p11
      generalize ((U.setCell ⟨pb, c * 2, none⟩ (.slice (some ⟨g5, 0, none⟩) (sV kk) c5)).setCell ⟨pb, c * 2 + 1, none⟩ (.int .i64 n')).drew = U2 at *
      go_wp2_with fail
      refine bodyPost_ret (v := .tuple #[.int .i64 v, .int .i64 0]) (by simp [results, Tryz.results47, go_sem]) rfl ⟨rfl, ?_⟩
      exact HFn.out


set_option maxHeartbeats 2000000 in
/-- refused: the context -/
theorem rsymbol_ctx {w : World} {x : Nat} {kk : Nat} {c v : Int} (_hx : w.cell? ⟨x, 0, none⟩ = some (.pointer none)) (_hlt : x < w.heap.size) (hk : kk < 32) (h : c < 0 ∨ (sC kk : Int) ≤ c) : Calls Tryz.prog 47 #[.pointer (some ⟨x, 0, none⟩), .int .i64 kk, .int .i64 c, .int .i64 v] w fun e w' => e = .returned (.tuple #[.int .i64 0, .int .i64 2]) ∧ Below w.heap.size w w' := by
  by_cases h1 : c < 0
  · go_enter Tryz.func47, Tryz.ntmps47
    go_wp2_with fail
    refine (rshape_ok hk).mono ?_
    rintro e w1 ⟨rfl, hb1⟩
    have HB : Hid (Below w.heap.size w w1) := hb1
    clear hb1
    go_wp2_with fail
    refine bodyPost_ret (v := .tuple #[.int .i64 0, .int .i64 2]) (by simp [results, Tryz.results47, go_sem]) rfl ⟨rfl, HB.out⟩
  · have h2 : (sC kk : Int) ≤ c := by omega
    go_enter Tryz.func47, Tryz.ntmps47
    go_wp2_with fail
    refine (rshape_ok hk).mono ?_
    rintro e w1 ⟨rfl, hb1⟩
    have HB : Hid (Below w.heap.size w w1) := hb1
    clear hb1
    go_wp2_with fail
    refine bodyPost_ret (v := .tuple #[.int .i64 0, .int .i64 2]) (by simp [results, Tryz.results47, go_sem]) rfl ⟨rfl, HB.out⟩

end Go.Proofs.YtkmnpechhdendaaGreatDoor

namespace Go.Proofs.YtkmnpechhdendaaGreatDoor
open Go.RowKit L3

theorem rtake_g {w : World} {lo x bt cT : Nat} {B : Nat → Prop} {xd b : Nat} {zs : List Nat} {S : Sx} {ad : Bool} {n : Int} {p c g : Nat} (h : FR w lo x bt cT B xd b zs S ad n p c g) (hqb : p + 2 < 1099511627776) (pa pe : Nat) (hm : L2.dMay c g pa pe) :
    Calls Tryz.prog 78 #[.pointer (some ⟨xd, 0, none⟩), .int .u32 pa, .int .u32 pe] w fun e w' => e = .returned (.int .i64 0) ∧ StG w w' lo x (Or x B xd b zs) S ad n zs (L2.dTake zs c g p pa pe).2.2 (L2.dTake zs c g p pa pe).1 (L2.dTake zs c g p pa pe).2.1 := by
  have ok := L2.dTake_ok (q := p) h.df.byt hm h.dk.below h.dk.least h.dk.most
  refine (L2.rtake_yes h.df h.dk hqb pa pe hm).mono ?_
  rintro e w' ⟨rfl, h3, h4⟩
  obtain ⟨h5, h6⟩ := h.eng h4 h3 ⟨ok.1, ok.2.1, ok.2.2.1⟩
  exact ⟨rfl, _, ⟨bt, cT, B, xd, b, h5, rfl⟩, h6⟩
structure BgI (w : World) (lo x : Nat) (O : Nat → Prop) (S : Sx) (ad : Bool) (cn : Int) (zs : List Nat) (p c g n : Nat) (s i : Value) (wr : World) : Prop where
  ex : ∃ (j : Nat) (O' : Nat → Prop), j ≤ n ∧ i = .int .i64 ((n : Int) - 1 - (j : Int)) ∧ s = .int .i64 (((dBs zs p c g j).1 : Nat) : Int) ∧ Fr wr lo x O' S ad cn zs (dBs zs p c g j).2.1 (dBs zs p c g j).2.2.1 (dBs zs p c g j).2.2.2 ∧ (dBs zs p c g j).2.1 ≤ p + 2 * j ∧ Trn O O' w wr

set_option maxRecDepth 100000 in
set_option maxHeartbeats 4000000 in
theorem rbits_g {w : World} {lo x : Nat} {O : Nat → Prop} {S : Sx} {ad : Bool} {cn : Int} {zs : List Nat} {p c g : Nat} (h : Fr w lo x O S ad cn zs p c g) (hqb : p + 100 < 1099511627776) (hn0 : 0 ≤ cn) (hn1 : cn ≤ 1152921504606846976) {n : Nat} {z : Int} (hn : n ≤ 30) :
    Calls Tryz.prog 50 #[.pointer (some ⟨x, 0, none⟩), .int .i64 n, .int .i64 z] w fun e w' => e = .returned (.tuple #[.int .i64 (((dBs zs p c g n).1 : Nat) : Int), .int .i64 0]) ∧ StG w w' lo x O S ad (cn + n) zs (dBs zs p c g n).2.1 (dBs zs p c g n).2.2.1 (dBs zs p c g n).2.2.2 ∧ (dBs zs p c g n).2.1 ≤ p + 2 * n := by
  have HF : Hid (Fr w lo x O S ad cn zs p c g) := h
  have q0 : w.cell? ⟨x, 0, none⟩ = some (.pointer none) := by obtain ⟨_, _, _, _, _, h, _⟩ := h; exact h.c0
  have b0 : ¬ (n : Int) < 0 := by omega
  have b1 : ¬ (30 : Int) < (n : Int) := by omega
  have b4 : (n : Int) ≤ 30 := by omega
  have HN : Hid (n ≤ 30) := hn
  clear h hn
  go_enter Tryz.func50, Tryz.ntmps50
  go_wp2_with fail
  go_loopw [8, 9] (fun s i wr => BgI w lo x O S ad cn zs p c g n s i wr) (fun _ i _ => (intOf i + 1).toNat)
  case atStart => exact ⟨0, O, by omega, by go_num, by rw [dBs_zero]; rfl, by rw [dBs_zero]; exact HF.out, by rw [dBs_zero]; exact Nat.le_refl _, Trn.of (Below.refl _ _)⟩
  case round =>
    obtain ⟨j, O', hj, rfl, rfl, hf, hpq, ht⟩ := hrel
    by_cases hlt : j < n
    · obtain ⟨m, hm⟩ : ∃ m, m = n - 1 - j := ⟨_, rfl⟩
      have e1 : (n : Int) - 1 - (j : Int) = (m : Int) := by omega
      rw [e1]
      have m0 : (0 : Int) ≤ (m : Int) := by omega
      have m1 : (m : Int) < 64 := by omega
      have m2 : ¬ (m : Int) < 0 := by omega
      obtain ⟨bb, hbb⟩ : ∃ bb, bb = L2.dVal (dBs zs p c g j).2.2.1 (dBs zs p c g j).2.2.2 / 16384 := ⟨_, rfl⟩
      obtain ⟨pa, ha⟩ : ∃ pa, pa = 16384 * bb := ⟨_, rfl⟩
      obtain ⟨pe, he⟩ : ∃ pe, pe = pa + 16384 := ⟨_, rfl⟩
      have hdl := L2.dVal_lt (dBs zs p c g j).2.2.1 (dBs zs p c g j).2.2.2
      have hnl := dBs_lt zs p c g j
      have hp30 : 2 ^ j ≤ 2 ^ 30 := Nat.pow_le_pow_right (by omega) (by have := HN.out; omega)
      have HSt : Hid (dBs zs p c g (j + 1) = (2 * (dBs zs p c g j).1 + bb, (L2.dTake zs (dBs zs p c g j).2.2.1 (dBs zs p c g j).2.2.2 (dBs zs p c g j).2.1 pa pe).2.2, (L2.dTake zs (dBs zs p c g j).2.2.1 (dBs zs p c g j).2.2.2 (dBs zs p c g j).2.1 pa pe).1, (L2.dTake zs (dBs zs p c g j).2.2.1 (dBs zs p c g j).2.2.2 (dBs zs p c g j).2.1 pa pe).2.1)) := dBs_succ zs p c g j bb pa pe hbb ha he
      obtain ⟨bt, cT, B, xd, b, hf, rfl⟩ := hf
      have hmay : L2.dMay (dBs zs p c g j).2.2.1 (dBs zs p c g j).2.2.2 pa pe := ⟨by omega, by omega, by omega⟩
      have hok := L2.dTake_ok (q := (dBs zs p c g j).2.1) hf.df.byt hmay hf.dk.below hf.dk.least hf.dk.most
      have HQ : Hid ((dBs zs p c g (j + 1)).2.1 ≤ p + 2 * (j + 1)) := by show _ ≤ _; rw [HSt.out]; simp only; omega
      have HFR : Hid (FR wr lo x bt cT B xd b zs S ad cn (dBs zs p c g j).2.1 (dBs zs p c g j).2.2.1 (dBs zs p c g j).2.2.2) := hf
      have HCall : Hid (∀ u, Below wr.heap.size wr u → Calls Tryz.prog 78 #[.pointer (some ⟨xd, 0, none⟩), .int .u32 pa, .int .u32 pe] u fun e w' => e = .returned (.int .i64 0) ∧ StG u w' lo x (Or x B xd b zs) S ad cn zs (dBs zs p c g (j + 1)).2.1 (dBs zs p c g (j + 1)).2.2.1 (dBs zs p c g (j + 1)).2.2.2) := fun u hu => by
        rw [HSt.out]
        exact rtake_g (hf.to hu) (by have := HN.out; omega) pa pe hmay
      have HTr : Hid (Trn O (Or x B xd b zs) w wr) := ht
      have HJ : Hid (j < n ∧ (m : Int) - 1 = (n : Int) - 1 - ((j + 1 : Nat) : Int)) := ⟨hlt, by omega⟩
      have HPa : Hid ((bb : Int) * 16384 = (pa : Int) ∧ ((bb : Int) + 1) * 16384 = (pe : Int)) := ⟨by omega, by omega⟩
      have HR1 : Hid ((((dBs zs p c g (j + 1)).1 : Nat) : Int) = (((dBs zs p c g j).1 : Nat) : Int) * 2 + (bb : Int)) := by show _ = _; rw [HSt.out]; simp only; omega
      have n0 : (0 : Int) ≤ (((dBs zs p c g j).1 : Nat) : Int) := by omega
      have n1 : (((dBs zs p c g j).1 : Nat) : Int) ≤ 1073741824 := by omega
      have n4 : (bb : Int) < 2 := by omega
      have n5 : (0 : Int) ≤ (bb : Int) := by omega
      have d1 : ((L2.dVal (dBs zs p c g j).2.2.1 (dBs zs p c g j).2.2.2 : Nat) : Int) / 16384 = (bb : Int) := by omega
      have d2 : (0 : Int) ≤ ((L2.dVal (dBs zs p c g j).2.2.1 (dBs zs p c g j).2.2.2 : Nat) : Int) := by omega
      have d3 : ((L2.dVal (dBs zs p c g j).2.2.1 (dBs zs p c g j).2.2.2 : Nat) : Int) < 32768 := by omega
      have HVal : Hid (Calls Tryz.prog 76 #[.pointer (some ⟨xd, 0, none⟩)] wr fun e w' => e = .returned (.tuple #[.int .u32 (L2.dVal (dBs zs p c g j).2.2.1 (dBs zs p c g j).2.2.2 : Nat), .int .i64 0]) ∧ ∃ k, w' = wr.drewN k) := L2.value_df hf.df hf.dk
      have q1 := hf.c1
      have q2 := hf.c0
      generalize L2.dVal (dBs zs p c g j).2.2.1 (dBs zs p c g j).2.2.2 = dv at *
      generalize (dBs zs p c g j).1 = num at *
      clear hf ht hm hbb ha he hdl hnl hp30 hmay hok hpq hlt hj e1
      go_wp2_with fail
      refine HVal.out.mono ?_
      rintro e wv ⟨rfl, mv, hmv⟩
      have hbv : Below wr.heap.size wr wv := by rw [hmv]; exact below_drewN (Below.refl _ _) mv
      have HBv : Hid (Below wr.heap.size wr wv) := hbv
      have q3 := (HFR.out.to hbv).c1
      have HTv : Hid (Trn O (Or x B xd b zs) w wv) := HTr.out.to hbv
      clear hmv hbv q1 q2
      go_wp2_with fail
      rw [HPa.out.1, HPa.out.2]
      refine (HCall.out _ HBv.out).mono ?_
      rintro e w3 ⟨rfl, O3, hf3, ht3⟩
      have HF3 : Hid (Fr w3 lo x O3 S ad cn zs (dBs zs p c g (j + 1)).2.1 (dBs zs p c g (j + 1)).2.2.1 (dBs zs p c g (j + 1)).2.2.2) := hf3
      have HT3 : Hid (Trn O O3 w w3) := HTv.out.trans ht3
      clear hf3 ht3 q3
      go_wp2_with fail
      have hlt := HJ.out
      go_roundw
      case rel => exact ⟨⟨j + 1, O3, by omega, by rw [← hlt.2], by rw [HR1.out], HF3.out, HQ.out, HT3.out⟩⟩
      case measure => simp [intOf]
    · obtain rfl : j = n := by omega
      have e1 : (j : Int) - 1 - (j : Int) = -1 := by omega
      rw [e1]
      obtain ⟨bt, cT, B, xd, b, hf, rfl⟩ := hf
      have q4 := hf.c4
      have q5 := hf.th
      have HFin : Hid (StG w (wr.setCell ⟨x, 4, none⟩ (.int .i64 (cn + (j : Int)))) lo x O S ad (cn + j) zs (dBs zs p c g j).2.1 (dBs zs p c g j).2.2.1 (dBs zs p c g j).2.2.2 ∧ (dBs zs p c g j).2.1 ≤ p + 2 * j) := ⟨⟨_, ⟨bt, cT, B, xd, b, hf.count, rfl⟩, ht.trans (Trn.set _ _ (Or.inl rfl))⟩, hpq⟩
      clear hf ht e1 hpq
      go_wp2_with fail
      refine bodyPost_ret (v := .tuple #[.int .i64 (((dBs zs p c g j).1 : Nat) : Int), .int .i64 0]) (by simp [results, Tryz.results50, go_sem]) rfl ⟨rfl, ?_⟩
      exact HFin.out
set_option maxHeartbeats 2000000 in
theorem rbits_ctx {w : World} {x : Nat} {n v : Int} (h : n < 0 ∨ 30 < n) : Calls Tryz.prog 50 #[.pointer (some ⟨x, 0, none⟩), .int .i64 n, .int .i64 v] w fun e w' => e = .returned (.tuple #[.int .i64 0, .int .i64 2]) ∧ w' = w := by
  by_cases h1 : n < 0
  · go_enter Tryz.func50, Tryz.ntmps50
    go_wp2_with fail
    refine bodyPost_ret (v := .tuple #[.int .i64 0, .int .i64 2]) (by simp [results, Tryz.results50, go_sem]) rfl ⟨rfl, rfl⟩
  · have h2 : 30 < n := by omega
    go_enter Tryz.func50, Tryz.ntmps50
    go_wp2_with fail
    refine bodyPost_ret (v := .tuple #[.int .i64 0, .int .i64 2]) (by simp [results, Tryz.results50, go_sem]) rfl ⟨rfl, rfl⟩

theorem fr_new {w v : World} {bt cT xd b : Nat} {B : Nat → Prop} {S : Sx} {ad : Bool} {zs : List Nat} (hw : Below w.heap.size w v) (hu : Hu v w.heap.size bt B S) (he : L2.Df v xd b zs 4 (L2.dFirst zs) 4294967295) (hd : w.heap.size ≤ xd) (hb : zs ≠ [] → w.heap.size ≤ b ∧ b < v.heap.size) (hx : ¬ B xd) (hxb : zs ≠ [] → ¬ B b) :
    Fr (v.alloc (.cells #[.pointer none, .pointer (some ⟨xd, 0, none⟩), .slice (some ⟨bt, 0, none⟩) 32 cT, .bool ad, .int .i64 0] 46)) w.heap.size v.heap.size (Or v.heap.size B xd b zs) S ad 0 zs 4 (L2.dFirst zs) 4294967295 := by
  have hbb : Below v.heap.size v (v.alloc (.cells #[.pointer none, .pointer (some ⟨xd, 0, none⟩), .slice (some ⟨bt, 0, none⟩) 32 cT, .bool ad, .int .i64 0] 46)) := from_alloc _ _
  refine ⟨bt, cT, B, xd, b, ⟨by simp [go_sem], by simp [go_sem], by simp [go_sem], by simp [go_sem], by simp [go_sem], by simp [go_sem], by simp, hw.size, hu.to hbb, he.below hbb, L2.dFirst_ok, hd, fun h0 => ⟨(hb h0).1, Nat.lt_of_lt_of_le (hb h0).2 hbb.size⟩, fun e => ?_, ⟨?_, fun h0 => ?_⟩, hx, hxb⟩, rfl⟩
  · have := hu.lt e; omega
  · have := he.low; omega
  · have := (hb h0).2; omega
def FrN (w w' : World) (e : Ending) (S : Sx) (ad : Bool) (zs : List Nat) : Prop := ∃ x O, e = .returned (.tuple #[.pointer (some ⟨x, 0, none⟩), .int .i64 0]) ∧ Fr w' w.heap.size x O S ad 0 zs 4 (L2.dFirst zs) 4294967295 ∧ Below w.heap.size w w'

set_option maxRecDepth 100000 in
set_option maxHeartbeats 2000000 in
theorem rreader_u {w : World} {lo bt cT : Nat} {B : Nat → Prop} {S : Sx} {ad : Bool} {vb : Value} {zs : List Nat} (h : Hu w lo bt B S) (hv : L2.SrcOf w vb zs) (hz : ∀ i, zs.getD i 0 < 256) (hl : zs.length ≤ 140737488355328) :
    Calls Tryz.prog 24 #[vb, .agg #[.slice (some ⟨bt, 0, none⟩) 32 cT], .bool ad] w fun e w' => FrN w w' e S ad zs := by
  obtain ⟨q, K, hs, ho, hd, rfl, rfl⟩ := h
  have HB : Hid (Below w.heap.size w (w.alloc (.cells #[.slice (some ⟨bt, 0, none⟩) 32 cT] 29))) := from_alloc _ _
  have c0 : (w.alloc (.cells #[.slice (some ⟨bt, 0, none⟩) 32 cT] 29)).cell? ⟨w.heap.size, 0, none⟩ = some (.slice (some ⟨bt, 0, none⟩) 32 cT) := by simp [go_sem]
  have HZ : Hid (w.heap.size < (w.alloc (.cells #[.slice (some ⟨bt, 0, none⟩) 32 cT] 29)).heap.size) := by show _ < _; simp
  have HSt : Hid (∀ v, Below w.heap.size w v → Su v lo bt q K) := fun v hv => hs.to hv
  have HSr : Hid (∀ v, Below w.heap.size w v → L2.SrcOf v vb zs) := fun v hv' => src_to hv hv'
  have HO : Hid (Okk K) := ho
  have HBt : Hid (∀ i, zs.getD i 0 < 256) := hz
  have HLl : Hid (zs.length ≤ 140737488355328) := hl
  clear hs ho hd hv hz hl
  go_enter Tryz.func24, Tryz.ntmps24
  go_wp2_with fail
  generalize (w.alloc (.cells #[.slice (some ⟨bt, 0, none⟩) 32 cT] 29)) = V at *
  refine (rscheck_u (HSt.out _ HB.out) HO.out).mono ?_
  rintro e w1 ⟨rfl, hb1⟩
  have HB1 : Hid (Below w.heap.size w w1) := below_to HB.out hb1
  have d0 : w1.cell? ⟨w.heap.size, 0, none⟩ = some (.slice (some ⟨bt, 0, none⟩) 32 cT) := by rw [newCell hb1 _ _ HZ.out]; exact c0
  have HZ1 : Hid (w.heap.size < w1.heap.size) := Nat.lt_of_lt_of_le HZ.out hb1.size
  clear hb1 c0
  go_wp2_with fail
  have HK : Hid (∀ v : World, Below w1.heap.size w1 v → v.cell? ⟨w.heap.size, 0, none⟩ = some (.slice (some ⟨bt, 0, none⟩) 32 cT)) := fun v hv => by rw [newCell hv _ _ HZ1.out]; exact d0
  have HCp : Hid (∀ v : World, Below w1.heap.size w1 v → Calls Tryz.prog 34 #[.agg #[.slice (some ⟨bt, 0, none⟩) 32 cT]] v fun e w' => Hun v w' e (ab K)) := fun v hv => rcopy_u (HSt.out _ (below_to HB1.out hv)) HO.out
  have HRd : Hid (∀ v : World, Below w1.heap.size w1 v → Calls Tryz.prog 59 #[vb] v fun e w' => ∃ x, e = .returned (.pointer (some ⟨x, 0, none⟩)) ∧ L2.DfMade v w' zs x) := fun v hv => L2.rread_any (HSr.out _ (below_to HB1.out hv)) HBt.out HLl.out
  have hbd : Below w1.heap.size w1 w1.drew := below_drew (Below.refl _ _)
  have HA : Hid (∀ wA wB xd b2 c2 B2, L2.DfMade w1.drew wA zs xd → Hu wB wA.heap.size b2 B2 (ab K) → Below wA.heap.size wA wB → FrN w (wB.alloc (.cells #[.pointer none, .pointer (some ⟨xd, 0, none⟩), .slice (some ⟨b2, 0, none⟩) 32 c2, .bool ad, .int .i64 0] 46)) (.returned (.tuple #[.pointer (some ⟨wB.heap.size, 0, none⟩), .int .i64 0])) (ab K) ad zs) := fun wA wB xd b2 c2 B2 h1 h3 h4 => by
    obtain ⟨b, hdf, hx, hb', hzz, h2⟩ := h1
    have z1 := HZ1.out
    have z2 := h2.size
    have z3 : w1.drew.heap.size = w1.heap.size := rfl
    have hb : Below w.heap.size w wB := below_to (below_to (below_to HB1.out hbd) h2) h4
    exact ⟨wB.heap.size, _, rfl, fr_new hb (h3.weak (by omega)) (hdf.below h4) (by omega) (fun e => ⟨by omega, Nat.lt_of_lt_of_le (hzz e) h4.size⟩) (fun e => by have := h3.ge e; have := hdf.low; omega) (fun h0 e => by have := h3.ge e; have := hzz h0; omega), to_alloc hb _⟩
  have HB2 : Hid (∀ wA wB xd b2 c2 B2, Hu wB w1.drew.heap.size b2 B2 (ab K) → Below w1.drew.heap.size w1.drew wB → L2.DfMade wB wA zs xd → FrN w (wA.alloc (.cells #[.pointer none, .pointer (some ⟨xd, 0, none⟩), .slice (some ⟨b2, 0, none⟩) 32 c2, .bool ad, .int .i64 0] 46)) (.returned (.tuple #[.pointer (some ⟨wA.heap.size, 0, none⟩), .int .i64 0])) (ab K) ad zs) := fun wA wB xd b2 c2 B2 h3 h4 h1 => by
    obtain ⟨b, hdf, hx, hb', hzz, h2⟩ := h1
    have z1 := HZ1.out
    have z2 := h4.size
    have z3 : w1.drew.heap.size = w1.heap.size := rfl
    have hb : Below w.heap.size w wA := below_to (below_to (below_to HB1.out hbd) h4) h2
    exact ⟨wA.heap.size, _, rfl, fr_new hb ((h3.to h2).weak (by omega)) hdf (by omega) (fun e => ⟨by omega, hzz e⟩) (fun e => by have := h3.lt e; omega) (fun h0 e => by have := h3.lt e; omega), to_alloc hb _⟩
  go_region_held3 (fun v => v.cell? ⟨w.heap.size, 0, none⟩ = some (.slice (some ⟨bt, 0, none⟩) 32 cT))
    ((exact HK.out _ (by first | assumption | (refine to_alloc ?_ _; assumption))))
    (first
      | (go_at_call 59; refine (HRd.out _ (by assumption)).mono ?_; rintro e wA ⟨xd, rfl, hdA⟩; have hbA := Exists.elim hdA (fun _ h => h.2.2.2.2); have hzA := below_to (by assumption) hbA)
      | (go_at_call 34; refine (HCp.out _ (by assumption)).mono ?_; rintro e wB ⟨b2, c2, B2, rfl, hs2, hbB⟩; have hzB := below_to (by assumption) hbB))
  all_goals
    go_wp2_with fail
    refine bodyPost_ret (v := .tuple #[.pointer (some ⟨_, 0, none⟩), .int .i64 0]) (by simp [results, Tryz.results24, go_sem]; rfl) rfl ?_
    first
      | exact HA.out _ _ _ _ _ _ hdA hs2 hbB
      | exact HB2.out _ _ _ _ _ _ hs2 hbB hdA

end Go.Proofs.YtkmnpechhdendaaGreatDoor
