/- DERIVED. The document's coder that writes, its set being such as may be written; tables learnt by it. -/
import Derived.Test.YtppanogpeengnaaDoorMF
import Derived.Test.YtppanogpeengnaaDoorS5
import Derived.Test.YtppanogpeengnaaDoorMB
import Derived.Test.YtppanogpeengnaaDoorL3Mh
import Derived.Deep.RegionHeld3
import Derived.Deep.DeepCutAuto
namespace Go.Proofs.YtppanogpeengnaaDoor
open Go.RowKit L3

theorem Hz.ok {w : World} {lo bt : Nat} {B : Nat → Prop} {S : Sx} (h : Hz w lo bt B S) : OkS S := h.hu.ok
theorem Hz.lt {w : World} {lo bt : Nat} {B : Nat → Prop} {S : Sx} (h : Hz w lo bt B S) {y : Nat} (hy : B y) : y < w.heap.size := h.hu.lt hy
theorem Hz.ge {w : World} {lo bt : Nat} {B : Nat → Prop} {S : Sx} (h : Hz w lo bt B S) {y : Nat} (hy : B y) : lo ≤ y := h.hu.ge hy
/-- a block that may be written -/
structure Tz (w : World) (g : Nat) : Prop where
  lt : g < w.heap.size
  th : ∀ j, w.frozen? ⟨g, j, none⟩ = false
theorem rm_set {q : Nat → Nat} {L : List (Nat × List Tb)} (h : Rm q L) {k : Nat} {p p' : Nat × List Tb} (hk : L[k]? = some p) (hl : p'.2.length = p.2.length) : Rm q (L.set k p') := fun j r hr => by
  rw [List.getElem?_set] at hr
  split at hr
  · rename_i e
    split at hr
    · obtain rfl := Option.some.inj hr
      subst e
      rw [hl]; exact h k p hk
    · cases hr
  · exact h j r hr
/-- a table of a set in memory: where it lies, and what becomes of the set where another one is laid there -/
structure Tu (w : World) (lo bt : Nat) (B : Nat → Prop) (S : Sx) (kk c pb tc cq : Nat) (ta : Option Addr) : Prop where
  own : B pb
  ne : pb ≠ bt
  ob : B bt
  top : ∀ (P : Nat → Prop) v, Ke P w v → (∀ b, P b → ¬ B b) → v.cell? ⟨bt, kk, none⟩ = some (.slice (some ⟨pb, 0, none⟩) (sC kk) cq)
  c0 : ∀ (P : Nat → Prop) v, Ke P w v → (∀ b, P b → ¬ B b) → v.cell? ⟨pb, c * 2, none⟩ = some (.slice ta (sV kk) tc)
  c1 : ∀ (P : Nat → Prop) v, Ke P w v → (∀ b, P b → ¬ B b) → v.cell? ⟨pb, c * 2 + 1, none⟩ = some (.int .i64 (tb S kk c).2)
  th : ∀ (P : Nat → Prop) v j, Ke P w v → (∀ b, P b → ¬ B b) → v.frozen? ⟨pb, j, none⟩ = false
  sl : ∀ (P : Nat → Prop) v, Ke P w v → (∀ b, P b → ¬ B b) → Sl v .u16 ta (tb S kk c).1
  put : ∀ (P : Nat → Prop) v g cap C n, Ke P w v → (∀ b, P b → ¬ B b) → Sl v .u16 (some ⟨g, 0, none⟩) C → (∀ j, v.frozen? ⟨g, j, none⟩ = false) → w.heap.size ≤ g → C.length = sV kk → TOk C n → ∃ B', Hz ((v.setCell ⟨pb, c * 2, none⟩ (.slice (some ⟨g, 0, none⟩) (sV kk) cap)).setCell ⟨pb, c * 2 + 1, none⟩ (.int .i64 n)) lo bt B' (S.set kk ((S.getD kk []).set c (C, n))) ∧ (∀ y, B' y → B y ∨ y = g) ∧ Ke B v ((v.setCell ⟨pb, c * 2, none⟩ (.slice (some ⟨g, 0, none⟩) (sV kk) cap)).setCell ⟨pb, c * 2 + 1, none⟩ (.int .i64 n))
theorem Hz.at {w : World} {lo bt : Nat} {B : Nat → Prop} {S : Sx} (h : Hz w lo bt B S) {kk c : Nat} (hk : kk < 32) (hc : c < sC kk) : ∃ pb tc cq ta, Tu w lo bt B S kk c pb tc cq ta := by
  obtain ⟨q, L, h1, h2, h3, rfl, rfl, h6, h7⟩ := h
  have hkl : kk < L.length := by rw [h2.1]; exact hk
  have hp := List.getElem?_eq_getElem hkl
  obtain ⟨o1, o2⟩ := h2.2 kk _ hp
  have hcl : c < L[kk].2.length := by rw [o1]; exact hc
  have hs := List.getElem?_eq_getElem hcl
  have hpK : L[kk] ∈ L := List.getElem_mem hkl
  have hsm : L[kk].2[c] ∈ L[kk].2 := List.getElem_mem hcl
  obtain ⟨o3, o4⟩ := o2 _ hsm
  have et := ab_tb hp hs
  refine ⟨L[kk].1, L[kk].2[c].c, q kk, L[kk].2[c].a, Or.inr ⟨_, hpK, Or.inl rfl⟩, (h1.lie _ hpK).2.2, Or.inl rfl, fun P v hv hP => ?_, fun P v hv hP => ?_, fun P v hv hP => ?_, fun P v j hv hP => (h1.ke hv hP).th _ hpK j, fun P v hv hP => ?_, fun P v g cap C n hv hP hsl hfz hg hC hT => ?_⟩
  · have := (h1.ke hv hP).hd kk _ hp; rw [o1] at this; exact this
  · have := (h1.ke hv hP).c0 _ hpK c _ hs; rw [o3] at this; exact this
  · rw [et]; exact (h1.ke hv hP).c1 _ hpK c _ hs
  · rw [et]; exact (h1.ke hv hP).sl _ hpK _ hsm
  · have hlo : lo ≤ w.heap.size := Nat.le_trans h1.blo (Nat.le_of_lt h1.blt)
    have hne : ∀ b o, (some ⟨g, 0, none⟩ : Option Addr) = some ⟨b, o, none⟩ → C ≠ [] → b ≠ bt ∧ ∀ q ∈ L, b ≠ q.1 := fun b o e _ => by
      simp only [Option.some.injEq, Addr.mk.injEq, and_true] at e
      refine ⟨by have := h1.blt; omega, fun q hq => by have := (h1.lie q hq).2.1; omega⟩
    have hput := (h1.ke hv hP).put hp hcl ⟨some ⟨g, 0, none⟩, cap, C, n⟩ hsl hne
    simp only [hC] at hput
    refine ⟨_, ⟨_, _, hput, h2.put hp ⟨hC, hT⟩, fun q hq => ?_, by rw [ab_set hp], rfl, fun p hp' t ht b hb j => ?_, rm_set h7 hp (by simp)⟩, fun y hy => ?_, ?_⟩
    · rcases St.mem_set hp hq with e | e
      · subst e
        refine ⟨(h3 _ hpK).1, fun t ht b o e1 e2 => ?_⟩
        rcases List.mem_or_eq_of_mem_set ht with e | e
        · exact (h3 _ hpK).2 t e b o e1 e2
        · subst e
          simp only [Option.some.injEq, Addr.mk.injEq, and_true] at e1
          omega
      · exact h3 q e
    · rw [World.frozen?_setCell, World.frozen?_setCell]
      have old : ∀ p ∈ L, ∀ t ∈ p.2, ∀ b, Tbk t b → v.frozen? ⟨b, j, none⟩ = false := fun p hp' t ht b hb => by
        have hB : Bs bt L b := Or.inr ⟨p, hp', Or.inr ⟨t, ht, hb⟩⟩
        rw [hv.frozen b j (h1.low hB) (fun e => hP b e hB)]
        exact h6 p hp' t ht b hb j
      rcases St.mem_set hp hp' with e | e
      · subst e
        rcases List.mem_or_eq_of_mem_set ht with e | e
        · exact old _ hpK t e b hb
        · subst e
          exact tbk_thaw hfz b hb j
      · exact old p e t ht b hb
    · rcases Bs.set hp hy with e | ⟨_, o, e⟩
      · exact Or.inl e
      · simp only [Option.some.injEq, Addr.mk.injEq, and_true] at e
        exact Or.inr (by omega)
    · have hB : Bs bt L L[kk].1 := Or.inr ⟨_, hpK, Or.inl rfl⟩
      exact Ke.trans (Ke.set _ _ _ _ hB) (Ke.set _ _ _ _ hB) (fun _ e => e) (fun _ _ e => e)


/-- the document's coder that writes: in block x, driven by the encoder in block xe -/
structure FW (w : World) (lo x bt cT : Nat) (B : Nat → Prop) (xe : Nat) (d : Value) (S : Sx) (ad : Bool) (n : Int) (T g k : Nat) : Prop where
  c0 : w.cell? ⟨x, 0, none⟩ = some (.pointer (some ⟨xe, 0, none⟩))
  c2 : w.cell? ⟨x, 2, none⟩ = some (.slice (some ⟨bt, 0, none⟩) 32 cT)
  c3 : w.cell? ⟨x, 3, none⟩ = some (.bool ad)
  c4 : w.cell? ⟨x, 4, none⟩ = some (.int .i64 n)
  th : w.frozen? ⟨x, 4, none⟩ = false
  low : x < w.heap.size
  xlo : lo ≤ x
  hu : Hz w lo bt B S
  en : L2.EfS w lo xe d T g k
  ev : L2.Ev T g k
  bx : ¬ B x
  ex : x ≠ xe ∧ d.ownBlock ≠ some x
  eb : ¬ B xe ∧ ∀ b, d.ownBlock = some b → ¬ B b
  rm : 32 ≤ cT
def Of (x : Nat) (B : Nat → Prop) (xe : Nat) (d : Value) (y : Nat) : Prop := y = x ∨ (y = xe ∨ d.ownBlock = some y) ∨ B y
theorem FW.ke {P : Nat → Prop} {w w' : World} {lo x bt cT : Nat} {B : Nat → Prop} {xe : Nat} {d : Value} {S : Sx} {ad : Bool} {n : Int} {T g k : Nat} (h : FW w lo x bt cT B xe d S ad n T g k) (hk : Ke P w w') (hP : ∀ b, P b → ¬ Of x B xe d b) : FW w' lo x bt cT B xe d S ad n T g k := by
  have nx : ¬ P x := fun e => hP x e (Or.inl rfl)
  exact ⟨by rw [hk.cell _ _ h.low nx]; exact h.c0, by rw [hk.cell _ _ h.low nx]; exact h.c2, by rw [hk.cell _ _ h.low nx]; exact h.c3, by rw [hk.cell _ _ h.low nx]; exact h.c4, by rw [hk.frozen _ _ h.low nx]; exact h.th, Nat.lt_of_lt_of_le h.low hk.size, h.xlo, h.hu.ke hk (fun b hb e => hP b hb (Or.inr (Or.inr e))), h.en.carry (hk.block xe h.en.lies.2 (fun e => hP xe e (Or.inr (Or.inl (Or.inl rfl))))) (fun b hb => hk.block b (h.en.own_lt b hb).2.1 (fun e => hP b e (Or.inr (Or.inl (Or.inr hb))))) hk.size, h.ev, h.bx, h.ex, h.eb, h.rm⟩
theorem FW.to {w w' : World} {lo x bt cT : Nat} {B : Nat → Prop} {xe : Nat} {d : Value} {S : Sx} {ad : Bool} {n : Int} {T g k : Nat} (h : FW w lo x bt cT B xe d S ad n T g k) (hb : Below w.heap.size w w') : FW w' lo x bt cT B xe d S ad n T g k := h.ke (P := fun _ => False) (Ke.of hb) (fun _ e => e.elim)
theorem FW.lt {w : World} {lo x bt cT : Nat} {B : Nat → Prop} {xe : Nat} {d : Value} {S : Sx} {ad : Bool} {n : Int} {T g k : Nat} (h : FW w lo x bt cT B xe d S ad n T g k) {y : Nat} (hy : Of x B xe d y) : lo ≤ y ∧ y < w.heap.size := by
  rcases hy with rfl | (rfl | e) | e
  · exact ⟨h.xlo, h.low⟩
  · exact h.en.lies
  · exact ⟨(h.en.own_lt y e).1, (h.en.own_lt y e).2.1⟩
  · exact ⟨h.hu.ge e, h.hu.lt e⟩
/-- the encoder goes on -/
theorem FW.eng {w w' : World} {lo x bt cT : Nat} {B : Nat → Prop} {xe : Nat} {d d' : Value} {S : Sx} {ad : Bool} {n : Int} {T g k T' g' k' : Nat} (h : FW w lo x bt cT B xe d S ad n T g k) (hk : L2.Kw xe d d' w w') (he : L2.EfS w' lo xe d' T' g' k') (hv : L2.Ev T' g' k') : FW w' lo x bt cT B xe d' S ad n T' g' k' ∧ Trn (Of x B xe d) (Of x B xe d') w w' := by
  have hke : Ke (fun b => b = xe ∨ d.ownBlock = some b) w w' := ⟨hk.os, hk.tape, hk.output, hk.size, fun i hi hP => hk.block i hi (fun e => hP (Or.inl e)) (fun e => hP (Or.inr e))⟩
  have nx : ¬ (x = xe ∨ d.ownBlock = some x) := fun e => by rcases e with e | e; exact h.ex.1 e; exact h.ex.2 e
  have hnew : ∀ b, d'.ownBlock = some b → d.ownBlock = some b ∨ w.heap.size ≤ b := hk.new
  refine ⟨⟨by rw [hke.cell _ _ h.low nx]; exact h.c0, by rw [hke.cell _ _ h.low nx]; exact h.c2, by rw [hke.cell _ _ h.low nx]; exact h.c3, by rw [hke.cell _ _ h.low nx]; exact h.c4, by rw [hke.frozen _ _ h.low nx]; exact h.th, Nat.lt_of_lt_of_le h.low hke.size, h.xlo, h.hu.ke hke (fun b hb e => by rcases hb with rfl | hb; exact h.eb.1 e; exact h.eb.2 b hb e), he, hv, h.bx, ⟨h.ex.1, fun e => ?_⟩, ⟨h.eb.1, fun b hb e => ?_⟩, h.rm⟩, ⟨⟨hke.os, hke.tape, hke.output, hke.size, fun i hi hP => hke.block i hi (fun e => hP (Or.inr (Or.inl e)))⟩, fun y hy => ?_⟩⟩
  · rcases hnew x e with e2 | e2
    · exact h.ex.2 e2
    · have := h.low; omega
  · rcases hnew b hb with e2 | e2
    · exact h.eb.2 b e2 e
    · have := h.hu.lt e; omega
  · rcases hy with e | (e | e) | e
    · exact Or.inl (Or.inl e)
    · exact Or.inl (Or.inr (Or.inl (Or.inl e)))
    · rcases hnew y e with e2 | e2
      · exact Or.inl (Or.inr (Or.inl (Or.inr e2)))
      · exact Or.inr e2
    · exact Or.inl (Or.inr (Or.inr e))
theorem FW.count {w : World} {lo x bt cT : Nat} {B : Nat → Prop} {xe : Nat} {d : Value} {S : Sx} {ad : Bool} {n m : Int} {T g k : Nat} (h : FW w lo x bt cT B xe d S ad n T g k) : FW (w.setCell ⟨x, 4, none⟩ (.int .i64 m)) lo x bt cT B xe d S ad m T g k := by
  have oth : ∀ j, j ≠ 4 → (w.setCell ⟨x, 4, none⟩ (.int .i64 m)).cell? ⟨x, j, none⟩ = w.cell? ⟨x, j, none⟩ := fun j hj => World.cell?_setCell_other _ _ _ _ (fun e => hj (by simp only [Addr.mk.injEq, true_and, and_true] at e; exact e.symm))
  exact ⟨by rw [oth 0 (by omega)]; exact h.c0, by rw [oth 2 (by omega)]; exact h.c2, by rw [oth 3 (by omega)]; exact h.c3, World.cell?_setCell_same _ _ _ h.c4, by simpa using h.th, by rw [setCell_size]; exact h.low, h.xlo, h.hu.ke (P := fun b => b = x) (Ke.set _ _ _ _ rfl) (fun b e => by subst e; exact h.bx), h.en.carry (Below.heap_setCell _ _ _ _ (fun e => h.ex.1 e.symm)) (fun b hb => Below.heap_setCell _ _ _ _ (fun e => h.ex.2 (by have e' : b = x := e; rw [← e']; exact hb))) (by rw [setCell_size]; exact Nat.le_refl _), h.ev, h.bx, h.ex, h.eb, h.rm⟩

/-- by its own blocks and plain numbers -/
structure Fw (w : World) (lo x : Nat) (O : Nat → Prop) (S : Sx) (ad : Bool) (n : Int) (T g k : Nat) : Prop where
  ex : ∃ bt cT B xe d, FW w lo x bt cT B xe d S ad n T g k ∧ O = Of x B xe d
theorem Fw.ke {P : Nat → Prop} {w w' : World} {lo x : Nat} {O : Nat → Prop} {S : Sx} {ad : Bool} {n : Int} {T g k : Nat} (h : Fw w lo x O S ad n T g k) (hk : Ke P w w') (hP : ∀ b, P b → ¬ O b) : Fw w' lo x O S ad n T g k := by
  obtain ⟨bt, cT, B, xe, d, h, rfl⟩ := h; exact ⟨bt, cT, B, xe, d, h.ke hk hP, rfl⟩
theorem Fw.to {w w' : World} {lo x : Nat} {O : Nat → Prop} {S : Sx} {ad : Bool} {n : Int} {T g k : Nat} (h : Fw w lo x O S ad n T g k) (hb : Below w.heap.size w w') : Fw w' lo x O S ad n T g k := h.ke (P := fun _ => False) (Ke.of hb) (fun _ e => e.elim)
theorem Fw.lt {w : World} {lo x : Nat} {O : Nat → Prop} {S : Sx} {ad : Bool} {n : Int} {T g k : Nat} (h : Fw w lo x O S ad n T g k) {y : Nat} (hy : O y) : lo ≤ y ∧ y < w.heap.size := by
  obtain ⟨bt, cT, B, xe, d, h, rfl⟩ := h; exact h.lt hy
theorem Fw.ev {w : World} {lo x : Nat} {O : Nat → Prop} {S : Sx} {ad : Bool} {n : Int} {T g k : Nat} (h : Fw w lo x O S ad n T g k) : L2.Ev T g k := by obtain ⟨_, _, _, _, _, h, _⟩ := h; exact h.ev
theorem Fw.ok {w : World} {lo x : Nat} {O : Nat → Prop} {S : Sx} {ad : Bool} {n : Int} {T g k : Nat} (h : Fw w lo x O S ad n T g k) : OkS S := by obtain ⟨_, _, _, _, _, h, _⟩ := h; exact h.hu.ok
theorem Trn.trans {O1 O2 O3 : Nat → Prop} {a b c : World} (h : Trn O1 O2 a b) (k : Trn O2 O3 b c) : Trn O1 O3 a c :=
  ⟨h.ke.trans k.ke (fun _ e => e) (fun i hi e => by rcases h.new i e with e2 | e2; exact e2; omega), fun y hy => by
    rcases k.new y hy with e | e
    · exact h.new y e
    · exact Or.inr (Nat.le_trans h.ke.size e)⟩
theorem Trn.to {O O' : Nat → Prop} {a b c : World} (h : Trn O O' a b) (hb : Below b.heap.size b c) : Trn O O' a c := h.trans (Trn.of hb)
theorem Trn.set {O : Nat → Prop} {w : World} (a : Addr) (v : Value) (h : O a.block) : Trn O O w (w.setCell a v) := ⟨Ke.set _ _ _ _ h, fun _ e => Or.inl e⟩
/-- what a step leaves -/
def StF (w w' : World) (lo x : Nat) (O : Nat → Prop) (S : Sx) (ad : Bool) (n : Int) (T g k : Nat) : Prop := ∃ O', Fw w' lo x O' S ad n T g k ∧ Trn O O' w w'

set_option maxRecDepth 100000 in
set_option maxHeartbeats 8000000 in
theorem rsymbol_f {w : World} {lo x : Nat} {O : Nat → Prop} {S : Sx} {ad : Bool} {n : Int} {T g k : Nat} (h : Fw w lo x O S ad n T g k) (hkb : k ≤ 1099511626000) (hn0 : 0 ≤ n) (hn1 : n ≤ 1152921504606846976) {kk c v : Nat} (hk : kk < 32) (hc : c < sC kk) (hv : v < sV kk) {pa pe : Nat} (hpa : pa = eb (tb S kk c).1 v) (hpe : pe = ee (tb S kk c).1 v) :
    Calls Tryd.prog 40 #[.pointer (some ⟨x, 0, none⟩), .int .i64 kk, .int .i64 c, .int .i64 v] w fun e w' => e = .returned (.tuple #[.int .i64 v, .int .i64 0]) ∧ StF w w' lo x O (upd S ad kk c v) ad (n + 1) (L2.ePut T g k pa pe).1 (L2.ePut T g k pa pe).2.1 (L2.ePut T g k pa pe).2.2 := by
  obtain ⟨bt, cT, B, xe, d, h, rfl⟩ := h
  obtain ⟨ep, hep⟩ : ∃ ep, ep = L2.ePut T g k pa pe := ⟨_, rfl⟩
  rw [← hep]
  have HEp : Hid (ep = L2.ePut T g k pa pe) := hep
  have HF : Hid (FW w lo x bt cT B xe d S ad n T g k) := h
  have htk := h.hu.ok.at hk hc
  have HTk : Hid ((tb S kk c).1.length = sV kk ∧ TOk (tb S kk c).1 (tb S kk c).2) := htk
  have hee := eb_ee htk.2 (s := v) (by rw [htk.1]; exact hv)
  have hle := ee_le htk.2 (i := v) (by rw [htk.1]; exact hv)
  have HPE : Hid (pa < pe ∧ pe ≤ 32768) := ⟨by omega, by omega⟩
  have HEv : Hid (L2.Ev ep.1 ep.2.1 ep.2.2) := by show L2.Ev _ _ _; rw [hep]; exact (L2.ePut_ok h.ev (by omega) (by omega)).1
  have HVl : Hid (v < sV kk) := hv
  have HBo : Hid (∀ u ta tc, Sl u .u16 ta (tb S kk c).1 → Calls Tryd.prog 66 #[.agg #[.slice ta (sV kk) tc, .int .i64 (tb S kk c).2], .int .i64 v] u fun e w' => e = .returned (.tuple #[.int .u32 pa, .int .u32 pe, .int .i64 0]) ∧ Below u.heap.size u w') := fun u ta tc hs => by
    have := rbounds_ok (c := tc) hs htk.2 (i := v) (by rw [htk.1]; exact hv)
    rw [htk.1] at this
    rw [hpa, hpe]
    exact this
  have HAd : Hid (∀ u ta tc, Sl u .u16 ta (tb S kk c).1 → Calls Tryd.prog 71 #[.agg #[.slice ta (sV kk) tc, .int .i64 (tb S kk c).2], .int .i64 v] u fun e w' => ∃ g4 c4, e = .returned (.tuple #[.agg #[.slice (some ⟨g4, 0, none⟩) (sV kk) c4, .int .i64 (adN (tb S kk c).2)], .int .i64 0]) ∧ Sl w' .u16 (some ⟨g4, 0, none⟩) (L3.ad (tb S kk c).1 (tb S kk c).2 v) ∧ u.heap.size ≤ g4 ∧ Tz w' g4 ∧ Below u.heap.size u w') := fun u ta tc hs => by
    have h := radapt_ok (c := tc) hs htk.2 (s := v) (by rw [htk.1]; exact hv)
    rw [htk.1] at h
    refine h.mono ?_
    rintro e w' ⟨g4, c4, rfl, ho, hb⟩
    rw [ad_len, htk.1] at ho ⊢
    exact ⟨g4, c4, rfl, by have := ho.sl; exact this, ho.lies.1, ⟨ho.lies.2, fun j => ho.thaw j⟩, hb⟩
  have HAl : Hid ((L3.ad (tb S kk c).1 (tb S kk c).2 v).length = sV kk ∧ TOk (L3.ad (tb S kk c).1 (tb S kk c).2 v) (adN (tb S kk c).2)) := ⟨by rw [ad_len]; exact htk.1, ad_ok htk.2 v⟩
  have HUt : Hid (upd S true kk c v = S.set kk ((S.getD kk []).set c (L3.ad (tb S kk c).1 (tb S kk c).2 v, adN (tb S kk c).2))) := upd_true S kk c v
  have HUf : Hid (upd S false kk c v = S) := rfl
  have HTu : Hid (∀ u, FW u lo x bt cT B xe d S ad n T g k → ∃ pb tc cq ta, Tu u lo bt B S kk c pb tc cq ta) := fun u hu => hu.hu.at hk hc
  have b0 : ¬ (c : Int) < 0 := by omega
  have b1 : ¬ (sC kk : Int) ≤ (c : Int) := by omega
  have b2 : ¬ (v : Int) < 0 := by omega
  have b3 : ¬ (sV kk : Int) ≤ (v : Int) := by omega
  have b4 : 0 ≤ (kk : Int) := by omega
  have b5 : (kk : Int) < 32 := by omega
  have b6 : 0 ≤ (c : Int) := by omega
  have b7 : (c : Int) < (sC kk : Int) := by omega
  clear htk hee hle hpa hpe h hc hv hep
  go_enter Tryd.func40, Tryd.ntmps40
  go_wp2_with fail
  refine (rshape_ok hk).mono ?_
  rintro e w1 ⟨rfl, hb1⟩
  have HF1 : Hid (FW w1 lo x bt cT B xe d S ad n T g k) := HF.out.to hb1
  have HT1 : Hid (Trn (Of x B xe d) (Of x B xe d) w w1) := Trn.of hb1
  clear hb1
  have q0 := HF1.out.c0
  have q2 := HF1.out.c2
  obtain ⟨pb, tc, cq, ta, hta⟩ := HTu.out w1 HF1.out
  have HTa : Hid (Tu w1 lo bt B S kk c pb tc cq ta) := hta
  have p0 := hta.top (fun _ => False) w1 (Ke.refl _ _) (fun _ e => e.elim)
  have p1 := hta.c0 (fun _ => False) w1 (Ke.refl _ _) (fun _ e => e.elim)
  have p2 := hta.c1 (fun _ => False) w1 (Ke.refl _ _) (fun _ e => e.elim)
  generalize hC' : (L3.ad (tb S kk c).1 (tb S kk c).2 v) = C' at *
  generalize hn' : adN (tb S kk c).2 = n' at *
  generalize htn : (tb S kk c).2 = tn at *
  have HTn : Hid ((tb S kk c).2 = tn) := htn
  clear hta hC' hn' htn
  have HB2 : Hid (Below w1.heap.size w1 (w1.alloc (.cells #[.slice ta (sV kk) tc, .int .i64 tn] 63))) := from_alloc _ _
  have HX2 : Hid (∀ u, Ke (Of x B xe d) (w1.alloc (.cells #[.slice ta (sV kk) tc, .int .i64 tn] 63)) u → u.cell? ⟨w1.heap.size, 0, none⟩ = some (.slice ta (sV kk) tc) ∧ u.cell? ⟨w1.heap.size, 1, none⟩ = some (.int .i64 tn)) := fun u hu => by
    have hnO : ¬ Of x B xe d w1.heap.size := fun e => by have := (HF1.out.lt e).2; omega
    rw [hu.cell _ _ (by simp) hnO, hu.cell _ _ (by simp) hnO]
    simp [go_sem]
  have HF2 : Hid (FW (w1.alloc (.cells #[.slice ta (sV kk) tc, .int .i64 tn] 63)) lo x bt cT B xe d S ad n T g k) := HF1.out.to HB2.out
  have q0b := HF2.out.c0
  go_upto_region 7 with fail
  generalize hw2 : w1.alloc (.cells #[.slice ta (sV kk) tc, .int .i64 tn] 63) = w2 at *
  obtain ⟨s0, s1⟩ := HX2.out w2 (Ke.refl _ _)
  clear q0 q2 p0 p1 p2 hw2
  go_wp2_with fail
  refine (HBo.out _ _ _ (HTa.out.sl (fun _ => False) _ (Ke.of HB2.out) (fun _ e => e.elim))).mono ?_
  rintro e w3 ⟨rfl, hb3⟩
  have HF3 : Hid (FW w3 lo x bt cT B xe d S ad n T g k) := HF2.out.to hb3
  have HB3 : Hid (Below w2.heap.size w2 w3) := hb3
  have r0 := HF3.out.c0
  clear hb3 q0b s0 s1
  go_wp2_with fail
  refine (L2.rput_yes HF3.out.en HF3.out.ev hkb pa pe HPE.out.1 HPE.out.2).mono ?_
  rintro e w4 ⟨rfl, d', he4, hk4⟩
  rw [← HEp.out] at he4
  obtain ⟨hf4, ht4⟩ := HF3.out.eng hk4 he4 HEv.out
  have HF4 : Hid (FW w4 lo x bt cT B xe d' S ad n ep.1 ep.2.1 ep.2.2) := hf4
  have HT4 : Hid (Trn (Of x B xe d) (Of x B xe d') w w4) := ((HT1.out.to HB2.out).to HB3.out).trans ht4
  have HK4 : Hid (Ke (fun y => y = xe ∨ d.ownBlock = some y) w1 w4) := by
    have hke : Ke (fun b => b = xe ∨ d.ownBlock = some b) w3 w4 := ⟨hk4.os, hk4.tape, hk4.output, hk4.size, fun i hi hP => hk4.block i hi (fun e => hP (Or.inl e)) (fun e => hP (Or.inr e))⟩
    exact Ke.trans (Ke.of (P := fun _ => False) (below_to HB2.out HB3.out)) hke (fun _ e => e.elim) (fun _ _ e => e)
  obtain ⟨s0, s1⟩ := HX2.out w4 (Ke.trans (Ke.of (P := fun _ => False) HB3.out) ht4.ke (fun _ e => e.elim) (fun _ _ e => e))
  have r3 := HF4.out.c3
  have r4 := HF4.out.c4
  have r5 := HF4.out.th
  clear he4 hk4 hf4 ht4 r0
  cases ad
  · have HFin : Hid (StF w (w4.setCell ⟨x, 4, none⟩ (.int .i64 (n + 1))) lo x (Of x B xe d) (upd S false kk c v) false (n + 1) ep.1 ep.2.1 ep.2.2) := ⟨_, ⟨bt, cT, B, xe, d', by rw [HUf.out]; exact HF4.out.count, rfl⟩, HT4.out.trans (Trn.set _ _ (Or.inl rfl))⟩
    go_wp2_with fail
    refine bodyPost_ret (v := .tuple #[.int .i64 v, .int .i64 0]) (by simp [results, Tryd.results40, go_sem]) rfl ⟨rfl, ?_⟩
    exact HFin.out
  · have HEB : Hid (∀ b, (b = xe ∨ d.ownBlock = some b) → ¬ B b) := fun b e => by
      rcases e with rfl | e
      · exact HF.out.eb.1
      · exact HF.out.eb.2 b e
    have HS4 : Hid (Sl w4 .u16 ta (tb S kk c).1) := HTa.out.sl _ w4 HK4.out HEB.out
    go_wp2_with fail
    refine (HAd.out _ _ _ HS4.out).mono ?_
    rintro e w5 ⟨g5, c5, rfl, hs5, hg5, hz5, hb5⟩
    have HZ6 : Hid (∀ j, (w5.alloc (.cells #[.slice (some ⟨g5, 0, none⟩) (sV kk) c5, .int .i64 n'] 63)).frozen? ⟨g5, j, none⟩ = false) := fun j => by rw [newFrozen (from_alloc w5 _) g5 j hz5.lt]; exact hz5.th j
    have HB6 : Hid (Below w4.heap.size w4 (w5.alloc (.cells #[.slice (some ⟨g5, 0, none⟩) (sV kk) c5, .int .i64 n'] 63))) := to_alloc hb5 _
    have HK6 : Hid (Ke (fun y => y = xe ∨ d.ownBlock = some y) w1 (w5.alloc (.cells #[.slice (some ⟨g5, 0, none⟩) (sV kk) c5, .int .i64 n'] 63))) := Ke.trans HK4.out (Ke.of (P := fun _ => False) HB6.out) (fun _ e => e) (fun _ _ e => e.elim)
    have HS6 : Hid (Sl (w5.alloc (.cells #[.slice (some ⟨g5, 0, none⟩) (sV kk) c5, .int .i64 n'] 63)) .u16 (some ⟨g5, 0, none⟩) C') := hs5.to (from_alloc _ _)
    have HG6 : Hid (w4.heap.size ≤ g5) := hg5
    have HN6 : Hid (w4.heap.size ≤ w5.heap.size ∧ w5.heap.size < (w5.alloc (.cells #[.slice (some ⟨g5, 0, none⟩) (sV kk) c5, .int .i64 n'] 63)).heap.size) := ⟨hb5.size, by simp⟩
    have HX6 : Hid ((w5.alloc (.cells #[.slice (some ⟨g5, 0, none⟩) (sV kk) c5, .int .i64 n'] 63)).cell? ⟨w5.heap.size, 0, none⟩ = some (.slice (some ⟨g5, 0, none⟩) (sV kk) c5) ∧ (w5.alloc (.cells #[.slice (some ⟨g5, 0, none⟩) (sV kk) c5, .int .i64 n'] 63)).cell? ⟨w5.heap.size, 1, none⟩ = some (.int .i64 n')) := by constructor <;> simp [go_sem]
    have HF6 : Hid (FW (w5.alloc (.cells #[.slice (some ⟨g5, 0, none⟩) (sV kk) c5, .int .i64 n'] 63)) lo x bt cT B xe d' S true n ep.1 ep.2.1 ep.2.2) := HF4.out.to HB6.out
    clear hs5 hg5 hz5 hb5 s0 s1 r3 r4 r5 HAd
    go_wp2_with fail
    generalize w5.alloc (.cells #[.slice (some ⟨g5, 0, none⟩) (sV kk) c5, .int .i64 n'] 63) = U at *
    generalize w5.heap.size = nx at *
    have HPl : Hid (pb < w1.heap.size ∧ pb ≠ x ∧ pb ≠ bt ∧ bt ≠ x) := ⟨HF1.out.hu.lt HTa.out.own, fun e => HF1.out.bx (by rw [← e]; exact HTa.out.own), HTa.out.ne, fun e => HF1.out.bx (by rw [← e]; exact HTa.out.ob)⟩
    have HNl : Hid (w1.heap.size ≤ nx ∧ nx < U.heap.size ∧ x < U.heap.size ∧ bt < U.heap.size ∧ pb < U.heap.size ∧ bt < w1.heap.size) := by
      have h1 := HK4.out.size
      have h2 := HK6.out.size
      have h3 := HN6.out
      have h4 := HF1.out.low
      have h5 := HF1.out.hu.lt HTa.out.ob
      have h6 := HPl.out.1
      exact ⟨by omega, by omega, by omega, by omega, by omega, by omega⟩
    have HTop : Hid (U.cell? ⟨bt, kk, none⟩ = some (.slice (some ⟨pb, 0, none⟩) (sC kk) cq)) := HTa.out.top _ U HK6.out HEB.out
    have HKq : Hid (∀ u, Ke (fun y => y = pb) U u → u.cell? ⟨x, 2, none⟩ = some (.slice (some ⟨bt, 0, none⟩) 32 cT) ∧ u.cell? ⟨bt, kk, none⟩ = some (.slice (some ⟨pb, 0, none⟩) (sC kk) cq) ∧ u.cell? ⟨nx, 0, none⟩ = some (.slice (some ⟨g5, 0, none⟩) (sV kk) c5) ∧ u.cell? ⟨nx, 1, none⟩ = some (.int .i64 n')) := fun u hu => by
      have h1 := HNl.out
      have h2 := HPl.out
      rw [hu.cell x 2 (by omega) (by omega), hu.cell bt kk (by omega) (by omega), hu.cell nx 0 (by omega) (by omega), hu.cell nx 1 (by omega) (by omega)]
      exact ⟨HF6.out.c2, HTop.out, HX6.out.1, HX6.out.2⟩
    have HFin : Hid (∀ u, u = (U.drew.setCell ⟨pb, c * 2, none⟩ (.slice (some ⟨g5, 0, none⟩) (sV kk) c5)).setCell ⟨pb, c * 2 + 1, none⟩ (.int .i64 n') → u.cell? ⟨x, 4, none⟩ = some (.int .i64 n) ∧ u.frozen? ⟨x, 4, none⟩ = false ∧ StF w (u.setCell ⟨x, 4, none⟩ (.int .i64 (n + 1))) lo x (Of x B xe d) (upd S true kk c v) true (n + 1) ep.1 ep.2.1 ep.2.2) := fun u hu => by
      obtain ⟨B', t1, t2, t3⟩ := HTa.out.put _ U.drew g5 c5 C' n' (Ke.trans HK6.out (Ke.of (P := fun _ => False) (below_drew (Below.refl _ _))) (fun _ e => e) (fun _ _ e => e.elim)) HEB.out (HS6.out.to (below_drew (Below.refl _ _))) (fun j => HZ6.out j) (by have := HK4.out.size; have := HG6.out; omega) HAl.out.1 HAl.out.2
      rw [← hu, ← HUt.out] at t1
      rw [← hu] at t3
      have hf := HF6.out.to (w' := U.drew) (below_drew (Below.refl _ _))
      have hl := HPl.out
      have hg6 := HG6.out
      have hkp : Ke (fun y => y = pb) U.drew u := by
        rw [hu]
        exact Ke.trans (Ke.set (fun y => y = pb) _ ⟨pb, c * 2, none⟩ _ rfl) (Ke.set (fun y => y = pb) _ ⟨pb, c * 2 + 1, none⟩ _ rfl) (fun _ e => e) (fun _ _ e => e)
      have hx4 : x < w4.heap.size := HF4.out.low
      have hne : xe ≠ pb := fun e => HF4.out.eb.1 (by rw [e]; exact HTa.out.own)
      have hno : ∀ b, d'.ownBlock = some b → b ≠ pb := fun b hb e => HF4.out.eb.2 b hb (by rw [e]; exact HTa.out.own)
      have hFu : FW u lo x bt cT B' xe d' (upd S true kk c v) true n ep.1 ep.2.1 ep.2.2 := by
        refine ⟨by rw [hkp.cell _ _ hf.low (Ne.symm hl.2.1)]; exact hf.c0, by rw [hkp.cell _ _ hf.low (Ne.symm hl.2.1)]; exact hf.c2, by rw [hkp.cell _ _ hf.low (Ne.symm hl.2.1)]; exact hf.c3, by rw [hkp.cell _ _ hf.low (Ne.symm hl.2.1)]; exact hf.c4, by rw [hkp.frozen _ _ hf.low (Ne.symm hl.2.1)]; exact hf.th, Nat.lt_of_lt_of_le hf.low hkp.size, hf.xlo, t1, hf.en.carry (hkp.block xe hf.en.lies.2 hne) (fun b hb => hkp.block b (hf.en.own_lt b hb).2.1 (hno b hb)) hkp.size, hf.ev, fun e => ?_, hf.ex, ⟨fun e => ?_, fun b hb e => ?_⟩, hf.rm⟩
        · rcases t2 x e with e | e
          · exact hf.bx e
          · omega
        · rcases t2 xe e with e | e
          · exact hf.eb.1 e
          · have := HF4.out.en.lies.2; omega
        · rcases t2 b e with e | e
          · exact hf.eb.2 b hb e
          · have := (HF4.out.en.own_lt b hb).2.1; omega
      refine ⟨hFu.c4, hFu.th, _, ⟨bt, cT, B', xe, d', hFu.count, rfl⟩, (HT4.out.trans ⟨?_, fun y hy => ?_⟩).trans (Trn.set _ _ (Or.inl rfl))⟩
      · exact Ke.trans (Ke.of (P := fun _ => False) (below_drew HB6.out)) t3 (fun _ e => e.elim) (fun _ _ e => Or.inr (Or.inr e))
      · rcases hy with e | e | e
        · exact Or.inl (Or.inl e)
        · exact Or.inl (Or.inr (Or.inl e))
        · rcases t2 y e with e | e
          · exact Or.inl (Or.inr (Or.inr e))
          · exact Or.inr (by omega)
    have p4 : U.drew.cell? ⟨pb, c * 2, none⟩ = some (.slice ta (sV kk) tc) := HTa.out.c0 _ U HK6.out HEB.out
    have p5 : U.drew.cell? ⟨pb, c * 2 + 1, none⟩ = some (.int .i64 tn) := by rw [← HTn.out]; exact HTa.out.c1 _ U HK6.out HEB.out
    have p6 : U.drew.frozen? ⟨pb, c * 2, none⟩ = false := HTa.out.th _ U _ HK6.out HEB.out
    have p7 : U.drew.frozen? ⟨pb, c * 2 + 1, none⟩ = false := HTa.out.th _ U _ HK6.out HEB.out
    have p8 : U.cell? ⟨pb, c * 2, none⟩ = some (.slice ta (sV kk) tc) := p4
    have p9 : U.cell? ⟨pb, c * 2 + 1, none⟩ = some (.int .i64 tn) := p5
    have p10 : U.frozen? ⟨pb, c * 2, none⟩ = false := p6
    have p11 : U.frozen? ⟨pb, c * 2 + 1, none⟩ = false := p7
    go_region_held3 (fun u => u.cell? ⟨x, 2, none⟩ = some (.slice (some ⟨bt, 0, none⟩) 32 cT) ∧ u.cell? ⟨bt, kk, none⟩ = some (.slice (some ⟨pb, 0, none⟩) (sC kk) cq) ∧ u.cell? ⟨nx, 0, none⟩ = some (.slice (some ⟨g5, 0, none⟩) (sV kk) c5) ∧ u.cell? ⟨nx, 1, none⟩ = some (.int .i64 n'))
      ((exact HKq.out _ (by first | exact ke_drew _ _ | exact ke_two _ _ _ _ _ _)))
      ((fail))
    all_goals
      obtain ⟨y0, y1, hfin⟩ := HFin.out (((U.setCell ⟨pb, c * 2, none⟩ (.slice (some ⟨g5, 0, none⟩) (sV kk) c5)).setCell ⟨pb, c * 2 + 1, none⟩ (.int .i64 n')).drew) rfl
      have HFn : Hid _ := hfin
      clear hfin p4 p5 p6 p7 p8 p9 p10 p11
      generalize ((U.setCell ⟨pb, c * 2, none⟩ (.slice (some ⟨g5, 0, none⟩) (sV kk) c5)).setCell ⟨pb, c * 2 + 1, none⟩ (.int .i64 n')).drew = U2 at *
      go_wp2_with fail
      refine bodyPost_ret (v := .tuple #[.int .i64 v, .int .i64 0]) (by simp [results, Tryd.results40, go_sem]) rfl ⟨rfl, ?_⟩
      exact HFn.out

/-- refused: the kind -/
theorem rsymbol_kind {w : World} {x : Nat} {kk c v : Int} (hk : kk < 0 ∨ 32 ≤ kk) : Calls Tryd.prog 40 #[.pointer (some ⟨x, 0, none⟩), .int .i64 kk, .int .i64 c, .int .i64 v] w fun e w' => e = .returned (.tuple #[.int .i64 0, .int .i64 41]) ∧ Below w.heap.size w w' := by
  go_enter Tryd.func40, Tryd.ntmps40
  go_wp2_with fail
  refine (rshape_no hk).mono ?_
  rintro e w1 ⟨rfl, hb1⟩
  have HB : Hid (Below w.heap.size w w1) := hb1
  clear hb1
  go_wp2_with fail
  refine bodyPost_ret (v := .tuple #[.int .i64 0, .int .i64 41]) (by simp [results, Tryd.results40, go_sem]) rfl ⟨rfl, HB.out⟩
set_option maxHeartbeats 2000000 in
/-- refused: the context, or the value -/
theorem rsymbol_arg {w : World} {x xe : Nat} {kk : Nat} {c v : Int} (hx : w.cell? ⟨x, 0, none⟩ = some (.pointer (some ⟨xe, 0, none⟩))) (hlt : x < w.heap.size) (hk : kk < 32) (h : c < 0 ∨ (sC kk : Int) ≤ c ∨ v < 0 ∨ (sV kk : Int) ≤ v) : Calls Tryd.prog 40 #[.pointer (some ⟨x, 0, none⟩), .int .i64 kk, .int .i64 c, .int .i64 v] w fun e w' => e = .returned (.tuple #[.int .i64 0, .int .i64 2]) ∧ Below w.heap.size w w' := by
  by_cases h1 : c < 0
  · go_enter Tryd.func40, Tryd.ntmps40
    go_wp2_with fail
    refine (rshape_ok hk).mono ?_
    rintro e w1 ⟨rfl, hb1⟩
    have HB : Hid (Below w.heap.size w w1) := hb1
    clear hb1
    go_wp2_with fail
    refine bodyPost_ret (v := .tuple #[.int .i64 0, .int .i64 2]) (by simp [results, Tryd.results40, go_sem]) rfl ⟨rfl, HB.out⟩
  · by_cases h2 : (sC kk : Int) ≤ c
    · go_enter Tryd.func40, Tryd.ntmps40
      go_wp2_with fail
      refine (rshape_ok hk).mono ?_
      rintro e w1 ⟨rfl, hb1⟩
      have HB : Hid (Below w.heap.size w w1) := hb1
      clear hb1
      go_wp2_with fail
      refine bodyPost_ret (v := .tuple #[.int .i64 0, .int .i64 2]) (by simp [results, Tryd.results40, go_sem]) rfl ⟨rfl, HB.out⟩
    · by_cases h3 : v < 0
      · go_enter Tryd.func40, Tryd.ntmps40
        go_wp2_with fail
        refine (rshape_ok hk).mono ?_
        rintro e w1 ⟨rfl, hb1⟩
        have HB : Hid (Below w.heap.size w w1) := hb1
        have q0 : w1.cell? ⟨x, 0, none⟩ = some (.pointer (some ⟨xe, 0, none⟩)) := by rw [newCell hb1 _ _ hlt]; exact hx
        clear hb1 hx
        go_wp2_with fail
        refine bodyPost_ret (v := .tuple #[.int .i64 0, .int .i64 2]) (by simp [results, Tryd.results40, go_sem]) rfl ⟨rfl, HB.out⟩
      · have h4 : (sV kk : Int) ≤ v := by omega
        go_enter Tryd.func40, Tryd.ntmps40
        go_wp2_with fail
        refine (rshape_ok hk).mono ?_
        rintro e w1 ⟨rfl, hb1⟩
        have HB : Hid (Below w.heap.size w w1) := hb1
        have q0 : w1.cell? ⟨x, 0, none⟩ = some (.pointer (some ⟨xe, 0, none⟩)) := by rw [newCell hb1 _ _ hlt]; exact hx
        clear hb1 hx
        go_wp2_with fail
        refine bodyPost_ret (v := .tuple #[.int .i64 0, .int .i64 2]) (by simp [results, Tryd.results40, go_sem]) rfl ⟨rfl, HB.out⟩
theorem ef_base {w : World} {B B' x low g : Nat} (h : L2.Ef w B x (.slice none 0 0) [] low g) (hb : B' ≤ x) : L2.Ef w B' x (.slice none 0 0) [] low g :=
  ⟨h.data, World.ownsRow_nil _ _ _ _, h.apart, h.low, h.rng, h.thaw0, h.thaw1, h.thaw2, ⟨hb, h.lies.2⟩, h.byt⟩
theorem fw_new {w v : World} {bt cT xe : Nat} {B : Nat → Prop} {S : Sx} {ad : Bool} (hw : Below w.heap.size w v) (hu : Hz v w.heap.size bt B S) (he : L2.Ef v w.heap.size xe (.slice none 0 0) [] 0 4294967295) (hx : ¬ B xe) (hr : 32 ≤ cT) :
    Fw (v.alloc (.cells #[.pointer (some ⟨xe, 0, none⟩), .pointer none, .slice (some ⟨bt, 0, none⟩) 32 cT, .bool ad, .int .i64 0] 51)) w.heap.size v.heap.size (Of v.heap.size B xe (.slice none 0 0)) S ad 0 0 4294967295 0 := by
  have hb : Below v.heap.size v (v.alloc (.cells #[.pointer (some ⟨xe, 0, none⟩), .pointer none, .slice (some ⟨bt, 0, none⟩) 32 cT, .bool ad, .int .i64 0] 51)) := from_alloc _ _
  have hen : L2.EfS v w.heap.size xe (.slice none 0 0) 0 4294967295 0 := ⟨[], 0, he, rfl, by simp [L2.pre], by omega⟩
  refine ⟨bt, cT, B, xe, .slice none 0 0, ⟨by simp [go_sem], by simp [go_sem], by simp [go_sem], by simp [go_sem], by simp [go_sem], by simp, hw.size, hu.to hb, hen.below hb, L2.Ev.first, fun e => ?_, ⟨?_, by simp [Value.ownBlock]⟩, ⟨hx, fun b e => by simp [Value.ownBlock] at e⟩, hr⟩, rfl⟩
  · have := hu.lt e; omega
  · have := he.lies.2; omega
def FwN (w w' : World) (e : Ending) (S : Sx) (ad : Bool) : Prop := ∃ x O, e = .returned (.tuple #[.pointer (some ⟨x, 0, none⟩), .int .i64 0]) ∧ Fw w' w.heap.size x O S ad 0 0 4294967295 0 ∧ Below w.heap.size w w'

set_option maxRecDepth 100000 in
set_option maxHeartbeats 2000000 in
theorem rwriter_u {w : World} {lo bt cT : Nat} {B : Nat → Prop} {S : Sx} {ad : Bool} (h : Hu w lo bt B S) :
    Calls Tryd.prog 12 #[.agg #[.slice (some ⟨bt, 0, none⟩) 32 cT], .bool ad] w fun e w' => FwN w w' e S ad := by
  obtain ⟨q, K, hs, ho, hd, rfl, rfl⟩ := h
  have HB : Hid (Below w.heap.size w (w.alloc (.cells #[.slice (some ⟨bt, 0, none⟩) 32 cT] 25))) := from_alloc _ _
  have c0 : (w.alloc (.cells #[.slice (some ⟨bt, 0, none⟩) 32 cT] 25)).cell? ⟨w.heap.size, 0, none⟩ = some (.slice (some ⟨bt, 0, none⟩) 32 cT) := by simp [go_sem]
  have HZ : Hid (w.heap.size < (w.alloc (.cells #[.slice (some ⟨bt, 0, none⟩) 32 cT] 25)).heap.size) := by show _ < _; simp
  have HSt : Hid (∀ v, Below w.heap.size w v → Su v lo bt q K) := fun v hv => hs.to hv
  have HO : Hid (Okk K) := ho
  clear hs ho hd
  go_enter Tryd.func12, Tryd.ntmps12
  go_wp2_with fail
  generalize (w.alloc (.cells #[.slice (some ⟨bt, 0, none⟩) 32 cT] 25)) = V at *
  refine (rscheck_u (HSt.out _ HB.out) HO.out).mono ?_
  rintro e w1 ⟨rfl, hb1⟩
  have HB1 : Hid (Below w.heap.size w w1) := below_to HB.out hb1
  have d0 : w1.cell? ⟨w.heap.size, 0, none⟩ = some (.slice (some ⟨bt, 0, none⟩) 32 cT) := by rw [newCell hb1 _ _ HZ.out]; exact c0
  have HZ1 : Hid (w.heap.size < w1.heap.size) := Nat.lt_of_lt_of_le HZ.out hb1.size
  clear hb1 c0
  go_wp2_with fail
  have HK : Hid (∀ v : World, Below w1.heap.size w1 v → v.cell? ⟨w.heap.size, 0, none⟩ = some (.slice (some ⟨bt, 0, none⟩) 32 cT)) := fun v hv => by rw [newCell hv _ _ HZ1.out]; exact d0
  have HCp : Hid (∀ v : World, Below w1.heap.size w1 v → Calls Tryd.prog 10 #[.agg #[.slice (some ⟨bt, 0, none⟩) 32 cT]] v fun e w' => Hzn v w' e (ab K)) := fun v hv => rcopy_z (HSt.out _ (below_to HB1.out hv)) HO.out
  have hbd : Below w1.heap.size w1 w1.drew := below_drew (Below.refl _ _)
  have HA : Hid (∀ wA wB b2 c2 B2, L2.Ef wA w1.drew.heap.size w1.drew.heap.size (.slice none 0 0) [] 0 4294967295 → Below w1.drew.heap.size w1.drew wA → Hz wB wA.heap.size b2 B2 (ab K) → Below wA.heap.size wA wB → 32 ≤ c2 → FwN w (wB.alloc (.cells #[.pointer (some ⟨w1.drew.heap.size, 0, none⟩), .pointer none, .slice (some ⟨b2, 0, none⟩) 32 c2, .bool ad, .int .i64 0] 51)) (.returned (.tuple #[.pointer (some ⟨wB.heap.size, 0, none⟩), .int .i64 0])) (ab K) ad) := fun wA wB b2 c2 B2 h1 h2 h3 h4 h5 => by
    have z1 := HZ1.out
    have z2 := h2.size
    have z3 : w1.drew.heap.size = w1.heap.size := rfl
    have hb : Below w.heap.size w wB := below_to (below_to (below_to HB1.out hbd) h2) h4
    exact ⟨wB.heap.size, _, rfl, fw_new hb (h3.weak (by omega)) (ef_base (h1.below h4) (by omega)) (fun e => by have := h3.ge e; have := h1.lies.2; omega) h5, to_alloc hb _⟩
  have HB2 : Hid (∀ wA wB b2 c2 B2, Hz wB w1.drew.heap.size b2 B2 (ab K) → Below w1.drew.heap.size w1.drew wB → L2.Ef wA wB.heap.size wB.heap.size (.slice none 0 0) [] 0 4294967295 → Below wB.heap.size wB wA → 32 ≤ c2 → FwN w (wA.alloc (.cells #[.pointer (some ⟨wB.heap.size, 0, none⟩), .pointer none, .slice (some ⟨b2, 0, none⟩) 32 c2, .bool ad, .int .i64 0] 51)) (.returned (.tuple #[.pointer (some ⟨wA.heap.size, 0, none⟩), .int .i64 0])) (ab K) ad) := fun wA wB b2 c2 B2 h3 h4 h1 h2 h5 => by
    have z1 := HZ1.out
    have z2 := h4.size
    have z3 : w1.drew.heap.size = w1.heap.size := rfl
    have hb : Below w.heap.size w wA := below_to (below_to (below_to HB1.out hbd) h4) h2
    exact ⟨wA.heap.size, _, rfl, fw_new hb ((h3.to h2).weak (by omega)) (ef_base h1 (by omega)) (fun e => by have := h3.lt e; omega) h5, to_alloc hb _⟩
  go_region_held3 (fun v => v.cell? ⟨w.heap.size, 0, none⟩ = some (.slice (some ⟨bt, 0, none⟩) 32 cT))
    ((exact HK.out _ (by first | assumption | (refine to_alloc ?_ _; assumption))))
    (first
      | (go_at_call 42; refine (L2.rnew_any _).mono ?_; rintro e wA ⟨rfl, heA, hbA⟩; have hzA := below_to (by assumption) hbA)
      | (go_at_call 10; refine (HCp.out _ (by assumption)).mono ?_; rintro e wB ⟨b2, c2, B2, rfl, hs2, hbB, hr2⟩; have hzB := below_to (by assumption) hbB))
  all_goals
    go_wp2_with fail
    refine bodyPost_ret (v := .tuple #[.pointer (some ⟨_, 0, none⟩), .int .i64 0]) (by simp [results, Tryd.results12, go_sem]; rfl) rfl ?_
    first
      | exact HA.out _ _ _ _ _ heA hbA hs2 hbB hr2
      | exact HB2.out _ _ _ _ _ hs2 hbB heA hbA hr2
theorem Fw.raw {w : World} {lo x : Nat} {O : Nat → Prop} {S : Sx} {ad : Bool} {n : Int} {p c g : Nat} (h : Fw w lo x O S ad n p c g) : ∃ xe, w.cell? ⟨x, 0, none⟩ = some (.pointer (some ⟨xe, 0, none⟩)) ∧ w.cell? ⟨x, 4, none⟩ = some (.int .i64 n) ∧ x < w.heap.size ∧ O x := by
  obtain ⟨bt, cT, B, xe, d, h, rfl⟩ := h; exact ⟨xe, h.c0, h.c4, h.low, Or.inl rfl⟩
theorem stf_of {u w' : World} {lo2 x2 : Nat} {O2 : Nat → Prop} {S : Sx} {ad : Bool} {n : Int} {p c g : Nat} (h : Fw u lo2 x2 O2 S ad n p c g) (hb : Below u.heap.size u w') : StF u w' lo2 x2 O2 S ad n p c g := ⟨O2, h.to hb, Trn.of hb⟩
theorem doc_symbol {w : World} {lo x : Nat} {O : Nat → Prop} {S : Sx} {ad : Bool} {n : Int} {p cd g : Nat} (h : Fw w lo x O S ad n p cd g) (hp : g ≤ 1000000000) (hn0 : 0 ≤ n) (hn1 : n ≤ 1000000000) (kk c v : Int) :
    ∃ (r er : Int) (S' : Sx) (n' : Int) (p' c' g' : Nat), (n ≤ n' ∧ n' ≤ n + 30) ∧ g' ≤ g + 60 ∧ ∀ u lo2 x2 O2, Fw u lo2 x2 O2 S ad n p cd g → Calls Tryd.prog 40 #[.pointer (some ⟨x2, 0, none⟩), .int .i64 kk, .int .i64 c, .int .i64 v] u fun e w' => e = .returned (.tuple #[.int .i64 r, .int .i64 er]) ∧ StF u w' lo2 x2 O2 S' ad n' p' c' g' := by
  by_cases hk : kk < 0 ∨ 32 ≤ kk
  · refine ⟨0, 41, S, n, p, cd, g, ⟨by omega, by omega⟩, by omega, fun u lo2 x2 O2 hu => ?_⟩
    refine (rsymbol_kind hk).mono ?_
    rintro e w' ⟨rfl, hb⟩
    exact ⟨rfl, stf_of hu hb⟩
  · obtain ⟨k, rfl⟩ : ∃ k : Nat, kk = (k : Int) := ⟨kk.toNat, by omega⟩
    have hk' : k < 32 := by omega
    by_cases hc : c < 0 ∨ (sC k : Int) ≤ c ∨ v < 0 ∨ (sV k : Int) ≤ v
    · refine ⟨0, 2, S, n, p, cd, g, ⟨by omega, by omega⟩, by omega, fun u lo2 x2 O2 hu => ?_⟩
      obtain ⟨xe, u0, _, u2, _⟩ := hu.raw
      refine (rsymbol_arg u0 u2 hk' hc).mono ?_
      rintro e w' ⟨rfl, hb⟩
      exact ⟨rfl, stf_of hu hb⟩
    · obtain ⟨cx, rfl⟩ : ∃ cx : Nat, c = (cx : Int) := ⟨c.toNat, by omega⟩
      have hc' : cx < sC k := by omega
      obtain ⟨s, rfl⟩ : ∃ s : Nat, v = (s : Int) := ⟨v.toNat, by omega⟩
      have hs : s < sV k := by omega
      obtain ⟨t1, t2⟩ := h.ok.at hk' hc'
      have hsl : s < (tb S k cx).1.length := by rw [t1]; exact hs
      have hee := eb_ee t2 hsl
      have ok := (L2.ePut_ok h.ev (show eb (tb S k cx).1 s < ee (tb S k cx).1 s by omega) (ee_le t2 hsl)).2
      exact ⟨s, 0, upd S ad k cx s, n + 1, (L2.ePut p cd g (eb (tb S k cx).1 s) (ee (tb S k cx).1 s)).1, (L2.ePut p cd g (eb (tb S k cx).1 s) (ee (tb S k cx).1 s)).2.1, (L2.ePut p cd g (eb (tb S k cx).1 s) (ee (tb S k cx).1 s)).2.2, ⟨by omega, by omega⟩, by omega, fun u lo2 x2 O2 hu => rsymbol_f hu (by omega) hn0 (by omega) hk' hc' hs rfl rfl⟩
/-- some set is answered -/
def HuA (w w' : World) (e : Ending) : Prop := ∃ bt cT B S, e = .returned (.agg #[.slice (some ⟨bt, 0, none⟩) 32 cT]) ∧ Hz w' w.heap.size bt B S ∧ Below w.heap.size w w' ∧ 32 ≤ cT
structure SeI (W3 : World) (lo x len : Nat) (iv : Value) (wr : World) : Prop where
  ex : ∃ (i : Nat) (S : Sx) (O : Nat → Prop) (n : Int) (T g k : Nat), i ≤ len ∧ i ≤ 100 ∧ iv = .int .i64 i ∧ Fw wr lo x O S true n T g k ∧ 0 ≤ n ∧ n ≤ 30 * i ∧ k ≤ 60 * i ∧ Below lo W3 wr

set_option maxRecDepth 100000 in
set_option maxHeartbeats 8000000 in
theorem set_learnt (W : World) (a : Option Addr) (cp : Nat) (L : List Dx) (hL : DoAt W a L) (hLl : L.length ≤ 140737488355328) :
    Calls Tryd.prog 9 #[.slice a L.length cp] W fun e w' => HuA W w' e := by
  have HD : Hid (∀ j, j < L.length → ∃ b off, a = some ⟨b, off, none⟩ ∧
    ∀ v, Below W.heap.size W v → v.cell? ⟨b, off + j * 5, none⟩ = some (.bool (L.getD j dz).b) ∧ v.cell? ⟨b, off + j * 5 + 1, none⟩ = some (.int .i64 (L.getD j dz).n) ∧ v.cell? ⟨b, off + j * 5 + 2, none⟩ = some (.int .i64 (L.getD j dz).k) ∧ v.cell? ⟨b, off + j * 5 + 3, none⟩ = some (.int .i64 (L.getD j dz).c) ∧ v.cell? ⟨b, off + j * 5 + 4, none⟩ = some (.int .i64 (L.getD j dz).v)) := fun j hj => hL.cells hj
  have HB0 : Hid (Below W.heap.size W (W.alloc (.cells #[.slice none 0 0] 25))) := from_alloc _ _
  have HR0 : Hid (∀ v, Below (W.alloc (.cells #[.slice none 0 0] 25)).heap.size (W.alloc (.cells #[.slice none 0 0] 25)) v → v.cell? ⟨W.heap.size, 0, none⟩ = some (.slice none 0 0) ∧ v.frozen? ⟨W.heap.size, 0, none⟩ = false) := fun v hv => by
    rw [newCell hv _ _ (by simp), newFrozen hv _ _ (by simp)]; simp [go_sem]
  have HRl : Hid (W.heap.size < (W.alloc (.cells #[.slice none 0 0] 25)).heap.size) := by show _ < _; simp
  clear hL
  go_enter Tryd.func9, Tryd.ntmps9
  go_wp2_with fail
  generalize W.alloc (.cells #[.slice none 0 0] 25) = W1 at *
  refine rdefault_any.mono ?_
  rintro e w2 ⟨bt2, cT2, B2, rfl, hu2, hb2⟩
  have HU2 : Hid (Hu w2 W1.heap.size bt2 B2 dS) := hu2
  have HB2 : Hid (Below W1.heap.size W1 w2) := hb2
  clear hu2 hb2
  go_wp2_with fail
  refine (rwriter_u HU2.out).mono ?_
  rintro e w3 ⟨x, O, rfl, hf3, hb3⟩
  have HI0 : Hid (SeI w3 w2.heap.size x L.length (.int .i64 0) w3) := ⟨0, dS, O, 0, 0, 4294967295, 0, by omega, by omega, rfl, hf3, by omega, by omega, by omega, Below.refl _ _⟩
  have HB3 : Hid (Below W1.heap.size W1 w3) := below_to HB2.out hb3
  have HLo : Hid (W1.heap.size ≤ w2.heap.size ∧ w2.heap.size ≤ w3.heap.size) := ⟨HB2.out.size, hb3.size⟩
  clear hf3 hb3 HU2 HB2
  go_wp2_with fail
  generalize hlo : w2.heap.size = lo at *
  clear hlo
  go_loopw [5] (fun iv wr => SeI w3 lo x L.length iv wr) (fun iv _ => 100 - (intOf iv).toNat)
  case atStart => exact HI0.out
  case round =>
    clear HI0
    obtain ⟨j, S, O, n, T, g, k, hj1, hj2, rfl, hf, hn0, hn1, hk, hbl⟩ := hrel
    have HF : Hid (Fw wr lo x O S true n T g k) := hf
    have HBl : Hid (Below lo w3 wr) := hbl
    have HB1r : Hid (Below W1.heap.size W1 wr) := HB3.out.trans (hbl.mono HLo.out.1)
    have HWr : Hid (Below W.heap.size W wr) := below_to HB0.out HB1r.out
    have j0 : (0 : Int) ≤ (j : Int) := by omega
    clear hf hbl
    by_cases hlj : j < L.length ∧ j < 100
    · obtain ⟨hl1, hl2⟩ := hlj
      have j1 : (j : Int) < (L.length : Int) := by omega
      have j2 : (j : Int) < 100 := by omega
      obtain ⟨bd, off, ha, hcell⟩ := HD.out j hl1
      subst ha
      have HKp : Hid (∀ u, Below W.heap.size W u → u.cell? ⟨bd, off + j * 5 + 2, none⟩ = some (.int .i64 (L.getD j dz).k) ∧ u.cell? ⟨bd, off + j * 5 + 3, none⟩ = some (.int .i64 (L.getD j dz).c) ∧ u.cell? ⟨bd, off + j * 5 + 4, none⟩ = some (.int .i64 (L.getD j dz).v)) := fun u hu => (hcell u hu).2.2
      have HDs : Hid (∃ (r er : Int) (S' : Sx) (n' : Int) (p' c' g' : Nat), (n ≤ n' ∧ n' ≤ n + 30) ∧ g' ≤ k + 60 ∧ ∀ u lo2 x2 O2, Fw u lo2 x2 O2 S true n T g k → Calls Tryd.prog 40 #[.pointer (some ⟨x2, 0, none⟩), .int .i64 (L.getD j dz).k, .int .i64 (L.getD j dz).c, .int .i64 (L.getD j dz).v] u fun e w' => e = .returned (.tuple #[.int .i64 r, .int .i64 er]) ∧ StF u w' lo2 x2 O2 S' true n' p' c' g') := doc_symbol HF.out (by omega) (by omega) (by omega) _ _ _
      generalize L.getD j dz = dd at *
      obtain ⟨db, dn, dk, dc, dv⟩ := dd
      simp only at HKp HDs
      obtain ⟨r, er, S', n', p', c', g', hbn, hbp, hds⟩ := HDs.out
      have HCl : Hid (∀ u, Below wr.heap.size wr u → Calls Tryd.prog 40 #[.pointer (some ⟨x, 0, none⟩), .int .i64 dk, .int .i64 dc, .int .i64 dv] u fun e w' => e = .returned (.tuple #[.int .i64 r, .int .i64 er]) ∧ Below W.heap.size W w' ∧ SeI w3 lo x L.length (.int .i64 ((j : Int) + 1)) w') := fun u hu => by
        refine (hds u lo x O (HF.out.to hu)).mono ?_
        rintro e w' ⟨rfl, O', hf', ht'⟩
        have hb' : Below lo u w' := ht'.ke.below (fun y e => (HF.out.lt e).1) (Nat.le_trans (Nat.le_trans HLo.out.2 HBl.out.size) hu.size)
        have hbu : Below lo wr u := hu.mono (Nat.le_trans HLo.out.2 HBl.out.size)
        refine ⟨rfl, below_to HB0.out ((HB1r.out.trans (hbu.mono HLo.out.1)).trans (hb'.mono HLo.out.1)), j + 1, S', O', n', p', c', g', by omega, by omega, by go_num, hf', by omega, by omega, by omega, (HBl.out.trans hbu).trans hb'⟩
      have HJ : Hid (j < L.length ∧ j < 100) := ⟨hl1, hl2⟩
      obtain ⟨d2, d3, d4⟩ := HKp.out _ HWr.out
      have hbw : Below W.heap.size W wr.drew := below_drew HWr.out
      have hbd : Below wr.heap.size wr wr.drew := below_drew (Below.refl _ _)
      clear hcell hds HDs
      go_wp2_with fail
      go_region_held3 (fun u => u.cell? ⟨bd, off + j * 5 + 2, none⟩ = some (.int .i64 dk) ∧ u.cell? ⟨bd, off + j * 5 + 3, none⟩ = some (.int .i64 dc) ∧ u.cell? ⟨bd, off + j * 5 + 4, none⟩ = some (.int .i64 dv))
        ((first | exact HKp.out _ HWr.out | exact HKp.out _ (by assumption)))
        ((go_at_call 40; refine (HCl.out _ (by assumption)).mono ?_; rintro e wB ⟨rfl, hzB, hse⟩))
      all_goals
        have HSe : Hid (SeI w3 lo x L.length (.int .i64 ((j : Int) + 1)) wB) := hse
        clear hse hzB
        go_wp2_with fail
        have hlj := HJ.out
        go_roundw
        case rel => exact HSe.out
        case measure => simp [intOf]; omega
    · obtain ⟨bt, cT, B, xe, d, hfw, rfl⟩ := HF.out
      have x2 := hfw.c2
      have HRm : Hid (32 ≤ cT) := hfw.rm
      obtain ⟨r0, r1⟩ := HR0.out _ HB1r.out
      have HFin : Hid (Hz (wr.setCell ⟨W.heap.size, 0, none⟩ (.slice (some ⟨bt, 0, none⟩) 32 cT)) W.heap.size bt B S ∧ Below W.heap.size W (wr.setCell ⟨W.heap.size, 0, none⟩ (.slice (some ⟨bt, 0, none⟩) 32 cT))) := by
        have h1 := HLo.out.1
        have h2 := HRl.out
        refine ⟨(hfw.hu.ke (P := fun y => y = W.heap.size) (Ke.set _ _ _ _ rfl) ?_).weak (by omega), below_set HWr.out (Nat.le_refl _) _⟩
        rintro b rfl hb
        have := hfw.hu.ge hb
        omega
      clear hfw HF HBl
      by_cases h1 : j < L.length
      · have j1 : (j : Int) < (L.length : Int) := by omega
        have j2 : ¬ (j : Int) < 100 := by omega
        go_wp2_with fail
        refine bodyPost_ret (v := .agg #[.slice (some ⟨bt, 0, none⟩) 32 cT]) (by simp [results, Tryd.results9, go_sem, r0]) rfl ?_
        exact ⟨bt, cT, B, S, rfl, HFin.out.1, HFin.out.2, HRm.out⟩
      · have j1 : ¬ (j : Int) < (L.length : Int) := by omega
        go_wp2_with fail
        refine bodyPost_ret (v := .agg #[.slice (some ⟨bt, 0, none⟩) 32 cT]) (by simp [results, Tryd.results9, go_sem, r0]) rfl ?_
        exact ⟨bt, cT, B, S, rfl, HFin.out.1, HFin.out.2, HRm.out⟩

end Go.Proofs.YtppanogpeengnaaDoor
