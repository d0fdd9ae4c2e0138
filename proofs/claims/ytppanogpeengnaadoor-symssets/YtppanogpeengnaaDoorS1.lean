/- DERIVED. Several texts in one: The shapes of the kinds; the walks of Shape and first. A set of tables in memory. A set that grows; the walks of filled and Default. The walks of filled and Default. The walk of Check, of sets that may be. The walk of Copy, of sets that may be. A coder in memory, apart from what drives it; the walks of none, Writes, Count. -/
import Derived.Test.YtppanogpeengnaaDoorT2
import Derived.Deep.RegionHeld3
import Derived.Deep.RegionLaw
namespace Go.Proofs.YtppanogpeengnaaDoor
open Go.RowKit L3

/-- contexts, values, whether steep -/
def shp : List (Nat × Nat × Bool) := [(8, 10, false), (4, 8, false), (3, 2, false), (3, 2, false), (4, 13, false), (8, 7, false), (1, 13, false), (1, 14, false), (1, 8, false), (2, 16, true), (1, 2, false), (3, 3, false), (3, 9, false), (1, 2, false), (3, 3, false), (1, 2, false), (3, 4, false), (1, 4, false), (2, 11, true), (2, 8, false), (1, 3, false), (1, 2, false), (4, 2, false), (2, 5, false), (2, 7, false), (2, 9, false), (2, 11, false), (2, 3, true), (10, 4, true), (14, 4, true), (6, 2, false), (3, 2, false)]
def sC (k : Nat) : Nat := (shp.getD k (0, 0, false)).1
def sV (k : Nat) : Nat := (shp.getD k (0, 0, false)).2.1
def sS (k : Nat) : Bool := (shp.getD k (0, 0, false)).2.2
theorem sC_le : ∀ k, k < 32 → 1 ≤ sC k ∧ sC k ≤ 14 := by decide +kernel
theorem sV_le : ∀ k, k < 32 → 2 ≤ sV k ∧ sV k ≤ 16 := by decide +kernel
/-- the table of shapes lies in its block -/
structure Sh (w : World) : Prop where
  low : 0 < w.heap.size
  c : ∀ k, k < 32 → w.cell? ⟨0, k * 3, none⟩ = some (.int .i64 (sC k : Nat))
  v : ∀ k, k < 32 → w.cell? ⟨0, k * 3 + 1, none⟩ = some (.int .i64 (sV k : Nat))
  s : ∀ k, k < 32 → w.cell? ⟨0, k * 3 + 2, none⟩ = some (.bool (sS k))
theorem Sh.below {B : Nat} {w w' : World} (h : Sh w) (hb : Below B w w') (hB : 0 < B) : Sh w' :=
  ⟨Nat.lt_of_lt_of_le h.low hb.size, fun k hk => by rw [newCell hb _ _ hB]; exact h.c k hk, fun k hk => by rw [newCell hb _ _ hB]; exact h.v k hk, fun k hk => by rw [newCell hb _ _ hB]; exact h.s k hk⟩
theorem Sh.to {w w' : World} (h : Sh w) (hb : Below w.heap.size w w') : Sh w' := h.below hb h.low

set_option maxHeartbeats 1000000 in
theorem shape_ok {w : World} {k : Nat} (h : Sh w) (hk : k < 32) :
    Calls Tryd.prog 38 #[.int .i64 k] w fun e w' => e = .returned (.tuple #[.int .i64 (sC k : Nat), .int .i64 (sV k : Nat), .int .i64 0]) ∧ Below w.heap.size w w' := by
  have c0 := h.c k hk
  have c1 := h.v k hk
  have b0 : 0 ≤ (k : Int) := by omega
  have b1 : (k : Int) < 32 := by omega
  have hB : Hid (Below w.heap.size w w) := Below.refl _ _
  generalize sC k = C at *
  generalize sV k = V at *
  clear h
  go_enter Tryd.func38, Tryd.ntmps38
  go_wp2_with fail
  go_quiet (fail)
  have HQ : Hid (Below w.heap.size w (w.drewN nq)) := below_drewN hB.out nq
  go_wp2_with fail
  exact bodyPost_ret (v := .tuple #[.int .i64 (C : Nat), .int .i64 (V : Nat), .int .i64 0]) (by simp [results, Tryd.results38, go_sem]) rfl ⟨rfl, HQ.out⟩

set_option maxHeartbeats 1000000 in
theorem shape_no {w : World} {k : Int} (hk : k < 0 ∨ 32 ≤ k) :
    Calls Tryd.prog 38 #[.int .i64 k] w fun e w' => e = .returned (.tuple #[.int .i64 0, .int .i64 0, .int .i64 41]) ∧ Below w.heap.size w w' := by
  have hB : Hid (Below w.heap.size w w) := Below.refl _ _
  rcases hk with hk | hk
  · go_enter Tryd.func38, Tryd.ntmps38
    go_wp2_with fail
    exact bodyPost_ret (v := .tuple #[.int .i64 0, .int .i64 0, .int .i64 41]) (by simp [results, Tryd.results38, go_sem]) rfl ⟨rfl, hB.out⟩
  · have h0 : ¬ k < 0 := by omega
    go_enter Tryd.func38, Tryd.ntmps38
    go_wp2_with fail
    exact bodyPost_ret (v := .tuple #[.int .i64 0, .int .i64 0, .int .i64 41]) (by simp [results, Tryd.results38, go_sem]) rfl ⟨rfl, hB.out⟩

/-- the numbers of the table that a kind begins with -/
def dfC (k : Nat) : List Nat := if sS k then stC (sV k) else flC (sV k)
theorem dfC_len (k : Nat) : (dfC k).length = sV k := by unfold dfC; split; exact stC_len _; exact flC_len _
def tokB (C : List Nat) : Bool := decide (2 ≤ C.length) && decide (C.length ≤ 16) && decide (C.getD (C.length - 1) 0 = 32768) && (List.range C.length).all fun i => i == 0 || decide (C.getD (i - 1) 0 ≤ C.getD i 0)
theorem tok_of {C : List Nat} (h : tokB C = true) : TOk C 0 := by
  simp only [tokB, Bool.and_eq_true, decide_eq_true_eq, List.all_eq_true, List.mem_range, Bool.or_eq_true, beq_iff_eq] at h
  exact ⟨h.1.1.1, h.1.1.2, h.1.2, by omega, by omega, fun i h1 h2 => by rcases h.2 i h2 with e | e; omega; exact e⟩
theorem dfC_all : ∀ k, k < 32 → tokB (dfC k) = true := by decide +kernel
theorem dfC_ok (k : Nat) (hk : k < 32) : TOk (dfC k) 0 := tok_of (dfC_all k hk)

/-- a table that is answered alone, in new memory -/
def T1 (w w' : World) (e : Ending) (C : List Nat) (n : Int) : Prop := ∃ g c, e = .returned (.agg #[.slice (some ⟨g, 0, none⟩) C.length c, .int .i64 n]) ∧ Ow w' w.heap.size g C.length c C ∧ Below w.heap.size w w'

set_option maxRecDepth 100000 in
set_option maxHeartbeats 1000000 in
theorem first_any {w : World} {k : Nat} (h : Sh w) (hk : k < 32) : Calls Tryd.prog 60 #[.int .i64 k] w fun e w' => T1 w w' e (dfC k) 0 := by
  obtain ⟨v1, v2⟩ := sV_le k hk
  have HSH : Hid (Sh (w.alloc (.cells #[.slice none 0 0, .int .i64 0] 63))) := h.to (from_alloc _ _)
  have HBW : Hid (Below w.heap.size w (w.alloc (.cells #[.slice none 0 0, .int .i64 0] 63))) := from_alloc _ _
  have HZ : Hid ((w.alloc (.cells #[.slice none 0 0, .int .i64 0] 63)).cell? ⟨w.heap.size, 0, none⟩ = some (.slice none 0 0) ∧ (w.alloc (.cells #[.slice none 0 0, .int .i64 0] 63)).cell? ⟨w.heap.size, 1, none⟩ = some (.int .i64 0) ∧ (w.alloc (.cells #[.slice none 0 0, .int .i64 0] 63)).frozen? ⟨w.heap.size, 0, none⟩ = false ∧ (w.alloc (.cells #[.slice none 0 0, .int .i64 0] 63)).frozen? ⟨w.heap.size, 1, none⟩ = false) := by unfold Hid; simp
  have HWs : Hid ((w.alloc (.cells #[.slice none 0 0, .int .i64 0] 63)).heap.size = w.heap.size + 1) := by unfold Hid; simp
  have c1 := HSH.out.v k hk
  have c2 := HSH.out.s k hk
  have b0 : 0 ≤ (k : Int) := by omega
  have b1 : (k : Int) < 32 := by omega
  have HD : Hid (dfC k = if sS k then stC (sV k) else flC (sV k)) := rfl
  have HL : Hid ((dfC k).length = sV k) := dfC_len k
  generalize dfC k = DC at *
  clear h
  cases hs : sS k
  all_goals
    rw [hs] at c2
    go_enter Tryd.func60, Tryd.ntmps60
    go_wp2_with fail
    generalize w.alloc (.cells #[.slice none 0 0, .int .i64 0] 63) = W at *
    first
      | (have hd : DC = flC (sV k) := by rw [HD.out, hs]; rfl
         refine (flat_ok (n := sV k) v1 v2).mono ?_
         rw [← hd])
      | (have hd : DC = stC (sV k) := by rw [HD.out, hs]; rfl
         refine (steep_ok (n := sV k) v1 v2).mono ?_
         rw [← hd])
    rintro e w1 ⟨g, c, rfl, ho, hb⟩
    rw [HL.out] at ho ⊢
    have HB1 : Hid (Below W.heap.size W (w1.alloc (.cells #[.slice (some ⟨g, 0, none⟩) (sV k) c, .int .i64 0] 63))) := to_alloc hb _
    have HO1 : Hid (Ow (w1.alloc (.cells #[.slice (some ⟨g, 0, none⟩) (sV k) c, .int .i64 0] 63)) W.heap.size g (sV k) c DC) := ho.to (from_alloc _ _)
    have d0 : (w1.alloc (.cells #[.slice (some ⟨g, 0, none⟩) (sV k) c, .int .i64 0] 63)).cell? ⟨w.heap.size, 0, none⟩ = some (.slice none 0 0) := by rw [newCell HB1.out _ _ (by rw [HWs.out]; omega)]; exact HZ.out.1
    have d1 : (w1.alloc (.cells #[.slice (some ⟨g, 0, none⟩) (sV k) c, .int .i64 0] 63)).cell? ⟨w.heap.size, 1, none⟩ = some (.int .i64 0) := by rw [newCell HB1.out _ _ (by rw [HWs.out]; omega)]; exact HZ.out.2.1
    have f0 : (w1.alloc (.cells #[.slice (some ⟨g, 0, none⟩) (sV k) c, .int .i64 0] 63)).frozen? ⟨w.heap.size, 0, none⟩ = false := by rw [newFrozen HB1.out _ _ (by rw [HWs.out]; omega)]; exact HZ.out.2.2.1
    have f1 : (w1.alloc (.cells #[.slice (some ⟨g, 0, none⟩) (sV k) c, .int .i64 0] 63)).frozen? ⟨w.heap.size, 1, none⟩ = false := by rw [newFrozen HB1.out _ _ (by rw [HWs.out]; omega)]; exact HZ.out.2.2.2
    have e0 : (w1.alloc (.cells #[.slice (some ⟨g, 0, none⟩) (sV k) c, .int .i64 0] 63)).cell? ⟨w1.heap.size, 0, none⟩ = some (.slice (some ⟨g, 0, none⟩) (sV k) c) := by simp
    have e1 : (w1.alloc (.cells #[.slice (some ⟨g, 0, none⟩) (sV k) c, .int .i64 0] 63)).cell? ⟨w1.heap.size, 1, none⟩ = some (.int .i64 0) := by simp
    clear ho hb hd
    go_wp2_with fail
    generalize (w1.alloc (.cells #[.slice (some ⟨g, 0, none⟩) (sV k) c, .int .i64 0] 63)) = V at *
    refine bodyPost_ret (v := .agg #[.slice (some ⟨g, 0, none⟩) (sV k) c, .int .i64 0]) (by simp [results, Tryd.results60, go_sem, d0, d1]) rfl ⟨g, c, by rw [HL.out], ?_, ?_⟩
    · have := HO1.out.lies.1
      rw [HL.out]
      exact ((HO1.out.far (by rw [HWs.out] at this; simp; omega) _).far (by rw [HWs.out] at this; simp; omega) _).mono (by rw [HWs.out]; omega)
    · exact below_set (below_set (HBW.out.trans (HB1.out.mono (by rw [HWs.out]; omega))) (by simp) _) (by simp) _

end Go.Proofs.YtppanogpeengnaaDoor

namespace Go.Proofs.YtppanogpeengnaaDoor
open Go.RowKit L3

/-- a table that is none -/
def zT : Tb := ⟨none, 0, [], 0⟩
/-- a set: the list of lists in block bt; of each kind so far the block of its tables and these -/
structure St (w : World) (lo bt : Nat) (K : List (Nat × List Tb)) : Prop where
  blo : lo ≤ bt
  blt : bt < w.heap.size
  bth : ∀ j, w.frozen? ⟨bt, j, none⟩ = false
  tl : ∀ k, K.length ≤ k → k < 32 → w.cell? ⟨bt, k, none⟩ = some (.slice none 0 0)
  hd : ∀ (k : Nat) (p : Nat × List Tb), K[k]? = some p → w.cell? ⟨bt, k, none⟩ = some (.slice (some ⟨p.1, 0, none⟩) p.2.length p.2.length)
  lie : ∀ p ∈ K, lo ≤ p.1 ∧ p.1 < w.heap.size ∧ p.1 ≠ bt
  inj : ∀ (j k : Nat) (p q : Nat × List Tb), K[j]? = some p → K[k]? = some q → p.1 = q.1 → j = k
  th : ∀ p ∈ K, ∀ j, w.frozen? ⟨p.1, j, none⟩ = false
  c0 : ∀ p ∈ K, ∀ (c : Nat) (t : Tb), p.2[c]? = some t → w.cell? ⟨p.1, c * 2, none⟩ = some (.slice t.a t.C.length t.c)
  c1 : ∀ p ∈ K, ∀ (c : Nat) (t : Tb), p.2[c]? = some t → w.cell? ⟨p.1, c * 2 + 1, none⟩ = some (.int .i64 t.n)
  sl : ∀ p ∈ K, ∀ t ∈ p.2, Sl w .u16 t.a t.C
  ap : ∀ p ∈ K, ∀ t ∈ p.2, ∀ b o, t.a = some ⟨b, o, none⟩ → t.C ≠ [] → b ≠ bt ∧ ∀ q ∈ K, b ≠ q.1

theorem St.to {w w' : World} {lo bt : Nat} {K : List (Nat × List Tb)} (h : St w lo bt K) (hb : Below w.heap.size w w') : St w' lo bt K where
  blo := h.blo
  blt := Nat.lt_of_lt_of_le h.blt hb.size
  bth := fun j => by rw [newFrozen hb _ _ h.blt]; exact h.bth j
  tl := fun k h1 h2 => by rw [newCell hb _ _ h.blt]; exact h.tl k h1 h2
  hd := fun k p hp => by rw [newCell hb _ _ h.blt]; exact h.hd k p hp
  lie := fun p hp => ⟨(h.lie p hp).1, Nat.lt_of_lt_of_le (h.lie p hp).2.1 hb.size, (h.lie p hp).2.2⟩
  inj := h.inj
  th := fun p hp j => by rw [newFrozen hb _ _ (h.lie p hp).2.1]; exact h.th p hp j
  c0 := fun p hp c t ht => by rw [newCell hb _ _ (h.lie p hp).2.1]; exact h.c0 p hp c t ht
  c1 := fun p hp c t ht => by rw [newCell hb _ _ (h.lie p hp).2.1]; exact h.c1 p hp c t ht
  sl := fun p hp t ht => (h.sl p hp t ht).to hb
  ap := h.ap
theorem setCell_size (w : World) (a : Addr) (v : Value) : (w.setCell a v).heap.size = w.heap.size := by simp [World.setCell]
theorem sl_far {u : World} {a : Option Addr} {C : List Nat} {p : Addr} {v : Value} (h : Sl u .u16 a C) (hp : ∀ b o, a = some ⟨b, o, none⟩ → C ≠ [] → b ≠ p.block) : Sl (u.setCell p v) .u16 a C := by
  by_cases e : C = []
  · exact Or.inl e
  · rcases h with h | ⟨b, o, h1, h2, h3⟩
    · exact absurd h e
    · exact Or.inr ⟨b, o, h1, by rw [setCell_size]; exact h2, fun j hj => by
        rw [World.cell?_setCell_other _ _ _ _ (fun k => hp b o h1 e (by rw [k]))]; exact h3 j hj⟩
/-- a store elsewhere -/
theorem St.far {w : World} {lo bt : Nat} {K : List (Nat × List Tb)} (h : St w lo bt K) (x : Addr) (v : Value) (h1 : x.block ≠ bt) (h2 : ∀ p ∈ K, x.block ≠ p.1) (h3 : ∀ p ∈ K, ∀ t ∈ p.2, ∀ b o, t.a = some ⟨b, o, none⟩ → t.C ≠ [] → b ≠ x.block) : St (w.setCell x v) lo bt K where
  blo := h.blo
  blt := by rw [setCell_size]; exact h.blt
  bth := fun j => by simpa using h.bth j
  tl := fun k g1 g2 => by rw [World.cell?_setCell_other _ _ _ _ (fun e => h1 (by rw [e]))]; exact h.tl k g1 g2
  hd := fun k p hp => by rw [World.cell?_setCell_other _ _ _ _ (fun e => h1 (by rw [e]))]; exact h.hd k p hp
  lie := fun p hp => by rw [setCell_size]; exact h.lie p hp
  inj := h.inj
  th := fun p hp j => by simpa using h.th p hp j
  c0 := fun p hp c t ht => by rw [World.cell?_setCell_other _ _ _ _ (fun e => h2 p hp (by rw [e]))]; exact h.c0 p hp c t ht
  c1 := fun p hp c t ht => by rw [World.cell?_setCell_other _ _ _ _ (fun e => h2 p hp (by rw [e]))]; exact h.c1 p hp c t ht
  sl := fun p hp t ht => sl_far (h.sl p hp t ht) (h3 p hp t ht)
  ap := h.ap
theorem St.mem_set {K : List (Nat × List Tb)} {k : Nat} {p : Nat × List Tb} {q : Nat × List Tb} (_hk : K[k]? = some p) {r : Nat × List Tb} (hr : r ∈ K.set k q) : r = q ∨ r ∈ K := by
  rcases List.mem_or_eq_of_mem_set hr with e | e
  · exact Or.inr e
  · exact Or.inl e

/-- a table is laid into the set -/
theorem St.put {w : World} {lo bt : Nat} {K : List (Nat × List Tb)} (h : St w lo bt K) {k c : Nat} {p : Nat × List Tb} (hk : K[k]? = some p) (hc : c < p.2.length) (t : Tb) (hs : Sl w .u16 t.a t.C) (hp : ∀ b o, t.a = some ⟨b, o, none⟩ → t.C ≠ [] → b ≠ bt ∧ ∀ q ∈ K, b ≠ q.1) :
    St ((w.setCell ⟨p.1, c * 2, none⟩ (.slice t.a t.C.length t.c)).setCell ⟨p.1, c * 2 + 1, none⟩ (.int .i64 t.n)) lo bt (K.set k (p.1, p.2.set c t)) := by
  have hpK : p ∈ K := List.mem_of_getElem? hk
  have hlt : k < K.length := (List.getElem?_eq_some_iff.1 hk).1
  have hne := (h.lie p hpK).2.2
  have oth : ∀ (y : Nat) (j : Nat), y ≠ p.1 → ((w.setCell ⟨p.1, c * 2, none⟩ (.slice t.a t.C.length t.c)).setCell ⟨p.1, c * 2 + 1, none⟩ (.int .i64 t.n)).cell? ⟨y, j, none⟩ = w.cell? ⟨y, j, none⟩ := fun y j hy => by
    rw [World.cell?_setCell_other _ _ _ _ (fun e => hy (by simp only [Addr.mk.injEq] at e; exact e.1.symm)), World.cell?_setCell_other _ _ _ _ (fun e => hy (by simp only [Addr.mk.injEq] at e; exact e.1.symm))]
  have oth2 : ∀ j, j ≠ c * 2 → j ≠ c * 2 + 1 → ((w.setCell ⟨p.1, c * 2, none⟩ (.slice t.a t.C.length t.c)).setCell ⟨p.1, c * 2 + 1, none⟩ (.int .i64 t.n)).cell? ⟨p.1, j, none⟩ = w.cell? ⟨p.1, j, none⟩ := fun j h1 h2 => by
    rw [World.cell?_setCell_other _ _ _ _ (fun e => h2 (by simp only [Addr.mk.injEq, true_and, and_true] at e; exact e.symm)), World.cell?_setCell_other _ _ _ _ (fun e => h1 (by simp only [Addr.mk.injEq, true_and, and_true] at e; exact e.symm))]
  obtain ⟨t0, ht0⟩ : ∃ t0, p.2[c]? = some t0 := ⟨p.2[c], List.getElem?_eq_getElem hc⟩
  have e0 : ((w.setCell ⟨p.1, c * 2, none⟩ (.slice t.a t.C.length t.c)).setCell ⟨p.1, c * 2 + 1, none⟩ (.int .i64 t.n)).cell? ⟨p.1, c * 2, none⟩ = some (.slice t.a t.C.length t.c) := by
    rw [World.cell?_setCell_other _ _ _ _ (by simp), World.cell?_setCell_same _ _ _ (h.c0 p hpK c t0 ht0)]
  have e1 : ((w.setCell ⟨p.1, c * 2, none⟩ (.slice t.a t.C.length t.c)).setCell ⟨p.1, c * 2 + 1, none⟩ (.int .i64 t.n)).cell? ⟨p.1, c * 2 + 1, none⟩ = some (.int .i64 t.n) := by
    rw [World.cell?_setCell_same _ _ _ (by rw [World.cell?_setCell_other _ _ _ _ (by simp)]; exact h.c1 p hpK c t0 ht0)]
  have hsz : ((w.setCell ⟨p.1, c * 2, none⟩ (.slice t.a t.C.length t.c)).setCell ⟨p.1, c * 2 + 1, none⟩ (.int .i64 t.n)).heap.size = w.heap.size := by rw [setCell_size, setCell_size]
  have hfz : ∀ a, ((w.setCell ⟨p.1, c * 2, none⟩ (.slice t.a t.C.length t.c)).setCell ⟨p.1, c * 2 + 1, none⟩ (.int .i64 t.n)).frozen? a = w.frozen? a := fun a => by simp
  have hsl : ∀ (a : Option Addr) (C : List Nat), Sl w .u16 a C → (∀ b o, a = some ⟨b, o, none⟩ → C ≠ [] → b ≠ p.1) → Sl ((w.setCell ⟨p.1, c * 2, none⟩ (.slice t.a t.C.length t.c)).setCell ⟨p.1, c * 2 + 1, none⟩ (.int .i64 t.n)) .u16 a C := fun a C h1 h2 => sl_far (sl_far h1 h2) h2
  have hget : ∀ (j : Nat) (q : Nat × List Tb), (K.set k (p.1, p.2.set c t))[j]? = some q → (j = k ∧ q = (p.1, p.2.set c t)) ∨ (j ≠ k ∧ K[j]? = some q) := fun j q hq => by
    rw [List.getElem?_set] at hq
    by_cases e : k = j
    · subst e; rw [if_pos rfl, if_pos hlt] at hq; simp at hq; exact Or.inl ⟨rfl, hq.symm⟩
    · rw [if_neg e] at hq; exact Or.inr ⟨fun e' => e e'.symm, hq⟩
  generalize ((w.setCell ⟨p.1, c * 2, none⟩ (.slice t.a t.C.length t.c)).setCell ⟨p.1, c * 2 + 1, none⟩ (.int .i64 t.n)) = V at *
  -- a member of the new list: its block is a block of the old one
  have hmem : ∀ r ∈ K.set k (p.1, p.2.set c t), ∃ q ∈ K, r.1 = q.1 ∧ (r = q ∨ r = (p.1, p.2.set c t)) := fun r hr => by
    rcases St.mem_set hk hr with e | e
    · exact ⟨p, hpK, by rw [e], Or.inr e⟩
    · exact ⟨r, e, rfl, Or.inl rfl⟩
  have hset : ∀ (j : Nat) (s : Tb), (p.2.set c t)[j]? = some s → (j = c ∧ s = t) ∨ (j ≠ c ∧ p.2[j]? = some s) := fun j s hs => by
    rw [List.getElem?_set] at hs
    by_cases e : c = j
    · subst e; rw [if_pos rfl, if_pos hc] at hs; simp at hs; exact Or.inl ⟨rfl, hs.symm⟩
    · rw [if_neg e] at hs; exact Or.inr ⟨fun e' => e e'.symm, hs⟩
  have hcell : ∀ r ∈ K.set k (p.1, p.2.set c t), ∀ (j : Nat) (s : Tb), r.2[j]? = some s → V.cell? ⟨r.1, j * 2, none⟩ = some (.slice s.a s.C.length s.c) ∧ V.cell? ⟨r.1, j * 2 + 1, none⟩ = some (.int .i64 s.n) := fun r hr j s hs => by
    obtain ⟨m, hm⟩ := List.getElem?_of_mem hr
    rcases hget m r hm with ⟨_, e⟩ | ⟨e, hm2⟩
    · subst e
      rcases hset j s hs with ⟨rfl, rfl⟩ | ⟨e2, hs2⟩
      · exact ⟨e0, e1⟩
      · exact ⟨by rw [oth2 _ (by omega) (by omega)]; exact h.c0 p hpK j s hs2, by rw [oth2 _ (by omega) (by omega)]; exact h.c1 p hpK j s hs2⟩
    · have hrK : r ∈ K := List.mem_of_getElem? hm2
      have hr1 : r.1 ≠ p.1 := fun e3 => e (h.inj m k r p hm2 hk e3)
      exact ⟨by rw [oth _ _ hr1]; exact h.c0 r hrK j s hs, by rw [oth _ _ hr1]; exact h.c1 r hrK j s hs⟩
  have hmt : ∀ r ∈ K.set k (p.1, p.2.set c t), ∀ s ∈ r.2, s = t ∨ ∃ q ∈ K, s ∈ q.2 := fun r hr s hs => by
    rcases St.mem_set hk hr with e | e
    · subst e
      rcases List.mem_or_eq_of_mem_set hs with e2 | e2
      · exact Or.inr ⟨p, hpK, e2⟩
      · exact Or.inl e2
    · exact Or.inr ⟨r, e, hs⟩
  have hapn : ∀ s : Tb, (s = t ∨ ∃ q ∈ K, s ∈ q.2) → ∀ b o, s.a = some ⟨b, o, none⟩ → s.C ≠ [] → b ≠ bt ∧ ∀ q ∈ K, b ≠ q.1 := fun s hs b o h1 h2 => by
    rcases hs with rfl | ⟨q, hq, hs⟩
    · exact hp b o h1 h2
    · exact h.ap q hq s hs b o h1 h2
  refine ⟨h.blo, by rw [hsz]; exact h.blt, fun j => by rw [hfz]; exact h.bth j, fun j h1 h2 => ?_, fun j q hq => ?_, fun r hr => ?_, fun i j q r hq hr e => ?_, fun r hr j => ?_, fun r hr j s hs => (hcell r hr j s hs).1, fun r hr j s hs => (hcell r hr j s hs).2, fun r hr s hs => ?_, fun r hr s hs b o h1 h2 => ?_⟩
  · rw [oth _ _ (Ne.symm hne)]; rw [List.length_set] at h1; exact h.tl j h1 h2
  · rw [oth _ _ (Ne.symm hne)]
    rcases hget j q hq with ⟨rfl, rfl⟩ | ⟨_, hq2⟩
    · simp only [List.length_set]; exact h.hd j p hk
    · exact h.hd j q hq2
  · obtain ⟨q, hq, e, _⟩ := hmem r hr
    rw [e, hsz]; exact h.lie q hq
  · rcases hget i q hq with ⟨rfl, rfl⟩ | ⟨e1, hq2⟩ <;> rcases hget j r hr with ⟨rfl, rfl⟩ | ⟨e2, hr2⟩
    · rfl
    · exact h.inj _ _ _ _ hk hr2 e
    · exact h.inj _ _ _ _ hq2 hk e
    · exact h.inj _ _ _ _ hq2 hr2 e
  · obtain ⟨q, hq, e, _⟩ := hmem r hr
    rw [hfz, e]; exact h.th q hq j
  · have hs' := hmt r hr s hs
    refine hsl _ _ ?_ (fun b o h1 h2 => (hapn s hs' b o h1 h2).2 p hpK)
    rcases hs' with rfl | ⟨q, hq, hsq⟩
    · exact hs
    · exact h.sl q hq s hsq
  · have := hapn s (hmt r hr s hs) b o h1 h2
    exact ⟨this.1, fun q hq => by obtain ⟨q', hq', e, _⟩ := hmem q hq; rw [e]; exact this.2 q' hq'⟩

end Go.Proofs.YtppanogpeengnaaDoor

namespace Go.Proofs.YtppanogpeengnaaDoor
open Go.RowKit L3

theorem made_get (n c : Nat) (h : c < n) : (madeCells #[Value.slice none 0 0, .int .i64 0] (n * 2))[c * 2]? = some (.slice none 0 0) ∧ (madeCells #[Value.slice none 0 0, .int .i64 0] (n * 2))[c * 2 + 1]? = some (.int .i64 0) := by
  have h1 : c * 2 < n * 2 := by omega
  have h2 : c * 2 + 1 < n * 2 := by omega
  have h3 : c * 2 % 2 = 0 := by omega
  have h4 : (c * 2 + 1) % 2 = 1 := by omega
  constructor <;> simp [madeCells, h1, h2, h3, h4]
theorem made32 (k : Nat) (h : k < 32) : (madeCells #[Value.slice none 0 0] 32)[k]? = some (.slice none 0 0) := by
  simp [madeCells, h, Nat.mod_one]
theorem new_get (w : World) (cs : Array Value) (t : TypeId) (j : Nat) : (w.alloc (.cells cs t)).cell? ⟨w.heap.size, j, none⟩ = cs[j]? := by unfold World.cell?; rw [heap_alloc_new]; simp

theorem St.start {w : World} {lo : Nat} (hlo : lo ≤ w.heap.size) : St (w.alloc (.cells (madeCells #[Value.slice none 0 0] 32) 60)) lo w.heap.size [] where
  blo := hlo
  blt := by simp
  bth := fun j => by simp
  tl := fun k _ h => by rw [new_get, made32 k h]
  hd := fun k p hp => by simp at hp
  lie := fun p hp => by simp at hp
  inj := fun j k p q hp => by simp at hp
  th := fun p hp => by simp at hp
  c0 := fun p hp => by simp at hp
  c1 := fun p hp => by simp at hp
  sl := fun p hp => by simp at hp
  ap := fun p hp => by simp at hp

theorem St.add {w : World} {lo bt : Nat} {K : List (Nat × List Tb)} (h : St w lo bt K) (hlo : lo ≤ w.heap.size) (hk : K.length < 32) (n : Nat) :
    St ((w.alloc (.cells (madeCells #[.slice none 0 0, .int .i64 0] (n * 2)) 63)).setCell ⟨bt, K.length, none⟩ (.slice (some ⟨w.heap.size, 0, none⟩) n n)) lo bt (K ++ [(w.heap.size, List.replicate n zT)]) := by
  have h1 := h.to (from_alloc w (.cells (madeCells #[.slice none 0 0, .int .i64 0] (n * 2)) 63))
  have hz : (w.alloc (.cells (madeCells #[.slice none 0 0, .int .i64 0] (n * 2)) 63)).heap.size = w.heap.size + 1 := by simp
  have hg : ∀ c, c < n → (w.alloc (.cells (madeCells #[.slice none 0 0, .int .i64 0] (n * 2)) 63)).cell? ⟨w.heap.size, c * 2, none⟩ = some (.slice none 0 0) ∧ (w.alloc (.cells (madeCells #[.slice none 0 0, .int .i64 0] (n * 2)) 63)).cell? ⟨w.heap.size, c * 2 + 1, none⟩ = some (.int .i64 0) := fun c hc => by
    rw [new_get, new_get]; exact made_get n c hc
  have hfn : ∀ j, (w.alloc (.cells (madeCells #[.slice none 0 0, .int .i64 0] (n * 2)) 63)).frozen? ⟨w.heap.size, j, none⟩ = false := fun j => by simp
  have hbl := h.blt
  have hll : ∀ p ∈ K, p.1 < w.heap.size := fun p hp => (h.lie p hp).2.1
  generalize w.alloc (.cells (madeCells #[.slice none 0 0, .int .i64 0] (n * 2)) 63) = W at *
  have oth : ∀ (y j : Nat), y ≠ bt → (W.setCell ⟨bt, K.length, none⟩ (.slice (some ⟨w.heap.size, 0, none⟩) n n)).cell? ⟨y, j, none⟩ = W.cell? ⟨y, j, none⟩ := fun y j hy =>
    World.cell?_setCell_other _ _ _ _ (fun e => hy (by simp only [Addr.mk.injEq] at e; exact e.1.symm))
  have oth2 : ∀ j, j ≠ K.length → (W.setCell ⟨bt, K.length, none⟩ (.slice (some ⟨w.heap.size, 0, none⟩) n n)).cell? ⟨bt, j, none⟩ = W.cell? ⟨bt, j, none⟩ := fun j hj =>
    World.cell?_setCell_other _ _ _ _ (fun e => hj (by simp only [Addr.mk.injEq, true_and, and_true] at e; exact e.symm))
  have new : (W.setCell ⟨bt, K.length, none⟩ (.slice (some ⟨w.heap.size, 0, none⟩) n n)).cell? ⟨bt, K.length, none⟩ = some (.slice (some ⟨w.heap.size, 0, none⟩) n n) := World.cell?_setCell_same _ _ _ (h1.tl K.length (Nat.le_refl _) hk)
  have hfz : ∀ a, (W.setCell ⟨bt, K.length, none⟩ (.slice (some ⟨w.heap.size, 0, none⟩) n n)).frozen? a = W.frozen? a := fun a => by simp
  have hsz : (W.setCell ⟨bt, K.length, none⟩ (.slice (some ⟨w.heap.size, 0, none⟩) n n)).heap.size = w.heap.size + 1 := by rw [setCell_size, hz]
  have hslk : ∀ (a : Option Addr) (C : List Nat), Sl W .u16 a C → (∀ b o, a = some ⟨b, o, none⟩ → C ≠ [] → b ≠ bt) → Sl (W.setCell ⟨bt, K.length, none⟩ (.slice (some ⟨w.heap.size, 0, none⟩) n n)) .u16 a C := fun a C g1 g2 => sl_far g1 g2
  generalize W.setCell ⟨bt, K.length, none⟩ (.slice (some ⟨w.heap.size, 0, none⟩) n n) = V at *
  have hget : ∀ (j : Nat) (q : Nat × List Tb), (K ++ [(w.heap.size, List.replicate n zT)])[j]? = some q → (j < K.length ∧ K[j]? = some q) ∨ (j = K.length ∧ q = (w.heap.size, List.replicate n zT)) := fun j q hq => by
    by_cases e : j < K.length
    · rw [List.getElem?_append_left e] at hq; exact Or.inl ⟨e, hq⟩
    · rw [List.getElem?_append_right (by omega)] at hq
      rcases (show j - K.length = 0 ∨ 1 ≤ j - K.length by omega) with e2 | e2
      · rw [e2] at hq; simp at hq; exact Or.inr ⟨by omega, hq.symm⟩
      · rw [List.getElem?_eq_none (by simp; omega)] at hq; cases hq
  have hmem : ∀ r ∈ K ++ [(w.heap.size, List.replicate n zT)], r ∈ K ∨ r = (w.heap.size, List.replicate n zT) := fun r hr => by
    simpa using hr
  have hrep : ∀ (c : Nat) (t : Tb), (List.replicate n zT)[c]? = some t → c < n ∧ t = zT := fun c t ht => by
    rw [List.getElem?_replicate] at ht
    by_cases e : c < n
    · rw [if_pos e] at ht; simp at ht; exact ⟨e, ht.symm⟩
    · rw [if_neg e] at ht; cases ht
  refine ⟨h.blo, by rw [hsz]; omega, fun j => by rw [hfz]; exact h1.bth j, fun j g1 g2 => ?_, fun j q hq => ?_, fun r hr => ?_, fun i j q r hq hr e => ?_, fun r hr j => ?_, fun r hr c t ht => ?_, fun r hr c t ht => ?_, fun r hr t ht => ?_, fun r hr t ht b o g1 g2 => ?_⟩
  · rw [List.length_append] at g1; simp at g1
    rw [oth2 j (by omega)]; exact h1.tl j (by omega) g2
  · rcases hget j q hq with ⟨e, hq2⟩ | ⟨rfl, rfl⟩
    · rw [oth2 j (by omega)]; exact h1.hd j q hq2
    · simp only [List.length_replicate]; exact new
  · rcases hmem r hr with e | rfl
    · have := h1.lie r e; rw [hsz]; exact ⟨this.1, by have := hll r e; omega, this.2.2⟩
    · rw [hsz]; exact ⟨hlo, by simp, by simp; omega⟩
  · rcases hget i q hq with ⟨e1, hq2⟩ | ⟨rfl, rfl⟩ <;> rcases hget j r hr with ⟨e2, hr2⟩ | ⟨rfl, rfl⟩
    · exact h.inj _ _ _ _ hq2 hr2 e
    · have := hll q (List.mem_of_getElem? hq2); simp at e; omega
    · have := hll r (List.mem_of_getElem? hr2); simp at e; omega
    · rfl
  · rw [hfz]
    rcases hmem r hr with e | rfl
    · exact h1.th r e j
    · exact hfn j
  · rcases hmem r hr with e | rfl
    · rw [oth _ _ (h1.lie r e).2.2]; exact h1.c0 r e c t ht
    · obtain ⟨hc, rfl⟩ := hrep c t ht
      rw [oth _ _ (by simp; omega)]; exact (hg c hc).1
  · rcases hmem r hr with e | rfl
    · rw [oth _ _ (h1.lie r e).2.2]; exact h1.c1 r e c t ht
    · obtain ⟨hc, rfl⟩ := hrep c t ht
      rw [oth _ _ (by simp; omega)]; exact (hg c hc).2
  · rcases hmem r hr with e | rfl
    · exact hslk _ _ (h1.sl r e t ht) (fun b o g1 g2 => (h.ap r e t ht b o g1 g2).1)
    · have : t = zT := List.eq_of_mem_replicate ht
      subst this; exact Or.inl rfl
  · rcases hmem r hr with e | rfl
    · obtain ⟨a1, a2⟩ := h.ap r e t ht b o g1 g2
      refine ⟨a1, fun q hq => ?_⟩
      rcases hmem q hq with e2 | rfl
      · exact a2 q e2
      · have := h.sl r e t ht
        rcases this with e3 | ⟨b', o', k1, k2, _⟩
        · exact absurd e3 g2
        · rw [g1] at k1; simp only [Option.some.injEq, Addr.mk.injEq, and_true] at k1
          simp; omega
    · have : t = zT := List.eq_of_mem_replicate ht
      subst this; exact absurd rfl g2

end Go.Proofs.YtppanogpeengnaaDoor

namespace Go.Proofs.YtppanogpeengnaaDoor
open Go.RowKit L3

theorem Tryd.inf60 : (Tryd.prog.info? 60).map (fun i => (i.zero, i.size, i.bytes)) = some (some (.slice none 0 0), 1, 24) := by kernel_rfl
theorem Tryd.inf63 : (Tryd.prog.info? 63).map (fun i => (i.zero, i.size, i.bytes)) = some (some (.agg #[.slice none 0 0, .int .i64 0]), 2, 32) := by kernel_rfl

set_option maxRecDepth 100000 in
set_option maxHeartbeats 1000000 in
theorem begin_any {w : World} {k : Nat} {c : Int} (h : Sh w) (hk : k < 32) : Calls Tryd.prog 59 #[.int .i64 k, .int .i64 c] w fun e w' => T1 w w' e (dfC k) 0 := by
  have HSH : Hid (Sh (w.alloc (.cells #[.slice none 0 0, .int .i64 0] 63))) := h.to (from_alloc _ _)
  have HBW : Hid (Below w.heap.size w (w.alloc (.cells #[.slice none 0 0, .int .i64 0] 63))) := from_alloc _ _
  have HZ : Hid ((w.alloc (.cells #[.slice none 0 0, .int .i64 0] 63)).cell? ⟨w.heap.size, 0, none⟩ = some (.slice none 0 0) ∧ (w.alloc (.cells #[.slice none 0 0, .int .i64 0] 63)).cell? ⟨w.heap.size, 1, none⟩ = some (.int .i64 0) ∧ (w.alloc (.cells #[.slice none 0 0, .int .i64 0] 63)).frozen? ⟨w.heap.size, 0, none⟩ = false ∧ (w.alloc (.cells #[.slice none 0 0, .int .i64 0] 63)).frozen? ⟨w.heap.size, 1, none⟩ = false) := by unfold Hid; simp
  have HWs : Hid ((w.alloc (.cells #[.slice none 0 0, .int .i64 0] 63)).heap.size = w.heap.size + 1) := by unfold Hid; simp
  have HFA : Hid (∀ u, Sh u → Calls Tryd.prog 60 #[.int .i64 k] u fun e w' => T1 u w' e (dfC k) 0) := fun u hu => first_any hu hk
  generalize dfC k = DC at *
  clear h
  go_enter Tryd.func59, Tryd.ntmps59
  go_wp2_with fail
  generalize w.alloc (.cells #[.slice none 0 0, .int .i64 0] 63) = W at *
  refine (HFA.out _ HSH.out).mono ?_
  rintro e w1 ⟨g, c', rfl, ho, hb⟩
  have HB1 : Hid (Below W.heap.size W w1) := hb
  have HO1 : Hid (Ow w1 W.heap.size g DC.length c' DC) := ho
  have d0 : w1.cell? ⟨w.heap.size, 0, none⟩ = some (.slice none 0 0) := by rw [newCell HB1.out _ _ (by rw [HWs.out]; omega)]; exact HZ.out.1
  have d1 : w1.cell? ⟨w.heap.size, 1, none⟩ = some (.int .i64 0) := by rw [newCell HB1.out _ _ (by rw [HWs.out]; omega)]; exact HZ.out.2.1
  have f0 : w1.frozen? ⟨w.heap.size, 0, none⟩ = false := by rw [newFrozen HB1.out _ _ (by rw [HWs.out]; omega)]; exact HZ.out.2.2.1
  have f1 : w1.frozen? ⟨w.heap.size, 1, none⟩ = false := by rw [newFrozen HB1.out _ _ (by rw [HWs.out]; omega)]; exact HZ.out.2.2.2
  clear ho hb
  go_wp2_with fail
  refine bodyPost_ret (v := .agg #[.slice (some ⟨g, 0, none⟩) DC.length c', .int .i64 0]) (by simp [results, Tryd.results59, go_sem, d0, d1]) rfl ⟨g, c', rfl, ?_, ?_⟩
  · have := HO1.out.lies.1
    exact ((HO1.out.far (by rw [HWs.out] at this; simp; omega) _).far (by rw [HWs.out] at this; simp; omega) _).mono (by rw [HWs.out]; omega)
  · exact below_set (below_set (HBW.out.trans (HB1.out.mono (by rw [HWs.out]; omega))) (by simp) _) (by simp) _

theorem far2 {u : World} {x y j a b : Nat} {v v1 v2 : Value} (hne : x ≠ y) (h : u.cell? ⟨x, j, none⟩ = some v) : ((u.setCell ⟨y, a, none⟩ v1).setCell ⟨y, b, none⟩ v2).cell? ⟨x, j, none⟩ = some v := by
  rw [World.cell?_setCell_other _ _ _ _ (fun e => hne (by simp only [Addr.mk.injEq] at e; exact e.1.symm)), World.cell?_setCell_other _ _ _ _ (fun e => hne (by simp only [Addr.mk.injEq] at e; exact e.1.symm))]; exact h
/-- of the blocks of w that of r alone may have turned -/
structure Kr (r : Nat) (w w' : World) : Prop where
  os : w'.os = w.os
  tape : w'.tape = w.tape
  output : w'.output = w.output
  size : w.heap.size ≤ w'.heap.size
  block : ∀ k, k < w.heap.size → k ≠ r → w'.heap[k]? = w.heap[k]?
theorem Kr.refl (r : Nat) (w : World) : Kr r w w := ⟨rfl, rfl, rfl, Nat.le_refl _, fun _ _ _ => rfl⟩
theorem Kr.to {r : Nat} {w a b : World} (h : Kr r w a) (hb : Below a.heap.size a b) : Kr r w b :=
  ⟨hb.os.trans h.os, hb.tape.trans h.tape, hb.output.trans h.output, Nat.le_trans h.size hb.size, fun k hk hr => by rw [hb.block k (Nat.lt_of_lt_of_le hk h.size)]; exact h.block k hk hr⟩
theorem Kr.set {r : Nat} {w a : World} (h : Kr r w a) (x : Addr) (v : Value) (hx : x.block = r ∨ w.heap.size ≤ x.block) : Kr r w (a.setCell x v) :=
  ⟨h.os, h.tape, h.output, by rw [setCell_size]; exact h.size, fun k hk hr => by rw [Below.heap_setCell _ _ _ _ (by rcases hx with e | e; rw [e]; exact hr; omega)]; exact h.block k hk hr⟩
theorem Kr.cell {r : Nat} {w a : World} (h : Kr r w a) (k j : Nat) (hk : k < w.heap.size) (hr : k ≠ r) : a.cell? ⟨k, j, none⟩ = w.cell? ⟨k, j, none⟩ := World.cell?_of_block (w := w) (a := ⟨k, j, none⟩) (h.block k hk hr)
theorem Kr.frozen {r : Nat} {w a : World} (h : Kr r w a) (k j : Nat) (hk : k < w.heap.size) (hr : k ≠ r) : a.frozen? ⟨k, j, none⟩ = w.frozen? ⟨k, j, none⟩ := World.frozen?_of_block (w := w) (a := ⟨k, j, none⟩) (h.block k hk hr)
theorem Kr.below {r B : Nat} {w a : World} (h : Kr r w a) (hB : B ≤ r) (hs : B ≤ w.heap.size) : Below B w a := ⟨h.os, h.tape, h.output, h.size, fun k hk => h.block k (by omega) (by omega)⟩

/-- the tables of a kind as they begin -/
def Dq (j : Nat) (p : Nat × List Tb) : Prop := p.2.length = sC j ∧ ∀ t ∈ p.2, t.C = dfC j ∧ t.n = 0
/-- blocks of tables and rows lie from B on -/
def Dk (B : Nat) (K : List (Nat × List Tb)) : Prop := ∀ p ∈ K, B ≤ p.1 ∧ ∀ t ∈ p.2, ∀ b o, t.a = some ⟨b, o, none⟩ → t.C ≠ [] → B ≤ b
theorem Dk.mono {B B' : Nat} {K : List (Nat × List Tb)} (h : Dk B K) (hb : B' ≤ B) : Dk B' K := fun p hp => ⟨Nat.le_trans hb (h p hp).1, fun t ht b o h1 h2 => Nat.le_trans hb ((h p hp).2 t ht b o h1 h2)⟩
theorem St.lower {w : World} {lo lo' bt : Nat} {K : List (Nat × List Tb)} (h : St w lo bt K) (hb : lo' ≤ lo) : St w lo' bt K := ⟨Nat.le_trans hb h.blo, h.blt, h.bth, h.tl, h.hd, fun p hp => ⟨Nat.le_trans hb (h.lie p hp).1, (h.lie p hp).2⟩, h.inj, h.th, h.c0, h.c1, h.sl, h.ap⟩
def FI (W : World) (lo bt : Nat) (iv : Value) (wr : World) : Prop :=
  ∃ (k : Nat) (K : List (Nat × List Tb)), k ≤ 32 ∧ iv = .int .i64 k ∧ K.length = k ∧ St wr lo bt K ∧ Dk W.heap.size K ∧ (∀ (j : Nat) p, K[j]? = some p → Dq j p) ∧ Kr bt W wr
def FJ (W : World) (lo bt k : Nat) (iv : Value) (wr : World) : Prop :=
  ∃ (c : Nat) (K : List (Nat × List Tb)) (p : Nat × List Tb), c ≤ sC k ∧ iv = .int .i64 c ∧ K.length = k + 1 ∧ K[k]? = some p ∧ p.2.length = sC k ∧ St wr lo bt K ∧ Dk W.heap.size K ∧ (∀ (j : Nat) q, j < k → K[j]? = some q → Dq j q) ∧ (∀ (i : Nat) t, i < c → p.2[i]? = some t → t.C = dfC k ∧ t.n = 0) ∧ Kr bt W wr

/-- the set that all begins with is answered, in new memory -/
def Dset (w w' : World) (e : Ending) : Prop := ∃ bt K, e = .returned (.agg #[.slice (some ⟨bt, 0, none⟩) 32 32]) ∧ St w' w.heap.size bt K ∧ K.length = 32 ∧ (∀ (j : Nat) p, K[j]? = some p → Dq j p) ∧ Dk w.heap.size K ∧ Below w.heap.size w w'

set_option maxRecDepth 100000 in
set_option maxHeartbeats 4000000 in
theorem filled_default {w : World} (h : Sh w) : Calls Tryd.prog 55 #[.func (.func 59) #[] #[]] w fun e w' => Dset w w' e := by
  obtain ⟨i, hi, hz0, hz1, hz2⟩ := info_parts Tryd.inf60
  obtain ⟨i3, hi3, hy0, hy1, hy2⟩ := info_parts Tryd.inf63
  have hmk : ∀ u : World, (Instr.makeSlice 23 (.int .i64 32) (.int .i64 32)).run Tryd.prog u = .ok (.slice (some ⟨u.heap.size, 0, none⟩) 32 32) (u.alloc (.cells (madeCells #[.slice none 0 0] 32) 60)) := fun u => by
    have h := run_make (P := Tryd.prog) u 23 60 i (.slice none 0 0) Tryd.underlying23 hi hz0 .i64 .i64 32 32 (by omega) (Int.le_refl _) (by rw [hz2]; omega) (by omega)
    simpa [hz1, Value.cells] using h
  have HMK : Hid (∀ (n : Nat), n ≤ 14 → ∀ u : World, (Instr.makeSlice 60 (.int .i64 n) (.int .i64 n)).run Tryd.prog u = .ok (.slice (some ⟨u.heap.size, 0, none⟩) n n) (u.alloc (.cells (madeCells #[.slice none 0 0, .int .i64 0] (n * 2)) 63))) := fun n hn u => by
    have h := run_make (P := Tryd.prog) u 60 63 i3 (.agg #[.slice none 0 0, .int .i64 0]) Tryd.underlying60 hi3 hy0 .i64 .i64 n n (by omega) (Int.le_refl _) (by rw [hy2]; omega) (by omega)
    simpa [hy1, Value.cells] using h
  have HSHw : Hid (Sh w) := h
  clear h
  go_enter Tryd.func55, Tryd.ntmps55
  go_wp2_with fail
  have HS0 : Hid (St (((w.alloc (.cells #[.slice none 0 0] 25)).alloc (.cells (madeCells #[.slice none 0 0] 32) 60)).alloc (.cells #[.slice (some ⟨w.heap.size + 1, 0, none⟩) 32 32] 25)) w.heap.size (w.heap.size + 1) []) := by
    have h1 : (w.alloc (.cells #[.slice none 0 0] 25)).heap.size = w.heap.size + 1 := by simp
    have := (St.start (w := w.alloc (.cells #[.slice none 0 0] 25)) (lo := w.heap.size) (by rw [h1]; omega)).to (from_alloc _ (.cells #[.slice (some ⟨w.heap.size + 1, 0, none⟩) 32 32] 25))
    rw [h1] at this
    exact this
  have HSH : Hid (Sh (((w.alloc (.cells #[.slice none 0 0] 25)).alloc (.cells (madeCells #[.slice none 0 0] 32) 60)).alloc (.cells #[.slice (some ⟨w.heap.size + 1, 0, none⟩) 32 32] 25))) := ((HSHw.out.to (from_alloc _ _)).to (from_alloc _ _)).to (from_alloc _ _)
  have HWs : Hid ((((w.alloc (.cells #[.slice none 0 0] 25)).alloc (.cells (madeCells #[.slice none 0 0] 32) 60)).alloc (.cells #[.slice (some ⟨w.heap.size + 1, 0, none⟩) 32 32] 25)).heap.size = w.heap.size + 3) := by unfold Hid; simp
  have HBW : Hid (Below w.heap.size w (((w.alloc (.cells #[.slice none 0 0] 25)).alloc (.cells (madeCells #[.slice none 0 0] 32) 60)).alloc (.cells #[.slice (some ⟨w.heap.size + 1, 0, none⟩) 32 32] 25))) := to_alloc (to_alloc (from_alloc _ _) _) _
  have HX3 : Hid ((((w.alloc (.cells #[.slice none 0 0] 25)).alloc (.cells (madeCells #[.slice none 0 0] 32) 60)).alloc (.cells #[.slice (some ⟨w.heap.size + 1, 0, none⟩) 32 32] 25)).cell? ⟨w.heap.size + 2, 0, none⟩ = some (.slice (some ⟨w.heap.size + 1, 0, none⟩) 32 32)) := by
    have h1 : ((w.alloc (.cells #[.slice none 0 0] 25)).alloc (.cells (madeCells #[.slice none 0 0] 32) 60)).heap.size = w.heap.size + 2 := by simp
    unfold Hid; rw [← h1, new_get]; rfl
  have HX2 : Hid ((((w.alloc (.cells #[.slice none 0 0] 25)).alloc (.cells (madeCells #[.slice none 0 0] 32) 60)).alloc (.cells #[.slice (some ⟨w.heap.size + 1, 0, none⟩) 32 32] 25)).cell? ⟨w.heap.size, 0, none⟩ = some (.slice none 0 0) ∧ (((w.alloc (.cells #[.slice none 0 0] 25)).alloc (.cells (madeCells #[.slice none 0 0] 32) 60)).alloc (.cells #[.slice (some ⟨w.heap.size + 1, 0, none⟩) 32 32] 25)).frozen? ⟨w.heap.size, 0, none⟩ = false) := by
    have h1 : w.heap.size < (w.alloc (.cells #[.slice none 0 0] 25)).heap.size := by simp
    have hb : Below (w.alloc (.cells #[.slice none 0 0] 25)).heap.size (w.alloc (.cells #[.slice none 0 0] 25)) (((w.alloc (.cells #[.slice none 0 0] 25)).alloc (.cells (madeCells #[.slice none 0 0] 32) 60)).alloc (.cells #[.slice (some ⟨w.heap.size + 1, 0, none⟩) 32 32] 25)) := to_alloc (from_alloc _ _) _
    refine ⟨?_, ?_⟩
    · rw [newCell hb _ _ h1]; simp
    · rw [newFrozen hb _ _ h1]; simp
  have HLO : Hid (0 < w.heap.size) := HSHw.out.low
  clear HSHw
  generalize (((w.alloc (.cells #[.slice none 0 0] 25)).alloc (.cells (madeCells #[.slice none 0 0] 32) 60)).alloc (.cells #[.slice (some ⟨w.heap.size + 1, 0, none⟩) 32 32] 25)) = W at *
  rw [show w.heap.size + 1 + 1 = w.heap.size + 2 from rfl]
  go_loopw [8] (fun iv wr => FI W w.heap.size (w.heap.size + 1) iv wr) (fun iv _ => 32 - (intOf iv).toNat)
  case atStart => exact ⟨0, [], by omega, rfl, rfl, HS0.out, fun p hp => by simp at hp, fun j p hp => by simp at hp, Kr.refl _ _⟩
  case round =>
    obtain ⟨k, K, hk, rfl, hKl, hst, hdk, hdq, hkr⟩ := hrel
    clear HS0
    have HST : Hid _ := hst
    have HDK : Hid (Dk W.heap.size K) := hdk
    have HDQ : Hid (∀ (j : Nat) p, K[j]? = some p → Dq j p) := hdq
    have HKR : Hid (Kr (w.heap.size + 1) W wr) := hkr
    have HKL : Hid (K.length = k) := hKl
    have hks := hkr.size
    rw [HWs.out] at hks
    have HSHr : Hid (Sh wr) := HSH.out.below (hkr.below (B := w.heap.size) (by omega) (by rw [HWs.out]; omega)) HLO.out
    have x3 : wr.cell? ⟨w.heap.size + 2, 0, none⟩ = some (.slice (some ⟨w.heap.size + 1, 0, none⟩) 32 32) := by rw [hkr.cell _ _ (by rw [HWs.out]; omega) (by omega)]; exact HX3.out
    have x2 : wr.cell? ⟨w.heap.size, 0, none⟩ = some (.slice none 0 0) := by rw [hkr.cell _ _ (by rw [HWs.out]; omega) (by omega)]; exact HX2.out.1
    have x2f : wr.frozen? ⟨w.heap.size, 0, none⟩ = false := by rw [hkr.frozen _ _ (by rw [HWs.out]; omega) (by omega)]; exact HX2.out.2
    clear hst hdk hdq hkr hKl
    by_cases hlt : k < 32
    · have b0 : 0 ≤ (k : Int) := by omega
      have b1 : (k : Int) < 32 := by omega
      have cc := HSHr.out.c k hlt
      have tlk := HST.out.tl k (by rw [HKL.out]; exact Nat.le_refl _) hlt
      have thk := HST.out.bth k
      have mk := HMK.out (sC k) (sC_le k hlt).2
      have hc14 := (sC_le k hlt).2
      have hba : Below wr.heap.size wr (wr.alloc (.cells (madeCells #[.slice none 0 0, .int .i64 0] (sC k * 2)) 63)) := from_alloc _ _
      have y3 : (wr.alloc (.cells (madeCells #[.slice none 0 0, .int .i64 0] (sC k * 2)) 63)).cell? ⟨w.heap.size + 2, 0, none⟩ = some (.slice (some ⟨w.heap.size + 1, 0, none⟩) 32 32) := by rw [newCell hba _ _ (by omega)]; exact x3
      have ycc : (wr.alloc (.cells (madeCells #[.slice none 0 0, .int .i64 0] (sC k * 2)) 63)).cell? ⟨0, k * 3, none⟩ = some (.int .i64 (sC k : Nat)) := by rw [newCell hba _ _ (by have := HLO.out; omega)]; exact cc
      have ytl : (wr.alloc (.cells (madeCells #[.slice none 0 0, .int .i64 0] (sC k * 2)) 63)).cell? ⟨w.heap.size + 1, k, none⟩ = some (.slice none 0 0) := by rw [newCell hba _ _ (by omega)]; exact tlk
      have yth : (wr.alloc (.cells (madeCells #[.slice none 0 0, .int .i64 0] (sC k * 2)) 63)).frozen? ⟨w.heap.size + 1, k, none⟩ = false := by rw [newFrozen hba _ _ (by omega)]; exact thk
      clear x2 x2f hba
      go_wp2_with fail
      go_region
      have HKR2 : Hid (Kr (w.heap.size + 1) W ((wr.alloc (.cells (madeCells #[.slice none 0 0, .int .i64 0] (sC k * 2)) 63)).setCell ⟨w.heap.size + 1, k, none⟩ (.slice (some ⟨wr.heap.size, 0, none⟩) (sC k) (sC k))).drew) := ((HKR.out.to (from_alloc wr (.cells (madeCells #[.slice none 0 0, .int .i64 0] (sC k * 2)) 63))).set ⟨w.heap.size + 1, k, none⟩ (.slice (some ⟨wr.heap.size, 0, none⟩) (sC k) (sC k)) (Or.inl rfl)).to (below_drew (Below.refl _ _))
      have HST2 : Hid (St ((wr.alloc (.cells (madeCells #[.slice none 0 0, .int .i64 0] (sC k * 2)) 63)).setCell ⟨w.heap.size + 1, k, none⟩ (.slice (some ⟨wr.heap.size, 0, none⟩) (sC k) (sC k))).drew w.heap.size (w.heap.size + 1) (K ++ [(wr.heap.size, List.replicate (sC k) zT)])) := by
        have := (HST.out.add (by omega) (by rw [HKL.out]; exact hlt) (sC k)).to (below_drew (Below.refl _ _))
        rw [HKL.out] at this
        exact this
      have HV1 : Hid (wr.heap.size < ((wr.alloc (.cells (madeCells #[.slice none 0 0, .int .i64 0] (sC k * 2)) 63)).setCell ⟨w.heap.size + 1, k, none⟩ (.slice (some ⟨wr.heap.size, 0, none⟩) (sC k) (sC k))).drew.heap.size) := by
        unfold Hid
        have : ((wr.alloc (.cells (madeCells #[.slice none 0 0, .int .i64 0] (sC k * 2)) 63)).setCell ⟨w.heap.size + 1, k, none⟩ (.slice (some ⟨wr.heap.size, 0, none⟩) (sC k) (sC k))).drew.heap.size = wr.heap.size + 1 := by
          show ((wr.alloc (.cells (madeCells #[.slice none 0 0, .int .i64 0] (sC k * 2)) 63)).setCell _ _).heap.size = _
          rw [setCell_size]; simp
        rw [this]; exact Nat.lt_succ_self _
      have HWR : Hid (W.heap.size ≤ wr.heap.size) := HKR.out.size
      clear HKR HST HSHr x3 cc tlk thk mk y3 ycc ytl yth
      generalize ((wr.alloc (.cells (madeCells #[.slice none 0 0, .int .i64 0] (sC k * 2)) 63)).setCell ⟨w.heap.size + 1, k, none⟩ (.slice (some ⟨wr.heap.size, 0, none⟩) (sC k) (sC k))).drew = V at *
      have HSHV : Hid (Sh V) := HSH.out.below (HKR2.out.below (B := w.heap.size) (by omega) (by rw [HWs.out]; omega)) HLO.out
      have cc := HSHV.out.c k hlt
      go_wp2_with fail
      go_loopw [24] (fun iv wr => FJ W w.heap.size (w.heap.size + 1) k iv wr) (fun iv _ => sC k - (intOf iv).toNat)
      case atStart =>
        refine ⟨0, _, (wr.heap.size, List.replicate (sC k) zT), by omega, rfl, by rw [List.length_append, HKL.out]; rfl, by rw [List.getElem?_append_right (by rw [HKL.out]; exact Nat.le_refl _), HKL.out]; simp, by simp, HST2.out, fun p hp => ?_, fun j q hj hq => ?_, fun i t hi => by omega, HKR2.out⟩
        · rcases List.mem_append.1 hp with e | e
          · exact HDK.out p e
          · simp at e; subst e
            refine ⟨HWR.out, fun t ht b o h1 h2 => ?_⟩
            have : t = zT := List.eq_of_mem_replicate ht
            subst this; exact absurd rfl h2
        · rw [List.getElem?_append_left (by rw [HKL.out]; exact hj)] at hq
          exact HDQ.out j q hq
      case round =>
        clear HST2 HKR2 HDK HDQ HKL HSHV cc HV1 HWR
        generalize hwo : wr = wo at *
        clear hwo
        obtain ⟨c, K2, p, hc, rfl, hK2, hKk, hpl, hst, hdk, hdq, hdc, hkr⟩ := hrel
        have HST : Hid _ := hst
        have HDK : Hid (Dk W.heap.size K2) := hdk
        have HDQ : Hid (∀ (j : Nat) q, j < k → K2[j]? = some q → Dq j q) := hdq
        have HDC : Hid (∀ (i : Nat) t, i < c → p.2[i]? = some t → t.C = dfC k ∧ t.n = 0) := hdc
        have HKR : Hid _ := hkr
        have HKK : Hid (K2[k]? = some p) := hKk
        have HK2 : Hid (K2.length = k + 1) := hK2
        have HPL : Hid (p.2.length = sC k) := hpl
        clear hst hdk hdq hdc hkr hKk hK2 hpl
        by_cases hcl : c < sC k
        · have a0 : 0 ≤ (k : Int) := by omega
          have a1 : (k : Int) < 32 := by omega
          have a2 : 0 ≤ (c : Int) := by omega
          have a3 : (c : Int) < (sC k : Int) := by omega
          have hks := HKR.out.size
          rw [HWs.out] at hks
          have hpK : p ∈ K2 := List.mem_of_getElem? HKK.out
          have hlie := HST.out.lie p hpK
          have hbig := (HDK.out p hpK).1
          rw [HWs.out] at hbig
          have x3 : wo.cell? ⟨w.heap.size + 2, 0, none⟩ = some (.slice (some ⟨w.heap.size + 1, 0, none⟩) 32 32) := by rw [HKR.out.cell _ _ (by rw [HWs.out]; omega) (by omega)]; exact HX3.out
          have xb : wo.cell? ⟨w.heap.size + 1, k, none⟩ = some (.slice (some ⟨p.1, 0, none⟩) (sC k) (sC k)) := by have := HST.out.hd k p HKK.out; rw [HPL.out] at this; exact this
          obtain ⟨t0, ht0⟩ : ∃ t0, p.2[c]? = some t0 := ⟨p.2[c]'(by rw [HPL.out]; exact hcl), List.getElem?_eq_getElem _⟩
          have z0 := HST.out.c0 p hpK c t0 ht0
          have z1 := HST.out.c1 p hpK c t0 ht0
          have zf0 := HST.out.th p hpK (c * 2)
          have zf1 := HST.out.th p hpK (c * 2 + 1)
          have HSHo : Hid (Sh wo) := HSH.out.below (HKR.out.below (B := w.heap.size) (by omega) (by rw [HWs.out]; omega)) HLO.out
          obtain ⟨pb, pt⟩ := p
          simp only at hlie hbig xb z0 z1 zf0 zf1 HPL HDC
          have HBG : Hid (∀ u, Below wo.heap.size wo u → Calls Tryd.prog 59 #[.int .i64 k, .int .i64 c] u fun e u' => ∃ g c', e = .returned (.agg #[.slice (some ⟨g, 0, none⟩) (dfC k).length c', .int .i64 0]) ∧ Ow u' u.heap.size g (dfC k).length c' (dfC k) ∧ Below u.heap.size u u' ∧ Below wo.heap.size wo u' ∧ u'.cell? ⟨w.heap.size + 2, 0, none⟩ = some (.slice (some ⟨w.heap.size + 1, 0, none⟩) 32 32) ∧ u'.cell? ⟨w.heap.size + 1, k, none⟩ = some (.slice (some ⟨pb, 0, none⟩) (sC k) (sC k)) ∧ u'.cell? ⟨pb, c * 2, none⟩ = some (.slice t0.a t0.C.length t0.c) ∧ u'.cell? ⟨pb, c * 2 + 1, none⟩ = some (.int .i64 t0.n) ∧ u'.frozen? ⟨pb, c * 2, none⟩ = false ∧ u'.frozen? ⟨pb, c * 2 + 1, none⟩ = false) := fun u hu => by
            refine (begin_any (HSHo.out.to hu) hlt).mono fun e u' h => ?_
            obtain ⟨g, c', h1, h2, h3⟩ := h
            have hb := below_to hu h3
            exact ⟨g, c', h1, h2, h3, hb, by rw [newCell hb _ _ (by omega)]; exact x3, by rw [newCell hb _ _ (by omega)]; exact xb, by rw [newCell hb _ _ (by omega)]; exact z0, by rw [newCell hb _ _ (by omega)]; exact z1, by rw [newFrozen hb _ _ (by omega)]; exact zf0, by rw [newFrozen hb _ _ (by omega)]; exact zf1⟩
          have hbd : Below wo.heap.size wo wo.drew := below_drew (Below.refl _ _)
          have d3 : wo.drew.cell? ⟨w.heap.size + 2, 0, none⟩ = some (.slice (some ⟨w.heap.size + 1, 0, none⟩) 32 32) := x3
          have db : wo.drew.cell? ⟨w.heap.size + 1, k, none⟩ = some (.slice (some ⟨pb, 0, none⟩) (sC k) (sC k)) := xb
          have n1 : w.heap.size + 2 ≠ pb := by omega
          have n2 : w.heap.size + 1 ≠ pb := by omega
          clear z0 z1 zf0 zf1 x3 xb
          go_wp2_with fail
          go_region_held3 (fun u => u.cell? ⟨w.heap.size + 2, 0, none⟩ = some (.slice (some ⟨w.heap.size + 1, 0, none⟩) 32 32) ∧ u.cell? ⟨w.heap.size + 1, k, none⟩ = some (.slice (some ⟨pb, 0, none⟩) (sC k) (sC k)) ∧ Below wo.heap.size wo wo) (((try dsimp only); first | assumption | (refine ⟨?_, ?_, ?_⟩ <;> first | assumption | exact Below.refl _ _ | go_keep) | go_keep)) ((go_at_call 59; refine (HBG.out _ (by (repeat (first | with_reducible assumption | with_reducible refine below_drew ?_ | with_reducible refine below_alloc ?_ ?_ _ | with_reducible refine below_set ?_ ?_ _ | exact Nat.le_refl _ | exact Below.size (by assumption))))).mono ?_; rintro e w3 ⟨g, c', rfl, ho, hb, hbw, q3, qb, z0, z1, zf0, zf1⟩; have y3 : ((w3.setCell ⟨pb, c * 2, none⟩ (.slice (some ⟨g, 0, none⟩) (dfC k).length c')).setCell ⟨pb, c * 2 + 1, none⟩ (.int .i64 0)).cell? ⟨w.heap.size + 2, 0, none⟩ = some (.slice (some ⟨w.heap.size + 1, 0, none⟩) 32 32) := far2 n1 q3; have yb : ((w3.setCell ⟨pb, c * 2, none⟩ (.slice (some ⟨g, 0, none⟩) (dfC k).length c')).setCell ⟨pb, c * 2 + 1, none⟩ (.int .i64 0)).cell? ⟨w.heap.size + 1, k, none⟩ = some (.slice (some ⟨pb, 0, none⟩) (sC k) (sC k)) := far2 n2 qb))
          have hgl : wo.heap.size ≤ g := ho.lies.1
          have hgap : ∀ b o, (some ⟨g, 0, none⟩ : Option Addr) = some ⟨b, o, none⟩ → dfC k ≠ [] → b ≠ w.heap.size + 1 ∧ ∀ q ∈ K2, b ≠ q.1 := fun b o h1 _ => by
            simp only [Option.some.injEq, Addr.mk.injEq, and_true] at h1
            exact ⟨by omega, fun q hq => by have := (HST.out.lie q hq).2.1; omega⟩
          have HPUT : Hid _ := (HST.out.to hbw).put HKK.out (by rw [HPL.out]; exact hcl) ⟨some ⟨g, 0, none⟩, c', dfC k, 0⟩ ho.sl hgap
          have HKR3 : Hid _ := ((HKR.out.to hbw).set ⟨pb, c * 2, none⟩ (.slice (some ⟨g, 0, none⟩) (dfC k).length c') (Or.inr (by rw [HWs.out]; exact hbig))).set ⟨pb, c * 2 + 1, none⟩ (.int .i64 0) (Or.inr (by rw [HWs.out]; exact hbig))
          have HDK3 : Hid (Dk W.heap.size (K2.set k (pb, pt.set c ⟨some ⟨g, 0, none⟩, c', dfC k, 0⟩))) := fun r hr => by
            rcases St.mem_set HKK.out hr with e | e
            · subst e
              refine ⟨by rw [HWs.out]; exact hbig, fun t ht b o h1 h2 => ?_⟩
              rcases List.mem_or_eq_of_mem_set ht with e2 | e2
              · exact (HDK.out _ hpK).2 t e2 b o h1 h2
              · subst e2
                simp only [Option.some.injEq, Addr.mk.injEq, and_true] at h1
                rw [HWs.out]; omega
            · exact HDK.out r e
          clear ho hb hbw q3 qb z0 z1 zf0 zf1 y3 yb
          go_wp2_with fail
          go_roundw
          case rel =>
            refine ⟨c + 1, _, (pb, pt.set c ⟨some ⟨g, 0, none⟩, c', dfC k, 0⟩), by omega, by go_num, by rw [List.length_set]; exact HK2.out, by rw [List.getElem?_set_self (by rw [HK2.out]; omega)], by simp only [List.length_set]; exact HPL.out, HPUT.out, HDK3.out, fun j q hj hq => ?_, fun m t hm ht => ?_, HKR3.out⟩
            · rw [List.getElem?_set_ne (by omega)] at hq
              exact HDQ.out j q hj hq
            · simp only at ht
              rw [List.getElem?_set] at ht
              by_cases e : c = m
              · subst e
                rw [if_pos rfl, if_pos (by rw [HPL.out]; exact hcl)] at ht
                simp at ht; subst ht; exact ⟨rfl, rfl⟩
              · rw [if_neg e] at ht
                exact HDC.out m t (by omega) ht
          case measure => simp [intOf]; omega
        · have a3 : ¬ (c : Int) < (sC k : Int) := by omega
          have hcs : c = sC k := by omega
          go_wp2_with fail
          go_roundw
          case rel =>
            refine ⟨k + 1, K2, by omega, by go_num, HK2.out, HST.out, HDK.out, fun j q hq => ?_, HKR.out⟩
            by_cases hj : j < k
            · exact HDQ.out j q hj hq
            · have hjk : j = k := by
                have := (List.getElem?_eq_some_iff.1 hq).1
                rw [HK2.out] at this
                omega
              subst hjk
              rw [HKK.out] at hq
              simp only [Option.some.injEq] at hq
              subst hq
              refine ⟨HPL.out, fun t ht => ?_⟩
              obtain ⟨m, hm⟩ := List.getElem?_of_mem ht
              have := (List.getElem?_eq_some_iff.1 hm).1
              exact HDC.out m t (by rw [HPL.out] at this; omega) hm
          case measure => simp [intOf]; omega
    · have hk' : k = 32 := by omega
      subst hk'
      have b1 : ¬ ((32 : Nat) : Int) < 32 := by omega
      go_wp2_with fail
      refine bodyPost_ret (v := .agg #[.slice (some ⟨w.heap.size + 1, 0, none⟩) 32 32]) (by simp [results, Tryd.results55, go_sem, x2]) rfl ⟨w.heap.size + 1, K, rfl, ?_, HKL.out, HDQ.out, HDK.out.mono (by rw [HWs.out]; omega), ?_⟩
      · refine HST.out.far _ _ (by simp) (fun p hp e => ?_) (fun p hp t ht b o h1 h2 e => ?_)
        · have := (HDK.out p hp).1; rw [HWs.out] at this; simp at e; omega
        · have := (HDK.out p hp).2 t ht b o h1 h2; rw [HWs.out] at this; simp at e; omega
      · exact below_set (HBW.out.trans (HKR.out.below (B := w.heap.size) (by omega) (by rw [HWs.out]; omega))) (by simp) _

set_option maxRecDepth 100000 in
set_option maxHeartbeats 1000000 in
theorem default_any {w : World} (h : Sh w) : Calls Tryd.prog 32 #[] w fun e w' => Dset w w' e := by
  have HSH : Hid (Sh (w.alloc (.cells #[.slice none 0 0] 25))) := h.to (from_alloc _ _)
  have HBW : Hid (Below w.heap.size w (w.alloc (.cells #[.slice none 0 0] 25))) := from_alloc _ _
  have HZ : Hid ((w.alloc (.cells #[.slice none 0 0] 25)).cell? ⟨w.heap.size, 0, none⟩ = some (.slice none 0 0) ∧ (w.alloc (.cells #[.slice none 0 0] 25)).frozen? ⟨w.heap.size, 0, none⟩ = false) := by unfold Hid; simp
  have HWs : Hid ((w.alloc (.cells #[.slice none 0 0] 25)).heap.size = w.heap.size + 1) := by unfold Hid; simp
  clear h
  go_enter Tryd.func32, Tryd.ntmps32
  go_wp2_with fail
  generalize w.alloc (.cells #[.slice none 0 0] 25) = W at *
  refine (filled_default HSH.out).mono ?_
  rintro e w1 ⟨bt, K, rfl, hst, hKl, hdq, hdk, hb⟩
  have HB1 : Hid (Below W.heap.size W w1) := hb
  have HST : Hid (St w1 W.heap.size bt K) := hst
  have HDQ : Hid (∀ (j : Nat) p, K[j]? = some p → Dq j p) := hdq
  have HKL : Hid (K.length = 32) := hKl
  have HDK : Hid (Dk W.heap.size K) := hdk
  have d0 : w1.cell? ⟨w.heap.size, 0, none⟩ = some (.slice none 0 0) := by rw [newCell HB1.out _ _ (by rw [HWs.out]; omega)]; exact HZ.out.1
  have f0 : w1.frozen? ⟨w.heap.size, 0, none⟩ = false := by rw [newFrozen HB1.out _ _ (by rw [HWs.out]; omega)]; exact HZ.out.2
  clear hst hdq hb hKl hdk
  go_wp2_with fail
  refine bodyPost_ret (v := .agg #[.slice (some ⟨bt, 0, none⟩) 32 32]) (by simp [results, Tryd.results32, go_sem, d0]) rfl ⟨bt, K, rfl, ?_, HKL.out, HDQ.out, HDK.out.mono (by rw [HWs.out]; omega), ?_⟩
  · have hl := HST.out.blo
    rw [HWs.out] at hl
    refine (HST.out.far _ _ (by simp; omega) (fun p hp e => ?_) (fun p hp t ht b o h1 h2 e => ?_)).lower (by rw [HWs.out]; omega)
    · have := (HST.out.lie p hp).1; rw [HWs.out] at this; simp at e; omega
    · have := (HDK.out p hp).2 t ht b o h1 h2; rw [HWs.out] at this; simp at e; omega
  · exact below_set (HBW.out.trans (HB1.out.mono (by rw [HWs.out]; omega))) (by simp) _

end Go.Proofs.YtppanogpeengnaaDoor

namespace Go.Proofs.YtppanogpeengnaaDoor
open Go.RowKit L3

/-- the tables of a kind may be -/
def Oq (j : Nat) (p : Nat × List Tb) : Prop := p.2.length = sC j ∧ ∀ t ∈ p.2, t.C.length = sV j ∧ TOk t.C t.n
def Okk (K : List (Nat × List Tb)) : Prop := K.length = 32 ∧ ∀ (j : Nat) p, K[j]? = some p → Oq j p
theorem okk_default {K : List (Nat × List Tb)} (h : K.length = 32) (hd : ∀ (j : Nat) p, K[j]? = some p → Dq j p) : Okk K :=
  ⟨h, fun j p hp => by
    have hj : j < 32 := by have := (List.getElem?_eq_some_iff.1 hp).1; omega
    obtain ⟨h1, h2⟩ := hd j p hp
    refine ⟨h1, fun t ht => ?_⟩
    obtain ⟨e1, e2⟩ := h2 t ht
    rw [e1, e2]
    exact ⟨dfC_len j, dfC_ok j hj⟩⟩

set_option maxRecDepth 100000 in
set_option maxHeartbeats 4000000 in
theorem scheck_ok {w : World} {lo bt : Nat} {K : List (Nat × List Tb)} (hsh : Sh w) (h : St w lo bt K) (ho : Okk K) :
    Calls Tryd.prog 27 #[.agg #[.slice (some ⟨bt, 0, none⟩) 32 32]] w fun e w' => e = .returned (.int .i64 0) ∧ Below w.heap.size w w' := by
  have HSH : Hid (Sh w) := hsh
  have HST : Hid (St w lo bt K) := h
  have HOK : Hid (Okk K) := ho
  have HB0 : Hid (Below w.heap.size w (w.alloc (.cells #[.slice (some ⟨bt, 0, none⟩) 32 32] 25))) := from_alloc _ _
  have HX : Hid ((w.alloc (.cells #[.slice (some ⟨bt, 0, none⟩) 32 32] 25)).cell? ⟨w.heap.size, 0, none⟩ = some (.slice (some ⟨bt, 0, none⟩) 32 32)) := by unfold Hid; simp
  clear hsh h ho
  go_enter Tryd.func27, Tryd.ntmps27
  go_wp2_with fail
  generalize w.alloc (.cells #[.slice (some ⟨bt, 0, none⟩) 32 32] 25) = W at *
  go_loopw [14] (fun iv wr => ∃ k : Nat, k ≤ 32 ∧ iv = .int .i64 k ∧ Below w.heap.size w wr) (fun iv _ => 32 - (intOf iv).toNat)
  case atStart => exact ⟨0, by omega, rfl, HB0.out⟩
  case round =>
    obtain ⟨k, hk, rfl, hb⟩ := hrel
    have HB : Hid (Below w.heap.size w wr) := hb
    clear hb HB0
    by_cases hlt : k < 32
    · have hkl : k < K.length := by rw [HOK.out.1]; exact hlt
      have hget := List.getElem?_eq_getElem hkl
      have hoq := HOK.out.2 k _ hget
      have hmem : K[k] ∈ K := List.getElem_mem _
      have xb0 := HST.out.hd k _ hget
      have hlie := (HST.out.lie _ hmem).2.1
      have HC0 : Hid (∀ (c : Nat) t, K[k].2[c]? = some t → w.cell? ⟨K[k].1, c * 2, none⟩ = some (.slice t.a t.C.length t.c) ∧ w.cell? ⟨K[k].1, c * 2 + 1, none⟩ = some (.int .i64 t.n) ∧ Sl w .u16 t.a t.C) := fun c t ht => ⟨HST.out.c0 _ hmem c t ht, HST.out.c1 _ hmem c t ht, HST.out.sl _ hmem t (List.mem_of_getElem? ht)⟩
      generalize K[k] = p at *
      obtain ⟨pb, pt⟩ := p
      simp only at xb0 hlie HC0
      have HPL : Hid (pt.length = sC k) := hoq.1
      have HPT : Hid (∀ t ∈ pt, t.C.length = sV k ∧ TOk t.C t.n) := hoq.2
      have xb : wr.cell? ⟨bt, k, none⟩ = some (.slice (some ⟨pb, 0, none⟩) (sC k) (sC k)) := by rw [newCell HB.out _ _ HST.out.blt]; rw [HPL.out] at xb0; exact xb0
      have cc : wr.cell? ⟨0, k * 3, none⟩ = some (.int .i64 (sC k : Nat)) := (HSH.out.to HB.out).c k hlt
      have b0 : 0 ≤ (k : Int) := by omega
      have b1 : (k : Int) < 32 := by omega
      have t1 : ((sC k : Int) != (sC k : Int)) = false := by simp
      clear hget hoq hmem xb0 hkl
      go_wp2_with fail
      generalize hwo : wr = wo at *
      clear hwo
      go_loopw [28] (fun iv wr => ∃ c : Nat, c ≤ sC k ∧ iv = .int .i64 c ∧ Below w.heap.size w wr) (fun iv _ => sC k - (intOf iv).toNat)
      case atStart => exact ⟨0, by omega, rfl, HB.out⟩
      case round =>
        obtain ⟨c, hc, rfl, hb⟩ := hrel
        clear HB xb cc
        have HB : Hid (Below w.heap.size w wr) := hb
        clear hb
        by_cases hcl : c < sC k
        · have hcp : c < pt.length := by rw [HPL.out]; exact hcl
          have hgt := List.getElem?_eq_getElem hcp
          obtain ⟨g0, g1, gs⟩ := HC0.out c _ hgt
          have hok := HPT.out _ (List.getElem_mem hcp)
          generalize pt[c] = t at *
          obtain ⟨ta, tc, tC, tn⟩ := t
          simp only at g0 g1 gs hok
          have z0 : wr.cell? ⟨pb, c * 2, none⟩ = some (.slice ta tC.length tc) := by rw [newCell HB.out _ _ hlie]; exact g0
          have z1 : wr.cell? ⟨pb, c * 2 + 1, none⟩ = some (.int .i64 tn) := by rw [newCell HB.out _ _ hlie]; exact g1
          have HSL : Hid (Sl w .u16 ta tC) := gs
          have HTO : Hid (TOk tC tn) := hok.2
          have hlen : tC.length = sV k := hok.1
          rw [hlen] at z0
          have a0 : 0 ≤ (c : Int) := by omega
          have a1 : (c : Int) < (sC k : Int) := by omega
          have hv := (sV_le k hlt).2
          have hc14 := (sC_le k hlt).2
          have HBa : Hid (Below w.heap.size w (wr.alloc (.cells #[.slice ta (sV k) tc, .int .i64 tn] 63))) := to_alloc HB.out _
          have e0 : (wr.alloc (.cells #[.slice ta (sV k) tc, .int .i64 tn] 63)).cell? ⟨wr.heap.size, 0, none⟩ = some (.slice ta (sV k) tc) := by simp
          have e1 : (wr.alloc (.cells #[.slice ta (sV k) tc, .int .i64 tn] 63)).cell? ⟨wr.heap.size, 1, none⟩ = some (.int .i64 tn) := by simp
          have hx : wr.heap.size < (wr.alloc (.cells #[.slice ta (sV k) tc, .int .i64 tn] 63)).heap.size := by simp
          have HSHa : Hid (Sh (wr.alloc (.cells #[.slice ta (sV k) tc, .int .i64 tn] 63))) := HSH.out.to HBa.out
          clear g0 g1 gs hgt hok
          go_wp2_with fail
          generalize wr.alloc (.cells #[.slice ta (sV k) tc, .int .i64 tn] 63) = V at *
          generalize wr.heap.size = x at *
          have HQ : Hid (∀ u, Below V.heap.size V u → u.cell? ⟨x, 0, none⟩ = some (.slice ta (sV k) tc) ∧ u.cell? ⟨x, 1, none⟩ = some (.int .i64 tn) ∧ u.cell? ⟨0, k * 3 + 1, none⟩ = some (.int .i64 (sV k : Nat))) := fun u hu => ⟨by rw [newCell hu _ _ hx]; exact e0, by rw [newCell hu _ _ hx]; exact e1, (HSHa.out.to hu).v k hlt⟩
          have HCK : Hid (∀ u, Below V.heap.size V u → Calls Tryd.prog 52 #[.agg #[.slice ta (sV k) tc, .int .i64 tn]] u fun e u' => e = .returned (.int .i64 0) ∧ Below V.heap.size V u') := fun u hu => by
            have h1 := check_any (c := tc) (n := tn) ((HSL.out.to HBa.out).to hu) (by rw [hlen]; omega)
            rw [hlen, show ck tC tn = 0 from ck_ok HTO.out] at h1
            exact h1.mono fun e u' h => ⟨h.1, below_to hu h.2⟩
          have hbd : Below V.heap.size V V.drew := below_drew (Below.refl _ _)
          obtain ⟨d0, d1, d2⟩ := HQ.out _ hbd
          have t2 : ((sV k : Int) != (sV k : Int)) = false := by simp
          clear e0 e1 z0 z1 hlen
          go_region_held3 (fun u => u.cell? ⟨x, 0, none⟩ = some (.slice ta (sV k) tc) ∧ u.cell? ⟨x, 1, none⟩ = some (.int .i64 tn) ∧ u.cell? ⟨0, k * 3 + 1, none⟩ = some (.int .i64 (sV k : Nat))) (((try dsimp only); first | assumption | (refine ⟨?_, ?_, ?_⟩ <;> first | assumption | go_keep) | go_keep)) (first
            | (go_at_call 52; with_reducible refine (HCK.out _ (by assumption)).mono ?_; rintro e wA ⟨rfl, hbA⟩; obtain ⟨pA0, pA1, pA2⟩ := HQ.out _ hbA))
          all_goals
            have HBn : Hid (Below w.heap.size w wA) := below_to HBa.out hbA
            clear hbA pA0 pA1 pA2 d0 d1 d2 hbd
            go_wp2_with fail
            go_roundw
            case rel => exact ⟨c + 1, by omega, by go_num, HBn.out⟩
            case measure => simp [intOf]; omega
        · have a1 : ¬ (c : Int) < (sC k : Int) := by omega
          go_wp2_with fail
          go_roundw
          case rel => exact ⟨k + 1, by omega, by go_num, HB.out⟩
          case measure => simp [intOf]; omega
    · have b1 : ¬ (k : Int) < 32 := by omega
      go_wp2_with fail
      go_ret
      exact ⟨rfl, HB.out⟩

end Go.Proofs.YtppanogpeengnaaDoor

namespace Go.Proofs.YtppanogpeengnaaDoor
open Go.RowKit L3

/-- two lists of tables have the same numbers -/
def Alq (p q : List Tb) : Prop := q.length = p.length ∧ ∀ (c : Nat) s t, p[c]? = some s → q[c]? = some t → t.C = s.C ∧ t.n = s.n
/-- two sets have the same numbers -/
def Als (K L : List (Nat × List Tb)) : Prop := L.length = K.length ∧ ∀ (j : Nat) p q, K[j]? = some p → L[j]? = some q → Alq p.2 q.2
theorem Alq.refl (p : List Tb) : Alq p p := ⟨rfl, fun c s t h1 h2 => by rw [h1] at h2; simp at h2; rw [h2]; exact ⟨rfl, rfl⟩⟩
theorem Als.refl (K : List (Nat × List Tb)) : Als K K := ⟨rfl, fun j p q h1 h2 => by rw [h1] at h2; simp at h2; rw [h2]; exact Alq.refl _⟩
theorem Alq.trans {p q r : List Tb} (h : Alq p q) (k : Alq q r) : Alq p r := ⟨k.1.trans h.1, fun c s u h1 h2 => by
  have hc : c < q.length := by rw [h.1]; exact (List.getElem?_eq_some_iff.1 h1).1
  have e := List.getElem?_eq_getElem hc
  have a := h.2 c s _ h1 e
  have b := k.2 c _ u e h2
  exact ⟨b.1.trans a.1, b.2.trans a.2⟩⟩
theorem Als.trans {K L M : List (Nat × List Tb)} (h : Als K L) (k : Als L M) : Als K M := ⟨k.1.trans h.1, fun j p r h1 h2 => by
  have hc : j < L.length := by rw [h.1]; exact (List.getElem?_eq_some_iff.1 h1).1
  have e := List.getElem?_eq_getElem hc
  exact (h.2 j p _ h1 e).trans (k.2 j _ r e h2)⟩
theorem Als.okk {K L : List (Nat × List Tb)} (h : Als K L) (ho : Okk K) : Okk L :=
  ⟨h.1.trans ho.1, fun j q hq => by
    have hj : j < K.length := by rw [← h.1]; exact (List.getElem?_eq_some_iff.1 hq).1
    have hp := List.getElem?_eq_getElem hj
    obtain ⟨l1, l2⟩ := h.2 j _ q hp hq
    obtain ⟨o1, o2⟩ := ho.2 j _ hp
    refine ⟨l1.trans o1, fun t ht => ?_⟩
    obtain ⟨c, hc⟩ := List.getElem?_of_mem ht
    have hcl : c < (K[j]).2.length := by rw [← l1]; exact (List.getElem?_eq_some_iff.1 hc).1
    have hs := List.getElem?_eq_getElem hcl
    obtain ⟨e1, e2⟩ := l2 c _ t hs hc
    rw [e1, e2]
    exact o2 _ (List.getElem_mem _)⟩

/-- a copy of a set is answered, in new memory -/
def Cset (w w' : World) (e : Ending) (K : List (Nat × List Tb)) : Prop := ∃ bt L, e = .returned (.agg #[.slice (some ⟨bt, 0, none⟩) 32 32]) ∧ St w' w.heap.size bt L ∧ Als K L ∧ Dk w.heap.size L ∧ Below w.heap.size w w'
def CI (W : World) (lo bt : Nat) (K : List (Nat × List Tb)) (iv : Value) (wr : World) : Prop :=
  ∃ (k : Nat) (L : List (Nat × List Tb)), k ≤ 32 ∧ iv = .int .i64 k ∧ L.length = k ∧ St wr lo bt L ∧ Dk W.heap.size L ∧ (∀ (j : Nat) p q, K[j]? = some p → L[j]? = some q → Alq p.2 q.2) ∧ Kr bt W wr
def CJ (W : World) (lo bt k : Nat) (K : List (Nat × List Tb)) (pt : List Tb) (iv : Value) (wr : World) : Prop :=
  ∃ (c : Nat) (L : List (Nat × List Tb)) (p : Nat × List Tb), c ≤ sC k ∧ iv = .int .i64 c ∧ L.length = k + 1 ∧ L[k]? = some p ∧ p.2.length = sC k ∧ St wr lo bt L ∧ Dk W.heap.size L ∧ (∀ (j : Nat) p q, j < k → K[j]? = some p → L[j]? = some q → Alq p.2 q.2) ∧ (∀ (i : Nat) s t, i < c → pt[i]? = some s → p.2[i]? = some t → t.C = s.C ∧ t.n = s.n) ∧ Kr bt W wr

set_option maxRecDepth 100000 in
set_option maxHeartbeats 8000000 in
theorem scopy_ok {w : World} {lo bt : Nat} {K : List (Nat × List Tb)} (hsh : Sh w) (h : St w lo bt K) (ho : Okk K) :
    Calls Tryd.prog 29 #[.agg #[.slice (some ⟨bt, 0, none⟩) 32 32]] w fun e w' => Cset w w' e K := by
  obtain ⟨i, hi, hz0, hz1, hz2⟩ := info_parts Tryd.inf60
  obtain ⟨i3, hi3, hy0, hy1, hy2⟩ := info_parts Tryd.inf63
  have hmk : ∀ u : World, (Instr.makeSlice 23 (.int .i64 32) (.int .i64 32)).run Tryd.prog u = .ok (.slice (some ⟨u.heap.size, 0, none⟩) 32 32) (u.alloc (.cells (madeCells #[.slice none 0 0] 32) 60)) := fun u => by
    have h := run_make (P := Tryd.prog) u 23 60 i (.slice none 0 0) Tryd.underlying23 hi hz0 .i64 .i64 32 32 (by omega) (Int.le_refl _) (by rw [hz2]; omega) (by omega)
    simpa [hz1, Value.cells] using h
  have HMK : Hid (∀ (n : Nat), n ≤ 14 → ∀ u : World, (Instr.makeSlice 60 (.int .i64 n) (.int .i64 n)).run Tryd.prog u = .ok (.slice (some ⟨u.heap.size, 0, none⟩) n n) (u.alloc (.cells (madeCells #[.slice none 0 0, .int .i64 0] (n * 2)) 63))) := fun n hn u => by
    have h := run_make (P := Tryd.prog) u 60 63 i3 (.agg #[.slice none 0 0, .int .i64 0]) Tryd.underlying60 hi3 hy0 .i64 .i64 n n (by omega) (Int.le_refl _) (by rw [hy2]; omega) (by omega)
    simpa [hy1, Value.cells] using h
  have HOK : Hid (Okk K) := ho
  have HSRC : Hid (St w lo bt K) := h
  have HS0 : Hid (St ((((w.alloc (.cells #[.slice (some ⟨bt, 0, none⟩) 32 32] 25)).alloc (.cells #[.slice none 0 0] 25)).alloc (.cells (madeCells #[.slice none 0 0] 32) 60)).alloc (.cells #[.slice (some ⟨w.heap.size + 2, 0, none⟩) 32 32] 25)) w.heap.size (w.heap.size + 2) []) := by
    have h1 : ((w.alloc (.cells #[.slice (some ⟨bt, 0, none⟩) 32 32] 25)).alloc (.cells #[.slice none 0 0] 25)).heap.size = w.heap.size + 2 := by simp
    have := (St.start (w := ((w.alloc (.cells #[.slice (some ⟨bt, 0, none⟩) 32 32] 25)).alloc (.cells #[.slice none 0 0] 25))) (lo := w.heap.size) (by rw [h1]; omega)).to (from_alloc _ (.cells #[.slice (some ⟨w.heap.size + 2, 0, none⟩) 32 32] 25))
    rw [h1] at this
    exact this
  have HLO : Hid (0 < w.heap.size) := hsh.low
  have HWs : Hid (((((w.alloc (.cells #[.slice (some ⟨bt, 0, none⟩) 32 32] 25)).alloc (.cells #[.slice none 0 0] 25)).alloc (.cells (madeCells #[.slice none 0 0] 32) 60)).alloc (.cells #[.slice (some ⟨w.heap.size + 2, 0, none⟩) 32 32] 25)).heap.size = w.heap.size + 4) := by unfold Hid; simp
  have HBW : Hid (Below w.heap.size w ((((w.alloc (.cells #[.slice (some ⟨bt, 0, none⟩) 32 32] 25)).alloc (.cells #[.slice none 0 0] 25)).alloc (.cells (madeCells #[.slice none 0 0] 32) 60)).alloc (.cells #[.slice (some ⟨w.heap.size + 2, 0, none⟩) 32 32] 25))) := to_alloc (to_alloc (to_alloc (from_alloc _ _) _) _) _
  have HX3 : Hid (((((w.alloc (.cells #[.slice (some ⟨bt, 0, none⟩) 32 32] 25)).alloc (.cells #[.slice none 0 0] 25)).alloc (.cells (madeCells #[.slice none 0 0] 32) 60)).alloc (.cells #[.slice (some ⟨w.heap.size + 2, 0, none⟩) 32 32] 25)).cell? ⟨w.heap.size + 3, 0, none⟩ = some (.slice (some ⟨w.heap.size + 2, 0, none⟩) 32 32)) := by
    have h1 : (((w.alloc (.cells #[.slice (some ⟨bt, 0, none⟩) 32 32] 25)).alloc (.cells #[.slice none 0 0] 25)).alloc (.cells (madeCells #[.slice none 0 0] 32) 60)).heap.size = w.heap.size + 3 := by simp
    unfold Hid; rw [← h1, new_get]; rfl
  have HX2 : Hid (((((w.alloc (.cells #[.slice (some ⟨bt, 0, none⟩) 32 32] 25)).alloc (.cells #[.slice none 0 0] 25)).alloc (.cells (madeCells #[.slice none 0 0] 32) 60)).alloc (.cells #[.slice (some ⟨w.heap.size + 2, 0, none⟩) 32 32] 25)).cell? ⟨w.heap.size + 1, 0, none⟩ = some (.slice none 0 0) ∧ ((((w.alloc (.cells #[.slice (some ⟨bt, 0, none⟩) 32 32] 25)).alloc (.cells #[.slice none 0 0] 25)).alloc (.cells (madeCells #[.slice none 0 0] 32) 60)).alloc (.cells #[.slice (some ⟨w.heap.size + 2, 0, none⟩) 32 32] 25)).frozen? ⟨w.heap.size + 1, 0, none⟩ = false) := by
    have h0 : (w.alloc (.cells #[.slice (some ⟨bt, 0, none⟩) 32 32] 25)).heap.size = w.heap.size + 1 := by simp
    have h1 : w.heap.size + 1 < ((w.alloc (.cells #[.slice (some ⟨bt, 0, none⟩) 32 32] 25)).alloc (.cells #[.slice none 0 0] 25)).heap.size := by simp
    have hb : Below ((w.alloc (.cells #[.slice (some ⟨bt, 0, none⟩) 32 32] 25)).alloc (.cells #[.slice none 0 0] 25)).heap.size ((w.alloc (.cells #[.slice (some ⟨bt, 0, none⟩) 32 32] 25)).alloc (.cells #[.slice none 0 0] 25)) ((((w.alloc (.cells #[.slice (some ⟨bt, 0, none⟩) 32 32] 25)).alloc (.cells #[.slice none 0 0] 25)).alloc (.cells (madeCells #[.slice none 0 0] 32) 60)).alloc (.cells #[.slice (some ⟨w.heap.size + 2, 0, none⟩) 32 32] 25)) := to_alloc (from_alloc _ _) _
    refine ⟨?_, ?_⟩
    · rw [newCell hb _ _ h1, ← h0, new_get]; rfl
    · rw [newFrozen hb _ _ h1, ← h0]; simp
  have s1 : ((((w.alloc (.cells #[.slice (some ⟨bt, 0, none⟩) 32 32] 25)).alloc (.cells #[.slice none 0 0] 25)).alloc (.cells (madeCells #[.slice none 0 0] 32) 60)).alloc (.cells #[.slice (some ⟨w.heap.size + 2, 0, none⟩) 32 32] 25)).cell? ⟨w.heap.size, 0, none⟩ = some (.slice (some ⟨bt, 0, none⟩) 32 32) := by
    have h1 : w.heap.size < (w.alloc (.cells #[.slice (some ⟨bt, 0, none⟩) 32 32] 25)).heap.size := by simp
    have hb : Below (w.alloc (.cells #[.slice (some ⟨bt, 0, none⟩) 32 32] 25)).heap.size (w.alloc (.cells #[.slice (some ⟨bt, 0, none⟩) 32 32] 25)) ((((w.alloc (.cells #[.slice (some ⟨bt, 0, none⟩) 32 32] 25)).alloc (.cells #[.slice none 0 0] 25)).alloc (.cells (madeCells #[.slice none 0 0] 32) 60)).alloc (.cells #[.slice (some ⟨w.heap.size + 2, 0, none⟩) 32 32] 25)) := to_alloc (to_alloc (from_alloc _ _) _) _
    rw [newCell hb _ _ h1]; simp
  clear h ho hsh
  go_enter Tryd.func29, Tryd.ntmps29
  go_wp2_with fail
  rw [show w.heap.size + 1 + 1 + 1 = w.heap.size + 3 from rfl, show w.heap.size + 1 + 1 = w.heap.size + 2 from rfl]
  generalize ((((w.alloc (.cells #[.slice (some ⟨bt, 0, none⟩) 32 32] 25)).alloc (.cells #[.slice none 0 0] 25)).alloc (.cells (madeCells #[.slice none 0 0] 32) 60)).alloc (.cells #[.slice (some ⟨w.heap.size + 2, 0, none⟩) 32 32] 25)) = W at *
  clear s1
  go_loopw [16] (fun iv wr => CI W w.heap.size (w.heap.size + 2) K iv wr) (fun iv _ => 32 - (intOf iv).toNat)
  case atStart => exact ⟨0, [], by omega, rfl, rfl, HS0.out, fun p hp => by simp at hp, fun j p q _ hq => by simp at hq, Kr.refl _ _⟩
  case round =>
    obtain ⟨k, L, hk, rfl, hLl, hst, hdk, hal, hkr⟩ := hrel
    clear HS0
    have HST : Hid _ := hst
    have HDK : Hid (Dk W.heap.size L) := hdk
    have HAL : Hid (∀ (j : Nat) p q, K[j]? = some p → L[j]? = some q → Alq p.2 q.2) := hal
    have HKR : Hid (Kr (w.heap.size + 2) W wr) := hkr
    have HLL : Hid (L.length = k) := hLl
    have hks := hkr.size
    rw [HWs.out] at hks
    have HBr : Hid (Below w.heap.size w wr) := HBW.out.trans (hkr.below (B := w.heap.size) (by omega) (by rw [HWs.out]; omega))
    have x3 : wr.cell? ⟨w.heap.size + 3, 0, none⟩ = some (.slice (some ⟨w.heap.size + 2, 0, none⟩) 32 32) := by rw [hkr.cell _ _ (by rw [HWs.out]; omega) (by omega)]; exact HX3.out
    have x2 : wr.cell? ⟨w.heap.size + 1, 0, none⟩ = some (.slice none 0 0) := by rw [hkr.cell _ _ (by rw [HWs.out]; omega) (by omega)]; exact HX2.out.1
    have x2f : wr.frozen? ⟨w.heap.size + 1, 0, none⟩ = false := by rw [hkr.frozen _ _ (by rw [HWs.out]; omega) (by omega)]; exact HX2.out.2
    clear hst hdk hal hkr hLl
    by_cases hlt : k < 32
    · have b0 : 0 ≤ (k : Int) := by omega
      have b1 : (k : Int) < 32 := by omega
      have hkl : k < K.length := by rw [HOK.out.1]; exact hlt
      have hget := List.getElem?_eq_getElem hkl
      have HGK : Hid (K[k]? = some K[k]) := hget
      have hoq := HOK.out.2 k _ hget
      have hmem : K[k] ∈ K := List.getElem_mem _
      have xb0 := HSRC.out.hd k _ hget
      have hlie := (HSRC.out.lie _ hmem).2.1
      have HC0 : Hid (∀ (c : Nat) t, K[k].2[c]? = some t → w.cell? ⟨K[k].1, c * 2, none⟩ = some (.slice t.a t.C.length t.c) ∧ w.cell? ⟨K[k].1, c * 2 + 1, none⟩ = some (.int .i64 t.n) ∧ Sl w .u16 t.a t.C) := fun c t ht => ⟨HSRC.out.c0 _ hmem c t ht, HSRC.out.c1 _ hmem c t ht, HSRC.out.sl _ hmem t (List.mem_of_getElem? ht)⟩
      generalize K[k] = sp at *
      obtain ⟨sb, st⟩ := sp
      simp only at xb0 hlie HC0
      have HPS : Hid (st.length = sC k) := hoq.1
      have HPT : Hid (∀ t ∈ st, t.C.length = sV k ∧ TOk t.C t.n) := hoq.2
      have xs : wr.cell? ⟨bt, k, none⟩ = some (.slice (some ⟨sb, 0, none⟩) (sC k) (sC k)) := by rw [newCell HBr.out _ _ HSRC.out.blt]; rw [HPS.out] at xb0; exact xb0
      have tlk := HST.out.tl k (by rw [HLL.out]; exact Nat.le_refl _) hlt
      have thk := HST.out.bth k
      have mk := HMK.out (sC k) (sC_le k hlt).2
      have hc14 := (sC_le k hlt).2
      have hba : Below wr.heap.size wr (wr.alloc (.cells (madeCells #[.slice none 0 0, .int .i64 0] (sC k * 2)) 63)) := from_alloc _ _
      have y3 : (wr.alloc (.cells (madeCells #[.slice none 0 0, .int .i64 0] (sC k * 2)) 63)).cell? ⟨w.heap.size + 3, 0, none⟩ = some (.slice (some ⟨w.heap.size + 2, 0, none⟩) 32 32) := by rw [newCell hba _ _ (by omega)]; exact x3
      have ytl : (wr.alloc (.cells (madeCells #[.slice none 0 0, .int .i64 0] (sC k * 2)) 63)).cell? ⟨w.heap.size + 2, k, none⟩ = some (.slice none 0 0) := by rw [newCell hba _ _ (by omega)]; exact tlk
      have yth : (wr.alloc (.cells (madeCells #[.slice none 0 0, .int .i64 0] (sC k * 2)) 63)).frozen? ⟨w.heap.size + 2, k, none⟩ = false := by rw [newFrozen hba _ _ (by omega)]; exact thk
      clear x2 x2f hba hget hoq hmem xb0
      go_wp2_with fail
      go_region
      have HKR2 : Hid (Kr (w.heap.size + 2) W ((wr.alloc (.cells (madeCells #[.slice none 0 0, .int .i64 0] (sC k * 2)) 63)).setCell ⟨w.heap.size + 2, k, none⟩ (.slice (some ⟨wr.heap.size, 0, none⟩) (sC k) (sC k))).drew) := ((HKR.out.to (from_alloc wr (.cells (madeCells #[.slice none 0 0, .int .i64 0] (sC k * 2)) 63))).set ⟨w.heap.size + 2, k, none⟩ (.slice (some ⟨wr.heap.size, 0, none⟩) (sC k) (sC k)) (Or.inl rfl)).to (below_drew (Below.refl _ _))
      have HST2 : Hid (St ((wr.alloc (.cells (madeCells #[.slice none 0 0, .int .i64 0] (sC k * 2)) 63)).setCell ⟨w.heap.size + 2, k, none⟩ (.slice (some ⟨wr.heap.size, 0, none⟩) (sC k) (sC k))).drew w.heap.size (w.heap.size + 2) (L ++ [(wr.heap.size, List.replicate (sC k) zT)])) := by
        have := (HST.out.add (by omega) (by rw [HLL.out]; exact hlt) (sC k)).to (below_drew (Below.refl _ _))
        rw [HLL.out] at this
        exact this
      have HWR : Hid (W.heap.size ≤ wr.heap.size) := HKR.out.size
      clear HKR HST x3 tlk thk mk y3 ytl yth HBr xs
      generalize ((wr.alloc (.cells (madeCells #[.slice none 0 0, .int .i64 0] (sC k * 2)) 63)).setCell ⟨w.heap.size + 2, k, none⟩ (.slice (some ⟨wr.heap.size, 0, none⟩) (sC k) (sC k))).drew = V at *
      go_wp2_with fail
      go_loopw [30] (fun iv wr => CJ W w.heap.size (w.heap.size + 2) k K st iv wr) (fun iv _ => sC k - (intOf iv).toNat)
      case atStart =>
        refine ⟨0, _, (wr.heap.size, List.replicate (sC k) zT), by omega, rfl, by rw [List.length_append, HLL.out]; rfl, by rw [List.getElem?_append_right (by rw [HLL.out]; exact Nat.le_refl _), HLL.out]; simp, by simp, HST2.out, fun p hp => ?_, fun j p q hj hp hq => ?_, fun i s t hi => by omega, HKR2.out⟩
        · rcases List.mem_append.1 hp with e | e
          · exact HDK.out p e
          · simp at e; subst e
            refine ⟨HWR.out, fun t ht b o h1 h2 => ?_⟩
            have : t = zT := List.eq_of_mem_replicate ht
            subst this; exact absurd rfl h2
        · rw [List.getElem?_append_left (by rw [HLL.out]; exact hj)] at hq
          exact HAL.out j p q hp hq
      case round =>
        clear HST2 HKR2 HDK HAL HLL HWR
        generalize hwo : wr = wo at *
        clear hwo
        obtain ⟨c, L2, p, hc, rfl, hL2, hLk, hpl, hst, hdk, hal, hac, hkr⟩ := hrel
        have HST : Hid _ := hst
        have HDK : Hid (Dk W.heap.size L2) := hdk
        have HAL : Hid (∀ (j : Nat) p q, j < k → K[j]? = some p → L2[j]? = some q → Alq p.2 q.2) := hal
        have HAC : Hid (∀ (i : Nat) s t, i < c → st[i]? = some s → p.2[i]? = some t → t.C = s.C ∧ t.n = s.n) := hac
        have HKR : Hid _ := hkr
        have HLK : Hid (L2[k]? = some p) := hLk
        have HL2 : Hid (L2.length = k + 1) := hL2
        have HPL : Hid (p.2.length = sC k) := hpl
        clear hst hdk hal hac hkr hLk hL2 hpl
        by_cases hcl : c < sC k
        · have a0 : 0 ≤ (k : Int) := by omega
          have a1 : (k : Int) < 32 := by omega
          have a2 : 0 ≤ (c : Int) := by omega
          have a3 : (c : Int) < (sC k : Int) := by omega
          have hks := HKR.out.size
          rw [HWs.out] at hks
          have hpK : p ∈ L2 := List.mem_of_getElem? HLK.out
          have hpl2 := HST.out.lie p hpK
          have hbig := (HDK.out p hpK).1
          rw [HWs.out] at hbig
          have x3 : wo.cell? ⟨w.heap.size + 3, 0, none⟩ = some (.slice (some ⟨w.heap.size + 2, 0, none⟩) 32 32) := by rw [HKR.out.cell _ _ (by rw [HWs.out]; omega) (by omega)]; exact HX3.out
          have xb : wo.cell? ⟨w.heap.size + 2, k, none⟩ = some (.slice (some ⟨p.1, 0, none⟩) (sC k) (sC k)) := by have := HST.out.hd k p HLK.out; rw [HPL.out] at this; exact this
          obtain ⟨t0, ht0⟩ : ∃ t0, p.2[c]? = some t0 := ⟨p.2[c]'(by rw [HPL.out]; exact hcl), List.getElem?_eq_getElem _⟩
          have z0 := HST.out.c0 p hpK c t0 ht0
          have z1 := HST.out.c1 p hpK c t0 ht0
          have zf0 := HST.out.th p hpK (c * 2)
          have zf1 := HST.out.th p hpK (c * 2 + 1)
          have HBo : Hid (Below w.heap.size w wo) := HBW.out.trans (HKR.out.below (B := w.heap.size) (by omega) (by rw [HWs.out]; omega))
          have hcs : c < st.length := by rw [HPS.out]; exact hcl
          have hgs := List.getElem?_eq_getElem hcs
          have HGS : Hid (st[c]? = some st[c]) := hgs
          obtain ⟨g0, g1, gs⟩ := HC0.out c _ hgs
          have hok := HPT.out _ (List.getElem_mem hcs)
          generalize st[c] = sT at *
          obtain ⟨sa, sc, sC', sn⟩ := sT
          simp only at g0 g1 gs hok
          have HSN : Hid (sC'.length = sV k) := hok.1
          rw [HSN.out] at g0
          have u0 : wo.cell? ⟨sb, c * 2, none⟩ = some (.slice sa (sV k) sc) := by rw [newCell HBo.out _ _ hlie]; exact g0
          have u1 : wo.cell? ⟨sb, c * 2 + 1, none⟩ = some (.int .i64 sn) := by rw [newCell HBo.out _ _ hlie]; exact g1
          have HSL : Hid (Sl w .u16 sa sC') := gs
          have hv := sV_le k hlt
          have hv1 := hv.1
          have hv2 := hv.2
          obtain ⟨pb, pt⟩ := p
          simp only at hpl2 hbig xb z0 z1 zf0 zf1 HPL HAC
          clear g0 g1 gs hgs hok hv
          have HBa : Hid (Below wo.heap.size wo (wo.alloc (.cells #[.slice sa (sV k) sc, .int .i64 sn] 63))) := from_alloc _ _
          have e0 : (wo.alloc (.cells #[.slice sa (sV k) sc, .int .i64 sn] 63)).cell? ⟨wo.heap.size, 0, none⟩ = some (.slice sa (sV k) sc) := by simp
          have e1 : (wo.alloc (.cells #[.slice sa (sV k) sc, .int .i64 sn] 63)).cell? ⟨wo.heap.size, 1, none⟩ = some (.int .i64 sn) := by simp
          have hxw : wo.heap.size < (wo.alloc (.cells #[.slice sa (sV k) sc, .int .i64 sn] 63)).heap.size := by simp
          go_wp2_with fail
          have HSTa : Hid (St (wo.alloc (.cells #[.slice sa (sV k) sc, .int .i64 sn] 63)) w.heap.size (w.heap.size + 2) L2) := HST.out.to HBa.out
          have HKRa : Hid (Kr (w.heap.size + 2) W (wo.alloc (.cells #[.slice sa (sV k) sc, .int .i64 sn] 63))) := HKR.out.to HBa.out
          have HSLa : Hid (Sl (wo.alloc (.cells #[.slice sa (sV k) sc, .int .i64 sn] 63)) .u16 sa sC') := HSL.out.to (below_to HBo.out HBa.out)
          have v3 : (wo.alloc (.cells #[.slice sa (sV k) sc, .int .i64 sn] 63)).cell? ⟨w.heap.size + 3, 0, none⟩ = some (.slice (some ⟨w.heap.size + 2, 0, none⟩) 32 32) := by rw [newCell HBa.out _ _ (by omega)]; exact x3
          have vb : (wo.alloc (.cells #[.slice sa (sV k) sc, .int .i64 sn] 63)).cell? ⟨w.heap.size + 2, k, none⟩ = some (.slice (some ⟨pb, 0, none⟩) (sC k) (sC k)) := by rw [newCell HBa.out _ _ (by omega)]; exact xb
          have vz0 : (wo.alloc (.cells #[.slice sa (sV k) sc, .int .i64 sn] 63)).cell? ⟨pb, c * 2, none⟩ = some (.slice t0.a t0.C.length t0.c) := by rw [newCell HBa.out _ _ hpl2.2.1]; exact z0
          have vz1 : (wo.alloc (.cells #[.slice sa (sV k) sc, .int .i64 sn] 63)).cell? ⟨pb, c * 2 + 1, none⟩ = some (.int .i64 t0.n) := by rw [newCell HBa.out _ _ hpl2.2.1]; exact z1
          have vf0 : (wo.alloc (.cells #[.slice sa (sV k) sc, .int .i64 sn] 63)).frozen? ⟨pb, c * 2, none⟩ = false := by rw [newFrozen HBa.out _ _ hpl2.2.1]; exact zf0
          have vf1 : (wo.alloc (.cells #[.slice sa (sV k) sc, .int .i64 sn] 63)).frozen? ⟨pb, c * 2 + 1, none⟩ = false := by rw [newFrozen HBa.out _ _ hpl2.2.1]; exact zf1
          have hpx : wo.heap.size ≠ pb := by have := hpl2.2.1; omega
          have hplt : pb < (wo.alloc (.cells #[.slice sa (sV k) sc, .int .i64 sn] 63)).heap.size := by have := hpl2.2.1; omega
          clear x3 xb z0 z1 zf0 zf1 u0 u1 HST HKR HBo HBa
          generalize wo.alloc (.cells #[.slice sa (sV k) sc, .int .i64 sn] 63) = V2 at *
          generalize wo.heap.size = x7 at *
          have HCL : Hid (∀ u, Below V2.heap.size V2 u → Calls Tryd.prog 54 #[.slice sa (sV k) sc] u fun e u' => ∃ g c', e = .returned (.slice (some ⟨g, 0, none⟩) (sV k) c') ∧ Ow u' V2.heap.size g (sV k) c' sC' ∧ Below V2.heap.size V2 u' ∧ u'.cell? ⟨w.heap.size + 3, 0, none⟩ = some (.slice (some ⟨w.heap.size + 2, 0, none⟩) 32 32) ∧ u'.cell? ⟨w.heap.size + 2, k, none⟩ = some (.slice (some ⟨pb, 0, none⟩) (sC k) (sC k)) ∧ u'.cell? ⟨x7, 0, none⟩ = some (.slice sa (sV k) sc) ∧ u'.cell? ⟨x7, 1, none⟩ = some (.int .i64 sn) ∧ u'.cell? ⟨pb, c * 2, none⟩ = some (.slice t0.a t0.C.length t0.c) ∧ u'.cell? ⟨pb, c * 2 + 1, none⟩ = some (.int .i64 t0.n) ∧ u'.frozen? ⟨pb, c * 2, none⟩ = false ∧ u'.frozen? ⟨pb, c * 2 + 1, none⟩ = false) := fun u hu => by
            have h1 := clone_some (c := sc) (HSLa.out.to hu) (by rw [HSN.out]; omega) (by rw [HSN.out]; omega)
            rw [HSN.out] at h1
            refine h1.mono fun e u' h => ?_
            obtain ⟨g, c', h2, h3, h4⟩ := h
            have hb := below_to hu h4
            exact ⟨g, c', h2, h3.mono hu.size, hb, by rw [newCell hb _ _ (by omega)]; exact v3, by rw [newCell hb _ _ (by omega)]; exact vb, by rw [newCell hb _ _ hxw]; exact e0, by rw [newCell hb _ _ hxw]; exact e1, by rw [newCell hb _ _ hplt]; exact vz0, by rw [newCell hb _ _ hplt]; exact vz1, by rw [newFrozen hb _ _ hplt]; exact vf0, by rw [newFrozen hb _ _ hplt]; exact vf1⟩
          have hbd : Below V2.heap.size V2 V2.drew := below_drew (Below.refl _ _)
          have d3 : V2.drew.cell? ⟨w.heap.size + 3, 0, none⟩ = some (.slice (some ⟨w.heap.size + 2, 0, none⟩) 32 32) := v3
          have db : V2.drew.cell? ⟨w.heap.size + 2, k, none⟩ = some (.slice (some ⟨pb, 0, none⟩) (sC k) (sC k)) := vb
          have d7 : V2.drew.cell? ⟨x7, 0, none⟩ = some (.slice sa (sV k) sc) := e0
          have d8 : V2.drew.cell? ⟨x7, 1, none⟩ = some (.int .i64 sn) := e1
          have n1 : w.heap.size + 3 ≠ pb := by omega
          have n2 : w.heap.size + 2 ≠ pb := by omega
          clear v3 vb vz0 vz1 vf0 vf1 e0 e1
          go_region_held3 (fun u => u.cell? ⟨w.heap.size + 3, 0, none⟩ = some (.slice (some ⟨w.heap.size + 2, 0, none⟩) 32 32) ∧ u.cell? ⟨w.heap.size + 2, k, none⟩ = some (.slice (some ⟨pb, 0, none⟩) (sC k) (sC k)) ∧ u.cell? ⟨x7, 0, none⟩ = some (.slice sa (sV k) sc) ∧ u.cell? ⟨x7, 1, none⟩ = some (.int .i64 sn)) (((try dsimp only); first | assumption | (refine ⟨?_, ?_, ?_, ?_⟩ <;> first | assumption | go_keep) | go_keep)) ((go_at_call 54; refine (HCL.out _ (by (repeat (first | with_reducible assumption | with_reducible refine below_drew ?_ | with_reducible refine below_alloc ?_ ?_ _ | with_reducible refine below_set ?_ ?_ _ | exact Nat.le_refl _ | exact Below.size (by assumption))))).mono ?_; rintro e w3 ⟨g, c', rfl, ho, hbw, q3, qb, q7, q8, z0, z1, zf0, zf1⟩; have y3 : ((w3.setCell ⟨pb, c * 2, none⟩ (.slice (some ⟨g, 0, none⟩) (sV k) c')).setCell ⟨pb, c * 2 + 1, none⟩ (.int .i64 sn)).cell? ⟨w.heap.size + 3, 0, none⟩ = some (.slice (some ⟨w.heap.size + 2, 0, none⟩) 32 32) := far2 n1 q3; have yb : ((w3.setCell ⟨pb, c * 2, none⟩ (.slice (some ⟨g, 0, none⟩) (sV k) c')).setCell ⟨pb, c * 2 + 1, none⟩ (.int .i64 sn)).cell? ⟨w.heap.size + 2, k, none⟩ = some (.slice (some ⟨pb, 0, none⟩) (sC k) (sC k)) := far2 n2 qb; have y7 : ((w3.setCell ⟨pb, c * 2, none⟩ (.slice (some ⟨g, 0, none⟩) (sV k) c')).setCell ⟨pb, c * 2 + 1, none⟩ (.int .i64 sn)).cell? ⟨x7, 0, none⟩ = some (.slice sa (sV k) sc) := far2 hpx q7; have y8 : ((w3.setCell ⟨pb, c * 2, none⟩ (.slice (some ⟨g, 0, none⟩) (sV k) c')).setCell ⟨pb, c * 2 + 1, none⟩ (.int .i64 sn)).cell? ⟨x7, 1, none⟩ = some (.int .i64 sn) := far2 hpx q8))
          have hgl : V2.heap.size ≤ g := ho.lies.1
          have hgap : ∀ b o, (some ⟨g, 0, none⟩ : Option Addr) = some ⟨b, o, none⟩ → sC' ≠ [] → b ≠ w.heap.size + 2 ∧ ∀ q ∈ L2, b ≠ q.1 := fun b o h1 _ => by
            simp only [Option.some.injEq, Addr.mk.injEq, and_true] at h1
            exact ⟨by omega, fun q hq => by have := (HSTa.out.lie q hq).2.1; omega⟩
          have HPUT : Hid (St ((w3.setCell ⟨pb, c * 2, none⟩ (.slice (some ⟨g, 0, none⟩) (sV k) c')).setCell ⟨pb, c * 2 + 1, none⟩ (.int .i64 sn)) w.heap.size (w.heap.size + 2) (L2.set k (pb, pt.set c ⟨some ⟨g, 0, none⟩, c', sC', sn⟩))) := by
            have := (HSTa.out.to hbw).put HLK.out (by rw [HPL.out]; exact hcl) ⟨some ⟨g, 0, none⟩, c', sC', sn⟩ ho.sl hgap
            simp only [HSN.out] at this
            exact this
          have hWs : W.heap.size ≤ pb := by rw [HWs.out]; exact hbig
          have HKR3 : Hid (Kr (w.heap.size + 2) W ((w3.setCell ⟨pb, c * 2, none⟩ (.slice (some ⟨g, 0, none⟩) (sV k) c')).setCell ⟨pb, c * 2 + 1, none⟩ (.int .i64 sn))) := ((HKRa.out.to hbw).set ⟨pb, c * 2, none⟩ (.slice (some ⟨g, 0, none⟩) (sV k) c') (Or.inr hWs)).set ⟨pb, c * 2 + 1, none⟩ (.int .i64 sn) (Or.inr hWs)
          have HDK3 : Hid (Dk W.heap.size (L2.set k (pb, pt.set c ⟨some ⟨g, 0, none⟩, c', sC', sn⟩))) := fun r hr => by
            rcases St.mem_set HLK.out hr with e | e
            · subst e
              refine ⟨hWs, fun t ht b o h1 h2 => ?_⟩
              rcases List.mem_or_eq_of_mem_set ht with e2 | e2
              · exact (HDK.out _ hpK).2 t e2 b o h1 h2
              · subst e2
                simp only [Option.some.injEq, Addr.mk.injEq, and_true] at h1
                rw [HWs.out]; omega
            · exact HDK.out r e
          clear ho hbw q3 qb q7 q8 z0 z1 zf0 zf1 y3 yb y7 y8
          go_wp2_with fail
          go_roundw
          case rel =>
            refine ⟨c + 1, _, (pb, pt.set c ⟨some ⟨g, 0, none⟩, c', sC', sn⟩), by omega, by go_num, by rw [List.length_set]; exact HL2.out, by rw [List.getElem?_set_self (by rw [HL2.out]; omega)], by simp only [List.length_set]; exact HPL.out, HPUT.out, HDK3.out, fun j p q hj hp hq => ?_, fun m s t hm hs ht => ?_, HKR3.out⟩
            · rw [List.getElem?_set_ne (by omega)] at hq
              exact HAL.out j p q hj hp hq
            · simp only at ht
              rw [List.getElem?_set] at ht
              by_cases e : c = m
              · subst e
                rw [if_pos rfl, if_pos (by rw [HPL.out]; exact hcl)] at ht
                rw [HGS.out] at hs
                simp at ht hs; subst ht; subst hs; exact ⟨rfl, rfl⟩
              · rw [if_neg e] at ht
                exact HAC.out m s t (by omega) hs ht
          case measure => simp [intOf]; omega
        · have a3 : ¬ (c : Int) < (sC k : Int) := by omega
          have hcs : c = sC k := by omega
          go_wp2_with fail
          go_roundw
          case rel =>
            refine ⟨k + 1, L2, by omega, by go_num, HL2.out, HST.out, HDK.out, fun j p' q hp hq => ?_, HKR.out⟩
            by_cases hj : j < k
            · exact HAL.out j p' q hj hp hq
            · have hjk : j = k := by
                have := (List.getElem?_eq_some_iff.1 hq).1
                rw [HL2.out] at this
                omega
              subst hjk
              rw [HLK.out] at hq
              rw [HGK.out] at hp
              simp only [Option.some.injEq] at hq hp
              subst hq hp
              refine ⟨by show p.2.length = st.length; rw [HPL.out, HPS.out], fun m s t hs ht => HAC.out m s t ?_ hs ht⟩
              have := (List.getElem?_eq_some_iff.1 ht).1
              rw [HPL.out] at this; omega
          case measure => simp [intOf]; omega
    · have hk' : k = 32 := by omega
      subst hk'
      have b1 : ¬ ((32 : Nat) : Int) < 32 := by omega
      go_wp2_with fail
      refine bodyPost_ret (v := .agg #[.slice (some ⟨w.heap.size + 2, 0, none⟩) 32 32]) (by simp [results, Tryd.results29, go_sem, x2]) rfl ⟨w.heap.size + 2, L, rfl, ?_, ⟨by rw [HLL.out, HOK.out.1], HAL.out⟩, HDK.out.mono (by rw [HWs.out]; omega), ?_⟩
      · refine HST.out.far _ _ (by simp) (fun p hp e => ?_) (fun p hp t ht b o h1 h2 e => ?_)
        · have := (HDK.out p hp).1; rw [HWs.out] at this; simp at e; omega
        · have := (HDK.out p hp).2 t ht b o h1 h2; rw [HWs.out] at this; simp at e; omega
      · exact below_set (HBW.out.trans (HKR.out.below (B := w.heap.size) (by omega) (by rw [HWs.out]; omega))) (by simp) _

end Go.Proofs.YtppanogpeengnaaDoor

namespace Go.Proofs.YtppanogpeengnaaDoor
open Go.RowKit L3
variable {Z : Nat → Option Obj}

/-- the blocks of a set -/
def Bs (bt : Nat) (K : List (Nat × List Tb)) (b : Nat) : Prop := b = bt ∨ ∃ p ∈ K, b = p.1 ∨ ∃ t ∈ p.2, t.C ≠ [] ∧ ∃ o, t.a = some ⟨b, o, none⟩
theorem St.low {w : World} {lo bt : Nat} {K : List (Nat × List Tb)} (h : St w lo bt K) {b : Nat} (hb : Bs bt K b) : b < w.heap.size := by
  rcases hb with rfl | ⟨p, hp, rfl | ⟨t, ht, hC, o, ha⟩⟩
  · exact h.blt
  · exact (h.lie p hp).2.1
  · rcases h.sl p hp t ht with e | ⟨b', o', h1, h2, _⟩
    · exact absurd e hC
    · rw [ha] at h1; simp only [Option.some.injEq, Addr.mk.injEq, and_true] at h1; omega
/-- of the blocks of w those of P alone may have turned -/
structure Ke (P : Nat → Prop) (w w' : World) : Prop where
  os : w'.os = w.os
  tape : w'.tape = w.tape
  output : w'.output = w.output
  size : w.heap.size ≤ w'.heap.size
  block : ∀ k, k < w.heap.size → ¬ P k → w'.heap[k]? = w.heap[k]?
theorem Ke.refl (P : Nat → Prop) (w : World) : Ke P w w := ⟨rfl, rfl, rfl, Nat.le_refl _, fun _ _ _ => rfl⟩
theorem Ke.of {P : Nat → Prop} {w w' : World} (h : Below w.heap.size w w') : Ke P w w' := ⟨h.os, h.tape, h.output, h.size, fun k hk _ => h.block k hk⟩
theorem Ke.trans {P Q R : Nat → Prop} {a b c : World} (h : Ke P a b) (k : Ke Q b c) (h1 : ∀ i, P i → R i) (h2 : ∀ i, i < a.heap.size → Q i → R i) : Ke R a c :=
  ⟨k.os.trans h.os, k.tape.trans h.tape, k.output.trans h.output, Nat.le_trans h.size k.size, fun i hi hR => (k.block i (Nat.lt_of_lt_of_le hi h.size) (fun e => hR (h2 i hi e))).trans (h.block i hi (fun e => hR (h1 i e)))⟩
theorem Ke.cell {P : Nat → Prop} {w w' : World} (h : Ke P w w') (k j : Nat) (hk : k < w.heap.size) (hP : ¬ P k) : w'.cell? ⟨k, j, none⟩ = w.cell? ⟨k, j, none⟩ := World.cell?_of_block (w := w) (a := ⟨k, j, none⟩) (h.block k hk hP)
theorem Ke.frozen {P : Nat → Prop} {w w' : World} (h : Ke P w w') (k j : Nat) (hk : k < w.heap.size) (hP : ¬ P k) : w'.frozen? ⟨k, j, none⟩ = w.frozen? ⟨k, j, none⟩ := World.frozen?_of_block (w := w) (a := ⟨k, j, none⟩) (h.block k hk hP)
theorem Ke.below {P : Nat → Prop} {B : Nat} {w w' : World} (h : Ke P w w') (hP : ∀ k, P k → B ≤ k) (hs : B ≤ w.heap.size) : Below B w w' := ⟨h.os, h.tape, h.output, h.size, fun k hk => h.block k (by omega) (fun e => by have := hP k e; omega)⟩
theorem Ke.set (P : Nat → Prop) (w : World) (a : Addr) (v : Value) (h : P a.block) : Ke P w (w.setCell a v) := ⟨rfl, rfl, rfl, by rw [setCell_size]; exact Nat.le_refl _, fun k _ hk => Below.heap_setCell _ _ _ _ (fun e => hk (by rw [e]; exact h))⟩
theorem Ke.sl {P : Nat → Prop} {w w' : World} (h : Ke P w w') {a : Option Addr} {C : List Nat} (hs : Sl w .u16 a C) (hP : ∀ b o, a = some ⟨b, o, none⟩ → C ≠ [] → ¬ P b) : Sl w' .u16 a C := by
  by_cases e : C = []
  · exact Or.inl e
  · rcases hs with e2 | ⟨b, o, h1, h2, h3⟩
    · exact absurd e2 e
    · exact Or.inr ⟨b, o, h1, Nat.lt_of_lt_of_le h2 h.size, fun j hj => by rw [h.cell b _ h2 (hP b o h1 e)]; exact h3 j hj⟩
/-- a set stays where other blocks turn -/
theorem St.ke {P : Nat → Prop} {w w' : World} {lo bt : Nat} {K : List (Nat × List Tb)} (h : St w lo bt K) (hk : Ke P w w') (hP : ∀ b, P b → ¬ Bs bt K b) : St w' lo bt K := by
  have n0 : ¬ P bt := fun e => hP bt e (Or.inl rfl)
  have n1 : ∀ p ∈ K, ¬ P p.1 := fun p hp e => hP p.1 e (Or.inr ⟨p, hp, Or.inl rfl⟩)
  have n2 : ∀ p ∈ K, ∀ t ∈ p.2, ∀ b o, t.a = some ⟨b, o, none⟩ → t.C ≠ [] → ¬ P b := fun p hp t ht b o h1 h2 e => hP b e (Or.inr ⟨p, hp, Or.inr ⟨t, ht, h2, o, h1⟩⟩)
  exact ⟨h.blo, Nat.lt_of_lt_of_le h.blt hk.size, fun j => by rw [hk.frozen _ _ h.blt n0]; exact h.bth j, fun k h1 h2 => by rw [hk.cell _ _ h.blt n0]; exact h.tl k h1 h2, fun k p hp => by rw [hk.cell _ _ h.blt n0]; exact h.hd k p hp,
    fun p hp => ⟨(h.lie p hp).1, Nat.lt_of_lt_of_le (h.lie p hp).2.1 hk.size, (h.lie p hp).2.2⟩, h.inj, fun p hp j => by rw [hk.frozen _ _ (h.lie p hp).2.1 (n1 p hp)]; exact h.th p hp j,
    fun p hp c t ht => by rw [hk.cell _ _ (h.lie p hp).2.1 (n1 p hp)]; exact h.c0 p hp c t ht, fun p hp c t ht => by rw [hk.cell _ _ (h.lie p hp).2.1 (n1 p hp)]; exact h.c1 p hp c t ht, fun p hp t ht => hk.sl (h.sl p hp t ht) (n2 p hp t ht), h.ap⟩

/-- a coder in block x: what drives it (po, pi) lies in the blocks of E -/
structure Co (Z : Nat → Option Obj) (w : World) (lo x : Nat) (po pi : Value) (bt : Nat) (K : List (Nat × List Tb)) (ad : Bool) (n : Int) (E : Nat → Prop) : Prop where
  o : w.cell? ⟨x, 0, none⟩ = some po
  i : w.cell? ⟨x, 1, none⟩ = some pi
  t : w.cell? ⟨x, 2, none⟩ = some (.slice (some ⟨bt, 0, none⟩) 32 32)
  a : w.cell? ⟨x, 3, none⟩ = some (.bool ad)
  c : w.cell? ⟨x, 4, none⟩ = some (.int .i64 n)
  th : w.frozen? ⟨x, 4, none⟩ = false
  low : x < w.heap.size
  xlo : lo ≤ x
  st : St w lo bt K
  ok : Okk K
  bx : ¬ Bs bt K x
  ex : ¬ E x
  eb : ∀ b, E b → ¬ Bs bt K b
  dk : Dk lo K
  fr : ∀ y o, Z y = some o → w.heap[y]? = some o ∧ y ≠ x ∧ ¬ E y ∧ ¬ Bs bt K y
/-- nothing else is watched -/
def zn : Nat → Option Obj := fun _ => none
theorem Co.ke {P : Nat → Prop} {w w' : World} {lo x bt : Nat} {po pi : Value} {K : List (Nat × List Tb)} {ad : Bool} {n : Int} {E E' : Nat → Prop} (h : Co Z w lo x po pi bt K ad n E) (hk : Ke P w w') (hP : ∀ b, P b → E b) (hE : ∀ b, E' b → E b ∨ w.heap.size ≤ b) : Co Z w' lo x po pi bt K ad n E' := by
  have nx : ¬ P x := fun e => h.ex (hP x e)
  refine ⟨by rw [hk.cell _ _ h.low nx]; exact h.o, by rw [hk.cell _ _ h.low nx]; exact h.i, by rw [hk.cell _ _ h.low nx]; exact h.t, by rw [hk.cell _ _ h.low nx]; exact h.a, by rw [hk.cell _ _ h.low nx]; exact h.c, by rw [hk.frozen _ _ h.low nx]; exact h.th, Nat.lt_of_lt_of_le h.low hk.size, h.xlo, h.st.ke hk (fun b hb => h.eb b (hP b hb)), h.ok, h.bx, fun e => ?_, fun b hb => ?_, h.dk, fun y o hy => ?_⟩
  · rcases hE x e with e2 | e2
    · exact h.ex e2
    · have := h.low; omega
  · rcases hE b hb with e2 | e2
    · exact h.eb b e2
    · intro e3; have := h.st.low e3; omega
  · obtain ⟨f1, f2, f3, f4⟩ := h.fr y o hy
    have hl : y < w.heap.size := (Array.getElem?_eq_some_iff.1 f1).1
    refine ⟨by rw [hk.block y hl (fun e => f3 (hP y e))]; exact f1, f2, fun e => ?_, f4⟩
    rcases hE y e with e2 | e2
    · exact f3 e2
    · omega
theorem Co.to {w w' : World} {lo x bt : Nat} {po pi : Value} {K : List (Nat × List Tb)} {ad : Bool} {n : Int} {E : Nat → Prop} (h : Co Z w lo x po pi bt K ad n E) (hb : Below w.heap.size w w') : Co Z w' lo x po pi bt K ad n E :=
  h.ke (P := fun _ => False) (Ke.of hb) (fun _ e => e.elim) (fun _ e => Or.inl e)
/-- the count goes on -/
theorem Co.count {w : World} {lo x bt : Nat} {po pi : Value} {K : List (Nat × List Tb)} {ad : Bool} {n m : Int} {E : Nat → Prop} (h : Co Z w lo x po pi bt K ad n E) : Co Z (w.setCell ⟨x, 4, none⟩ (.int .i64 m)) lo x po pi bt K ad m E := by
  have oth : ∀ j, j ≠ 4 → (w.setCell ⟨x, 4, none⟩ (.int .i64 m)).cell? ⟨x, j, none⟩ = w.cell? ⟨x, j, none⟩ := fun j hj => World.cell?_setCell_other _ _ _ _ (fun e => hj (by simp only [Addr.mk.injEq, true_and, and_true] at e; exact e.symm))
  refine ⟨by rw [oth 0 (by omega)]; exact h.o, by rw [oth 1 (by omega)]; exact h.i, by rw [oth 2 (by omega)]; exact h.t, by rw [oth 3 (by omega)]; exact h.a, World.cell?_setCell_same _ _ _ h.c, by simpa using h.th, by rw [setCell_size]; exact h.low, h.xlo, h.st.ke (P := fun b => b = x) (Ke.set _ _ _ _ rfl) (fun b e => by subst e; exact h.bx), h.ok, h.bx, h.ex, h.eb, h.dk, fun y o hy => by
    obtain ⟨f1, f2, f3, f4⟩ := h.fr y o hy
    exact ⟨by rw [Below.heap_setCell _ _ _ _ f2]; exact f1, f2, f3, f4⟩⟩

/-- a coder that writes, or reads -/
def ptr (x : Nat) : Value := .pointer (some ⟨x, 0, none⟩)
set_option maxHeartbeats 1000000 in
theorem none_w {w : World} {x : Nat} {po : Nat} (h : w.cell? ⟨x, 0, none⟩ = some (.pointer (some ⟨po, 0, none⟩))) : Calls Tryd.prog 43 #[.pointer (some ⟨x, 0, none⟩)] w fun e w' => e = .returned (.bool false) ∧ w' = w := by
  go_enter Tryd.func43, Tryd.ntmps43
  go_wp2_with fail
  go_ret
  exact ⟨rfl, rfl⟩
set_option maxHeartbeats 1000000 in
theorem none_r {w : World} {x : Nat} {pi : Nat} (h : w.cell? ⟨x, 0, none⟩ = some (.pointer none)) (h1 : w.cell? ⟨x, 1, none⟩ = some (.pointer (some ⟨pi, 0, none⟩))) : Calls Tryd.prog 43 #[.pointer (some ⟨x, 0, none⟩)] w fun e w' => e = .returned (.bool false) ∧ w' = w := by
  go_enter Tryd.func43, Tryd.ntmps43
  go_wp2_with fail
  go_ret
  exact ⟨rfl, rfl⟩
set_option maxHeartbeats 1000000 in
theorem writes_w {w : World} {x : Nat} {po : Nat} (h : w.cell? ⟨x, 0, none⟩ = some (.pointer (some ⟨po, 0, none⟩))) : Calls Tryd.prog 13 #[.pointer (some ⟨x, 0, none⟩)] w fun e w' => e = .returned (.bool true) ∧ w' = w := by
  go_enter Tryd.func13, Tryd.ntmps13
  go_wp2_with fail
  refine (none_w h).mono ?_
  rintro e w1 ⟨rfl, rfl⟩
  go_wp2_with fail
  go_ret
  exact ⟨rfl, rfl⟩
set_option maxHeartbeats 1000000 in
theorem writes_r {w : World} {x : Nat} {pi : Nat} (h : w.cell? ⟨x, 0, none⟩ = some (.pointer none)) (h1 : w.cell? ⟨x, 1, none⟩ = some (.pointer (some ⟨pi, 0, none⟩))) : Calls Tryd.prog 13 #[.pointer (some ⟨x, 0, none⟩)] w fun e w' => e = .returned (.bool false) ∧ w' = w := by
  go_enter Tryd.func13, Tryd.ntmps13
  go_wp2_with fail
  refine (none_r h h1).mono ?_
  rintro e w1 ⟨rfl, rfl⟩
  go_wp2_with fail
  go_ret
  exact ⟨rfl, rfl⟩

end Go.Proofs.YtppanogpeengnaaDoor
