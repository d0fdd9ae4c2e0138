/- DERIVED. A set of tables in memory. -/
import Derived.Test.YtppanogpeengnabGreatDoorSa
namespace Go.Proofs.YtppanogpeengnabGreatDoor
open Go.RowKit L3

/-- a table that is none -/
def zT : Tb := ⟨none, 0, [], 0⟩
/-- a set: the list of lists in block bt; of each kind so far the block of its tables and these -/
structure St (w : World) (lo bt : Nat) (K : List (Nat × List Tb)) : Prop where
  blo : lo ≤ bt
  blt : bt < w.heap.size
  bth : ∀ j, w.frozen? ⟨bt, j, none⟩ = false
  tl : ∀ k, K.length ≤ k → k < 32 → w.cell? ⟨bt, k, none⟩ = some (.slice none 0 0)
  hd : ∀ (k : Nat) (p : Nat × List Tb), K[k]? = some p → w.cell? ⟨bt, k, none⟩ = some (.slice (some ⟨p.1, 0, none⟩) p.2.length p.2.length)
  lie : ∀ p ∈ K, lo ≤ p.1 ∧ p.1 < w.heap.size ∧ p.1 ≠ bt
  inj : ∀ (j k : Nat) (p q : Nat × List Tb), K[j]? = some p → K[k]? = some q → p.1 = q.1 → j = k
  th : ∀ p ∈ K, ∀ j, w.frozen? ⟨p.1, j, none⟩ = false
  c0 : ∀ p ∈ K, ∀ (c : Nat) (t : Tb), p.2[c]? = some t → w.cell? ⟨p.1, c * 2, none⟩ = some (.slice t.a t.C.length t.c)
  c1 : ∀ p ∈ K, ∀ (c : Nat) (t : Tb), p.2[c]? = some t → w.cell? ⟨p.1, c * 2 + 1, none⟩ = some (.int .i64 t.n)
  sl : ∀ p ∈ K, ∀ t ∈ p.2, Sl w .u16 t.a t.C
  ap : ∀ p ∈ K, ∀ t ∈ p.2, ∀ b o, t.a = some ⟨b, o, none⟩ → t.C ≠ [] → b ≠ bt ∧ ∀ q ∈ K, b ≠ q.1

theorem St.to {w w' : World} {lo bt : Nat} {K : List (Nat × List Tb)} (h : St w lo bt K) (hb : Below w.heap.size w w') : St w' lo bt K where
  blo := h.blo
  blt := Nat.lt_of_lt_of_le h.blt hb.size
  bth := fun j => by rw [newFrozen hb _ _ h.blt]; exact h.bth j
  tl := fun k h1 h2 => by rw [newCell hb _ _ h.blt]; exact h.tl k h1 h2
  hd := fun k p hp => by rw [newCell hb _ _ h.blt]; exact h.hd k p hp
  lie := fun p hp => ⟨(h.lie p hp).1, Nat.lt_of_lt_of_le (h.lie p hp).2.1 hb.size, (h.lie p hp).2.2⟩
  inj := h.inj
  th := fun p hp j => by rw [newFrozen hb _ _ (h.lie p hp).2.1]; exact h.th p hp j
  c0 := fun p hp c t ht => by rw [newCell hb _ _ (h.lie p hp).2.1]; exact h.c0 p hp c t ht
  c1 := fun p hp c t ht => by rw [newCell hb _ _ (h.lie p hp).2.1]; exact h.c1 p hp c t ht
  sl := fun p hp t ht => (h.sl p hp t ht).to hb
  ap := h.ap
theorem setCell_size (w : World) (a : Addr) (v : Value) : (w.setCell a v).heap.size = w.heap.size := by simp [World.setCell]
theorem sl_far {u : World} {a : Option Addr} {C : List Nat} {p : Addr} {v : Value} (h : Sl u .u16 a C) (hp : ∀ b o, a = some ⟨b, o, none⟩ → C ≠ [] → b ≠ p.block) : Sl (u.setCell p v) .u16 a C := by
  by_cases e : C = []
  · exact Or.inl e
  · rcases h with h | ⟨b, o, h1, h2, h3⟩
    · exact absurd h e
    · exact Or.inr ⟨b, o, h1, by rw [setCell_size]; exact h2, fun j hj => by
        rw [World.cell?_setCell_other _ _ _ _ (fun k => hp b o h1 e (by rw [k]))]; exact h3 j hj⟩
/-- a store elsewhere -/
theorem St.far {w : World} {lo bt : Nat} {K : List (Nat × List Tb)} (h : St w lo bt K) (x : Addr) (v : Value) (h1 : x.block ≠ bt) (h2 : ∀ p ∈ K, x.block ≠ p.1) (h3 : ∀ p ∈ K, ∀ t ∈ p.2, ∀ b o, t.a = some ⟨b, o, none⟩ → t.C ≠ [] → b ≠ x.block) : St (w.setCell x v) lo bt K where
  blo := h.blo
  blt := by rw [setCell_size]; exact h.blt
  bth := fun j => by simpa using h.bth j
  tl := fun k g1 g2 => by rw [World.cell?_setCell_other _ _ _ _ (fun e => h1 (by rw [e]))]; exact h.tl k g1 g2
  hd := fun k p hp => by rw [World.cell?_setCell_other _ _ _ _ (fun e => h1 (by rw [e]))]; exact h.hd k p hp
  lie := fun p hp => by rw [setCell_size]; exact h.lie p hp
  inj := h.inj
  th := fun p hp j => by simpa using h.th p hp j
  c0 := fun p hp c t ht => by rw [World.cell?_setCell_other _ _ _ _ (fun e => h2 p hp (by rw [e]))]; exact h.c0 p hp c t ht
  c1 := fun p hp c t ht => by rw [World.cell?_setCell_other _ _ _ _ (fun e => h2 p hp (by rw [e]))]; exact h.c1 p hp c t ht
  sl := fun p hp t ht => sl_far (h.sl p hp t ht) (h3 p hp t ht)
  ap := h.ap
theorem St.mem_set {K : List (Nat × List Tb)} {k : Nat} {p : Nat × List Tb} {q : Nat × List Tb} (_hk : K[k]? = some p) {r : Nat × List Tb} (hr : r ∈ K.set k q) : r = q ∨ r ∈ K := by
  rcases List.mem_or_eq_of_mem_set hr with e | e
  · exact Or.inr e
  · exact Or.inl e

/-- a table is laid into the set -/
theorem St.put {w : World} {lo bt : Nat} {K : List (Nat × List Tb)} (h : St w lo bt K) {k c : Nat} {p : Nat × List Tb} (hk : K[k]? = some p) (hc : c < p.2.length) (t : Tb) (hs : Sl w .u16 t.a t.C) (hp : ∀ b o, t.a = some ⟨b, o, none⟩ → t.C ≠ [] → b ≠ bt ∧ ∀ q ∈ K, b ≠ q.1) :
    St ((w.setCell ⟨p.1, c * 2, none⟩ (.slice t.a t.C.length t.c)).setCell ⟨p.1, c * 2 + 1, none⟩ (.int .i64 t.n)) lo bt (K.set k (p.1, p.2.set c t)) := by
  have hpK : p ∈ K := List.mem_of_getElem? hk
  have hlt : k < K.length := (List.getElem?_eq_some_iff.1 hk).1
  have hne := (h.lie p hpK).2.2
  have oth : ∀ (y : Nat) (j : Nat), y ≠ p.1 → ((w.setCell ⟨p.1, c * 2, none⟩ (.slice t.a t.C.length t.c)).setCell ⟨p.1, c * 2 + 1, none⟩ (.int .i64 t.n)).cell? ⟨y, j, none⟩ = w.cell? ⟨y, j, none⟩ := fun y j hy => by
    rw [World.cell?_setCell_other _ _ _ _ (fun e => hy (by simp only [Addr.mk.injEq] at e; exact e.1.symm)), World.cell?_setCell_other _ _ _ _ (fun e => hy (by simp only [Addr.mk.injEq] at e; exact e.1.symm))]
  have oth2 : ∀ j, j ≠ c * 2 → j ≠ c * 2 + 1 → ((w.setCell ⟨p.1, c * 2, none⟩ (.slice t.a t.C.length t.c)).setCell ⟨p.1, c * 2 + 1, none⟩ (.int .i64 t.n)).cell? ⟨p.1, j, none⟩ = w.cell? ⟨p.1, j, none⟩ := fun j h1 h2 => by
    rw [World.cell?_setCell_other _ _ _ _ (fun e => h2 (by simp only [Addr.mk.injEq, true_and, and_true] at e; exact e.symm)), World.cell?_setCell_other _ _ _ _ (fun e => h1 (by simp only [Addr.mk.injEq, true_and, and_true] at e; exact e.symm))]
  obtain ⟨t0, ht0⟩ : ∃ t0, p.2[c]? = some t0 := ⟨p.2[c], List.getElem?_eq_getElem hc⟩
  have e0 : ((w.setCell ⟨p.1, c * 2, none⟩ (.slice t.a t.C.length t.c)).setCell ⟨p.1, c * 2 + 1, none⟩ (.int .i64 t.n)).cell? ⟨p.1, c * 2, none⟩ = some (.slice t.a t.C.length t.c) := by
    rw [World.cell?_setCell_other _ _ _ _ (by simp), World.cell?_setCell_same _ _ _ (h.c0 p hpK c t0 ht0)]
  have e1 : ((w.setCell ⟨p.1, c * 2, none⟩ (.slice t.a t.C.length t.c)).setCell ⟨p.1, c * 2 + 1, none⟩ (.int .i64 t.n)).cell? ⟨p.1, c * 2 + 1, none⟩ = some (.int .i64 t.n) := by
    rw [World.cell?_setCell_same _ _ _ (by rw [World.cell?_setCell_other _ _ _ _ (by simp)]; exact h.c1 p hpK c t0 ht0)]
  have hsz : ((w.setCell ⟨p.1, c * 2, none⟩ (.slice t.a t.C.length t.c)).setCell ⟨p.1, c * 2 + 1, none⟩ (.int .i64 t.n)).heap.size = w.heap.size := by rw [setCell_size, setCell_size]
  have hfz : ∀ a, ((w.setCell ⟨p.1, c * 2, none⟩ (.slice t.a t.C.length t.c)).setCell ⟨p.1, c * 2 + 1, none⟩ (.int .i64 t.n)).frozen? a = w.frozen? a := fun a => by simp
  have hsl : ∀ (a : Option Addr) (C : List Nat), Sl w .u16 a C → (∀ b o, a = some ⟨b, o, none⟩ → C ≠ [] → b ≠ p.1) → Sl ((w.setCell ⟨p.1, c * 2, none⟩ (.slice t.a t.C.length t.c)).setCell ⟨p.1, c * 2 + 1, none⟩ (.int .i64 t.n)) .u16 a C := fun a C h1 h2 => sl_far (sl_far h1 h2) h2
  have hget : ∀ (j : Nat) (q : Nat × List Tb), (K.set k (p.1, p.2.set c t))[j]? = some q → (j = k ∧ q = (p.1, p.2.set c t)) ∨ (j ≠ k ∧ K[j]? = some q) := fun j q hq => by
    rw [List.getElem?_set] at hq
    by_cases e : k = j
    · subst e; rw [if_pos rfl, if_pos hlt] at hq; simp at hq; exact Or.inl ⟨rfl, hq.symm⟩
    · rw [if_neg e] at hq; exact Or.inr ⟨fun e' => e e'.symm, hq⟩
  generalize ((w.setCell ⟨p.1, c * 2, none⟩ (.slice t.a t.C.length t.c)).setCell ⟨p.1, c * 2 + 1, none⟩ (.int .i64 t.n)) = V at *
  -- a member of the new list: its block is a block of the old one
  have hmem : ∀ r ∈ K.set k (p.1, p.2.set c t), ∃ q ∈ K, r.1 = q.1 ∧ (r = q ∨ r = (p.1, p.2.set c t)) := fun r hr => by
    rcases St.mem_set hk hr with e | e
    · exact ⟨p, hpK, by rw [e], Or.inr e⟩
    · exact ⟨r, e, rfl, Or.inl rfl⟩
  have hset : ∀ (j : Nat) (s : Tb), (p.2.set c t)[j]? = some s → (j = c ∧ s = t) ∨ (j ≠ c ∧ p.2[j]? = some s) := fun j s hs => by
    rw [List.getElem?_set] at hs
    by_cases e : c = j
    · subst e; rw [if_pos rfl, if_pos hc] at hs; simp at hs; exact Or.inl ⟨rfl, hs.symm⟩
    · rw [if_neg e] at hs; exact Or.inr ⟨fun e' => e e'.symm, hs⟩
  have hcell : ∀ r ∈ K.set k (p.1, p.2.set c t), ∀ (j : Nat) (s : Tb), r.2[j]? = some s → V.cell? ⟨r.1, j * 2, none⟩ = some (.slice s.a s.C.length s.c) ∧ V.cell? ⟨r.1, j * 2 + 1, none⟩ = some (.int .i64 s.n) := fun r hr j s hs => by
    obtain ⟨m, hm⟩ := List.getElem?_of_mem hr
    rcases hget m r hm with ⟨_, e⟩ | ⟨e, hm2⟩
    · subst e
      rcases hset j s hs with ⟨rfl, rfl⟩ | ⟨e2, hs2⟩
      · exact ⟨e0, e1⟩
      · exact ⟨by rw [oth2 _ (by omega) (by omega)]; exact h.c0 p hpK j s hs2, by rw [oth2 _ (by omega) (by omega)]; exact h.c1 p hpK j s hs2⟩
    · have hrK : r ∈ K := List.mem_of_getElem? hm2
      have hr1 : r.1 ≠ p.1 := fun e3 => e (h.inj m k r p hm2 hk e3)
      exact ⟨by rw [oth _ _ hr1]; exact h.c0 r hrK j s hs, by rw [oth _ _ hr1]; exact h.c1 r hrK j s hs⟩
  have hmt : ∀ r ∈ K.set k (p.1, p.2.set c t), ∀ s ∈ r.2, s = t ∨ ∃ q ∈ K, s ∈ q.2 := fun r hr s hs => by
    rcases St.mem_set hk hr with e | e
    · subst e
      rcases List.mem_or_eq_of_mem_set hs with e2 | e2
      · exact Or.inr ⟨p, hpK, e2⟩
      · exact Or.inl e2
    · exact Or.inr ⟨r, e, hs⟩
  have hapn : ∀ s : Tb, (s = t ∨ ∃ q ∈ K, s ∈ q.2) → ∀ b o, s.a = some ⟨b, o, none⟩ → s.C ≠ [] → b ≠ bt ∧ ∀ q ∈ K, b ≠ q.1 := fun s hs b o h1 h2 => by
    rcases hs with rfl | ⟨q, hq, hs⟩
    · exact hp b o h1 h2
    · exact h.ap q hq s hs b o h1 h2
  refine ⟨h.blo, by rw [hsz]; exact h.blt, fun j => by rw [hfz]; exact h.bth j, fun j h1 h2 => ?_, fun j q hq => ?_, fun r hr => ?_, fun i j q r hq hr e => ?_, fun r hr j => ?_, fun r hr j s hs => (hcell r hr j s hs).1, fun r hr j s hs => (hcell r hr j s hs).2, fun r hr s hs => ?_, fun r hr s hs b o h1 h2 => ?_⟩
  · rw [oth _ _ (Ne.symm hne)]; rw [List.length_set] at h1; exact h.tl j h1 h2
  · rw [oth _ _ (Ne.symm hne)]
    rcases hget j q hq with ⟨rfl, rfl⟩ | ⟨_, hq2⟩
    · simp only [List.length_set]; exact h.hd j p hk
    · exact h.hd j q hq2
  · obtain ⟨q, hq, e, _⟩ := hmem r hr
    rw [e, hsz]; exact h.lie q hq
  · rcases hget i q hq with ⟨rfl, rfl⟩ | ⟨e1, hq2⟩ <;> rcases hget j r hr with ⟨rfl, rfl⟩ | ⟨e2, hr2⟩
    · rfl
    · exact h.inj _ _ _ _ hk hr2 e
    · exact h.inj _ _ _ _ hq2 hk e
    · exact h.inj _ _ _ _ hq2 hr2 e
  · obtain ⟨q, hq, e, _⟩ := hmem r hr
    rw [hfz, e]; exact h.th q hq j
  · have hs' := hmt r hr s hs
    refine hsl _ _ ?_ (fun b o h1 h2 => (hapn s hs' b o h1 h2).2 p hpK)
    rcases hs' with rfl | ⟨q, hq, hsq⟩
    · exact hs
    · exact h.sl q hq s hsq
  · have := hapn s (hmt r hr s hs) b o h1 h2
    exact ⟨this.1, fun q hq => by obtain ⟨q', hq', e, _⟩ := hmem q hq; rw [e]; exact this.2 q' hq'⟩

end Go.Proofs.YtppanogpeengnabGreatDoor
