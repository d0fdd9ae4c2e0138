/- DERIVED. A set that grows; the walks of filled and Default. -/
import Derived.Test.YtppanogpeengnabGreatDoorSb
namespace Go.Proofs.YtppanogpeengnabGreatDoor
open Go.RowKit L3

theorem made_get (n c : Nat) (h : c < n) : (madeCells #[Value.slice none 0 0, .int .i64 0] (n * 2))[c * 2]? = some (.slice none 0 0) ∧ (madeCells #[Value.slice none 0 0, .int .i64 0] (n * 2))[c * 2 + 1]? = some (.int .i64 0) := by
  have h1 : c * 2 < n * 2 := by omega
  have h2 : c * 2 + 1 < n * 2 := by omega
  have h3 : c * 2 % 2 = 0 := by omega
  have h4 : (c * 2 + 1) % 2 = 1 := by omega
  constructor <;> simp [madeCells, h1, h2, h3, h4]
theorem made32 (k : Nat) (h : k < 32) : (madeCells #[Value.slice none 0 0] 32)[k]? = some (.slice none 0 0) := by
  simp [madeCells, h, Nat.mod_one]
theorem new_get (w : World) (cs : Array Value) (t : TypeId) (j : Nat) : (w.alloc (.cells cs t)).cell? ⟨w.heap.size, j, none⟩ = cs[j]? := by unfold World.cell?; rw [heap_alloc_new]; simp

theorem St.start {w : World} {lo : Nat} (hlo : lo ≤ w.heap.size) : St (w.alloc (.cells (madeCells #[Value.slice none 0 0] 32) 60)) lo w.heap.size [] where
  blo := hlo
  blt := by simp
  bth := fun j => by simp
  tl := fun k _ h => by rw [new_get, made32 k h]
  hd := fun k p hp => by simp at hp
  lie := fun p hp => by simp at hp
  inj := fun j k p q hp => by simp at hp
  th := fun p hp => by simp at hp
  c0 := fun p hp => by simp at hp
  c1 := fun p hp => by simp at hp
  sl := fun p hp => by simp at hp
  ap := fun p hp => by simp at hp

theorem St.add {w : World} {lo bt : Nat} {K : List (Nat × List Tb)} (h : St w lo bt K) (hlo : lo ≤ w.heap.size) (hk : K.length < 32) (n : Nat) :
    St ((w.alloc (.cells (madeCells #[.slice none 0 0, .int .i64 0] (n * 2)) 59)).setCell ⟨bt, K.length, none⟩ (.slice (some ⟨w.heap.size, 0, none⟩) n n)) lo bt (K ++ [(w.heap.size, List.replicate n zT)]) := by
  have h1 := h.to (from_alloc w (.cells (madeCells #[.slice none 0 0, .int .i64 0] (n * 2)) 59))
  have hz : (w.alloc (.cells (madeCells #[.slice none 0 0, .int .i64 0] (n * 2)) 59)).heap.size = w.heap.size + 1 := by simp
  have hg : ∀ c, c < n → (w.alloc (.cells (madeCells #[.slice none 0 0, .int .i64 0] (n * 2)) 59)).cell? ⟨w.heap.size, c * 2, none⟩ = some (.slice none 0 0) ∧ (w.alloc (.cells (madeCells #[.slice none 0 0, .int .i64 0] (n * 2)) 59)).cell? ⟨w.heap.size, c * 2 + 1, none⟩ = some (.int .i64 0) := fun c hc => by
    rw [new_get, new_get]; exact made_get n c hc
  have hfn : ∀ j, (w.alloc (.cells (madeCells #[.slice none 0 0, .int .i64 0] (n * 2)) 59)).frozen? ⟨w.heap.size, j, none⟩ = false := fun j => by simp
  have hbl := h.blt
  have hll : ∀ p ∈ K, p.1 < w.heap.size := fun p hp => (h.lie p hp).2.1
  generalize w.alloc (.cells (madeCells #[.slice none 0 0, .int .i64 0] (n * 2)) 59) = W at *
  have oth : ∀ (y j : Nat), y ≠ bt → (W.setCell ⟨bt, K.length, none⟩ (.slice (some ⟨w.heap.size, 0, none⟩) n n)).cell? ⟨y, j, none⟩ = W.cell? ⟨y, j, none⟩ := fun y j hy =>
    World.cell?_setCell_other _ _ _ _ (fun e => hy (by simp only [Addr.mk.injEq] at e; exact e.1.symm))
  have oth2 : ∀ j, j ≠ K.length → (W.setCell ⟨bt, K.length, none⟩ (.slice (some ⟨w.heap.size, 0, none⟩) n n)).cell? ⟨bt, j, none⟩ = W.cell? ⟨bt, j, none⟩ := fun j hj =>
    World.cell?_setCell_other _ _ _ _ (fun e => hj (by simp only [Addr.mk.injEq, true_and, and_true] at e; exact e.symm))
  have new : (W.setCell ⟨bt, K.length, none⟩ (.slice (some ⟨w.heap.size, 0, none⟩) n n)).cell? ⟨bt, K.length, none⟩ = some (.slice (some ⟨w.heap.size, 0, none⟩) n n) := World.cell?_setCell_same _ _ _ (h1.tl K.length (Nat.le_refl _) hk)
  have hfz : ∀ a, (W.setCell ⟨bt, K.length, none⟩ (.slice (some ⟨w.heap.size, 0, none⟩) n n)).frozen? a = W.frozen? a := fun a => by simp
  have hsz : (W.setCell ⟨bt, K.length, none⟩ (.slice (some ⟨w.heap.size, 0, none⟩) n n)).heap.size = w.heap.size + 1 := by rw [setCell_size, hz]
  have hslk : ∀ (a : Option Addr) (C : List Nat), Sl W .u16 a C → (∀ b o, a = some ⟨b, o, none⟩ → C ≠ [] → b ≠ bt) → Sl (W.setCell ⟨bt, K.length, none⟩ (.slice (some ⟨w.heap.size, 0, none⟩) n n)) .u16 a C := fun a C g1 g2 => sl_far g1 g2
  generalize W.setCell ⟨bt, K.length, none⟩ (.slice (some ⟨w.heap.size, 0, none⟩) n n) = V at *
  have hget : ∀ (j : Nat) (q : Nat × List Tb), (K ++ [(w.heap.size, List.replicate n zT)])[j]? = some q → (j < K.length ∧ K[j]? = some q) ∨ (j = K.length ∧ q = (w.heap.size, List.replicate n zT)) := fun j q hq => by
    by_cases e : j < K.length
    · rw [List.getElem?_append_left e] at hq; exact Or.inl ⟨e, hq⟩
    · rw [List.getElem?_append_right (by omega)] at hq
      rcases (show j - K.length = 0 ∨ 1 ≤ j - K.length by omega) with e2 | e2
      · rw [e2] at hq; simp at hq; exact Or.inr ⟨by omega, hq.symm⟩
      · rw [List.getElem?_eq_none (by simp; omega)] at hq; cases hq
  have hmem : ∀ r ∈ K ++ [(w.heap.size, List.replicate n zT)], r ∈ K ∨ r = (w.heap.size, List.replicate n zT) := fun r hr => by
    simpa using hr
  have hrep : ∀ (c : Nat) (t : Tb), (List.replicate n zT)[c]? = some t → c < n ∧ t = zT := fun c t ht => by
    rw [List.getElem?_replicate] at ht
    by_cases e : c < n
    · rw [if_pos e] at ht; simp at ht; exact ⟨e, ht.symm⟩
    · rw [if_neg e] at ht; cases ht
  refine ⟨h.blo, by rw [hsz]; omega, fun j => by rw [hfz]; exact h1.bth j, fun j g1 g2 => ?_, fun j q hq => ?_, fun r hr => ?_, fun i j q r hq hr e => ?_, fun r hr j => ?_, fun r hr c t ht => ?_, fun r hr c t ht => ?_, fun r hr t ht => ?_, fun r hr t ht b o g1 g2 => ?_⟩
  · rw [List.length_append] at g1; simp at g1
    rw [oth2 j (by omega)]; exact h1.tl j (by omega) g2
  · rcases hget j q hq with ⟨e, hq2⟩ | ⟨rfl, rfl⟩
    · rw [oth2 j (by omega)]; exact h1.hd j q hq2
    · simp only [List.length_replicate]; exact new
  · rcases hmem r hr with e | rfl
    · have := h1.lie r e; rw [hsz]; exact ⟨this.1, by have := hll r e; omega, this.2.2⟩
    · rw [hsz]; exact ⟨hlo, by simp, by simp; omega⟩
  · rcases hget i q hq with ⟨e1, hq2⟩ | ⟨rfl, rfl⟩ <;> rcases hget j r hr with ⟨e2, hr2⟩ | ⟨rfl, rfl⟩
    · exact h.inj _ _ _ _ hq2 hr2 e
    · have := hll q (List.mem_of_getElem? hq2); simp at e; omega
    · have := hll r (List.mem_of_getElem? hr2); simp at e; omega
    · rfl
  · rw [hfz]
    rcases hmem r hr with e | rfl
    · exact h1.th r e j
    · exact hfn j
  · rcases hmem r hr with e | rfl
    · rw [oth _ _ (h1.lie r e).2.2]; exact h1.c0 r e c t ht
    · obtain ⟨hc, rfl⟩ := hrep c t ht
      rw [oth _ _ (by simp; omega)]; exact (hg c hc).1
  · rcases hmem r hr with e | rfl
    · rw [oth _ _ (h1.lie r e).2.2]; exact h1.c1 r e c t ht
    · obtain ⟨hc, rfl⟩ := hrep c t ht
      rw [oth _ _ (by simp; omega)]; exact (hg c hc).2
  · rcases hmem r hr with e | rfl
    · exact hslk _ _ (h1.sl r e t ht) (fun b o g1 g2 => (h.ap r e t ht b o g1 g2).1)
    · have : t = zT := List.eq_of_mem_replicate ht
      subst this; exact Or.inl rfl
  · rcases hmem r hr with e | rfl
    · obtain ⟨a1, a2⟩ := h.ap r e t ht b o g1 g2
      refine ⟨a1, fun q hq => ?_⟩
      rcases hmem q hq with e2 | rfl
      · exact a2 q e2
      · have := h.sl r e t ht
        rcases this with e3 | ⟨b', o', k1, k2, _⟩
        · exact absurd e3 g2
        · rw [g1] at k1; simp only [Option.some.injEq, Addr.mk.injEq, and_true] at k1
          simp; omega
    · have : t = zT := List.eq_of_mem_replicate ht
      subst this; exact absurd rfl g2

end Go.Proofs.YtppanogpeengnabGreatDoor
