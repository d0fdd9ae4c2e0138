/- DERIVED. Two variables that have tables, and are laid anew; the walk of the statement CdfLearns. -/
import Derived.Test.YtpijgdfhkmailaaMl
import Derived.Test.YtpijgdfhkmailaaLc
namespace Go.Proofs.Ytpijgdfhkmailaa
open Go.RowKit

/-- two variables that have tables; of the blocks of V these two alone turned -/
structure Lv (V u : World) (x6 x7 : Nat) (s t : Tb) : Prop where
  fz : Fz V u (fun k => k = x6 ∨ k = x7)
  l6 : Loc u x6 s
  l7 : Loc u x7 t
  f60 : u.frozen? ⟨x6, 0, none⟩ = false
  f61 : u.frozen? ⟨x6, 1, none⟩ = false
  f70 : u.frozen? ⟨x7, 0, none⟩ = false
  f71 : u.frozen? ⟨x7, 1, none⟩ = false
  p6 : ∀ b o, s.a = some ⟨b, o, none⟩ → s.C ≠ [] → b ≠ x6 ∧ b ≠ x7
  p7 : ∀ b o, t.a = some ⟨b, o, none⟩ → t.C ≠ [] → b ≠ x6 ∧ b ≠ x7
  ne : x6 ≠ x7
theorem Lv.to {V u v : World} {x6 x7 : Nat} {s t : Tb} (h : Lv V u x6 x7 s t) (hb : Below u.heap.size u v) : Lv V v x6 x7 s t :=
  ⟨h.fz.to hb, h.l6.to hb, h.l7.to hb, by rw [newFrozen hb _ _ h.l6.low]; exact h.f60, by rw [newFrozen hb _ _ h.l6.low]; exact h.f61, by rw [newFrozen hb _ _ h.l7.low]; exact h.f70, by rw [newFrozen hb _ _ h.l7.low]; exact h.f71, h.p6, h.p7, h.ne⟩
theorem Lv.turn {V u : World} {x6 x7 : Nat} {s t : Tb} (h : Lv V u x6 x7 s t) : Lv V u x7 x6 t s :=
  ⟨h.fz.mono (fun _ e => e.symm), h.l7, h.l6, h.f70, h.f71, h.f60, h.f61, fun b o e k => (h.p7 b o e k).symm, fun b o e k => (h.p6 b o e k).symm, fun e => h.ne e.symm⟩
theorem sl_far {u : World} {r : Tb} {a : Addr} {v : Value} (h : Sl u .u16 r.a r.C) (hp : ∀ b o, r.a = some ⟨b, o, none⟩ → r.C ≠ [] → b ≠ a.block) : Sl (u.setCell a v) .u16 r.a r.C := by
  by_cases e : r.C = []
  · exact Or.inl e
  · rcases h with h | ⟨b, o, h1, h2, h3⟩
    · exact absurd h e
    · exact Or.inr ⟨b, o, h1, by simpa [World.setCell] using h2, fun j hj => by
        rw [World.cell?_setCell_other _ _ _ _ (fun k => hp b o h1 e (by rw [k]))]; exact h3 j hj⟩
theorem Lv.put {V u : World} {x6 x7 : Nat} {s t : Tb} (h : Lv V u x6 x7 s t) (r : Tb) (hs : Sl u .u16 r.a r.C) (hp : ∀ b o, r.a = some ⟨b, o, none⟩ → r.C ≠ [] → b ≠ x6 ∧ b ≠ x7) : Lv V ((u.setCell ⟨x6, 0, none⟩ (.slice r.a r.C.length r.c)).setCell ⟨x6, 1, none⟩ (.int .i64 r.n)) x6 x7 r t := by
  have hsz : ((u.setCell ⟨x6, 0, none⟩ (.slice r.a r.C.length r.c)).setCell ⟨x6, 1, none⟩ (.int .i64 r.n)).heap.size = u.heap.size := by simp [World.setCell]
  have hblk : ∀ k, k ≠ x6 → ((u.setCell ⟨x6, 0, none⟩ (.slice r.a r.C.length r.c)).setCell ⟨x6, 1, none⟩ (.int .i64 r.n)).heap[k]? = u.heap[k]? := fun k hk => by
    rw [Below.heap_setCell _ _ _ _ (by exact hk), Below.heap_setCell _ _ _ _ (by exact hk)]
  refine ⟨⟨h.fz.os, h.fz.tape, h.fz.output, by rw [hsz]; exact h.fz.size, fun k hk hP => ?_⟩, ⟨by rw [hsz]; exact h.l6.low, ?_, ?_, ?_⟩, ⟨by rw [hsz]; exact h.l7.low, ?_, ?_, ?_⟩, ?_, ?_, ?_, ?_, hp, h.p7, h.ne⟩
  · rw [hblk k (fun e => hP (Or.inl e))]; exact h.fz.block k hk hP
  · rw [World.cell?_setCell_other _ _ _ _ (by simp), World.cell?_setCell_same _ _ _ h.l6.c0]
  · rw [World.cell?_setCell_same _ _ _ (by rw [World.cell?_setCell_other _ _ _ _ (by simp)]; exact h.l6.c1)]
  · exact sl_far (sl_far hs (fun b o e k => (hp b o e k).1)) (fun b o e k => (hp b o e k).1)
  · rw [World.cell?_setCell_other _ _ _ _ (by simp), World.cell?_setCell_other _ _ _ _ (by simp [h.ne])]; exact h.l7.c0
  · rw [World.cell?_setCell_other _ _ _ _ (by simp [h.ne]), World.cell?_setCell_other _ _ _ _ (by simp)]; exact h.l7.c1
  · exact sl_far (sl_far h.l7.sl (fun b o e k => (h.p7 b o e k).1)) (fun b o e k => (h.p7 b o e k).1)
  · simpa using h.f60
  · simpa using h.f61
  · simpa using h.f70
  · simpa using h.f71

theorem far2 {u : World} {x y j : Nat} {v v1 v2 : Value} (hne : x ≠ y) (h : u.cell? ⟨x, j, none⟩ = some v) : ((u.setCell ⟨y, 0, none⟩ v1).setCell ⟨y, 1, none⟩ v2).cell? ⟨x, j, none⟩ = some v := by
  rw [World.cell?_setCell_other _ _ _ _ (fun e => hne (by simp only [Addr.mk.injEq] at e; exact e.1.symm)), World.cell?_setCell_other _ _ _ _ (fun e => hne (by simp only [Addr.mk.injEq] at e; exact e.1.symm))]; exact h
theorem Lv.begin {v : World} (s t : Tb) (hs : Sl v .u16 s.a s.C) (ht : Sl v .u16 t.a t.C) (ps : ∀ b o, s.a = some ⟨b, o, none⟩ → s.C ≠ [] → b < v.heap.size) (pt : ∀ b o, t.a = some ⟨b, o, none⟩ → t.C ≠ [] → b < v.heap.size) :
    Lv (((v.alloc (.cells #[.slice s.a s.C.length s.c, .int .i64 s.n] 24)).alloc (.cells #[.slice t.a t.C.length t.c, .int .i64 t.n] 24)).drew) (((v.alloc (.cells #[.slice s.a s.C.length s.c, .int .i64 s.n] 24)).alloc (.cells #[.slice t.a t.C.length t.c, .int .i64 t.n] 24)).drew) v.heap.size (v.heap.size + 1) s t := by
  have h7 := (Loc.new (u := v.alloc (.cells #[.slice s.a s.C.length s.c, .int .i64 s.n] 24)) t (ht.to (from_alloc _ _))).to (below_drew (Below.refl _ _))
  rw [show (v.alloc (.cells #[.slice s.a s.C.length s.c, .int .i64 s.n] 24)).heap.size = v.heap.size + 1 from by simp] at h7
  exact ⟨Fz.refl _ _, ((Loc.new s hs).to (from_alloc _ _)).to (below_drew (Below.refl _ _)), h7, by simp, by simp, by simp, by simp, fun b o e k => by have := ps b o e k; omega, fun b o e k => by have := pt b o e k; omega, by omega⟩

/-- a table that was made into a variable of its own -/
structure Nt (w u : World) (x : Nat) (t : Tb) : Prop where
  l : Loc u x t
  b : Below w.heap.size w u
  lo : w.heap.size ≤ x
  own : u.ownsRow w.heap.size 49 1 (.slice t.a t.C.length t.c) t.C.length (ns .u16 t.C)
theorem own_mono {w : World} {B B' e size n : Nat} {v : Value} {xs : List Value} (h : w.ownsRow B e size v n xs) (hb : B' ≤ B) : w.ownsRow B' e size v n xs := by
  obtain ⟨h1, h2⟩ := h
  refine ⟨h1, ?_⟩
  rcases h2 with h2 | ⟨g, c, cs, hv, hB, rest⟩
  · exact Or.inl h2
  · exact Or.inr ⟨g, c, cs, hv, Nat.le_trans hb hB, rest⟩
theorem own_apart {w : World} {B e n c : Nat} {a : Option Addr} {xs : List Value} (h : w.ownsRow B e 1 (.slice a n c) n xs) (h0 : 0 < n) : ∃ g, a = some ⟨g, 0, none⟩ ∧ B ≤ g ∧ g < w.heap.size := by
  obtain ⟨g, cap, hv, hb, _⟩ := h.form h0
  simp only [Value.slice.injEq] at hv
  have := h.lt g (by rw [hv.1]; rfl)
  exact ⟨g, hv.1, this.1, this.2⟩
theorem Nt.far {w u : World} {x : Nat} {t : Tb} (h : Nt w u x t) {y z : Nat} (hy : y < w.heap.size) (hz : z < w.heap.size) : ∀ b o, t.a = some ⟨b, o, none⟩ → t.C ≠ [] → b ≠ y ∧ b ≠ z := fun b o e k => by
  obtain ⟨g, h1, h2, h3⟩ := own_apart h.own (List.length_pos_iff.2 k)
  rw [e] at h1
  simp only [Option.some.injEq, Addr.mk.injEq, and_true] at h1
  omega
theorem Lv.puts {V u : World} {x6 x7 : Nat} {s t : Tb} (h : Lv V u x6 x7 s t) (r q : Tb) (hr : Sl u .u16 r.a r.C) (hq : Sl u .u16 q.a q.C) (pr : ∀ b o, r.a = some ⟨b, o, none⟩ → r.C ≠ [] → b ≠ x6 ∧ b ≠ x7) (pq : ∀ b o, q.a = some ⟨b, o, none⟩ → q.C ≠ [] → b ≠ x6 ∧ b ≠ x7) :
    Lv V ((((u.setCell ⟨x6, 0, none⟩ (.slice r.a r.C.length r.c)).setCell ⟨x6, 1, none⟩ (.int .i64 r.n)).setCell ⟨x7, 0, none⟩ (.slice q.a q.C.length q.c)).setCell ⟨x7, 1, none⟩ (.int .i64 q.n)) x6 x7 r q :=
  ((h.put r hr pr).turn.put q (sl_far (sl_far hq (fun b o e k => (pq b o e k).1)) (fun b o e k => (pq b o e k).1)) (fun b o e k => (pq b o e k).symm)).turn
theorem new_zero (u : World) : (u.alloc (.cells #[.slice none 0 0, .int .i64 0] 24)).cell? ⟨u.heap.size, 0, none⟩ = some (.slice none 0 0) ∧ (u.alloc (.cells #[.slice none 0 0, .int .i64 0] 24)).cell? ⟨u.heap.size, 1, none⟩ = some (.int .i64 0) := by simp
/-- the call first, then the variable -/
theorem Nt.callFirst {w u u' : World} {t : Tb} (hu : Below w.heap.size w u) (ho : u'.ownsRow u.heap.size 49 1 (.slice t.a t.C.length t.c) t.C.length (ns .u16 t.C)) (hb : Below u.heap.size u u') :
    Nt w (u'.alloc (.cells #[.slice t.a t.C.length t.c, .int .i64 t.n] 24)) u'.heap.size t :=
  ⟨Loc.new t (Sl.ofOwn ho), to_alloc (below_to hu hb) _, Nat.le_trans hu.size hb.size, own_mono (own_below ho (from_alloc _ _)) hu.size⟩
/-- the variable first, then the call -/
theorem Nt.varFirst {w u' : World} {t : Tb} (ho : u'.ownsRow (w.drew.alloc (.cells #[.slice none 0 0, .int .i64 0] 24)).heap.size 49 1 (.slice t.a t.C.length t.c) t.C.length (ns .u16 t.C)) (hb : Below (w.drew.alloc (.cells #[.slice none 0 0, .int .i64 0] 24)).heap.size (w.drew.alloc (.cells #[.slice none 0 0, .int .i64 0] 24)) u') :
    Nt w ((u'.setCell ⟨w.heap.size, 0, none⟩ (.slice t.a t.C.length t.c)).setCell ⟨w.heap.size, 1, none⟩ (.int .i64 t.n)) w.heap.size t := by
  have hs : (w.drew.alloc (.cells #[.slice none 0 0, .int .i64 0] 24)).heap.size = w.heap.size + 1 := by simp
  have hz := hb.size
  rw [hs] at hz ho
  have hap : ∀ b o, t.a = some ⟨b, o, none⟩ → t.C ≠ [] → b ≠ w.heap.size := fun b o e k => by
    obtain ⟨g, h1, h2, h3⟩ := own_apart ho (List.length_pos_iff.2 k)
    rw [e] at h1
    simp only [Option.some.injEq, Addr.mk.injEq, and_true] at h1
    omega
  have c0 : u'.cell? ⟨w.heap.size, 0, none⟩ = some (.slice none 0 0) := by rw [newCell hb _ _ (by rw [hs]; omega)]; exact (new_zero w.drew).1
  have c1 : u'.cell? ⟨w.heap.size, 1, none⟩ = some (.int .i64 0) := by rw [newCell hb _ _ (by rw [hs]; omega)]; exact (new_zero w.drew).2
  have hbw : Below w.heap.size w u' := (Below.trans (below_drew (Below.refl _ _)) (from_alloc w.drew (.cells #[.slice none 0 0, .int .i64 0] 24))).trans (hb.mono (show w.heap.size ≤ (w.drew.alloc (.cells #[.slice none 0 0, .int .i64 0] 24)).heap.size by rw [hs]; omega))
  refine ⟨⟨by simp [World.setCell]; omega, ?_, ?_, ?_⟩, below_set (below_set hbw (Nat.le_refl _) _) (Nat.le_refl _) _, Nat.le_refl _, ?_⟩
  · rw [World.cell?_setCell_other _ _ _ _ (by simp), World.cell?_setCell_same _ _ _ c0]
  · rw [World.cell?_setCell_same _ _ _ (by rw [World.cell?_setCell_other _ _ _ _ (by simp)]; exact c1)]
  · exact sl_far (sl_far (Sl.ofOwn ho) hap) hap
  · refine own_mono (own_set_far (own_set_far ho ?_ _) ?_ _) (Nat.le_succ _) <;>
    · intro e
      have := (ho.lt _ e).1
      dsimp only at this
      omega

end Go.Proofs.Ytpijgdfhkmailaa
