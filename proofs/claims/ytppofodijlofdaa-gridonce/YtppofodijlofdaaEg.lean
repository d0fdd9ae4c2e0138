/- DERIVED. How GridOnce stands in memory. -/
import Derived.Test.YtppofodijlofdaaEf
import Derived.Test.YtppofodijlofdaaDi
namespace Go.Proofs.Ytppofodijlofdaa
open Go.RowKit

theorem Or.cut {u : World} {s : Nat} {x : Value} {L : List Bl} (h : Or u s x L) : ∃ aa ca, x = .slice aa L.length ca ∧ (0 < L.length → ∃ g, aa = some ⟨g, 0, none⟩) := by
  obtain ⟨hl, hv⟩ := h.own
  rcases hv with ⟨rfl, hn⟩ | ⟨g, cap, cur, rfl, -⟩
  · exact ⟨none, 0, by rw [hn], fun e => by omega⟩
  · exact ⟨_, cap, rfl, fun _ => ⟨g, rfl⟩⟩
/-- the tile lies in block z2, the owners in zo, what was put in vp, the grid in p, m, v -/
structure Os (w u : World) (z2 zo p m : Nat) (T : Rc) (v vp : Value) (L L2 : List Bl) (C : List Int) : Prop where
  gd : Gd u p m T v L
  tl : Ri 23 u z2 [T.1, T.2.1, T.2.2.1, T.2.2.2]
  ows : Ri 49 u zo C
  pr : Or u w.heap.size vp L2
  bel : Below w.heap.size w u
  a1 : z2 ≠ zo
  a2 : ∀ i, Gb p m v i → i ≠ z2 ∧ i ≠ zo ∧ vp.ownBlock ≠ some i
  a3 : vp.ownBlock ≠ some z2 ∧ vp.ownBlock ≠ some zo
  b1 : w.heap.size ≤ z2 ∧ w.heap.size ≤ zo
  b2 : ∀ i, Gb p m v i → w.heap.size ≤ i
section
variable {w u u' : World} {z2 zo p m : Nat} {T : Rc} {v v' vp vp' : Value} {L L' L2 L2' : List Bl} {C : List Int}
theorem Os.to (h : Os w u z2 zo p m T v vp L L2 C) (hb : Below u.heap.size u u') : Os w u' z2 zo p m T v vp L L2 C :=
  ⟨h.gd.to hb, h.tl.to hb, h.ows.to hb, h.pr.to hb, h.bel.trans (hb.mono h.bel.size), h.a1, h.a2, h.a3, h.b1, h.b2⟩
theorem Os.put (h : Os w u z2 zo p m T v vp L L2 C) (hg : Gd u' p m T v' L') (ht : Gt p m v v' u u') : Os w u' z2 zo p m T v' vp L' L2 C := by
  have hs := h.bel.size
  have l1 := h.tl.lt
  have l2 := h.ows.lt
  have hn : ∀ i, Gb p m v' i → Gb p m v i ∨ u.heap.size ≤ i := fun i hi => by
    rcases hi with rfl | rfl | hi
    · exact Or.inl (Or.inl rfl)
    · exact Or.inl (Or.inr (Or.inl rfl))
    · rcases ht.new i hi with e | e
      · exact Or.inl (Or.inr (Or.inr e))
      · exact Or.inr e
  refine ⟨hg, h.tl.carry (ht.block z2 l1 fun e => (h.a2 _ e).1 rfl), h.ows.carry (ht.block zo l2 fun e => (h.a2 _ e).2.1 rfl), h.pr.carry (fun g hq => ht.block g (h.pr.lt hq).2 fun e => (h.a2 _ e).2.2 hq), ⟨ht.os.trans h.bel.os, ht.tape.trans h.bel.tape, ht.output.trans h.bel.output, Nat.le_trans hs ht.size, fun i hi => ?_⟩, h.a1, fun i hi => ?_, h.a3, h.b1, fun i hi => ?_⟩
  · rw [ht.block i (by omega) (fun e => by have := h.b2 i e; omega)]
    exact h.bel.block i hi
  · rcases hn i hi with e | e
    · exact h.a2 i e
    · refine ⟨by omega, by omega, fun e2 => ?_⟩
      have := (h.pr.lt e2).2
      omega
  · rcases hn i hi with e | e
    · exact h.b2 i e
    · omega
theorem Os.app (h : Os w u z2 zo p m T v vp L L2 C) (h1 : Or u' w.heap.size vp' L2') (h2 : u.grownBy u' vp.ownBlock) (h3 : ∀ q, vp'.ownBlock = some q → vp.ownBlock = some q ∨ u.heap.size ≤ q) : Os w u' z2 zo p m T v vp' L L2' C := by
  have hs := h.bel.size
  have l1 := h.tl.lt
  have l2 := h.ows.lt
  refine ⟨h.gd.carry fun i hi => h2.block i (h.gd.blt hi) fun e => (h.a2 i hi).2.2 e.symm, h.tl.carry (h2.block z2 l1 fun e => h.a3.1 e.symm), h.ows.carry (h2.block zo l2 fun e => h.a3.2 e.symm), h1, ⟨h2.os.trans h.bel.os, h2.tape.trans h.bel.tape, h2.output.trans h.bel.output, Nat.le_trans hs h2.size, fun i hi => ?_⟩, h.a1, fun i hi => ⟨(h.a2 i hi).1, (h.a2 i hi).2.1, fun e => ?_⟩, ⟨fun e => ?_, fun e => ?_⟩, h.b1, h.b2⟩
  · rw [h2.block i (by omega) (fun e => by have := (h.pr.lt e.symm).1; omega)]
    exact h.bel.block i hi
  · rcases h3 i e with k | k
    · exact (h.a2 i hi).2.2 k
    · have := h.gd.blt hi; omega
  · rcases h3 _ e with k | k
    · exact h.a3.1 k
    · omega
  · rcases h3 _ e with k | k
    · exact h.a3.2 k
    · omega
theorem Os.set (h : Os w u z2 zo p m T v vp L L2 C) (k : Nat) (x : Int) : Os w (u.setCell ⟨zo, k, none⟩ (.int .i64 x)) z2 zo p m T v vp L L2 (C.set k x) :=
  ⟨h.gd.carry fun i hi => Below.heap_setCell _ _ _ _ (h.a2 i hi).2.1, h.tl.far (by show z2 ≠ zo; exact h.a1) _, h.ows.set k x, h.pr.carry fun g hg => Below.heap_setCell _ _ _ _ fun e => h.a3.2 (by rw [hg]; exact congrArg some e), below_set h.bel (by show w.heap.size ≤ zo; exact h.b1.2) _, h.a1, h.a2, h.a3, h.b1, h.b2⟩
theorem Os.ts (h : Os w u z2 zo p m T v vp L L2 C) : u.cell? ⟨z2, 0, none⟩ = some (.int .i64 T.1) ∧ u.cell? ⟨z2, 1, none⟩ = some (.int .i64 T.2.1) ∧ u.cell? ⟨z2, 2, none⟩ = some (.int .i64 T.2.2.1) ∧ u.cell? ⟨z2, 3, none⟩ = some (.int .i64 T.2.2.2) :=
  ⟨h.tl.cell 0 (by simp), h.tl.cell 1 (by simp), h.tl.cell 2 (by simp), h.tl.cell 3 (by simp)⟩
end
/-- a block of its own, beside all that -/
structure Oz (w u : World) (z2 zo p m : Nat) (T : Rc) (v vp : Value) (L L2 : List Bl) (C : List Int) (zb : Nat) (b : Bl) : Prop where
  os : Os w u z2 zo p m T v vp L L2 C
  ob : Ob u zb b
  c1 : zb ≠ z2 ∧ zb ≠ zo ∧ vp.ownBlock ≠ some zb ∧ w.heap.size ≤ zb
  c2 : ∀ i, Gb p m v i → i ≠ zb
section
variable {w u u' : World} {z2 zo p m zb : Nat} {T : Rc} {v v' vp vp' : Value} {L L' L2 L2' : List Bl} {C : List Int} {b b' : Bl}
theorem Oz.to (h : Oz w u z2 zo p m T v vp L L2 C zb b) (hb : Below u.heap.size u u') : Oz w u' z2 zo p m T v vp L L2 C zb b := ⟨h.os.to hb, h.ob.to hb, h.c1, h.c2⟩
theorem Oz.mk' (h : Os w u z2 zo p m T v vp L L2 C) (hb : Below u.heap.size u u') (ho : Ob u' u.heap.size b) : Oz w u' z2 zo p m T v vp L L2 C u.heap.size b := by
  have l1 := h.tl.lt
  have l2 := h.ows.lt
  refine ⟨h.to hb, ho, ⟨by omega, by omega, fun e => ?_, h.bel.size⟩, fun i hi => ?_⟩
  · have := (h.pr.lt e).2; omega
  · have := h.gd.blt hi; omega
theorem Oz.sw (h : Oz w u z2 zo p m T v vp L L2 C zb b) (hs : Sw zb u u') (ho : Ob u' zb b') : Oz w u' z2 zo p m T v vp L L2 C zb b' := by
  obtain ⟨g1, g2, g3, g4⟩ := h.c1
  exact ⟨⟨h.os.gd.carry fun i hi => hs.block i (h.c2 i hi), h.os.tl.carry (hs.block _ (Ne.symm g1)), h.os.ows.carry (hs.block _ (Ne.symm g2)), h.os.pr.carry fun g hg => hs.block g fun e => g3 (by rw [← e]; exact hg), hs.below h.os.bel g4, h.os.a1, h.os.a2, h.os.a3, h.os.b1, h.os.b2⟩, ho, h.c1, h.c2⟩
theorem Oz.put (h : Oz w u z2 zo p m T v vp L L2 C zb b) (hg : Gd u' p m T v' L') (ht : Gt p m v v' u u') : Oz w u' z2 zo p m T v' vp L' L2 C zb b :=
  ⟨h.os.put hg ht, h.ob.carry (ht.block zb h.ob.lt fun e => h.c2 _ e rfl), h.c1, fun i hi => by
    rcases hi with rfl | rfl | hi
    · exact h.c2 _ (Or.inl rfl)
    · exact h.c2 _ (Or.inr (Or.inl rfl))
    · rcases ht.new i hi with e | e
      · exact h.c2 i (Or.inr (Or.inr e))
      · have := h.ob.lt; omega⟩
theorem Oz.app (h : Oz w u z2 zo p m T v vp L L2 C zb b) (h1 : Or u' w.heap.size vp' L2') (h2 : u.grownBy u' vp.ownBlock) (h3 : ∀ q, vp'.ownBlock = some q → vp.ownBlock = some q ∨ u.heap.size ≤ q) : Oz w u' z2 zo p m T v vp' L L2' C zb b :=
  ⟨h.os.app h1 h2 h3, h.ob.carry (h2.block zb h.ob.lt fun e => h.c1.2.2.1 e.symm), ⟨h.c1.1, h.c1.2.1, fun e => by
    rcases h3 _ e with k | k
    · exact h.c1.2.2.1 k
    · have := h.ob.lt; omega, h.c1.2.2.2⟩, h.c2⟩
theorem Oz.set (h : Oz w u z2 zo p m T v vp L L2 C zb b) (k : Nat) (x : Int) : Oz w (u.setCell ⟨zo, k, none⟩ (.int .i64 x)) z2 zo p m T v vp L L2 (C.set k x) zb b := ⟨h.os.set k x, h.ob.carry (Below.heap_setCell _ _ _ _ h.c1.2.1), h.c1, h.c2⟩
theorem Oz.bs (h : Oz w u z2 zo p m T v vp L L2 C zb b) : u.cell? ⟨zb, 0, none⟩ = some (.int .i64 b.x) ∧ u.cell? ⟨zb, 1, none⟩ = some (.int .i64 b.y) ∧ u.cell? ⟨zb, 2, none⟩ = some (.int .i64 b.w) ∧ u.cell? ⟨zb, 3, none⟩ = some (.int .i64 b.h) := ⟨h.ob.c 0 _ rfl, h.ob.c 1 _ rfl, h.ob.c 2 _ rfl, h.ob.c 3 _ rfl⟩
end
end Go.Proofs.Ytppofodijlofdaa
