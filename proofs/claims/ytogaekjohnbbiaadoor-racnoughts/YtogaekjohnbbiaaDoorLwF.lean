/- DERIVED. Two encoders and two decoders beside one another; the walk of the statement RacAll. -/
import Derived.Test.YtogaekjohnbbiaaDoorLwD
namespace Go.Proofs.YtogaekjohnbbiaaDoor
open Go.RowKit

/-- a decoder's two blocks -/
def DB (x b : Nat) (zs : List Nat) (k : Nat) : Prop := k = x ∨ (zs ≠ [] ∧ k = b)
/-- an encoder's two blocks -/
def EB (x : Nat) (d : Value) (k : Nat) : Prop := k = x ∨ d.ownBlock = some k

theorem Dc.carry2 {w w' : World} {x b : Nat} {zs : List Nat} {q c g : Nat} (h : Dc w x b zs q c g) (hr : w'.heap[x]? = w.heap[x]?) (hg : zs ≠ [] → b < w.heap.size → w'.heap[b]? = w.heap[b]?) (hs : w.heap.size ≤ w'.heap.size) : Dc w' x b zs q c g := by
  by_cases hz : zs = []
  · have ec : ∀ o, w'.cell? ⟨x, o, none⟩ = w.cell? ⟨x, o, none⟩ := fun o => World.cell?_of_block (w := w) hr
    have ef : ∀ o, w'.frozen? ⟨x, o, none⟩ = w.frozen? ⟨x, o, none⟩ := fun o => World.frozen?_of_block (w := w) hr
    obtain ⟨v, hv, hd⟩ := h.data
    have hd0 : zs.drop q = [] := by rw [hz]; simp
    refine ⟨⟨v, by rw [ec]; exact hv, ?_⟩, by rw [ec]; exact h.code, by rw [ec]; exact h.rng, by rw [ef]; exact h.thaw0, by rw [ef]; exact h.thaw1, by rw [ef]; exact h.thaw2, Nat.lt_of_lt_of_le h.low hs, h.apart, h.byt, h.len⟩
    rcases hd with h1 | ⟨o, c, h1, h2, h3, h4⟩
    · exact Or.inl h1
    · exact Or.inl ⟨hd0, _, _, by rw [h3, hd0]; rfl⟩
  · exact h.carry hr (hg hz) hs
theorem Ds.kw {w w' : World} {x b y : Nat} {d d' : Value} {zs : List Nat} {q c g : Nat} (h : Ds w x b zs q c g) (hk : Kw y d d' w w') (hn : ∀ k, DB x b zs k → ¬ EB y d k) : Ds w' x b zs q c g := by
  refine ⟨h.1.carry2 (hk.block x h.1.low (fun e => hn x (Or.inl rfl) (Or.inl e)) (fun e => hn x (Or.inl rfl) (Or.inr e))) (fun hz hb => hk.block b hb (fun e => hn b (Or.inr ⟨hz, rfl⟩) (Or.inl e)) (fun e => hn b (Or.inr ⟨hz, rfl⟩) (Or.inr e))) hk.size, h.2⟩
theorem Ds.kp2 {w w' : World} {x b y : Nat} {zs : List Nat} {q c g : Nat} (h : Ds w x b zs q c g) (hk : Kp y w w') (hn : ¬ DB x b zs y) : Ds w' x b zs q c g :=
  ⟨h.1.carry2 (hk.block x (fun e => hn (Or.inl e.symm))) (fun hz _ => hk.block b (fun e => hn (Or.inr ⟨hz, e.symm⟩))) (Nat.le_of_eq hk.size.symm), h.2⟩
theorem EnS.kp {w w' : World} {B x y : Nat} {d : Value} {T g k : Nat} (h : EnS w B x d T g k) (hk : Kp y w w') (hn : ¬ EB x d y) : EnS w' B x d T g k :=
  h.carry (hk.block x (fun e => hn (Or.inl e.symm))) (fun b hb => hk.block b (fun e => hn (Or.inr (by rw [hb, e])))) (Nat.le_of_eq hk.size.symm)
theorem EnS.kw {w w' : World} {B x y : Nat} {d e e' : Value} {T g k : Nat} (h : EnS w B x d T g k) (hk : Kw y e e' w w') (hn : ∀ k, EB x d k → ¬ EB y e k) : EnS w' B x d T g k :=
  h.carry (hk.block x h.lies.2 (fun e => hn x (Or.inl rfl) (Or.inl e)) (fun e => hn x (Or.inl rfl) (Or.inr e)))
    (fun b hb => hk.block b (h.own_lt b hb).2.1 (fun e => hn b (Or.inr hb) (Or.inl e)) (fun e => hn b (Or.inr hb) (Or.inr e))) hk.size
theorem EnS.bnd {w : World} {B x : Nat} {d : Value} {T g k : Nat} (h : EnS w B x d T g k) : ∀ i, EB x d i → B ≤ i ∧ i < w.heap.size := by
  rintro i (rfl | e)
  · exact h.lies
  · exact ⟨(h.own_lt i e).1, (h.own_lt i e).2.1⟩
theorem EB.grow {w w' : World} {x : Nat} {d d' : Value} (hk : Kw x d d' w w') {i : Nat} (h : EB x d' i) : EB x d i ∨ w.heap.size ≤ i := by
  rcases h with h | h
  · exact Or.inl (Or.inl h)
  · rcases hk.new i h with e | e
    · exact Or.inl (Or.inr e)
    · exact Or.inr e

/-- two encoders, two decoders -/
structure Al (W w : World) (x1 : Nat) (d1 : Value) (T1 g1 k1 : Nat) (x2 : Nat) (d2 : Value) (T2 g2 k2 : Nat) (zs : List Nat) (x3 b3 q3 c3 h3 x4 b4 q4 c4 h4 : Nat) : Prop where
  e1 : EnS w W.heap.size x1 d1 T1 g1 k1
  e2 : EnS w W.heap.size x2 d2 T2 g2 k2
  d3 : Ds w x3 b3 zs q3 c3 h3
  d4 : Ds w x4 b4 zs q4 c4 h4
  a12 : ∀ k, EB x1 d1 k → ¬ EB x2 d2 k
  a13 : ∀ k, EB x1 d1 k → ¬ DB x3 b3 zs k
  a14 : ∀ k, EB x1 d1 k → ¬ DB x4 b4 zs k
  a23 : ∀ k, EB x2 d2 k → ¬ DB x3 b3 zs k
  a24 : ∀ k, EB x2 d2 k → ¬ DB x4 b4 zs k
  a34 : ∀ k, DB x3 b3 zs k → ¬ DB x4 b4 zs k
  l3 : ∀ k, DB x3 b3 zs k → W.heap.size ≤ k ∧ k < w.heap.size
  l4 : ∀ k, DB x4 b4 zs k → W.heap.size ≤ k ∧ k < w.heap.size
  bel : Below W.heap.size W w
section
variable {W w w' : World} {x1 : Nat} {d1 : Value} {T1 g1 k1 x2 : Nat} {d2 : Value} {T2 g2 k2 : Nat} {zs : List Nat} {x3 b3 q3 c3 h3 x4 b4 q4 c4 h4 : Nat}
theorem Al.below (h : Al W w x1 d1 T1 g1 k1 x2 d2 T2 g2 k2 zs x3 b3 q3 c3 h3 x4 b4 q4 c4 h4) (hb : Below w.heap.size w w') : Al W w' x1 d1 T1 g1 k1 x2 d2 T2 g2 k2 zs x3 b3 q3 c3 h3 x4 b4 q4 c4 h4 :=
  ⟨h.e1.below hb, h.e2.below hb, h.d3.below hb, h.d4.below hb, h.a12, h.a13, h.a14, h.a23, h.a24, h.a34, fun k hk => ⟨(h.l3 k hk).1, Nat.lt_of_lt_of_le (h.l3 k hk).2 hb.size⟩, fun k hk => ⟨(h.l4 k hk).1, Nat.lt_of_lt_of_le (h.l4 k hk).2 hb.size⟩, h.bel.trans (hb.mono h.bel.size)⟩
theorem Al.drewN (h : Al W w x1 d1 T1 g1 k1 x2 d2 T2 g2 k2 zs x3 b3 q3 c3 h3 x4 b4 q4 c4 h4) (n : Nat) : Al W (w.drewN n) x1 d1 T1 g1 k1 x2 d2 T2 g2 k2 zs x3 b3 q3 c3 h3 x4 b4 q4 c4 h4 :=
  h.below (below_drewN (Below.refl _ _) n)
theorem Al.step1 (h : Al W w x1 d1 T1 g1 k1 x2 d2 T2 g2 k2 zs x3 b3 q3 c3 h3 x4 b4 q4 c4 h4) {d1' : Value} {T g k : Nat} (hk : Kw x1 d1 d1' w w') (he : EnS w' W.heap.size x1 d1' T g k) : Al W w' x1 d1' T g k x2 d2 T2 g2 k2 zs x3 b3 q3 c3 h3 x4 b4 q4 c4 h4 :=
  ⟨he, h.e2.kw hk (fun i a b => h.a12 i b a), h.d3.kw hk (fun i a b => h.a13 i b a), h.d4.kw hk (fun i a b => h.a14 i b a),
   fun i a b => by rcases EB.grow hk a with e | e; exact h.a12 i e b; have := (h.e2.bnd i b).2; omega,
   fun i a b => by rcases EB.grow hk a with e | e; exact h.a13 i e b; have := (h.l3 i b).2; omega,
   fun i a b => by rcases EB.grow hk a with e | e; exact h.a14 i e b; have := (h.l4 i b).2; omega,
   h.a23, h.a24, h.a34, fun k hk' => ⟨(h.l3 k hk').1, Nat.lt_of_lt_of_le (h.l3 k hk').2 hk.size⟩, fun k hk' => ⟨(h.l4 k hk').1, Nat.lt_of_lt_of_le (h.l4 k hk').2 hk.size⟩, h.bel.trans (h.e1.kwBelow hk)⟩
theorem Al.step2 (h : Al W w x1 d1 T1 g1 k1 x2 d2 T2 g2 k2 zs x3 b3 q3 c3 h3 x4 b4 q4 c4 h4) {d2' : Value} {T g k : Nat} (hk : Kw x2 d2 d2' w w') (he : EnS w' W.heap.size x2 d2' T g k) : Al W w' x1 d1 T1 g1 k1 x2 d2' T g k zs x3 b3 q3 c3 h3 x4 b4 q4 c4 h4 :=
  ⟨h.e1.kw hk h.a12, he, h.d3.kw hk (fun i a b => h.a23 i b a), h.d4.kw hk (fun i a b => h.a24 i b a),
   fun i a b => by rcases EB.grow hk b with e | e; exact h.a12 i a e; have := (h.e1.bnd i a).2; omega,
   h.a13, h.a14,
   fun i a b => by rcases EB.grow hk a with e | e; exact h.a23 i e b; have := (h.l3 i b).2; omega,
   fun i a b => by rcases EB.grow hk a with e | e; exact h.a24 i e b; have := (h.l4 i b).2; omega,
   h.a34, fun k hk' => ⟨(h.l3 k hk').1, Nat.lt_of_lt_of_le (h.l3 k hk').2 hk.size⟩, fun k hk' => ⟨(h.l4 k hk').1, Nat.lt_of_lt_of_le (h.l4 k hk').2 hk.size⟩, h.bel.trans (h.e2.kwBelow hk)⟩
theorem Al.step3 (h : Al W w x1 d1 T1 g1 k1 x2 d2 T2 g2 k2 zs x3 b3 q3 c3 h3 x4 b4 q4 c4 h4) {q c g : Nat} (hk : Kp x3 w w') (hd : Ds w' x3 b3 zs q c g) : Al W w' x1 d1 T1 g1 k1 x2 d2 T2 g2 k2 zs x3 b3 q c g x4 b4 q4 c4 h4 :=
  ⟨h.e1.kp hk (fun e => h.a13 x3 e (Or.inl rfl)), h.e2.kp hk (fun e => h.a23 x3 e (Or.inl rfl)), hd, h.d4.kp2 hk (h.a34 x3 (Or.inl rfl)), h.a12, h.a13, h.a14, h.a23, h.a24, h.a34,
   by rw [hk.size]; exact h.l3, by rw [hk.size]; exact h.l4, h.bel.trans (hk.toBelow (h.l3 x3 (Or.inl rfl)).1)⟩
theorem Al.step4 (h : Al W w x1 d1 T1 g1 k1 x2 d2 T2 g2 k2 zs x3 b3 q3 c3 h3 x4 b4 q4 c4 h4) {q c g : Nat} (hk : Kp x4 w w') (hd : Ds w' x4 b4 zs q c g) : Al W w' x1 d1 T1 g1 k1 x2 d2 T2 g2 k2 zs x3 b3 q3 c3 h3 x4 b4 q c g :=
  ⟨h.e1.kp hk (fun e => h.a14 x4 e (Or.inl rfl)), h.e2.kp hk (fun e => h.a24 x4 e (Or.inl rfl)), h.d3.kp2 hk (fun e => h.a34 x4 e (Or.inl rfl)), hd, h.a12, h.a13, h.a14, h.a23, h.a24, h.a34,
   by rw [hk.size]; exact h.l3, by rw [hk.size]; exact h.l4, h.bel.trans (hk.toBelow (h.l4 x4 (Or.inl rfl)).1)⟩

/-- a part in a block of its own -/
structure Pv (w : World) (p : Nat) (S1 S2 : Nat → Prop) (lo hi : Nat) : Prop where
  c0 : w.cell? ⟨p, 0, none⟩ = some (.int .u32 (lo : Nat))
  c1 : w.cell? ⟨p, 1, none⟩ = some (.int .u32 (hi : Nat))
  lt : p < w.heap.size
  n1 : ¬ S1 p
  n2 : ¬ S2 p
theorem Pv.below {p lo hi : Nat} {S1 S2 : Nat → Prop} (h : Pv w p S1 S2 lo hi) (hb : Below w.heap.size w w') : Pv w' p S1 S2 lo hi :=
  ⟨by rw [newCell hb p 0 h.lt]; exact h.c0, by rw [newCell hb p 1 h.lt]; exact h.c1, Nat.lt_of_lt_of_le h.lt hb.size, h.n1, h.n2⟩
theorem Pv.step1 {p lo hi : Nat} {S2 : Nat → Prop} {d1' : Value} (h : Pv w p (EB x1 d1) S2 lo hi) (hk : Kw x1 d1 d1' w w') : Pv w' p (EB x1 d1') S2 lo hi := by
  have e : w'.heap[p]? = w.heap[p]? := hk.block p h.lt (fun e => h.n1 (Or.inl e)) (fun e => h.n1 (Or.inr e))
  exact ⟨by rw [World.cell?_of_block (w := w) (a := ⟨p, 0, none⟩) e]; exact h.c0, by rw [World.cell?_of_block (w := w) (a := ⟨p, 1, none⟩) e]; exact h.c1, Nat.lt_of_lt_of_le h.lt hk.size, fun a => by rcases EB.grow hk a with e | e; exact h.n1 e; have := h.lt; omega, h.n2⟩
theorem Pv.step2 {p lo hi : Nat} {S1 : Nat → Prop} {d2' : Value} (h : Pv w p S1 (EB x2 d2) lo hi) (hk : Kw x2 d2 d2' w w') : Pv w' p S1 (EB x2 d2') lo hi := by
  have e : w'.heap[p]? = w.heap[p]? := hk.block p h.lt (fun e => h.n2 (Or.inl e)) (fun e => h.n2 (Or.inr e))
  exact ⟨by rw [World.cell?_of_block (w := w) (a := ⟨p, 0, none⟩) e]; exact h.c0, by rw [World.cell?_of_block (w := w) (a := ⟨p, 1, none⟩) e]; exact h.c1, Nat.lt_of_lt_of_le h.lt hk.size, h.n1, fun a => by rcases EB.grow hk a with e | e; exact h.n2 e; have := h.lt; omega⟩
theorem Pv.kp {p lo hi y : Nat} {S1 S2 : Nat → Prop} (h : Pv w p S1 S2 lo hi) (hk : Kp y w w') (hy : p ≠ y) : Pv w' p S1 S2 lo hi := by
  have e : w'.heap[p]? = w.heap[p]? := hk.block p hy
  exact ⟨by rw [World.cell?_of_block (w := w) (a := ⟨p, 0, none⟩) e]; exact h.c0, by rw [World.cell?_of_block (w := w) (a := ⟨p, 1, none⟩) e]; exact h.c1, by rw [hk.size]; exact h.lt, h.n1, h.n2⟩
theorem Pv.made {S1 S2 : Nat → Prop} (lo hi : Nat) (h1 : ∀ k, S1 k → k < w.heap.size) (h2 : ∀ k, S2 k → k < w.heap.size) : Pv (w.alloc (.cells #[.int .u32 (lo : Nat), .int .u32 (hi : Nat)] 31)) w.heap.size S1 S2 lo hi :=
  ⟨by simp, by simp, by simp, fun e => by have := h1 _ e; omega, fun e => by have := h2 _ e; omega⟩
end

def AlInv (W : World) (n : Nat) (zs : List Nat) (x1 x2 x3 b3 x4 b4 : Nat) (i : Value) (wr : World) : Prop :=
  ∃ (k T g e q c h : Nat) (d1 d2 : Value), i = .int .i64 k ∧ k ≤ n ∧ k ≤ 100 ∧ Ev T g e ∧ e ≤ 2 * k ∧ Al W wr x1 d1 T g e x2 d2 T g e zs x3 b3 q c h x4 b4 q c h

theorem enLow {w : World} {B B' x : Nat} {d : Value} {T g k : Nat} (h : EnS w B x d T g k) (hb : B' ≤ B) : EnS w B' x d T g k := by
  obtain ⟨ys, low, h1, h2⟩ := h
  exact ⟨ys, low, ⟨h1.data, own_mono h1.own hb, h1.apart, h1.low, h1.rng, h1.thaw0, h1.thaw1, h1.thaw2, ⟨Nat.le_trans hb h1.lies.1, h1.lies.2⟩, h1.byt⟩, h2⟩

set_option maxHeartbeats 2000000 in
set_option maxRecDepth 100000 in
theorem all_walk (W : World) (a : Option Addr) (cp : Nat) (L : List (Nat × Nat)) (vb : Value) (zs : List Nat) (hL : PtAt W (.slice a L.length cp) L) (hLl : L.length ≤ 140737488355328) (hb : SrcOf W vb zs) (hz : ∀ i, zs.getD i 0 < 256) (hzl : zs.length ≤ 140737488355328) :
    Calls Tryd.prog 8 #[.slice a L.length cp, vb] W fun e w' => e = .returned (.bool true) ∧ Below W.heap.size W w' := by
  have HPt : Hid (PtAt W (.slice a L.length cp) L) := hL
  have HSr : Hid (SrcOf W vb zs) := hb
  clear hL hb
  go_enter Tryd.func8, Tryd.ntmps8
  go_wp2_with fail
  refine (works_true W).mono ?_; rintro e u1 ⟨rfl, hu1⟩
  go_wp2_with fail
  refine (new_ens u1).mono ?_; rintro e u2 ⟨rfl, hw2, hb2⟩
  have HU2 : Hid (Below W.heap.size W u2) := hu1.trans (hb2.mono hu1.size)
  have hE1 := enLow hw2 hu1.size
  have hs1 := hE1.lies
  clear hw2 hb2
  go_wp2_with fail
  refine (new_ens u2).mono ?_; rintro e u3 ⟨rfl, hw3, hb3⟩
  have HU3 : Hid (Below W.heap.size W u3) := HU2.out.trans (hb3.mono HU2.out.size)
  have hE2 := enLow hw3 HU2.out.size
  have hE1 := hE1.below hb3
  have hs2 := hE2.lies
  clear hw3 hb3
  go_wp2_with fail
  refine (read_core (HSr.out.below HU3.out) hz hzl).mono ?_; rintro e u4 ⟨x3, rfl, b3, hd3, hx3, hb3, hb3l, hbel3⟩
  have HU4 : Hid (Below W.heap.size W u4) := HU3.out.trans (hbel3.mono HU3.out.size)
  have hE1 := hE1.below hbel3
  have hE2 := hE2.below hbel3
  have hs3 := hd3.low
  have hap3 := hd3.apart
  clear hbel3
  go_wp2_with fail
  refine (read_core (HSr.out.below HU4.out) hz hzl).mono ?_; rintro e u5 ⟨x4, rfl, b4, hd4, hx4, hb4, hb4l, hbel4⟩
  have HU5 : Hid (Below W.heap.size W u5) := HU4.out.trans (hbel4.mono HU4.out.size)
  have hE1 := hE1.below hbel4
  have hE2 := hE2.below hbel4
  have hd3 := hd3.below hbel4
  have hsz := HU4.out.size
  have hsz3 := HU3.out.size
  have hsz5 := hbel4.size
  have hAl : Al W u5 u1.heap.size (.slice none 0 0) 0 4294967295 0 u2.heap.size (.slice none 0 0) 0 4294967295 0 zs x3 b3 4 (dFirst zs) 4294967295 x4 b4 4 (dFirst zs) 4294967295 := by
    have hlow4 := hd4.low
    refine ⟨hE1, hE2, ⟨hd3, dFirst_ok⟩, ⟨hd4, dFirst_ok⟩, ?_, ?_, ?_, ?_, ?_, ?_, ?_, ?_, HU5.out⟩
    · rintro k (rfl | e) (h | h)
      · omega
      · cases h
      · cases e
      · cases e
    · rintro k (rfl | e) (h | h)
      · omega
      · omega
      · cases e
      · cases e
    · rintro k (rfl | e) (h | h)
      · omega
      · omega
      · cases e
      · cases e
    · rintro k (rfl | e) (h | h)
      · omega
      · omega
      · cases e
      · cases e
    · rintro k (rfl | e) (h | h)
      · omega
      · omega
      · cases e
      · cases e
    · rintro k (rfl | ⟨e1, rfl⟩) (h | h)
      · omega
      · omega
      · have := hb3l e1; omega
      · have := hb3l e1; omega
    · rintro k (rfl | ⟨e1, rfl⟩)
      · omega
      · have := hb3l e1; omega
    · rintro k (rfl | ⟨e1, rfl⟩)
      · omega
      · have := hb4l e1; omega
  clear hE1 hE2 hd3 hd4 hs1 hs2 hs3 hb3l hb4l hap3 hx3 hx4 hb3 hb4 hbel4 HU2 HU3 HU4 HU5 hsz hsz3 hsz5 hu1
  generalize u1.heap.size = x1 at *
  generalize u2.heap.size = x2 at *
  go_wp2_with fail
  go_loopw [9] (fun i wr => AlInv W L.length zs x1 x2 x3 b3 x4 b4 i wr) (fun i _ => L.length - (intOf i).toNat)
  case atStart => exact ⟨0, 0, 4294967295, 0, 4, dFirst zs, 4294967295, _, _, rfl, by omega, by omega, Ev.first, by omega, hAl⟩
  case round =>
    clear hAl HSr hz hzl
    obtain ⟨k, T, g, e, q, c, h, d1, d2, rfl, hk1, hk2, hev, hek, hA⟩ := hrel
    by_cases hlt : k < L.length ∧ k < 100
    · obtain ⟨hlt1, hlt2⟩ := hlt
      obtain ⟨pb, off, rfl, hbl, hq0, hq1, hP, hQ⟩ := HPt.out.cells k hlt1
      generalize L.getD k (0, 0) = el at hq0 hq1 hP hQ
      obtain ⟨P, Q⟩ := el
      simp only at hq0 hq1 hP hQ
      replace hq0 : Hid _ := hq0
      replace hq1 : Hid _ := hq1
      have hmo := may_ok P Q
      have HMO : Hid _ := hmo
      have HMA : Hid _ := fun u => may_any P Q u hP hQ
      clear hmo
      have HNE := ePut_ok (lo := mLo P) (hi := mHi P Q) hev HMO.out.1 HMO.out.2
      have HNE' : Hid _ := HNE
      clear HNE
      generalize mLo P = ml at *
      generalize mHi P Q = mh at *
      have HE : Hid (Ev T g e) := hev
      have HEK : Hid (e ≤ 2 * k) := hek
      have HPU1 : Hid (∀ u d, EnS u W.heap.size x1 d T g e → Calls Tryd.prog 11 #[.pointer (some ⟨x1, 0, none⟩), .int .u32 ml, .int .u32 mh] u fun ee w' => ee = .returned (.int .i64 0) ∧ EnK u w' W.heap.size x1 d (ePut T g e ml mh).1 (ePut T g e ml mh).2.1 (ePut T g e ml mh).2.2) := fun u d h => put_yes h HE.out (by have := HEK.out; omega) ml mh HMO.out.1 HMO.out.2
      have HPU2 : Hid (∀ u d, EnS u W.heap.size x2 d T g e → Calls Tryd.prog 11 #[.pointer (some ⟨x2, 0, none⟩), .int .u32 ml, .int .u32 mh] u fun ee w' => ee = .returned (.int .i64 0) ∧ EnK u w' W.heap.size x2 d (ePut T g e ml mh).1 (ePut T g e ml mh).2.1 (ePut T g e ml mh).2.2) := fun u d h => put_yes h HE.out (by have := HEK.out; omega) ml mh HMO.out.1 HMO.out.2
      have HPA : Hid (∀ u d, EnS u W.heap.size x2 d T g e → Calls Tryd.prog 11 #[.pointer (some ⟨x2, 0, none⟩), .int .u32 0, .int .u32 32768] u fun ee w' => ee = .returned (.int .i64 0) ∧ EnK u w' W.heap.size x2 d T g e) := fun u d h => by
        have := put_yes h HE.out (by have := HEK.out; omega) 0 32768 (by omega) (by omega)
        rw [ePut_all HE.out.least] at this
        exact this
      have HPN : Hid (∀ u d, EnS u W.heap.size x2 d T g e → Calls Tryd.prog 11 #[.pointer (some ⟨x2, 0, none⟩), .int .u32 mh, .int .u32 ml] u fun ee w' => ee = .returned (.int .i64 2) ∧ w' = u) := fun u d h => put_no h.rng (by have := HE.out.least; omega) mh ml (by have := HMO.out; omega)
      clear hev hek
      generalize ePut T g e ml mh = s at *
      obtain ⟨T', g', e'⟩ := s
      simp only at HNE' HPU1 HPU2
      have HVA3 : Hid (∀ u, Ds u x3 b3 zs q c h → Calls Tryd.prog 20 #[.pointer (some ⟨x3, 0, none⟩)] u fun e w' => e = .returned (.tuple #[.int .u32 (dVal c h : Nat), .int .i64 0]) ∧ ∃ k, w' = u.drewN k) := fun u h => value_dc h.1 h.2
      have HVA4 : Hid (∀ u, Ds u x4 b4 zs q c h → Calls Tryd.prog 20 #[.pointer (some ⟨x4, 0, none⟩)] u fun e w' => e = .returned (.tuple #[.int .u32 (dVal c h : Nat), .int .i64 0]) ∧ ∃ k, w' = u.drewN k) := fun u h => value_dc h.1 h.2
      have HTK3 : Hid (∀ u, Ds u x3 b3 zs q c h → Calls Tryd.prog 23 #[.pointer (some ⟨x3, 0, none⟩), .int .u32 (aLo (dVal c h) P : Nat), .int .u32 (aHi (dVal c h) Q : Nat)] u fun e w' => e = .returned (.int .i64 0) ∧ Ds w' x3 b3 zs (dTake zs c h q (aLo (dVal c h) P) (aHi (dVal c h) Q)).2.2 (dTake zs c h q (aLo (dVal c h) P) (aHi (dVal c h) Q)).1 (dTake zs c h q (aLo (dVal c h) P) (aHi (dVal c h) Q)).2.1 ∧ Kp x3 u w') := fun u hh => take_ds hh _ _ (about_may P Q)
      have HTK4 : Hid (∀ u, Ds u x4 b4 zs q c h → Calls Tryd.prog 23 #[.pointer (some ⟨x4, 0, none⟩), .int .u32 (aLo (dVal c h) P : Nat), .int .u32 (aHi (dVal c h) Q : Nat)] u fun e w' => e = .returned (.int .i64 0) ∧ Ds w' x4 b4 zs (dTake zs c h q (aLo (dVal c h) P) (aHi (dVal c h) Q)).2.2 (dTake zs c h q (aLo (dVal c h) P) (aHi (dVal c h) Q)).1 (dTake zs c h q (aLo (dVal c h) P) (aHi (dVal c h) Q)).2.1 ∧ Kp x4 u w') := fun u hh => take_ds hh _ _ (about_may P Q)
      have HTA4 : Hid (∀ u, Ds u x4 b4 zs q c h → Calls Tryd.prog 23 #[.pointer (some ⟨x4, 0, none⟩), .int .u32 0, .int .u32 32768] u fun e w' => e = .returned (.int .i64 0) ∧ Ds w' x4 b4 zs q c h ∧ Kp x4 u w') := fun u hh => by
        have := take_ds hh 0 32768 (dMay_all c h)
        rw [dTake_all zs hh.2.least] at this
        exact this
      have hv := dVal_lt c h
      have HAB : Hid _ := fun u => about_any (dVal c h) P Q u hv hP hQ
      clear hv
      generalize dTake zs c h q (aLo (dVal c h) P) (aHi (dVal c h) Q) = o at *
      obtain ⟨c', h', q'⟩ := o
      generalize aLo (dVal c h) P = al at *
      generalize aHi (dVal c h) Q = ah at *
      generalize dVal c h = v at *
      simp only at HTK3 HTK4
      obtain ⟨cc0, cc1⟩ := ptCells hA.bel hbl hq0 hq1
      go_wp2_with fail
      refine (HMA.out _).mono ?_; rintro ee wa ⟨rfl, hba⟩
      have hAa := hA.below hba
      clear hA hba cc0 cc1
      have hAp := hAa.below ((Below.refl _ _).alloc (Nat.le_refl _) (.cells #[.int .u32 (ml : Nat), .int .u32 (mh : Nat)] 31))
      have hPp := Pv.made (w := wa) (S1 := EB x1 d1) (S2 := EB x2 d2) ml mh (fun i hi => (hAa.e1.bnd i hi).2) (fun i hi => (hAa.e2.bnd i hi).2)
      clear hAa
      go_wp2_with fail
      refine (HPU1.out _ _ hAp.e1).mono ?_; rintro ee w1 ⟨rfl, d1', hE1, hK1⟩
      have hA1 := hAp.step1 hK1 hE1
      have hP1 := hPp.step1 hK1
      clear hAp hPp hK1 hE1
      go_wp2_with fail
      refine (HPA.out _ _ hA1.e2).mono ?_; rintro ee w2 ⟨rfl, d2', hE2, hK2⟩
      have hA2 := hA1.step2 hK2 hE2
      have hP2 := hP1.step2 hK2
      have cc0 := hP2.c0
      have cc1 := hP2.c1
      clear hA1 hP1 hK2 hE2
      go_wp2_with fail
      refine (HPN.out _ _ hA2.e2).mono ?_; rintro ee w3 ⟨rfl, rfl⟩
      go_wp2_with fail
      refine (HPU2.out _ _ hA2.e2).mono ?_; rintro ee w4 ⟨rfl, d2'', hE4, hK4⟩
      have hA4 := hA2.step2 hK4 hE4
      clear hA2 hP2 hK4 hE4 cc0 cc1
      go_wp2_with fail
      refine (bytes_ens hA4.e1 HNE'.out.1 (by have := HEK.out; have := HNE'.out.2.2; omega)).mono ?_; rintro ee w5 ⟨v5, rfl, y5, z5, hby5, hy5, hb5⟩
      have hA5 := hA4.below hb5
      clear hA4 hb5
      go_wp2_with fail
      refine (bytes_ens hA5.e2 HNE'.out.1 (by have := HEK.out; have := HNE'.out.2.2; omega)).mono ?_; rintro ee w6 ⟨v6, rfl, y6, z6, hby6, hy6, hb6⟩
      have hA6 := hA5.below hb6
      have hby5' := hby5.below hb6 hby5.lies
      have HU : Hid (z5 = z6) := hby5'.uniq hby6
      clear hA5 hb6 hby5
      go_wp2_with fail
      have c7 := eqBytes_rr hby5'.rr hby6.rr (by have := hby5'.len; have := HEK.out; have := HNE'.out.2.2; omega) hby5'.byt hby6.byt
      rw [show decide (z5 = z6) = true from by simp [HU.out]] at c7
      refine c7.mono ?_; rintro ee w7 ⟨rfl, hb7⟩
      have hA7 := hA6.below hb7
      clear c7 hA6 hb7 hby5' hby6 HU
      go_wp2_with fail
      refine (HVA3.out _ hA7.d3).mono ?_; rintro ee w8 ⟨rfl, n8, rfl⟩
      have hA8 := hA7.drewN n8
      clear hA7
      generalize w7.drewN n8 = w8 at *
      go_wp2_with fail
      refine (HVA4.out _ hA8.d4).mono ?_; rintro ee w9 ⟨rfl, n9, rfl⟩
      have hA9 := hA8.drewN n9
      clear hA8
      generalize w8.drewN n9 = w9 at *
      obtain ⟨cc0, cc1⟩ := ptCells hA9.bel hbl hq0 hq1
      go_wp2_with fail
      refine (HAB.out _).mono ?_; rintro ee wb ⟨rfl, hbb⟩
      have hAb := hA9.below hbb
      clear hA9 hbb cc0 cc1
      have hAq := hAb.below ((Below.refl _ _).alloc (Nat.le_refl _) (.cells #[.int .u32 (al : Nat), .int .u32 (ah : Nat)] 31))
      have hPq := Pv.made (w := wb) (S1 := DB x3 b3 zs) (S2 := DB x4 b4 zs) al ah (fun i hi => (hAb.l3 i hi).2) (fun i hi => (hAb.l4 i hi).2)
      clear hAb
      have hp3 : wb.heap.size ≠ x3 := fun e => hPq.n1 (Or.inl e)
      have hp4 : wb.heap.size ≠ x4 := fun e => hPq.n2 (Or.inl e)
      go_wp2_with fail
      refine (HTK3.out _ hAq.d3).mono ?_; rintro ee w10 ⟨rfl, hD10, hK10⟩
      have hA10 := hAq.step3 hK10 hD10
      have hP10 := hPq.kp hK10 hp3
      clear hAq hPq hK10 hD10
      go_wp2_with fail
      refine (HTA4.out _ hA10.d4).mono ?_; rintro ee w11 ⟨rfl, hD11, hK11⟩
      have hA11 := hA10.step4 hK11 hD11
      have hP11 := hP10.kp hK11 hp4
      have cc0 := hP11.c0
      have cc1 := hP11.c1
      clear hA10 hP10 hK11 hD11
      go_wp2_with fail
      refine (HTK4.out _ hA11.d4).mono ?_; rintro ee w12 ⟨rfl, hD12, hK12⟩
      have hA12 := hA11.step4 hK12 hD12
      clear hA11 hP11 hK12 hD12 cc0 cc1
      go_wp2_with fail
      go_roundw
      case rel => exact ⟨k + 1, T', g', e', q', c', h', _, _, by go_num, by omega, by omega, HNE'.out.1, by have := HEK.out; have := HNE'.out.2.2; omega, hA12⟩
      case measure => simp [intOf]; omega
    · by_cases h1 : k < L.length
      · have h2 : ¬ k < 100 := by omega
        have HB : Hid _ := hA.bel
        clear hA
        go_wp2_with fail
        go_ret
        exact ⟨rfl, HB.out⟩
      · have HB : Hid _ := hA.bel
        clear hA
        go_wp2_with fail
        go_ret
        exact ⟨rfl, HB.out⟩

end Go.Proofs.YtogaekjohnbbiaaDoor
