/- DERIVED. Several texts in one: The walks of 'may' and of 'about'. The walk of the statements' own 'works': a part is put, and found. A list of parts that lies in memory; the walk of the statement RacEndless. The document's own decoder (zoetroperef02.Decoder) in memory, and the walks of its part, next, Value. The document's own encoder (zoetroperef02.Encoder) in memory, and the walks of its New and goes. The number of the document's encoder (EfS), and the walk of its Put. The walks of the document's decoder's Take and Read, and of CopyBytes. The walks of CopyBytes and of the document's Read. The walk of the document's encoder's Bytes. -/
import Derived.Test.YtppanogpeengnaaDoorL2LwA
import Derived.Handy
namespace Go.Proofs.YtppanogpeengnaaDoor.L2
open Go.RowKit

/-- a part that may be -/
def mLo (lo : Nat) : Nat := lo % 32768
def mHi (lo hi : Nat) : Nat := lo % 32768 + 1 + hi % (32768 - lo % 32768)
theorem may_ok (lo hi : Nat) : mLo lo < mHi lo hi ∧ mHi lo hi ≤ 32768 := by
  unfold mLo mHi
  have := Nat.mod_lt hi (show 32768 - lo % 32768 > 0 by omega)
  omega
theorem ret_part {a b c d : Int} (h : a = c) (h' : b = d) : Ending.returned (.agg #[.int .u32 a, .int .u32 b]) = .returned (.agg #[.int .u32 c, .int .u32 d]) := by rw [h, h']

/-- a part that has the place v -/
def aLo (v lo : Nat) : Nat := lo % (v + 1)
def aHi (v hi : Nat) : Nat := v + 1 + hi % (32768 - v)
theorem about_ok {v : Nat} (hv : v < 32768) (lo hi : Nat) : aLo v lo ≤ v ∧ v < aHi v hi ∧ aHi v hi ≤ 32768 := by
  unfold aLo aHi
  have h1 := Nat.mod_lt lo (show v + 1 > 0 by omega)
  have h2 := Nat.mod_lt hi (show 32768 - v > 0 by omega)
  omega
theorem about_may {c g : Nat} (lo hi : Nat) : dMay c g (aLo (dVal c g) lo) (aHi (dVal c g) hi) := about_ok (dVal_lt c g) lo hi

end Go.Proofs.YtppanogpeengnaaDoor.L2

namespace Go.Proofs.YtppanogpeengnaaDoor.L2
open Go.RowKit

theorem byt_mem {ys : List Nat} (h : ∀ y ∈ ys, y < 256) : ∀ i, ys.getD i 0 < 256 := by
  intro i
  rw [List.getD_eq_getElem?_getD]
  by_cases hi : i < ys.length
  · rw [List.getElem?_eq_getElem hi]; exact h _ (List.getElem_mem _)
  · rw [List.getElem?_eq_none (by omega)]; simp
/-- the bytes of a number, told -/
theorem By.eq {w : World} {v : Value} {b : Nat} {zs : List Nat} {T k : Nat} (h : By w v b zs T k) (ys : List Nat) (l2 : ys.length ≤ k + 4) (hv : pre ys (k + 4) = T) (hb : ∀ y ∈ ys, y < 256) (hl : 0 < ys.length → ys.getD (ys.length - 1) 0 ≠ 0) : zs = ys := by
  have hp := pre_inj h.byt (byt_mem hb) (k + 4) (h.val.trans hv.symm)
  have l1 := h.len
  have hall : ∀ i, zs.getD i 0 = ys.getD i 0 := fun i => by
    by_cases hi : i < k + 4
    · exact hp i hi
    · rw [getD_len zs (by omega), getD_len ys (by omega)]
  have hlen : zs.length = ys.length := by
    rcases Nat.lt_trichotomy zs.length ys.length with e | e | e
    · exact absurd ((hall _).symm.trans (getD_len zs (by omega))) (hl (by omega))
    · exact e
    · exact absurd ((hall _).trans (getD_len ys (by omega))) (h.last (by omega))
  exact list_eq_of_getD hlen (fun j _ => hall j)

/-- an encoder as it is at first -/
theorem new_ens (w : World) : Calls Tryd.prog 41 #[] w fun e w' => e = .returned (.pointer (some ⟨w.heap.size, 0, none⟩)) ∧ EnS w' w.heap.size w.heap.size (.slice none 0 0) 0 4294967295 0 ∧ Below w.heap.size w w' := by
  refine (new_any w).mono ?_
  rintro e w' ⟨rfl, h1, h2⟩
  exact ⟨rfl, ⟨[], 0, h1, rfl, by simp [pre], by omega⟩, h2⟩

theorem Kp.toBelow {r B : Nat} {w w' : World} (h : Kp r w w') (hB : B ≤ r) : Below B w w' := ⟨h.os, h.tape, h.output, Nat.le_of_eq h.size.symm, fun k hk => h.block k (by omega)⟩
theorem below_drewN {B : Nat} {w u : World} (h : Below B w u) (n : Nat) : Below B w (u.drewN n) := ⟨h.os, h.tape, h.output, h.size, h.block⟩

end Go.Proofs.YtppanogpeengnaaDoor.L2

namespace Go.Proofs.YtppanogpeengnaaDoor.L2
open Go.RowKit

/-- a fact that no step of a walk may unfold -/
structure Bx (p : Prop) : Prop where
  out : p

/-- a list of parts that lies in memory -/
def PtAt (w : World) (v : Value) (L : List (Nat × Nat)) : Prop :=
  (L = [] ∧ ∃ a c, v = .slice a 0 c) ∨ ∃ b off c, v = .slice (some ⟨b, off, none⟩) L.length c ∧ b < w.heap.size ∧
    ∀ j, j < L.length → w.cell? ⟨b, off + j * 2, none⟩ = some (.int .u32 ((L.getD j (0, 0)).1 : Nat)) ∧ w.cell? ⟨b, off + j * 2 + 1, none⟩ = some (.int .u32 ((L.getD j (0, 0)).2 : Nat)) ∧ (L.getD j (0, 0)).1 < 4294967296 ∧ (L.getD j (0, 0)).2 < 4294967296
theorem PtAt.cells {w : World} {a : Option Addr} {n c : Nat} {L : List (Nat × Nat)} (h : PtAt w (.slice a n c) L) (j : Nat) (hj : j < L.length) : ∃ b off, a = some ⟨b, off, none⟩ ∧ b < w.heap.size ∧
    w.cell? ⟨b, off + j * 2, none⟩ = some (.int .u32 ((L.getD j (0, 0)).1 : Nat)) ∧ w.cell? ⟨b, off + j * 2 + 1, none⟩ = some (.int .u32 ((L.getD j (0, 0)).2 : Nat)) ∧ (L.getD j (0, 0)).1 < 4294967296 ∧ (L.getD j (0, 0)).2 < 4294967296 := by
  rcases h with ⟨rfl, _⟩ | ⟨b, off, c', hv, hb, hc⟩
  · simp at hj
  · simp only [Value.slice.injEq] at hv
    exact ⟨b, off, hv.1, hb, hc j hj⟩
theorem ptCells {W w : World} {b off k P Q : Nat} (hb : Below W.heap.size W w) (hbl : b < W.heap.size) (h0 : Hid (W.cell? ⟨b, off + k * 2, none⟩ = some (.int .u32 (P : Nat)))) (h1 : Hid (W.cell? ⟨b, off + k * 2 + 1, none⟩ = some (.int .u32 (Q : Nat)))) :
    w.cell? ⟨b, off + k * 2, none⟩ = some (.int .u32 (P : Nat)) ∧ w.cell? ⟨b, off + k * 2 + 1, none⟩ = some (.int .u32 (Q : Nat)) := by
  rw [hb.cell (p := ⟨b, off + k * 2, none⟩) hbl, hb.cell (p := ⟨b, off + k * 2 + 1, none⟩) hbl]
  exact ⟨h0.out, h1.out⟩
theorem SrcOf.below {W u : World} {v : Value} {zs : List Nat} (h : SrcOf W v zs) (hb : Below W.heap.size W u) : SrcOf u v zs := by
  rcases h with h | ⟨ad, cc, rfl, hc⟩
  · exact Or.inl h
  · exact Or.inr ⟨ad, cc, rfl, fun j hj => by rw [hb.cell (World.block_lt_of_cell? W _ (hc j hj))]; exact hc j hj⟩

/-- a decoder in block x of the bytes zs, wherever it stands -/
def Ds (w : World) (x b : Nat) (zs : List Nat) (q c g : Nat) : Prop := Dc w x b zs q c g ∧ Dk c g
theorem Ds.same {w w' : World} {x b : Nat} {zs : List Nat} {q c g : Nat} (h : Ds w x b zs q c g) (e : w'.heap = w.heap) : Ds w' x b zs q c g := ⟨h.1.same e, h.2⟩
theorem Ds.below {w w' : World} {x b : Nat} {zs : List Nat} {q c g : Nat} (h : Ds w x b zs q c g) (hb : Below w.heap.size w w') : Ds w' x b zs q c g := ⟨h.1.below hb, h.2⟩
theorem Ds.kp {w w' : World} {x b y : Nat} {zs : List Nat} {q c g : Nat} (h : Ds w x b zs q c g) (hk : Kp y w w') (hx : x ≠ y) (hb : b ≠ y) : Ds w' x b zs q c g := ⟨h.1.kp hk hx hb, h.2⟩
/-- a decoder that is narrowed -/
theorem take_ds {w : World} {x b : Nat} {zs : List Nat} {q c g : Nat} (h : Ds w x b zs q c g) (lo hi : Nat) (hm : dMay c g lo hi) :
    Calls Tryd.prog 102 #[.pointer (some ⟨x, 0, none⟩), .int .u32 lo, .int .u32 hi] w fun e w' => e = .returned (.int .i64 0) ∧ Ds w' x b zs (dTake zs c g q lo hi).2.2 (dTake zs c g q lo hi).1 (dTake zs c g q lo hi).2.1 ∧ Kp x w w' := by
  refine (take_yes h.1 h.2 lo hi hm).mono ?_
  rintro e w' ⟨rfl, h1, h2⟩
  have ho := dTake_ok (q := q) h.1.byt hm h.2.below h.2.least h.2.most
  exact ⟨rfl, ⟨h1, ⟨ho.1, ho.2.1, ho.2.2.1⟩⟩, h2⟩

def EdInv (W : World) (n x b : Nat) (zs : List Nat) (i : Value) (wr : World) : Prop :=
  ∃ (k q c g : Nat), i = .int .i64 k ∧ k ≤ n ∧ k ≤ 500 ∧ Ds wr x b zs q c g ∧ Below W.heap.size W wr

end Go.Proofs.YtppanogpeengnaaDoor.L2

namespace Go.Proofs.YtppanogpeengnaaDoor.L2
open Go.RowKit

theorem mul_cast64 {g lo : Nat} (hl : lo ≤ 32768) (hg : g < 4294967296) : (g : Int) / 32768 * lo = ((g / 32768 * lo : Nat) : Int) ∧ g / 32768 * lo < 4294967296 := by
  have h := Nat.lt_of_le_of_lt (pBeg_le (g := g) hl) hg
  unfold pBeg at h
  exact ⟨by rw [Int.natCast_mul, Int.natCast_ediv]; rfl, h⟩

set_option maxRecDepth 100000 in
set_option maxHeartbeats 400000 in
theorem rpart_any (g lo hi : Nat) (w : World) (hg : g < 4294967296) (hl : lo < hi) (hh : hi ≤ 32768) :
    Calls Tryd.prog 88 #[.int .u64 g, .int .u32 lo, .int .u32 hi] w fun e w' => e = .returned (.tuple #[.int .u64 (pBeg g lo : Nat), .int .u64 (pWid g lo hi : Nat)]) ∧ w' = w := by
  have h1 := pBeg_le (g := g) (lo := lo) (by omega)
  have m1 := mul_cast64 (g := g) (lo := lo) (by omega) hg
  have m2 := mul_cast64 (g := g) (lo := hi - lo) (by omega) hg
  have M1 : Hid _ := m1
  have M2 : Hid _ := m2
  clear m1 m2
  unfold pWid
  by_cases h : hi = 32768
  · subst h
    rw [if_pos rfl]
    unfold pBeg at *
    have H1 : Hid (g / 32768 * lo ≤ g) := h1
    clear h1
    go_enter Tryd.func88, Tryd.ntmps88
    go_wp2
    go_ret2
    have e1 := M1.out
    have e2 := H1.out
    refine ⟨ret_two ?_ ?_, rfl⟩
    · rw [IntKind.wrap_u64, e1.1]; omega
    · rw [IntKind.wrap_u64, IntKind.wrap_u64, e1.1]; omega
  · rw [if_neg h]
    unfold pBeg at *
    have H1 : Hid (g / 32768 * lo ≤ g) := h1
    clear h1
    go_enter Tryd.func88, Tryd.ntmps88
    go_wp2
    go_ret2
    have e1 := M1.out
    have e2 := M2.out
    refine ⟨ret_two ?_ ?_, rfl⟩
    · rw [IntKind.wrap_u64, e1.1]; omega
    · rw [show ((hi : Int) - lo) = ((hi - lo : Nat) : Int) from by omega, IntKind.wrap_u64, e2.1]; omega

/-- the document's decoder in block x of the bytes zs, which lie in block b -/
structure Df (w : World) (x b : Nat) (zs : List Nat) (q c g : Nat) : Prop where
  data : ∃ v, w.cell? ⟨x, 0, none⟩ = some v ∧ Dt w v b zs
  place : w.cell? ⟨x, 1, none⟩ = some (.int .i64 (q : Nat))
  code : w.cell? ⟨x, 2, none⟩ = some (.int .u64 (c : Nat))
  rng : w.cell? ⟨x, 3, none⟩ = some (.int .u64 (g : Nat))
  thaw1 : w.frozen? ⟨x, 1, none⟩ = false
  thaw2 : w.frozen? ⟨x, 2, none⟩ = false
  thaw3 : w.frozen? ⟨x, 3, none⟩ = false
  low : x < w.heap.size
  apart : b ≠ x
  byt : ∀ i, zs.getD i 0 < 256
  len : zs.length ≤ 140737488355328
  plc : q ≤ 1099511627776

theorem Df.carry {w w' : World} {x b : Nat} {zs : List Nat} {q c g : Nat} (h : Df w x b zs q c g) (hr : w'.heap[x]? = w.heap[x]?) (hg : zs ≠ [] → b < w.heap.size → w'.heap[b]? = w.heap[b]?) (hs : w.heap.size ≤ w'.heap.size) : Df w' x b zs q c g := by
  have ec : ∀ o, w'.cell? ⟨x, o, none⟩ = w.cell? ⟨x, o, none⟩ := fun o => World.cell?_of_block (w := w) hr
  have ef : ∀ o, w'.frozen? ⟨x, o, none⟩ = w.frozen? ⟨x, o, none⟩ := fun o => World.frozen?_of_block (w := w) hr
  refine ⟨?_, by rw [ec]; exact h.place, by rw [ec]; exact h.code, by rw [ec]; exact h.rng, by rw [ef]; exact h.thaw1, by rw [ef]; exact h.thaw2, by rw [ef]; exact h.thaw3, Nat.lt_of_lt_of_le h.low hs, h.apart, h.byt, h.len, h.plc⟩
  obtain ⟨v, hv, hd⟩ := h.data
  refine ⟨v, by rw [ec]; exact hv, ?_⟩
  rcases hd with h1 | ⟨o, c, h1, h2, h3, h4⟩
  · exact Or.inl h1
  · by_cases hz : zs = []
    · exact Or.inl ⟨hz, _, _, by rw [h3, hz]; rfl⟩
    · exact Or.inr ⟨o, c, Nat.lt_of_lt_of_le h1 hs, h2, h3, fun i hi => by rw [World.cell?_of_block (w := w) (a := ⟨b, o + i, none⟩) (hg hz h1)]; exact h4 i hi⟩
theorem Df.same {w w' : World} {x b : Nat} {zs : List Nat} {q c g : Nat} (h : Df w x b zs q c g) (e : w'.heap = w.heap) : Df w' x b zs q c g :=
  h.carry (by rw [e]) (fun _ _ => by rw [e]) (by rw [e]; exact Nat.le_refl _)
theorem Df.below {w w' : World} {x b : Nat} {zs : List Nat} {q c g : Nat} (h : Df w x b zs q c g) (hb : Below w.heap.size w w') : Df w' x b zs q c g :=
  h.carry (hb.block x h.low) (fun _ hl => hb.block b hl) hb.size
theorem Df.kp {w w' : World} {x b y : Nat} {zs : List Nat} {q c g : Nat} (h : Df w x b zs q c g) (hk : Kp y w w') (hx : x ≠ y) (hb : zs ≠ [] → b ≠ y) : Df w' x b zs q c g :=
  h.carry (hk.block x hx) (fun hz _ => hk.block b (hb hz)) (Nat.le_of_eq hk.size.symm)
theorem Dt.far {w : World} {v : Value} {b x o : Nat} {zs : List Nat} {u : Value} (h : Dt w v b zs) (hn : b ≠ x) : Dt (w.setCell ⟨x, o, none⟩ u) v b zs := by
  rcases h with h1 | ⟨o', c, h1, h2, h3, h4⟩
  · exact Or.inl h1
  · exact Or.inr ⟨o', c, by simpa [World.setCell] using h1, h2, h3, fun i hi => by rw [World.cell?_setCell_far _ _ _ _ (fun e => hn e.symm)]; exact h4 i hi⟩
theorem Df.setPlace {w : World} {x b : Nat} {zs : List Nat} {q c g : Nat} (h : Df w x b zs q c g) (q' : Nat) (hq : q' ≤ 1099511627776) : Df (w.setCell ⟨x, 1, none⟩ (.int .i64 (q' : Nat))) x b zs q' c g := by
  have ef : ∀ a, (w.setCell ⟨x, 1, none⟩ (.int .i64 (q' : Nat))).frozen? a = w.frozen? a := fun a => by simp
  obtain ⟨v, hv, hd⟩ := h.data
  have hlow := h.low
  exact ⟨⟨v, by rw [World.cell?_setCell_other _ _ _ _ (by simp)]; exact hv, hd.far h.apart⟩, World.cell?_setCell_same _ _ _ h.place, by rw [World.cell?_setCell_other _ _ _ _ (by simp)]; exact h.code, by rw [World.cell?_setCell_other _ _ _ _ (by simp)]; exact h.rng, by rw [ef]; exact h.thaw1, by rw [ef]; exact h.thaw2, by rw [ef]; exact h.thaw3, by simpa [World.setCell] using hlow, h.apart, h.byt, h.len, hq⟩
theorem Df.setCode {w : World} {x b : Nat} {zs : List Nat} {q c g : Nat} (h : Df w x b zs q c g) (c' : Nat) : Df (w.setCell ⟨x, 2, none⟩ (.int .u64 (c' : Nat))) x b zs q c' g := by
  have ef : ∀ a, (w.setCell ⟨x, 2, none⟩ (.int .u64 (c' : Nat))).frozen? a = w.frozen? a := fun a => by simp
  obtain ⟨v, hv, hd⟩ := h.data
  have hlow := h.low
  exact ⟨⟨v, by rw [World.cell?_setCell_other _ _ _ _ (by simp)]; exact hv, hd.far h.apart⟩, by rw [World.cell?_setCell_other _ _ _ _ (by simp)]; exact h.place, World.cell?_setCell_same _ _ _ h.code, by rw [World.cell?_setCell_other _ _ _ _ (by simp)]; exact h.rng, by rw [ef]; exact h.thaw1, by rw [ef]; exact h.thaw2, by rw [ef]; exact h.thaw3, by simpa [World.setCell] using hlow, h.apart, h.byt, h.len, h.plc⟩
theorem Df.setRng {w : World} {x b : Nat} {zs : List Nat} {q c g : Nat} (h : Df w x b zs q c g) (g' : Nat) : Df (w.setCell ⟨x, 3, none⟩ (.int .u64 (g' : Nat))) x b zs q c g' := by
  have ef : ∀ a, (w.setCell ⟨x, 3, none⟩ (.int .u64 (g' : Nat))).frozen? a = w.frozen? a := fun a => by simp
  obtain ⟨v, hv, hd⟩ := h.data
  have hlow := h.low
  exact ⟨⟨v, by rw [World.cell?_setCell_other _ _ _ _ (by simp)]; exact hv, hd.far h.apart⟩, by rw [World.cell?_setCell_other _ _ _ _ (by simp)]; exact h.place, by rw [World.cell?_setCell_other _ _ _ _ (by simp)]; exact h.code, World.cell?_setCell_same _ _ _ h.rng, by rw [ef]; exact h.thaw1, by rw [ef]; exact h.thaw2, by rw [ef]; exact h.thaw3, by simpa [World.setCell] using hlow, h.apart, h.byt, h.len, h.plc⟩

set_option maxRecDepth 100000 in
set_option maxHeartbeats 1000000 in
theorem next_df {w : World} {x b : Nat} {zs : List Nat} {q c g : Nat} (h : Df w x b zs q c g) (hq : q < 1099511627776) :
    Calls Tryd.prog 78 #[.pointer (some ⟨x, 0, none⟩)] w fun e w' => e = .returned (.int .u64 (zs.getD q 0 : Nat)) ∧ Df w' x b zs (q + 1) c g ∧ Kp x w w' := by
  obtain ⟨v, hv, hd⟩ := h.data
  have hp := h.place
  have ht := h.thaw1
  have hS := h.setPlace (q + 1) (by omega)
  rw [show ((q + 1 : Nat) : Int) = (q : Int) + 1 from by omega] at hS
  have HS : Hid _ := hS
  have hbyt := h.byt q
  have hap := h.apart
  have hlen := h.len
  have hlow := h.low
  clear h hS
  rcases hd with ⟨h0, a, cc, rfl⟩ | ⟨o, cc, hb, hcc, rfl, hcell⟩
  · subst h0
    go_enter Tryd.func78, Tryd.ntmps78
    go_wp2
    go_ret
    exact ⟨rfl, HS.out, Kp.set _ _ _ _⟩
  · by_cases hlt : q < zs.length
    · have hc := hcell q hlt
      clear hcell
      generalize zs.getD q 0 = z at *
      go_enter Tryd.func78, Tryd.ntmps78
      go_wp2
      go_ret
      exact ⟨rfl, HS.out, Kp.set _ _ _ _⟩
    · rw [getD_len zs (by omega)]
      clear hcell hbyt
      go_enter Tryd.func78, Tryd.ntmps78
      go_wp2
      go_ret
      exact ⟨rfl, HS.out, Kp.set _ _ _ _⟩

set_option maxRecDepth 100000 in
set_option maxHeartbeats 400000 in
theorem value_df {w : World} {x b : Nat} {zs : List Nat} {q c g : Nat} (h : Df w x b zs q c g) (hk : Dk c g) :
    Calls Tryd.prog 68 #[.pointer (some ⟨x, 0, none⟩)] w fun e w' => e = .returned (.tuple #[.int .u32 (dVal c g : Nat), .int .i64 0]) ∧ ∃ k, w' = w.drewN k := by
  have hc := h.code
  have hr := h.rng
  have h1 := hk.below
  have h2 := hk.least
  have h3 := hk.most
  have hr0 : (0 : Int) < (g : Int) / 32768 := by omega
  have hq : (c : Int) / ((g : Int) / 32768) = ((c / (g / 32768) : Nat) : Int) := by rw [Int.natCast_ediv, Int.natCast_ediv]; rfl
  have hle : c / (g / 32768) < 4294967296 := Nat.lt_of_le_of_lt (Nat.div_le_self _ _) (by omega)
  have HQ : Hid _ := hq
  have HL : Hid _ := hle
  clear hq hle
  go_enter Tryd.func68, Tryd.ntmps68
  go_wp2
  go_quiet (fail)
  go_wp2
  all_goals
    go_ret2
    refine ⟨ret_two ?_ rfl, ⟨_, rfl⟩⟩
    have hq := HQ.out
    have hle := HL.out
    unfold dVal
    simp only [IntKind.wrap_u64] at *
    generalize c / (g / 32768) = m at *
    omega

end Go.Proofs.YtppanogpeengnaaDoor.L2

namespace Go.Proofs.YtppanogpeengnaaDoor.L2
open Go.RowKit

/-- the document's encoder in block x: the bytes ys are out -/
structure Ef (w : World) (B x : Nat) (d : Value) (ys : List Nat) (low g : Nat) : Prop where
  data : w.cell? ⟨x, 0, none⟩ = some d
  own : w.ownsRow B 5 1 d ys.length (bs ys)
  apart : d.ownBlock ≠ some x
  low : w.cell? ⟨x, 1, none⟩ = some (.int .u64 (low : Nat))
  rng : w.cell? ⟨x, 2, none⟩ = some (.int .u64 (g : Nat))
  thaw0 : w.frozen? ⟨x, 0, none⟩ = false
  thaw1 : w.frozen? ⟨x, 1, none⟩ = false
  thaw2 : w.frozen? ⟨x, 2, none⟩ = false
  lies : B ≤ x ∧ x < w.heap.size
  byt : ∀ i, ys.getD i 0 < 256

theorem Ef.carry {w w' : World} {B x : Nat} {d : Value} {ys : List Nat} {low g : Nat} (h : Ef w B x d ys low g) (hr : w'.heap[x]? = w.heap[x]?) (hg : ∀ b, d.ownBlock = some b → w'.heap[b]? = w.heap[b]?) (hs : w.heap.size ≤ w'.heap.size) : Ef w' B x d ys low g := by
  have ec : ∀ o, w'.cell? ⟨x, o, none⟩ = w.cell? ⟨x, o, none⟩ := fun o => World.cell?_of_block (w := w) hr
  have ef : ∀ o, w'.frozen? ⟨x, o, none⟩ = w.frozen? ⟨x, o, none⟩ := fun o => World.frozen?_of_block (w := w) hr
  refine ⟨by rw [ec]; exact h.data, ?_, h.apart, by rw [ec]; exact h.low, by rw [ec]; exact h.rng, by rw [ef]; exact h.thaw0, by rw [ef]; exact h.thaw1, by rw [ef]; exact h.thaw2, ⟨h.lies.1, Nat.lt_of_lt_of_le h.lies.2 hs⟩, h.byt⟩
  refine ⟨h.own.1, ?_⟩
  rcases h.own.2 with h1 | ⟨b, cap, cur, rfl, h2, h3, h4⟩
  · exact Or.inl h1
  · exact Or.inr ⟨b, cap, cur, rfl, h2, by rw [hg b rfl]; exact h3, h4⟩
theorem Ef.same {w w' : World} {B x : Nat} {d : Value} {ys : List Nat} {low g : Nat} (h : Ef w B x d ys low g) (e : w'.heap = w.heap) : Ef w' B x d ys low g :=
  h.carry (by rw [e]) (fun _ _ => by rw [e]) (by rw [e]; exact Nat.le_refl _)
theorem Ef.below {w w' : World} {B x : Nat} {d : Value} {ys : List Nat} {low g : Nat} (h : Ef w B x d ys low g) (hb : Below w.heap.size w w') : Ef w' B x d ys low g :=
  h.carry (hb.block x h.lies.2) (fun b e => hb.block b (h.own.lt b e).2) hb.size
theorem Ef.setLow {w : World} {B x : Nat} {d : Value} {ys : List Nat} {low g : Nat} (h : Ef w B x d ys low g) (low' : Nat) : Ef (w.setCell ⟨x, 1, none⟩ (.int .u64 (low' : Nat))) B x d ys low' g := by
  have ef : ∀ a, (w.setCell ⟨x, 1, none⟩ (.int .u64 (low' : Nat))).frozen? a = w.frozen? a := fun a => by simp
  have hl := h.lies
  exact ⟨by rw [World.cell?_setCell_other _ _ _ _ (by simp)]; exact h.data, own_set_far h.own h.apart _, h.apart, World.cell?_setCell_same _ _ _ h.low, by rw [World.cell?_setCell_other _ _ _ _ (by simp)]; exact h.rng, by rw [ef]; exact h.thaw0, by rw [ef]; exact h.thaw1, by rw [ef]; exact h.thaw2, by simpa [World.setCell] using hl, h.byt⟩
theorem Ef.setRng {w : World} {B x : Nat} {d : Value} {ys : List Nat} {low g : Nat} (h : Ef w B x d ys low g) (g' : Nat) : Ef (w.setCell ⟨x, 2, none⟩ (.int .u64 (g' : Nat))) B x d ys low g' := by
  have ef : ∀ a, (w.setCell ⟨x, 2, none⟩ (.int .u64 (g' : Nat))).frozen? a = w.frozen? a := fun a => by simp
  have hl := h.lies
  exact ⟨by rw [World.cell?_setCell_other _ _ _ _ (by simp)]; exact h.data, own_set_far h.own h.apart _, h.apart, by rw [World.cell?_setCell_other _ _ _ _ (by simp)]; exact h.low, World.cell?_setCell_same _ _ _ h.rng, by rw [ef]; exact h.thaw0, by rw [ef]; exact h.thaw1, by rw [ef]; exact h.thaw2, by simpa [World.setCell] using hl, h.byt⟩
/-- a byte that is out turns -/
theorem Ef.setByte {w : World} {B x b cap : Nat} {ys : List Nat} {low g n : Nat} (hn : n = ys.length) (h : Ef w B x (.slice (some ⟨b, 0, none⟩) n cap) ys low g) (i : Nat) (hi : i < ys.length) (z : Nat) (hz : z < 256) : Ef (w.setCell ⟨b, i, none⟩ (.int .u8 (z : Nat))) B x (.slice (some ⟨b, 0, none⟩) n cap) (ys.set i z) low g := by
  subst hn
  have ef : ∀ a, (w.setCell ⟨b, i, none⟩ (.int .u8 (z : Nat))).frozen? a = w.frozen? a := fun a => by simp
  have hl := h.lies
  have hbx : b ≠ x := fun e => h.apart (by simp [Value.ownBlock, e])
  have hfar : ∀ o, (⟨b, i, none⟩ : Addr) ≠ ⟨x, o, none⟩ := fun o e => hbx (Addr.mk.inj e).1
  refine ⟨by rw [World.cell?_setCell_other _ _ _ _ (hfar 0)]; exact h.data, ?_, h.apart, by rw [World.cell?_setCell_other _ _ _ _ (hfar 1)]; exact h.low, by rw [World.cell?_setCell_other _ _ _ _ (hfar 2)]; exact h.rng, by rw [ef]; exact h.thaw0, by rw [ef]; exact h.thaw1, by rw [ef]; exact h.thaw2, by simpa [World.setCell] using hl, byt_set h.byt hi hz⟩
  rw [List.length_set, bs_set]
  exact (h.own.stored i (.int .u8 (z : Int))).1

theorem grow_ef {wr w1 : World} {o : Obj} {B x gb cap b : Nat} {dr : Value} {ys : List Nat} {low g : Nat} (hw : Ef wr B x dr ys low g) (hb : b < 256) (hgrow : (wr.alloc o).grownBy w1 dr.ownBlock) (hown1 : w1.ownsRow B 5 1 (.slice (some ⟨gb, 0, none⟩) (ys.length + 1) cap) (ys.length + 1) (bs ys ++ bs [b]))
    (hat : dr.ownBlock = some gb ∨ gb = wr.heap.size + 1) :
    Ef (w1.setCell ⟨x, 0, none⟩ (.slice (some ⟨gb, 0, none⟩) (ys.length + 1) cap)) B x (.slice (some ⟨gb, 0, none⟩) (ys.length + 1) cap) (ys ++ [b]) low g ∧
    Kw x dr (.slice (some ⟨gb, 0, none⟩) (ys.length + 1) cap) wr (w1.setCell ⟨x, 0, none⟩ (.slice (some ⟨gb, 0, none⟩) (ys.length + 1) cap)) := by
  have hlow := hw.lies
  have hap := hw.apart
  have hgx : gb ≠ x := by
    rcases hat with e | e
    · intro e2; rw [e, e2] at hap; exact hap rfl
    · omega
  have fc := fun j => far_cell hgrow hlow.2 hap j
  have hsz : wr.heap.size + 1 ≤ w1.heap.size := by have := hgrow.size; simpa using this
  have hlen : (ys ++ [b]).length = ys.length + 1 := by simp
  constructor
  · refine ⟨World.cell?_setCell_same w1 ⟨x, 0, none⟩ _ ((fc 0).1.trans hw.data), ?_, ?_, ?_, ?_, ?_, ?_, ?_, ⟨hlow.1, by simp [World.setCell]; omega⟩, byt_snoc hw.byt hb⟩
    · rw [bs_append, hlen]
      exact own_set_far hown1 (by simp [Value.ownBlock]; exact hgx) _
    · simp [Value.ownBlock]; exact hgx
    · rw [World.cell?_setCell_other _ _ _ _ (by simp), (fc 1).1]; exact hw.low
    · rw [World.cell?_setCell_other _ _ _ _ (by simp), (fc 2).1]; exact hw.rng
    · rw [World.frozen?_setCell, (fc 0).2]; exact hw.thaw0
    · rw [World.frozen?_setCell, (fc 1).2]; exact hw.thaw1
    · rw [World.frozen?_setCell, (fc 2).2]; exact hw.thaw2
  · refine ⟨hgrow.os, hgrow.tape, hgrow.output, by simp [World.setCell]; omega, fun k hk hx hd => ?_, fun g' hg' => ?_⟩
    · rw [Below.heap_setCell _ _ _ _ (by simpa using hx), hgrow.block k (by simp; omega) (Ne.symm hd), Below.heap_alloc _ _ _ hk]
    · simp [Value.ownBlock] at hg'
      subst hg'
      rcases hat with e | e
      · exact Or.inl e
      · right; omega

set_option maxHeartbeats 400000 in
theorem rnew_any (w : World) : Calls Tryd.prog 42 #[] w fun e w' => e = .returned (.pointer (some ⟨w.heap.size, 0, none⟩)) ∧ Ef w' w.heap.size w.heap.size (.slice none 0 0) [] 0 4294967295 ∧ Below w.heap.size w w' := by
  go_enter Tryd.func42, Tryd.ntmps42
  go_wp2_with fail
  go_ret
  refine ⟨rfl, ⟨by simp, World.ownsRow_nil _ _ _ _, by simp [Value.ownBlock], by simp, by simp, by simp, by simp, by simp, by simp, by simp⟩, (Below.refl _ _).alloc (Nat.le_refl _) _⟩

/-- a byte has gone out: n bytes of number N were out -/
def EfSent (w w' : World) (B x : Nat) (d : Value) (n N low g : Nat) : Prop := ∃ d' ys', Ef w' B x d' ys' (low % 16777216 * 256) g ∧ ys'.length = n + 1 ∧ pre ys' (n + 1) = (N + low / 4294967296) * 256 + low / 16777216 % 256 ∧ Kw x d d' w w'

set_option maxRecDepth 100000 in
set_option maxHeartbeats 2000000 in
theorem goes_ef {w : World} {B x : Nat} {d : Value} {ys : List Nat} {low g : Nat} (h : Ef w B x d ys low g) (hlw : low < 8589934592) (hv : pre ys ys.length + low / 4294967296 < 256 ^ ys.length) (hl : ys.length ≤ 1099511627000) :
    Calls Tryd.prog 76 #[.pointer (some ⟨x, 0, none⟩)] w fun e w' => e = .returned (.tuple #[]) ∧ EfSent w w' B x d ys.length (pre ys ys.length) low g := by
  obtain ⟨i, hi, hz0, hz1, hz2⟩ := info_parts Tryd.info5
  by_cases hc : low < 4294967296
  · have hc' : decide ((4294967296 : Int) ≤ (low : Int)) = false := by simp; omega
    have HC : Bx (low < 4294967296) := ⟨hc⟩
    have HLB : Bx (low < 8589934592) := ⟨hlw⟩
    have hlo := h.low
    clear hc hlw
    go_enter Tryd.func76, Tryd.ntmps76
    go_wp2_with fail
    obtain ⟨a, c, rfl⟩ := own_slice h.own
    have hdat := h.data
    have hlo := h.low
    have hlow := h.lies.2
    have ht0 := h.thaw0
    have ht1 := h.thaw1
    have hap := h.apart
    have hB : B ≤ w.heap.size := by have := h.lies; omega
    have hownA : (w.alloc (.cells #[.int .u8 (IntKind.u8.wrap (IntKind.u64.wrap ((low : Int) / 16777216)))] 5)).drew.ownsRow B 5 1 (.slice a ys.length c) ys.length (bs ys) := (h.own.alloc _).drew
    have hnews : ∀ j u, (bs [low / 16777216 % 256])[j]? = some u → (w.alloc (.cells #[.int .u8 (IntKind.u8.wrap (IntKind.u64.wrap ((low : Int) / 16777216)))] 5)).drew.cell? ((⟨w.heap.size, 0, none⟩ : Addr).add j) = some u := by
      rw [show IntKind.u8.wrap (IntKind.u64.wrap ((low : Int) / 16777216)) = ((low / 16777216 % 256 : Nat) : Int) from (by rw [IntKind.wrap_u64, IntKind.wrap_u8]; have := HLB.out; omega)]
      exact World.news_of_block (cs := #[.int .u8 ((low / 16777216 % 256 : Nat) : Int)]) (heap_alloc_new w _)
    have hyl : ys.length ≤ 1099511627776 := by omega
    have HE : Hid _ := h
    clear h
    go_wp2_with fail
    go_region_law ((refine step_append_lies _ (by rfl) _ _ _ (by rfl) B 5 i (.int .u8 0) 1 1 Tryd.underlying44 hi hz0 hz1 hz2 rfl (by omega) _ ys.length (bs ys) (by rfl) hownA ⟨w.heap.size, 0, none⟩ 1 1 (bs [low / 16777216 % 256]) (by rfl) (by rfl) hnews (bs_one _) (by omega) (by unfold maxLen; omega) (by omega) (by simp; omega) (w.heap.size + 1) (by simp) ?_; intro g cap w1 hown1 hgrow hat hlt; have hgr := undrew hgrow; have c0 := (far_cell hgr hlow hap 0).1.trans hdat; have zz := (far_cell hgr hlow hap 0).2.trans ht0; have c1 := (far_cell hgr hlow hap 1).1.trans hlo; have zz1 := (far_cell hgr hlow hap 1).2.trans ht1))
    all_goals
      go_wp2_with fail
      go_end0
      obtain ⟨g1, g2⟩ := grow_ef HE.out (b := low / 16777216 % 256) (Nat.mod_lt _ (by omega)) hgr hown1 hat
      have hc := HC.out
      refine ⟨rfl, _, ys ++ [low / 16777216 % 256], ?_, by simp, by rw [pre_snoc]; omega, g2.trans (Kw.set _ _)⟩
      have g3 := g1.setLow (low % 16777216 * 256)
      rw [show ((low % 16777216 * 256 : Nat) : Int) = (low : Int) % 16777216 * 256 from by omega] at g3
      exact g3
  · have h0 : 0 < ys.length := by
      rcases Nat.eq_zero_or_pos ys.length with e | e
      · rw [e] at hv; simp at hv; omega
      · exact e
    have hc' : decide ((4294967296 : Int) ≤ (low : Int)) = true := by simp; omega
    obtain ⟨b, cap, rfl, _, hb⟩ := h.own.form h0
    have hdat := h.data
    have hlo := h.low
    have HV : Hid (pre ys ys.length + 1 < 256 ^ ys.length) := (show pre ys ys.length + 1 < 256 ^ ys.length by omega)
    have HE0 : Hid _ := h
    obtain ⟨n, hn⟩ : ∃ n, ys.length = n := ⟨_, rfl⟩
    rw [hn] at hdat hl h0 HV HE0 ⊢
    have HC : Bx (¬ low < 4294967296) := ⟨hc⟩
    have HLW : Bx (low < 8589934592) := ⟨hlw⟩
    clear h hv hc hlw
    have HN : Hid (ys.length = n) := hn
    clear hn
    generalize hN : pre ys n = N at *
    have HNN : Hid (pre ys n = N) := hN
    clear hN
    go_enter Tryd.func76, Tryd.ntmps76
    go_wp2_with fail
    go_loopw [2] (fun i wr => ∃ (j : Nat) (yr : List Nat), i = .int .i64 ((j : Int) - 1) ∧ j ≤ n ∧ Ef wr B x (.slice (some ⟨b, 0, none⟩) n cap) yr low g ∧ Hid (yr.length = n) ∧ Hid (pre yr n + 256 ^ (n - j) = N + 1) ∧ Kw x (.slice (some ⟨b, 0, none⟩) n cap) (.slice (some ⟨b, 0, none⟩) n cap) w wr) (fun i _ => (intOf i + 1).toNat)
    case atStart => exact ⟨n, ys, rfl, Nat.le_refl _, HE0.out, HN.out, (show pre ys n + 256 ^ (n - n) = N + 1 by rw [HNN.out]; simp), Kw.refl _ _ _⟩
    case round =>
      clear HE0 hdat
      obtain ⟨j, yr, rfl, hj, hE, HL, HP, hk⟩ := hrel
      by_cases hj0 : j = 0
      · exfalso
        subst hj0
        have h1 := HP.out
        have h2 := HV.out
        rw [Nat.sub_zero] at h1
        omega
      · obtain ⟨q, rfl⟩ : ∃ q, j = q + 1 := ⟨j - 1, by omega⟩
        rw [show (((q + 1 : Nat) : Int) - 1) = (q : Int) from by omega]
        have hdat := hE.data
        have hown := hE.own
        rw [HL.out] at hown
        have hcq := hown.cellAt q (by omega)
        rw [bs_get _ _ (by have := HL.out; omega)] at hcq
        have hf := hown.frozenAt q
        have hz := hE.byt q
        have hset := fun z hz => hE.setByte HL.out.symm q (by have := HL.out; omega) z hz
        have hpre := fun z => pre_set yr q z (by have := HL.out; omega) n (by omega)
        have HS : Hid _ := hset
        have HPR : Hid _ := hpre
        have hlo := hE.low
        have hft := hE.thaw1
        have hbx : b ≠ x := fun e => hE.apart (by simp [Value.ownBlock, e])
        clear hset hpre hown
        generalize yr.getD q 0 = z at *
        by_cases hz255 : z = 255
        · subst hz255
          go_wp2_with fail
          go_roundw
          case rel =>
            refine ⟨q, yr.set q 0, by go_num, by omega, HS.out 0 (by omega), (by have := HL.out; simp; omega), ?_, hk.trans (Kw.setOwn rfl _ _)⟩
            have h1 := HPR.out 0
            have h2 := HP.out
            show pre (yr.set q 0) n + 256 ^ (n - q) = N + 1
            rw [show n - q = (n - (q + 1)) + 1 from by omega, Nat.pow_succ]
            rw [show n - 1 - q = n - (q + 1) from by omega] at h1
            generalize 256 ^ (n - (q + 1)) = P at *
            omega
          case measure => simp [intOf]
        · have hne : ((z : Int) == 255) = false := by simp; omega
          have hE2 := (HS.out (z + 1) (by omega)).setLow (low - 4294967296)
          rw [show ((z + 1 : Nat) : Int) = (z : Int) + 1 from by omega, show ((low - 4294967296 : Nat) : Int) = (low : Int) - 4294967296 from by have := HC.out; omega] at hE2
          have HP2 : Hid (pre (yr.set q (z + 1)) n = N + 1) := by
            have h1 := HPR.out (z + 1)
            have h2 := HP.out
            show pre (yr.set q (z + 1)) n = N + 1
            rw [show n - 1 - q = n - (q + 1) from by omega, Nat.add_mul] at h1
            omega
          have HL2 : Hid ((yr.set q (z + 1)).length = n) := (show (yr.set q (z + 1)).length = n by have := HL.out; simp; omega)
          have HK2 : Hid _ := (hk.trans (Kw.setOwn (x := x) (w := wr) (d := .slice (some ⟨b, 0, none⟩) n cap) rfl q (.int .u8 ((z : Int) + 1)))).trans (Kw.set 1 (.int .u64 ((low : Int) - 4294967296)))
          have HE2 : Hid _ := hE2
          clear hE2 HS HPR HP hE
          go_wp2_with fail
          have hcc := HC.out
          have hll := HLW.out
          obtain ⟨m, hm⟩ : ∃ m : Nat, (low : Int) - 4294967296 = (m : Int) := ⟨low - 4294967296, by omega⟩
          have HM : Bx (low = m + 4294967296) := ⟨by omega⟩
          have HLB : Bx (m < 8589934592) := ⟨by omega⟩
          have hme : low - 4294967296 = m := by omega
          rw [hm] at HE2 HK2 ⊢
          rw [wraps_u64_63 (m : Int) (by omega) (by omega)]
          rw [hme] at HE2
          clear hm hme hcc hll hlo hdat hcq hf
          have hE3 := HE2.out
          have hlen3 : (yr.set q (z + 1)).length ≤ 1099511627000 := by have := HL2.out; omega
          clear HE2
          generalize (wr.setCell ⟨b, q, none⟩ (.int .u8 ((z : Int) + 1))).setCell ⟨x, 1, none⟩ (.int .u64 (m : Int)) = W2 at *
          generalize yr.set q (z + 1) = y2 at *
          have HDD : Hid _ := HK2
          obtain ⟨dd, hdd⟩ : ∃ dd, dd = Value.slice (some ⟨b, 0, none⟩) n cap := ⟨_, rfl⟩
          rw [← hdd] at hE3
          have HDE : Hid _ := hdd
          clear hdd
          obtain ⟨a, c, rfl⟩ := own_slice hE3.own
          have hdat := hE3.data
          have hlo := hE3.low
          have hlow := hE3.lies.2
          have ht0 := hE3.thaw0
          have ht1 := hE3.thaw1
          have hap := hE3.apart
          have hB : B ≤ W2.heap.size := by have := hE3.lies; omega
          have hownA : (W2.alloc (.cells #[.int .u8 (IntKind.u8.wrap (IntKind.u64.wrap ((m : Int) / 16777216)))] 5)).drew.ownsRow B 5 1 (.slice a y2.length c) y2.length (bs y2) := (hE3.own.alloc _).drew
          have hnews : ∀ j u, (bs [m / 16777216 % 256])[j]? = some u → (W2.alloc (.cells #[.int .u8 (IntKind.u8.wrap (IntKind.u64.wrap ((m : Int) / 16777216)))] 5)).drew.cell? ((⟨W2.heap.size, 0, none⟩ : Addr).add j) = some u := by
            rw [show IntKind.u8.wrap (IntKind.u64.wrap ((m : Int) / 16777216)) = ((m / 16777216 % 256 : Nat) : Int) from (by rw [IntKind.wrap_u64, IntKind.wrap_u8]; have := HLB.out; omega)]
            exact World.news_of_block (cs := #[.int .u8 ((m / 16777216 % 256 : Nat) : Int)]) (heap_alloc_new W2 _)
          have hyl : y2.length ≤ 1099511627776 := by omega
          have HE : Hid _ := hE3
          clear hE3
          go_wp2_with fail
          go_region_law ((refine step_append_lies _ (by rfl) _ _ _ (by rfl) B 5 i (.int .u8 0) 1 1 Tryd.underlying44 hi hz0 hz1 hz2 rfl (by omega) _ y2.length (bs y2) (by rfl) hownA ⟨W2.heap.size, 0, none⟩ 1 1 (bs [m / 16777216 % 256]) (by rfl) (by rfl) hnews (bs_one _) (by omega) (by unfold maxLen; omega) (by omega) (by simp; omega) (W2.heap.size + 1) (by simp) ?_; intro g cap w1 hown1 hgrow hat hlt; have hgr := undrew hgrow; have c0 := (far_cell hgr hlow hap 0).1.trans hdat; have zz := (far_cell hgr hlow hap 0).2.trans ht0; have c1 := (far_cell hgr hlow hap 1).1.trans hlo; have zz1 := (far_cell hgr hlow hap 1).2.trans ht1))
          all_goals
            go_wp2_with fail
            go_end0
            obtain ⟨g1, g2⟩ := grow_ef HE.out (b := m / 16777216 % 256) (Nat.mod_lt _ (by omega)) hgr hown1 hat
            have hde := HDE.out
            rw [hde] at g2
            have hmm := HM.out
            have hmb := HLB.out
            have hlw := HLW.out
            have e1 : low % 16777216 = m % 16777216 := by omega
            have e2 : low / 16777216 % 256 = m / 16777216 % 256 := by omega
            have e3 : low / 4294967296 = 1 := by omega
            refine ⟨rfl, _, y2 ++ [m / 16777216 % 256], ?_, by simp; exact HL2.out, ?_, (HK2.out.trans g2).trans (Kw.set _ _)⟩
            · have g3 := g1.setLow (low % 16777216 * 256)
              rw [e1, show ((m % 16777216 * 256 : Nat) : Int) = (m : Int) % 16777216 * 256 from by omega] at g3
              rw [e1]
              exact g3
            · have h1 := HP2.out
              have h2 := HL2.out
              rw [← h2, pre_snoc, h2, h1, e2, e3]

end Go.Proofs.YtppanogpeengnaaDoor.L2

namespace Go.Proofs.YtppanogpeengnaaDoor.L2
open Go.RowKit

/-- the document's encoder whose number is T, its range g, and of which k bytes are out -/
def EfS (w : World) (B x : Nat) (d : Value) (T g k : Nat) : Prop := ∃ ys low, Ef w B x d ys low g ∧ ys.length = k ∧ pre ys k * 4294967296 + low = T ∧ low + g < 8589934592
/-- and what may have turned -/
def EfK (w w' : World) (B x : Nat) (d : Value) (T g k : Nat) : Prop := ∃ d', EfS w' B x d' T g k ∧ Kw x d d' w w'

theorem EfS.below {w w' : World} {B x : Nat} {d : Value} {T g k : Nat} (h : EfS w B x d T g k) (hb : Below w.heap.size w w') : EfS w' B x d T g k := by
  obtain ⟨ys, low, h1, h2⟩ := h
  exact ⟨ys, low, h1.below hb, h2⟩
theorem EfS.same {w w' : World} {B x : Nat} {d : Value} {T g k : Nat} (h : EfS w B x d T g k) (e : w'.heap = w.heap) : EfS w' B x d T g k := by
  obtain ⟨ys, low, h1, h2⟩ := h
  exact ⟨ys, low, h1.same e, h2⟩
theorem EfS.carry {w w' : World} {B x : Nat} {d : Value} {T g k : Nat} (h : EfS w B x d T g k) (hr : w'.heap[x]? = w.heap[x]?) (hg : ∀ b, d.ownBlock = some b → w'.heap[b]? = w.heap[b]?) (hs : w.heap.size ≤ w'.heap.size) : EfS w' B x d T g k := by
  obtain ⟨ys, low, h1, h2⟩ := h
  exact ⟨ys, low, h1.carry hr hg hs, h2⟩
theorem EfS.rng {w : World} {B x : Nat} {d : Value} {T g k : Nat} (h : EfS w B x d T g k) : w.cell? ⟨x, 2, none⟩ = some (.int .u64 (g : Nat)) := by
  obtain ⟨ys, low, h1, h2⟩ := h
  exact h1.rng
theorem EfS.lies {w : World} {B x : Nat} {d : Value} {T g k : Nat} (h : EfS w B x d T g k) : B ≤ x ∧ x < w.heap.size := by
  obtain ⟨ys, low, h1, h2⟩ := h
  exact h1.lies
theorem EfS.own_lt {w : World} {B x : Nat} {d : Value} {T g k : Nat} (h : EfS w B x d T g k) : ∀ b, d.ownBlock = some b → B ≤ b ∧ b < w.heap.size ∧ b ≠ x := by
  obtain ⟨ys, low, h1, h2⟩ := h
  exact fun b e => ⟨(h1.own.lt b e).1, (h1.own.lt b e).2, fun e2 => h1.apart (by rw [e, e2])⟩
theorem EfS.setRng {w : World} {B x : Nat} {d : Value} {T g k : Nat} (h : EfS w B x d T g k) (g' : Nat) (hg : ∀ low, low + g < 8589934592 → low + g' < 8589934592) : EfS (w.setCell ⟨x, 2, none⟩ (.int .u64 (g' : Nat))) B x d T g' k := by
  obtain ⟨ys, low, h1, h2, h3, h4⟩ := h
  exact ⟨ys, low, h1.setRng g', h2, h3, hg low h4⟩
/-- of the blocks below B none has turned -/
theorem EfS.kwBelow {a b : World} {B x : Nat} {d d' : Value} {T g k : Nat} (h : EfS a B x d T g k) (hk : Kw x d d' a b) : Below B a b :=
  ⟨hk.os, hk.tape, hk.output, hk.size, fun i hi => hk.block i (by have := h.lies; omega) (by have := h.lies; omega) (fun e => by have := (h.own_lt i e).1; omega)⟩

/-- a byte goes out, by the number -/
theorem goes_efs {w : World} {B x : Nat} {d : Value} {T g k : Nat} (h : EfS w B x d T g k) (hf : T < 256 ^ k * 4294967295) (hk : k ≤ 1099511627000) :
    Calls Tryd.prog 76 #[.pointer (some ⟨x, 0, none⟩)] w fun e w' => e = .returned (.tuple #[]) ∧ ∃ d' ys low, Ef w' B x d' ys low g ∧ ys.length = k + 1 ∧ pre ys (k + 1) * 4294967296 + low = T * 256 ∧ low < 4294967296 ∧ Kw x d d' w w' := by
  obtain ⟨ys, low, h1, rfl, h3, h4⟩ := h
  refine (goes_ef h1 (by omega) (fit_carry h3 hf) hk).mono ?_
  rintro e w' ⟨rfl, d', ys', g1, g2, g3, g4⟩
  exact ⟨rfl, d', ys', low % 16777216 * 256, g1, g2, send_num h3 g3, send_low low, g4⟩

theorem rnew_efs (w : World) : Calls Tryd.prog 42 #[] w fun e w' => e = .returned (.pointer (some ⟨w.heap.size, 0, none⟩)) ∧ EfS w' w.heap.size w.heap.size (.slice none 0 0) 0 4294967295 0 ∧ Below w.heap.size w w' := by
  refine (rnew_any w).mono ?_
  rintro e w' ⟨rfl, h1, h2⟩
  exact ⟨rfl, ⟨[], 0, h1, rfl, by simp [pre], by omega⟩, h2⟩

set_option maxHeartbeats 1000000 in
theorem rput_no {w : World} {x : Nat} (lo hi : Nat) (hm : ¬ (lo < hi ∧ hi ≤ 32768)) :
    Calls Tryd.prog 67 #[.pointer (some ⟨x, 0, none⟩), .int .u32 lo, .int .u32 hi] w fun e w' => e = .returned (.int .i64 2) ∧ w' = w := by
  by_cases h1 : lo < hi
  · have h3 : 32768 < hi := by omega
    go_enter Tryd.func67, Tryd.ntmps67
    go_wp2_with fail
    go_ret
    exact ⟨rfl, rfl⟩
  · go_enter Tryd.func67, Tryd.ntmps67
    go_wp2_with fail
    go_ret
    exact ⟨rfl, rfl⟩

set_option maxRecDepth 100000 in
set_option maxHeartbeats 1000000 in
theorem rput_yes {w : World} {B x : Nat} {d : Value} {T g k : Nat} (h : EfS w B x d T g k) (hE : Ev T g k) (hkb : k ≤ 1099511626000) (lo hi : Nat) (hlt : lo < hi) (hh : hi ≤ 32768) :
    Calls Tryd.prog 67 #[.pointer (some ⟨x, 0, none⟩), .int .u32 lo, .int .u32 hi] w fun e w' => e = .returned (.int .i64 0) ∧ EfK w w' B x d (ePut T g k lo hi).1 (ePut T g k lo hi).2.1 (ePut T g k lo hi).2.2 := by
  have hg : 0 < g := by have := hE.least; omega
  have hwid := pWid_ok hE.least hlt hh
  have hgm := hE.most
  have hfit := hE.fit
  have HPA : Hid _ := fun w => rpart_any g lo hi w hgm hlt hh
  have hfin : ePut T g k lo hi = en 2 (T + pBeg g lo) (pWid g lo hi) k := rfl
  generalize ePut T g k lo hi = out at *
  have HF : Hid _ := hfin
  clear hfin
  generalize pBeg g lo = beg at *
  generalize pWid g lo hi = wid at *
  obtain ⟨ys, low, h1, h2, h3, h4⟩ := h
  have hlo := h1.low
  have hr := h1.rng
  have ht1 := h1.thaw1
  have ht2 := h1.thaw2
  have HD : Hid _ := h1
  have HV : Hid _ := h3
  have HFIT : Hid _ := hfit
  clear h1 h3 hfit hE
  go_enter Tryd.func67, Tryd.ntmps67
  go_wp2_with fail
  refine (HPA.out _).mono ?_; rintro e w3 ⟨rfl, rfl⟩
  go_wp2_with fail
  have h0 : EfS ((w3.setCell ⟨x, 1, none⟩ (.int .u64 ((low : Int) + (beg : Nat)))).setCell ⟨x, 2, none⟩ (.int .u64 (wid : Nat))) B x d (T + beg) wid k := by
    refine ⟨ys, low + beg, ?_, h2, by have := HV.out; omega, by omega⟩
    have := (HD.out.setLow (low + beg)).setRng wid
    rw [show ((low + beg : Nat) : Int) = (low : Int) + beg from by omega] at this
    exact this
  have k0 : Kw x d d w3 ((w3.setCell ⟨x, 1, none⟩ (.int .u64 ((low : Int) + (beg : Nat)))).setCell ⟨x, 2, none⟩ (.int .u64 (wid : Nat))) := (Kw.set _ _).trans (Kw.set _ _)
  clear hlo hr ht1 ht2
  go_loopw [] (fun wr => ∃ f T' g' k' d', EfS wr B x d' T' g' k' ∧ Kw x d d' w3 wr ∧ Hid (en f T' g' k' = out) ∧ Hid (g' < 4294967296) ∧ Hid (16777216 ≤ g' * 256 ^ f) ∧ Hid (T' + g' ≤ 256 ^ k' * 4294967295) ∧ Hid (k' + f ≤ k + 2)) (fun wr => 4294967296 - rngOf x wr)
  case atStart => exact ⟨2, _, _, _, _, h0, k0, HF.out.symm, (show wid < 4294967296 by omega), (show 16777216 ≤ wid * 256 ^ 2 by omega), (show T + beg + wid ≤ 256 ^ k * 4294967295 by have := HFIT.out; omega), (show k + 2 ≤ k + 2 by omega)⟩
  case round =>
    clear h0 k0 HF HPA HD HV HFIT h2 h4 hwid hg hgm hlt hh
    obtain ⟨f, T', g', k', d', hd, hk, HN, HGM, HFU, HFI, HKB⟩ := hrel
    have hr := hd.rng
    by_cases hlt : g' < 16777216
    · obtain ⟨f, rfl⟩ : ∃ f', f = f' + 1 := ⟨f - 1, by
        rcases f with _ | f
        · have := HFU.out; simp at this; omega
        · omega⟩
      have hlt' : ((g' : Int) < 16777216) := by omega
      have HLT : Hid (g' < 16777216) := hlt
      have HPOS : Hid (0 < g') := by
        show 0 < g'
        have h1 := HFU.out
        rcases Nat.eq_zero_or_pos g' with e | e
        · rw [e] at h1; simp at h1
        · exact e
      clear hlt
      go_wp2_with fail
      refine (goes_efs hd (by have h1 := HFI.out; have h2 := HPOS.out; omega) (by have := HKB.out; omega)).mono ?_; rintro e w2 ⟨rfl, d2, y2, low2, hd2, hl2, hv2, hlo2, hk2⟩
      have hr2 := hd2.rng
      have ht2 := hd2.thaw2
      have HD2 : Hid _ := hd2
      have HV2 : Hid _ := hv2
      have HL2 : Hid _ := hl2
      have HLO2 : Hid _ := hlo2
      clear hd2 hv2 hl2 hlo2
      go_wp2_with fail
      go_roundw
      case rel =>
        have h3 := HD2.out.setRng (g' * 256)
        rw [show ((g' * 256 : Nat) : Int) = (g' : Int) * 256 from by omega] at h3
        have hlt := HLT.out
        have hgm := HGM.out
        have hlo := HLO2.out
        have hfi := HFI.out
        have hkb := HKB.out
        refine ⟨f, T' * 256, g' * 256, k' + 1, d2, ⟨y2, low2, h3, HL2.out, HV2.out, by omega⟩, (hk.trans hk2).trans (Kw.set _ _), ?_, (show g' * 256 < 4294967296 by omega), ?_, ?_, (show k' + 1 + f ≤ k + 2 by omega)⟩
        · have := HN.out
          rw [en, if_pos hlt] at this
          exact this
        · have := HFU.out
          rw [Nat.pow_succ', ← Nat.mul_assoc] at this
          exact this
        · show T' * 256 + g' * 256 ≤ 256 ^ (k' + 1) * 4294967295
          rw [Nat.pow_succ]
          omega
      case measure =>
        have e1 : rngOf x wr = g' := by unfold rngOf; rw [hr]; rfl
        have e2 : rngOf x (w2.setCell ⟨x, 2, none⟩ (.int .u64 ((g' : Int) * 256))) = g' * 256 := by
          unfold rngOf; rw [World.cell?_setCell_same _ _ _ hr2]; simp [intOf]; omega
        rw [e1, e2]
        have h2 := HPOS.out
        have h3 := HGM.out
        omega
    · have hlt' : decide ((g' : Int) < 16777216) = false := by simp; omega
      have HLT : Hid (¬ g' < 16777216) := hlt
      clear hlt
      go_wp2_with fail
      go_ret
      have hlt := HLT.out
      have := HN.out
      have e : en f T' g' k' = (T', g', k') := by
        rcases f with _ | f
        · rfl
        · rw [en, if_neg hlt]
      rw [e] at this
      subst this
      exact ⟨rfl, d', hd, hk⟩

end Go.Proofs.YtppanogpeengnaaDoor.L2

namespace Go.Proofs.YtppanogpeengnaaDoor.L2
open Go.RowKit

/-- a document's decoder's numbers -/
def Dsf (w : World) (x b : Nat) (zs : List Nat) (q c g : Nat) : Prop := Df w x b zs q c g ∧ Dk c g

set_option maxRecDepth 100000 in
set_option maxHeartbeats 1000000 in
theorem rtake_no {w : World} {x b : Nat} {zs : List Nat} {q c g : Nat} (h : Df w x b zs q c g) (hk : Dk c g) (lo hi : Nat) (hm : ¬ dMay c g lo hi) :
    Calls Tryd.prog 70 #[.pointer (some ⟨x, 0, none⟩), .int .u32 lo, .int .u32 hi] w fun e w' => e = .returned (.int .i64 2) ∧ ∃ k, w' = w.drewN k := by
  unfold dMay at hm
  have HP : Hid _ := value_df h hk
  clear h hk
  generalize dVal c g = v at *
  by_cases h1 : lo ≤ v
  · by_cases h2 : v < hi
    · have h3 : 32768 < hi := by omega
      go_enter Tryd.func70, Tryd.ntmps70
      go_wp2_with fail
      refine Calls.mono HP.out ?_; rintro e w2 ⟨rfl, k, rfl⟩
      go_wp2_with fail
      go_ret
      exact ⟨rfl, k, rfl⟩
    · go_enter Tryd.func70, Tryd.ntmps70
      go_wp2_with fail
      refine Calls.mono HP.out ?_; rintro e w2 ⟨rfl, k, rfl⟩
      go_wp2_with fail
      go_ret
      exact ⟨rfl, k, rfl⟩
  · go_enter Tryd.func70, Tryd.ntmps70
    go_wp2_with fail
    refine Calls.mono HP.out ?_; rintro e w2 ⟨rfl, k, rfl⟩
    go_wp2_with fail
    go_ret
    exact ⟨rfl, k, rfl⟩

/-- the range that lies in a document's decoder's block -/
def rngOf3 (x : Nat) (w : World) : Nat := (intOf ((w.cell? ⟨x, 3, none⟩).getD (.int .u64 0))).toNat

theorem fetch64 {c z : Nat} (hc : c < 16777216) (hz : z < 256) : IntKind.u64.wrap (IntKind.u64.wrap ((c : Int) * 256) + (z : Int)) = ((c * 256 + z : Nat) : Int) := by
  rw [IntKind.wrap_u64, IntKind.wrap_u64]; omega

set_option maxRecDepth 100000 in
set_option maxHeartbeats 1000000 in
theorem rtake_yes {w : World} {x b : Nat} {zs : List Nat} {q c g : Nat} (h : Df w x b zs q c g) (hk : Dk c g) (hqb : q + 2 < 1099511627776) (lo hi : Nat) (hm : dMay c g lo hi) :
    Calls Tryd.prog 70 #[.pointer (some ⟨x, 0, none⟩), .int .u32 lo, .int .u32 hi] w fun e w' => e = .returned (.int .i64 0) ∧ Df w' x b zs (dTake zs c g q lo hi).2.2 (dTake zs c g q lo hi).1 (dTake zs c g q lo hi).2.1 ∧ Kp x w w' := by
  have hin := hm.in hk.below hk.least
  have hlt : lo < hi := Nat.lt_of_le_of_lt hm.1 hm.2.1
  have hwid := pWid_ok hk.least hlt hm.2.2
  have hgm := hk.most
  have HPA : Hid _ := fun w => rpart_any g lo hi w hgm hlt hm.2.2
  have hfin : dTake zs c g q lo hi = dn zs 2 (c - pBeg g lo) (pWid g lo hi) q := rfl
  generalize dTake zs c g q lo hi = out at *
  have HF : Hid _ := hfin
  clear hfin
  have HP : Hid _ := value_df h hk
  unfold dMay at hm
  obtain ⟨m1, m2, m3⟩ := hm
  generalize dVal c g = v at *
  generalize pBeg g lo = beg at *
  generalize pWid g lo hi = wid at *
  have hc := h.code
  have hr := h.rng
  have ht1 := h.thaw2
  have ht2 := h.thaw3
  have HD : Hid _ := h
  clear h
  go_enter Tryd.func70, Tryd.ntmps70
  go_wp2_with fail
  refine Calls.mono HP.out ?_; rintro e w2 ⟨rfl, k, rfl⟩
  go_wp2_with fail
  refine (HPA.out _).mono ?_; rintro e w3 ⟨rfl, rfl⟩
  go_wp2_with fail
  have h0 : Df (((w.drewN k).setCell ⟨x, 2, none⟩ (.int .u64 ((c : Int) - (beg : Nat)))).setCell ⟨x, 3, none⟩ (.int .u64 (wid : Nat))) x b zs q (c - beg) wid := by
    have := ((HD.out.same (w' := w.drewN k) rfl).setCode (c - beg)).setRng wid
    rw [show ((c - beg : Nat) : Int) = (c : Int) - beg from by omega] at this
    exact this
  have k0 : Kp x w (((w.drewN k).setCell ⟨x, 2, none⟩ (.int .u64 ((c : Int) - (beg : Nat)))).setCell ⟨x, 3, none⟩ (.int .u64 (wid : Nat))) := (((Kp.refl x w).drewN k).trans (Kp.set _ _ _ _)).trans (Kp.set _ _ _ _)
  clear hc hr ht1 ht2
  go_loopw [] (fun wr => ∃ f c' g' q', Df wr x b zs q' c' g' ∧ Kp x w wr ∧ Hid (dn zs f c' g' q' = out) ∧ Hid (c' < g') ∧ Hid (g' < 4294967296) ∧ Hid (16777216 ≤ g' * 256 ^ f) ∧ Hid (q' + f ≤ q + 2)) (fun wr => 4294967296 - rngOf3 x wr)
  case atStart => exact ⟨2, _, _, _, h0, k0, HF.out.symm, hin.2, (show wid < 4294967296 by omega), (show 16777216 ≤ wid * 256 ^ 2 by omega), (show q + 2 ≤ q + 2 by omega)⟩
  case round =>
    clear h0 k0 HF HPA HP HD hk hin hwid hlt hgm m1 m2 m3
    obtain ⟨f, c', g', q', hd, hk, HN, HCG, HGM, HFU, HQB⟩ := hrel
    have hr := hd.rng
    by_cases hlt : g' < 16777216
    · obtain ⟨f, rfl⟩ : ∃ f', f = f' + 1 := ⟨f - 1, by
        rcases f with _ | f
        · have := HFU.out; simp at this; omega
        · omega⟩
      have hlt' : ((g' : Int) < 16777216) := by omega
      have HLT : Hid (g' < 16777216) := hlt
      have HPOS : Hid (0 < g') := by
        show 0 < g'
        have h1 := HFU.out
        rcases Nat.eq_zero_or_pos g' with e | e
        · rw [e] at h1; simp at h1
        · exact e
      have hqb' : q' < 1099511627776 := by have := HQB.out; omega
      have HNX : Hid (Calls Tryd.prog 78 #[.pointer (some ⟨x, 0, none⟩)] wr.drew fun e w' => e = .returned (.int .u64 (zs.getD q' 0 : Nat)) ∧ Df w' x b zs (q' + 1) c' g' ∧ Kp x wr w' ∧ w'.cell? ⟨x, 2, none⟩ = some (.int .u64 (c' : Nat)) ∧ w'.frozen? ⟨x, 2, none⟩ = false) := (next_df (hd.same (w' := wr.drew) rfl) hqb').mono fun e w' ⟨h1, h2, h3⟩ => ⟨h1, h2, ((Kp.refl x wr).drew).trans h3, h2.code, h2.thaw2⟩
      have hc := hd.code
      have hf := hd.thaw2
      have hz := hd.byt q'
      have HFE : Hid _ := fetch64 (c := c') (z := zs.getD q' 0) (by have := HCG.out; omega) hz
      have HZ : Hid _ := hz
      clear hlt hz
      obtain ⟨z, hzz⟩ : ∃ z, zs.getD q' 0 = z := ⟨_, rfl⟩
      rw [hzz] at HNX HFE HZ
      have HZE : Hid _ := hzz
      clear hzz
      go_wp2_with fail
      go_region_with ((go_at_call 78; refine Calls.mono HNX.out ?_; rintro e w2 ⟨rfl, hd2, hk2, hc2, hf2⟩))
      all_goals
        have hr2 := hd2.rng
        have ht2 := hd2.thaw3
        have HD2 : Hid _ := hd2
        clear hd2 hc2 hf2
        go_wp2_with fail
        refine ⟨?_, ?_⟩
        · rw [HFE.out]
          have h3 := (HD2.out.setCode (c' * 256 + z)).setRng (g' * 256)
          rw [show ((g' * 256 : Nat) : Int) = (g' : Int) * 256 from by omega] at h3
          have hlt := HLT.out
          have hgm := HGM.out
          have hcg := HCG.out
          have hz := HZ.out
          have hqq := HQB.out
          refine ⟨f, c' * 256 + z, g' * 256, q' + 1, h3, ((hk.trans hk2).trans (Kp.set _ _ _ _)).trans (Kp.set _ _ _ _), ?_, (show c' * 256 + z < g' * 256 by omega), (show g' * 256 < 4294967296 by omega), ?_, (show q' + 1 + f ≤ q + 2 by omega)⟩
          · have := HN.out
            rw [dn, if_pos hlt, HZE.out] at this
            exact this
          · have := HFU.out
            rw [Nat.pow_succ', ← Nat.mul_assoc] at this
            exact this
        · have e1 : rngOf3 x wr = g' := by unfold rngOf3; rw [hr]; rfl
          have e2 : ∀ u : Value, rngOf3 x ((w2.setCell ⟨x, 2, none⟩ u).setCell ⟨x, 3, none⟩ (.int .u64 ((g' : Int) * 256))) = g' * 256 := fun u => by
            unfold rngOf3; rw [World.cell?_setCell_same _ _ _ ((World.cell?_setCell_other _ _ _ _ (by simp)).trans hr2)]; simp [intOf]; omega
          rw [e1, e2]
          have h2 := HPOS.out
          have h3 := HGM.out
          omega
    · have hlt' : decide ((g' : Int) < 16777216) = false := by simp; omega
      have HLT : Hid (¬ g' < 16777216) := hlt
      clear hlt
      go_wp2_with fail
      go_ret
      have hlt := HLT.out
      have := HN.out
      have e : dn zs f c' g' q' = (c', g', q') := by
        rcases f with _ | f
        · rfl
        · rw [dn, if_neg hlt]
      rw [e] at this
      subst this
      exact ⟨rfl, hd, hk⟩

end Go.Proofs.YtppanogpeengnaaDoor.L2

namespace Go.Proofs.YtppanogpeengnaaDoor.L2
open Go.RowKit

set_option maxHeartbeats 400000 in
theorem copy_some (ad : Addr) (c : Nat) (zs : List Nat) (w : World) (hc : ∀ j, j < zs.length → w.cell? (ad.add j) = some (.int .u8 (zs.getD j 0 : Nat))) (hl : zs.length ≤ 140737488355328) (h0 : 0 < zs.length) :
    Calls Tryd.prog 22 #[.slice (some ad) zs.length c] w fun e w' => ∃ v, e = .returned v ∧ w'.ownsRow w.heap.size 5 1 v zs.length (bs zs) ∧ Below w.heap.size w w' := by
  obtain ⟨i, hi, hz0, hz1, hz2⟩ := info_parts Tryd.info5
  have hown : w.ownsRow w.heap.size 5 1 (.slice none 0 0) 0 [] := World.ownsRow_nil _ _ _ _
  have hnews : ∀ j u, (bs zs)[j]? = some u → w.cell? (ad.add j) = some u := by
    intro j u hu
    have hj : j < zs.length := by have := List.getElem?_eq_some_iff.1 hu; obtain ⟨h1, _⟩ := this; rw [bs_length] at h1; exact h1
    rw [bs_get zs j hj] at hu
    rw [← hu]
    exact hc j hj
  go_enter Tryd.func22, Tryd.ntmps22
  go_wp2_with (at_builtin; refine wpList_append_lies _ (by rfl) _ _ _ (by rfl) w.heap.size 5 i (.int .u8 0) 1 1 Tryd.underlying44 hi hz0 hz1 hz2 rfl (by omega) _ 0 [] (by rfl) hown ad zs.length c (bs zs) (by rfl) (by rw [bs_length, Nat.mul_one]) hnews (bs_one zs) h0 (by unfold maxLen; omega) (by omega) (by simp) w.heap.size (by simp) ?_; intro g cap w1 hown1 hgrow hat hlt)
  go_ret
  rw [List.nil_append, Nat.zero_add] at hown1
  refine ⟨_, rfl, hown1, ?_⟩
  exact (Below.refl _ _).grown hgrow (by simp) (fun k hk => by simp [Value.ownBlock] at hk)

set_option maxHeartbeats 400000 in
theorem copy_none (a : Option Addr) (c : Nat) (w : World) : Calls Tryd.prog 22 #[.slice a 0 c] w fun e w' => e = .returned (.slice none 0 0) ∧ w' = w := by
  cases a with
  | none =>
    go_enter Tryd.func22, Tryd.ntmps22
    go_wp2
    go_ret
    exact ⟨rfl, rfl⟩
  | some ad =>
    go_enter Tryd.func22, Tryd.ntmps22
    go_wp2
    go_ret
    exact ⟨rfl, rfl⟩

theorem copy_any {w : World} {v : Value} {zs : List Nat} (h : SrcOf w v zs) (hl : zs.length ≤ 140737488355328) :
    Calls Tryd.prog 22 #[v] w fun e w' => ∃ a c, e = .returned (.slice a zs.length c) ∧ w'.ownsRow w.heap.size 5 1 (.slice a zs.length c) zs.length (bs zs) ∧ Below w.heap.size w w' := by
  rcases h with ⟨rfl, rfl⟩ | ⟨ad, c, rfl, hc⟩
  · refine (copy_none _ _ w).mono ?_
    rintro e w' ⟨rfl, rfl⟩
    exact ⟨_, _, rfl, World.ownsRow_nil _ _ _ _, Below.refl _ _⟩
  · by_cases h0 : zs.length = 0
    · obtain rfl : zs = [] := List.eq_nil_of_length_eq_zero h0
      refine (copy_none _ _ w).mono ?_
      rintro e w' ⟨rfl, rfl⟩
      exact ⟨_, _, rfl, World.ownsRow_nil _ _ _ _, Below.refl _ _⟩
    · refine (copy_some ad c zs w hc hl (by omega)).mono ?_
      rintro e w' ⟨v, rfl, h1, h2⟩
      obtain ⟨a, c, rfl⟩ := own_slice h1
      exact ⟨a, c, rfl, h1, h2⟩

/-- the document's decoder in block x that was made between two worlds -/
def DfMade (w w' : World) (zs : List Nat) (x : Nat) : Prop := ∃ b, Df w' x b zs 4 (dFirst zs) 4294967295 ∧ w.heap.size ≤ x ∧ w.heap.size ≤ b ∧ (zs ≠ [] → b < w'.heap.size) ∧ Below w.heap.size w w'

theorem grownNew {w w1 : World} {o : Obj} {row : Option Nat} (hg : (w.alloc o).grownBy w1 row) (hne : row ≠ some w.heap.size) (j : Nat) : w1.cell? ⟨w.heap.size, j, none⟩ = (w.alloc o).cell? ⟨w.heap.size, j, none⟩ ∧ w1.frozen? ⟨w.heap.size, j, none⟩ = (w.alloc o).frozen? ⟨w.heap.size, j, none⟩ := by
  have e : w1.heap[w.heap.size]? = (w.alloc o).heap[w.heap.size]? := hg.block w.heap.size (by simp) (Ne.symm hne)
  exact ⟨World.cell?_of_block (w := w.alloc o) (a := ⟨w.heap.size, j, none⟩) e, World.frozen?_of_block (w := w.alloc o) (a := ⟨w.heap.size, j, none⟩) e⟩

/-- what is left of Read: four bytes come in -/
def HalfR (w W : World) (x : Nat) (zs : List Nat) : Prop := ∃ b, Df W x b zs 0 0 4294967295 ∧ w.heap.size ≤ x ∧ w.heap.size ≤ b ∧ (zs ≠ [] → b < W.heap.size) ∧ Below w.heap.size w W

set_option maxRecDepth 100000 in
set_option maxHeartbeats 1000000 in
theorem rread_some (ad : Addr) (c : Nat) (zs : List Nat) (w : World) (hc : ∀ j, j < zs.length → w.cell? (ad.add j) = some (.int .u8 (zs.getD j 0 : Nat))) (hz : ∀ i, zs.getD i 0 < 256) (hl : zs.length ≤ 140737488355328) (h0 : 0 < zs.length) :
    Calls Tryd.prog 51 #[.slice (some ad) zs.length c] w fun e w' => ∃ x, e = .returned (.pointer (some ⟨x, 0, none⟩)) ∧ DfMade w w' zs x := by
  obtain ⟨i, hi, hz0, hz1, hz2⟩ := info_parts Tryd.info5
  have hown : (w.alloc (.cells #[.slice none 0 0, .int .i64 0, .int .u64 0, .int .u64 4294967295] 126)).ownsRow (w.heap.size + 1) 5 1 (.slice none 0 0) 0 [] := World.ownsRow_nil _ _ _ _
  have hnews : ∀ j u, (bs zs)[j]? = some u → (w.alloc (.cells #[.slice none 0 0, .int .i64 0, .int .u64 0, .int .u64 4294967295] 126)).cell? (ad.add j) = some u := by
    intro j u hu
    have hj : j < zs.length := by have := List.getElem?_eq_some_iff.1 hu; obtain ⟨h1, _⟩ := this; rw [bs_length] at h1; exact h1
    rw [bs_get zs j hj] at hu
    rw [← hu]
    have := hc j hj
    rw [World.cell?_alloc_lt _ _ _ (World.block_lt_of_cell? w _ this)]
    exact this
  have HC : Hid _ := hc
  have HZ : Hid (∀ i, zs.getD i 0 < 256) := hz
  clear hc hz
  go_enter Tryd.func51, Tryd.ntmps51
  go_wp2_with (at_builtin; refine wpList_append_lies _ (by rfl) _ _ _ (by rfl) (w.heap.size + 1) 5 i (.int .u8 0) 1 1 Tryd.underlying44 hi hz0 hz1 hz2 rfl (by omega) _ 0 [] (by rfl) hown ad zs.length c (bs zs) (by rfl) (by rw [bs_length, Nat.mul_one]) hnews (bs_one zs) h0 (by unfold maxLen; omega) (by omega) (by simp) (w.heap.size + 1) (by simp) ?_; intro g cap w1 hown1 hgrow hat hlt; have e0 := (grownNew hgrow (by simp [Value.ownBlock]) 0).1; have e1 := (grownNew hgrow (by simp [Value.ownBlock]) 1).1; have e2 := (grownNew hgrow (by simp [Value.ownBlock]) 2).1; have e3 := (grownNew hgrow (by simp [Value.ownBlock]) 3).1; have f0 := (grownNew hgrow (by simp [Value.ownBlock]) 0).2; have f1 := (grownNew hgrow (by simp [Value.ownBlock]) 1).2; have f2 := (grownNew hgrow (by simp [Value.ownBlock]) 2).2; have f3 := (grownNew hgrow (by simp [Value.ownBlock]) 3).2; simp at e0 e1 e2 e3 f0 f1 f2 f3)
  · have hh : HalfR w (w1.setCell ⟨w.heap.size, 0, none⟩ (.slice (some ⟨g, 0, none⟩) zs.length cap)) w.heap.size zs := by
      rw [List.nil_append, Nat.zero_add] at hown1
      have hg1 := (hown1.lt g rfl)
      have hsz : w.heap.size + 1 ≤ w1.heap.size := by have := hgrow.size; simpa using this
      have hcap : zs.length ≤ cap := by
        rcases hown1.2 with ⟨h1, _⟩ | ⟨b', cap', cur, h1, _, _, h2, _⟩
        · cases h1
        · simp only [Value.slice.injEq] at h1; omega
      have ef : ∀ a, (w1.setCell ⟨w.heap.size, 0, none⟩ (.slice (some ⟨g, 0, none⟩) zs.length cap)).frozen? a = w1.frozen? a := fun a => by simp
      have hdt : Dt w1 (.slice (some ⟨g, 0, none⟩) zs.length cap) g zs := Or.inr ⟨0, cap, hg1.2, hcap, rfl, fun j hj => by rw [Nat.zero_add, hown1.cellAt j (by omega)]; exact bs_get zs j hj⟩
      refine ⟨g, ⟨⟨_, World.cell?_setCell_same _ _ _ e0, hdt.far (by omega)⟩, ?_, ?_, ?_, ?_, ?_, ?_, ?_, by omega, HZ.out, hl, by omega⟩, Nat.le_refl _, by omega, fun _ => by simpa [World.setCell] using hg1.2, ?_⟩
      · rw [World.cell?_setCell_other _ _ _ _ (by simp)]; exact e1
      · rw [World.cell?_setCell_other _ _ _ _ (by simp)]; exact e2
      · rw [World.cell?_setCell_other _ _ _ _ (by simp)]; exact e3
      · rw [ef]; exact f1
      · rw [ef]; exact f2
      · rw [ef]; exact f3
      · simp [World.setCell]; omega
      · exact below_set (((Below.refl _ _).alloc (Nat.le_refl _) _).grown hgrow (by simp) (fun k hk => by simp [Value.ownBlock] at hk)) (Nat.le_refl _) _
    clear hown1 hgrow e0 e1 e2 e3 f0 f1 f2 f3 hown hnews HC
    generalize w1.setCell ⟨w.heap.size, 0, none⟩ (.slice (some ⟨g, 0, none⟩) zs.length cap) = W at *
    obtain ⟨b, hd0, hx, hb, hbl, hbel⟩ := hh
    have HBE : Hid _ := hbel
    have HBL : Hid _ := hbl
    clear hbel hbl
    go_loopw [4] (fun i wr => ∃ k : Nat, i = .int .i64 k ∧ k ≤ 4 ∧ Df wr w.heap.size b zs k (pre zs k) 4294967295 ∧ Kp w.heap.size W wr) (fun i _ => 4 - (intOf i).toNat)
    case atStart => exact ⟨0, rfl, by omega, hd0, Kp.refl _ _⟩
    case round =>
      clear hd0
      obtain ⟨k, rfl, hk, hd, hkp⟩ := hrel
      by_cases hlt4 : k < 4
      · have hpl : pre zs k < 16777216 := by
          have h1 := pre_lt HZ.out k
          have h2 : 256 ^ k ≤ 256 ^ 3 := Nat.pow_le_pow_right (by omega) (by omega)
          omega
        have HFE : Hid _ := fetch64 (c := pre zs k) (z := zs.getD k 0) hpl (HZ.out k)
        have HPE : Hid (pre zs (k + 1) = pre zs k * 256 + zs.getD k 0) := rfl
        have HNX : Hid (Calls Tryd.prog 78 #[.pointer (some ⟨w.heap.size, 0, none⟩)] wr.drew fun e w' => e = .returned (.int .u64 (zs.getD k 0 : Nat)) ∧ Df w' w.heap.size b zs (k + 1) (pre zs k) 4294967295 ∧ Kp w.heap.size wr w' ∧ w'.cell? ⟨w.heap.size, 2, none⟩ = some (.int .u64 (pre zs k : Nat)) ∧ w'.frozen? ⟨w.heap.size, 2, none⟩ = false) := (next_df (hd.same (w' := wr.drew) rfl) (by omega)).mono fun e w' ⟨h1, h2, h3⟩ => ⟨h1, h2, ((Kp.refl _ wr).drew).trans h3, h2.code, h2.thaw2⟩
        have hc := hd.code
        have hf := hd.thaw2
        clear hpl
        generalize zs.getD k 0 = z at *
        generalize pre zs k = pk at *
        go_wp2_with fail
        go_region_with ((go_at_call 78; refine Calls.mono HNX.out ?_; rintro e w2 ⟨rfl, hd2, hk2, hc2, hf2⟩))
        all_goals
          have HD2 : Hid _ := hd2
          clear hd2 hc2 hf2
          go_wp2_with fail
          refine ⟨⟨k + 1, by go_num, by omega, ?_, (hkp.trans hk2).trans (Kp.set _ _ _ _)⟩, by simp [intOf]; omega⟩
          rw [HFE.out, HPE.out]
          exact HD2.out.setCode (pk * 256 + z)
      · obtain rfl : k = 4 := by omega
        have hc := hd.code
        have ht := hd.thaw2
        have h1 := hd.setCode (dFirst zs)
        have hbel : ∀ u : Value, Below w.heap.size w (wr.setCell ⟨w.heap.size, 2, none⟩ u) := fun u => HBE.out.trans ((hkp.trans (Kp.set w.heap.size 2 wr u)).toBelow (Nat.le_refl _))
        have HS : Hid (DfMade w (wr.setCell ⟨w.heap.size, 2, none⟩ (.int .u64 (dFirst zs : Nat))) zs w.heap.size) := ⟨b, h1, Nat.le_refl _, hb, fun h => by have h5 := HBL.out h; have h6 := hkp.size; simp [World.setCell]; omega, hbel _⟩
        have HF : Hid (dFirst zs = min (pre zs 4) 4294967294) := rfl
        clear h1 hbel hd
        generalize dFirst zs = F at *
        generalize pre zs 4 = p4 at *
        go_wp2_with fail
        all_goals
          go_ret
          refine ⟨w.heap.size, rfl, ?_⟩
          have e := HF.out
          have hs := HS.out
          first
            | (rw [show ((F : Nat) : Int) = 4294967294 from by omega] at hs; exact hs)
            | (rw [show ((F : Nat) : Int) = (p4 : Int) from by omega] at hs; exact hs)

set_option maxRecDepth 100000 in
set_option maxHeartbeats 1000000 in
theorem rread_nil (w : World) : Calls Tryd.prog 51 #[.slice none 0 0] w fun e w' => ∃ x, e = .returned (.pointer (some ⟨x, 0, none⟩)) ∧ DfMade w w' [] x := by
  obtain ⟨zs, hzs⟩ : ∃ zs : List Nat, zs = [] := ⟨_, rfl⟩
  have HZ : Hid (∀ i, zs.getD i 0 < 256) := fun i => by rw [hzs]; simp
  rw [← hzs]
  go_enter Tryd.func51, Tryd.ntmps51
  go_wp2_with fail
  · have hh : HalfR w (w.alloc (.cells #[.slice none 0 0, .int .i64 0, .int .u64 0, .int .u64 4294967295] 126)) w.heap.size zs := by
      refine ⟨w.heap.size + 1, ⟨⟨.slice none 0 0, by simp, Or.inl ⟨hzs, _, _, rfl⟩⟩, by simp, by simp, by simp, by simp, by simp, by simp, by simp, by omega, HZ.out, by rw [hzs]; simp, by omega⟩, Nat.le_refl _, by omega, fun h => absurd hzs h, below_alloc (Below.refl _ _) (Nat.le_refl _) _⟩
    generalize w.alloc (.cells #[.slice none 0 0, .int .i64 0, .int .u64 0, .int .u64 4294967295] 126) = W at *
    clear hzs
    obtain ⟨b, hd0, hx, hb, hbl, hbel⟩ := hh
    have HBE : Hid _ := hbel
    have HBL : Hid _ := hbl
    clear hbel hbl
    go_loopw [4] (fun i wr => ∃ k : Nat, i = .int .i64 k ∧ k ≤ 4 ∧ Df wr w.heap.size b zs k (pre zs k) 4294967295 ∧ Kp w.heap.size W wr) (fun i _ => 4 - (intOf i).toNat)
    case atStart => exact ⟨0, rfl, by omega, hd0, Kp.refl _ _⟩
    case round =>
      clear hd0
      obtain ⟨k, rfl, hk, hd, hkp⟩ := hrel
      by_cases hlt4 : k < 4
      · have hpl : pre zs k < 16777216 := by
          have h1 := pre_lt HZ.out k
          have h2 : 256 ^ k ≤ 256 ^ 3 := Nat.pow_le_pow_right (by omega) (by omega)
          omega
        have HFE : Hid _ := fetch64 (c := pre zs k) (z := zs.getD k 0) hpl (HZ.out k)
        have HPE : Hid (pre zs (k + 1) = pre zs k * 256 + zs.getD k 0) := rfl
        have HNX : Hid (Calls Tryd.prog 78 #[.pointer (some ⟨w.heap.size, 0, none⟩)] wr.drew fun e w' => e = .returned (.int .u64 (zs.getD k 0 : Nat)) ∧ Df w' w.heap.size b zs (k + 1) (pre zs k) 4294967295 ∧ Kp w.heap.size wr w' ∧ w'.cell? ⟨w.heap.size, 2, none⟩ = some (.int .u64 (pre zs k : Nat)) ∧ w'.frozen? ⟨w.heap.size, 2, none⟩ = false) := (next_df (hd.same (w' := wr.drew) rfl) (by omega)).mono fun e w' ⟨h1, h2, h3⟩ => ⟨h1, h2, ((Kp.refl _ wr).drew).trans h3, h2.code, h2.thaw2⟩
        have hc := hd.code
        have hf := hd.thaw2
        clear hpl
        generalize zs.getD k 0 = z at *
        generalize pre zs k = pk at *
        go_wp2_with fail
        go_region_with ((go_at_call 78; refine Calls.mono HNX.out ?_; rintro e w2 ⟨rfl, hd2, hk2, hc2, hf2⟩))
        all_goals
          have HD2 : Hid _ := hd2
          clear hd2 hc2 hf2
          go_wp2_with fail
          refine ⟨⟨k + 1, by go_num, by omega, ?_, (hkp.trans hk2).trans (Kp.set _ _ _ _)⟩, by simp [intOf]; omega⟩
          rw [HFE.out, HPE.out]
          exact HD2.out.setCode (pk * 256 + z)
      · obtain rfl : k = 4 := by omega
        have hc := hd.code
        have ht := hd.thaw2
        have h1 := hd.setCode (dFirst zs)
        have hbel : ∀ u : Value, Below w.heap.size w (wr.setCell ⟨w.heap.size, 2, none⟩ u) := fun u => HBE.out.trans ((hkp.trans (Kp.set w.heap.size 2 wr u)).toBelow (Nat.le_refl _))
        have HS : Hid (DfMade w (wr.setCell ⟨w.heap.size, 2, none⟩ (.int .u64 (dFirst zs : Nat))) zs w.heap.size) := ⟨b, h1, Nat.le_refl _, hb, fun h => by have h5 := HBL.out h; have h6 := hkp.size; simp [World.setCell]; omega, hbel _⟩
        have HF : Hid (dFirst zs = min (pre zs 4) 4294967294) := rfl
        clear h1 hbel hd
        generalize dFirst zs = F at *
        generalize pre zs 4 = p4 at *
        go_wp2_with fail
        all_goals
          go_ret
          refine ⟨w.heap.size, rfl, ?_⟩
          have e := HF.out
          have hs := HS.out
          first
            | (rw [show ((F : Nat) : Int) = 4294967294 from by omega] at hs; exact hs)
            | (rw [show ((F : Nat) : Int) = (p4 : Int) from by omega] at hs; exact hs)

set_option maxRecDepth 100000 in
set_option maxHeartbeats 1000000 in
theorem rread_empty (ad : Addr) (c : Nat) (w : World) : Calls Tryd.prog 51 #[.slice (some ad) 0 c] w fun e w' => ∃ x, e = .returned (.pointer (some ⟨x, 0, none⟩)) ∧ DfMade w w' [] x := by
  obtain ⟨zs, hzs⟩ : ∃ zs : List Nat, zs = [] := ⟨_, rfl⟩
  have HZ : Hid (∀ i, zs.getD i 0 < 256) := fun i => by rw [hzs]; simp
  rw [← hzs]
  go_enter Tryd.func51, Tryd.ntmps51
  go_wp2_with fail
  · have hh : HalfR w (w.alloc (.cells #[.slice none 0 0, .int .i64 0, .int .u64 0, .int .u64 4294967295] 126)) w.heap.size zs := by
      refine ⟨w.heap.size + 1, ⟨⟨.slice none 0 0, by simp, Or.inl ⟨hzs, _, _, rfl⟩⟩, by simp, by simp, by simp, by simp, by simp, by simp, by simp, by omega, HZ.out, by rw [hzs]; simp, by omega⟩, Nat.le_refl _, by omega, fun h => absurd hzs h, below_alloc (Below.refl _ _) (Nat.le_refl _) _⟩
    generalize w.alloc (.cells #[.slice none 0 0, .int .i64 0, .int .u64 0, .int .u64 4294967295] 126) = W at *
    clear hzs
    obtain ⟨b, hd0, hx, hb, hbl, hbel⟩ := hh
    have HBE : Hid _ := hbel
    have HBL : Hid _ := hbl
    clear hbel hbl
    go_loopw [4] (fun i wr => ∃ k : Nat, i = .int .i64 k ∧ k ≤ 4 ∧ Df wr w.heap.size b zs k (pre zs k) 4294967295 ∧ Kp w.heap.size W wr) (fun i _ => 4 - (intOf i).toNat)
    case atStart => exact ⟨0, rfl, by omega, hd0, Kp.refl _ _⟩
    case round =>
      clear hd0
      obtain ⟨k, rfl, hk, hd, hkp⟩ := hrel
      by_cases hlt4 : k < 4
      · have hpl : pre zs k < 16777216 := by
          have h1 := pre_lt HZ.out k
          have h2 : 256 ^ k ≤ 256 ^ 3 := Nat.pow_le_pow_right (by omega) (by omega)
          omega
        have HFE : Hid _ := fetch64 (c := pre zs k) (z := zs.getD k 0) hpl (HZ.out k)
        have HPE : Hid (pre zs (k + 1) = pre zs k * 256 + zs.getD k 0) := rfl
        have HNX : Hid (Calls Tryd.prog 78 #[.pointer (some ⟨w.heap.size, 0, none⟩)] wr.drew fun e w' => e = .returned (.int .u64 (zs.getD k 0 : Nat)) ∧ Df w' w.heap.size b zs (k + 1) (pre zs k) 4294967295 ∧ Kp w.heap.size wr w' ∧ w'.cell? ⟨w.heap.size, 2, none⟩ = some (.int .u64 (pre zs k : Nat)) ∧ w'.frozen? ⟨w.heap.size, 2, none⟩ = false) := (next_df (hd.same (w' := wr.drew) rfl) (by omega)).mono fun e w' ⟨h1, h2, h3⟩ => ⟨h1, h2, ((Kp.refl _ wr).drew).trans h3, h2.code, h2.thaw2⟩
        have hc := hd.code
        have hf := hd.thaw2
        clear hpl
        generalize zs.getD k 0 = z at *
        generalize pre zs k = pk at *
        go_wp2_with fail
        go_region_with ((go_at_call 78; refine Calls.mono HNX.out ?_; rintro e w2 ⟨rfl, hd2, hk2, hc2, hf2⟩))
        all_goals
          have HD2 : Hid _ := hd2
          clear hd2 hc2 hf2
          go_wp2_with fail
          refine ⟨⟨k + 1, by go_num, by omega, ?_, (hkp.trans hk2).trans (Kp.set _ _ _ _)⟩, by simp [intOf]; omega⟩
          rw [HFE.out, HPE.out]
          exact HD2.out.setCode (pk * 256 + z)
      · obtain rfl : k = 4 := by omega
        have hc := hd.code
        have ht := hd.thaw2
        have h1 := hd.setCode (dFirst zs)
        have hbel : ∀ u : Value, Below w.heap.size w (wr.setCell ⟨w.heap.size, 2, none⟩ u) := fun u => HBE.out.trans ((hkp.trans (Kp.set w.heap.size 2 wr u)).toBelow (Nat.le_refl _))
        have HS : Hid (DfMade w (wr.setCell ⟨w.heap.size, 2, none⟩ (.int .u64 (dFirst zs : Nat))) zs w.heap.size) := ⟨b, h1, Nat.le_refl _, hb, fun h => by have h5 := HBL.out h; have h6 := hkp.size; simp [World.setCell]; omega, hbel _⟩
        have HF : Hid (dFirst zs = min (pre zs 4) 4294967294) := rfl
        clear h1 hbel hd
        generalize dFirst zs = F at *
        generalize pre zs 4 = p4 at *
        go_wp2_with fail
        all_goals
          go_ret
          refine ⟨w.heap.size, rfl, ?_⟩
          have e := HF.out
          have hs := HS.out
          first
            | (rw [show ((F : Nat) : Int) = 4294967294 from by omega] at hs; exact hs)
            | (rw [show ((F : Nat) : Int) = (p4 : Int) from by omega] at hs; exact hs)

theorem rread_any {w : World} {v : Value} {zs : List Nat} (h : SrcOf w v zs) (hz : ∀ i, zs.getD i 0 < 256) (hl : zs.length ≤ 140737488355328) :
    Calls Tryd.prog 51 #[v] w fun e w' => ∃ x, e = .returned (.pointer (some ⟨x, 0, none⟩)) ∧ DfMade w w' zs x := by
  rcases h with ⟨rfl, rfl⟩ | ⟨ad, c, rfl, hc⟩
  · exact rread_nil w
  · by_cases h0 : zs.length = 0
    · obtain rfl : zs = [] := List.eq_nil_of_length_eq_zero h0
      exact rread_empty ad c w
    · exact rread_some ad c zs w hc hz hl (by omega)

end Go.Proofs.YtppanogpeengnaaDoor.L2

namespace Go.Proofs.YtppanogpeengnaaDoor.L2
open Go.RowKit

def HalfF (w W : World) (x : Nat) (ys : List Nat) (low : Nat) : Prop := ∃ d, Ef W w.heap.size x d ys low 0 ∧ Below w.heap.size w W

set_option maxRecDepth 100000 in
set_option maxHeartbeats 2000000 in
theorem rbytes_efs {w : World} {B x : Nat} {d : Value} {T g k : Nat} (h : EfS w B x d T g k) (hE : Ev T g k) (hkb : k ≤ 1099511626000) :
    Calls Tryd.prog 46 #[.pointer (some ⟨x, 0, none⟩)] w fun e w' => ∃ v, e = .returned v ∧ ByNew w w' v T k := by
  have hfit : T < 256 ^ k * 4294967295 := by have := hE.fit; have := hE.least; omega
  have hg0 : 0 < g := by have := hE.least; omega
  obtain ⟨ys, low, h1, h2, h3, h4⟩ := h
  have hdat := h1.data
  have hlo := h1.low
  have hlow := h1.lies.2
  have hbyt := h1.byt
  have HBY : Hid (∀ i, ys.getD i 0 < 256) := hbyt
  have HFIT : Hid (T < 256 ^ k * 4294967295) := hfit
  have HV : Hid (pre ys k * 4294967296 + low = T) := h3
  have HLN : Hid (ys.length = k) := h2
  by_cases h0 : ys.length = 0
  · have hys : ys = [] := List.eq_nil_of_length_eq_zero h0
    obtain ⟨a, c, hd⟩ := own_slice h1.own
    rw [h0] at hd
    subst hd
    have hh : HalfF w (w.alloc (.cells #[.slice none 0 0, .int .u64 (low : Nat), .int .u64 0] 121)).drew w.heap.size ys low :=
      ⟨.slice none 0 0, ⟨by simp, by rw [hys]; exact World.ownsRow_nil _ _ _ _, by simp [Value.ownBlock], by simp, by simp, by simp, by simp, by simp, ⟨Nat.le_refl _, by simp⟩, hbyt⟩, Below.drew (below_alloc (Below.refl _ _) (Nat.le_refl _) _)⟩
    clear h1 h2 h3 hfit hbyt hE h0 hys
    cases a with
    | none =>
      go_enter Tryd.func46, Tryd.ntmps46
      go_wp2_with fail
      go_region
      go_wp2_with fail
      generalize (w.alloc (.cells #[.slice none 0 0, .int .u64 (low : Nat), .int .u64 0] 121)).drew = W at *
      obtain ⟨d0, hE0, hB0⟩ := hh
      have HB0 : Hid _ := hB0
      clear hB0
      go_loopw [4] (fun i wr => ∃ (j : Nat) (d' : Value) (y : List Nat) (low' : Nat), i = .int .i64 j ∧ j ≤ 4 ∧ Ef wr w.heap.size w.heap.size d' y low' 0 ∧ Hid (y.length = k + j) ∧ Hid (pre y (k + j) * 4294967296 + low' = T * 256 ^ j) ∧ Hid (low' < 8589934592) ∧ Hid (0 < j → low' < 4294967296) ∧ Kw w.heap.size d0 d' W wr) (fun i _ => 4 - (intOf i).toNat)
      case atStart => exact ⟨0, d0, ys, low, rfl, by omega, hE0, HLN.out, (show pre ys k * 4294967296 + low = T * 256 ^ 0 by rw [HV.out]; simp), (show low < 8589934592 by omega), (show 0 < 0 → _ by omega), Kw.refl _ _ _⟩
      case round =>
        have HKB : Hid (∀ {u : World} {d' : Value}, Kw w.heap.size d0 d' W u → Below w.heap.size w u) := fun {u d'} hk => HB0.out.trans ⟨hk.os, hk.tape, hk.output, hk.size, fun i hi => hk.block i (by have := hE0.lies; omega) (by omega) (fun e => by have := (hE0.own.lt i e).1; omega)⟩
        clear hE0
        obtain ⟨j, d', y, low', rfl, hj, hE, HL, HVV, HLO, HLP, hk⟩ := hrel
        by_cases hlt : j < 4
        · go_wp2_with fail
          refine (goes_efs (T := T * 256 ^ j) (k := k + j) ⟨y, low', hE, HL.out, HVV.out, by have := HLO.out; omega⟩ (fit_pow HFIT.out j) (by omega)).mono ?_; rintro e w2 ⟨rfl, d2, y2, low2, hd2, hl2, hv2, hlo2, hk2⟩
          have HD2 : Hid _ := hd2
          have HV2 : Hid _ := hv2
          have HL2 : Hid _ := hl2
          have HLO2 : Hid _ := hlo2
          clear hd2 hv2 hl2 hlo2
          go_wp2_with fail
          go_roundw
          case rel =>
            exact ⟨j + 1, d2, y2, low2, by go_num, by omega, HD2.out, HL2.out, (show pre y2 (k + (j + 1)) * 4294967296 + low2 = T * 256 ^ (j + 1) by rw [Nat.pow_succ, ← Nat.mul_assoc]; exact HV2.out), (show low2 < 8589934592 by have := HLO2.out; omega), fun _ => HLO2.out, hk.trans hk2⟩
          case measure => simp [intOf]; omega
        · obtain rfl : j = 4 := by omega
          have hval := four_out HVV.out (HLP.out (by omega))
          obtain ⟨b, cap, rfl, _, hb⟩ := hE.own.form (by have := HL.out; omega)
          have hcap : y.length ≤ cap := by
            rcases hE.own.2 with ⟨h1, _⟩ | ⟨b', cap', cur, h1, _, _, h2, _⟩
            · cases h1
            · simp only [Value.slice.injEq] at h1; omega
          have hdat := hE.data
          have hBb := hE.own.lt b rfl
          have hyl2 : y.length ≤ 1099511627776 := by have := HL.out; omega
          have HBY2 := By.made rfl hE.own hcap HL.out hval hE.byt hb
          have HBY3 : Hid _ := HBY2
          have hcells : ∀ j, j < y.length → wr.cell? ⟨b, j, none⟩ = some (.int .u8 (y.getD j 0 : Nat)) := fun j hj => by rw [hE.own.cellAt j (by omega)]; exact bs_get y j hj
          have HCC : Hid _ := hcells
          clear hcells HBY2 hval hE hlt
          have HKK : Hid _ := HKB.out hk
          clear hk HKB
          go_wp2_with fail
          go_loop [5] (fun i => ∃ m : Nat, i = .int .i64 m ∧ m ≤ y.length ∧ Hid (tl y m = tl y y.length)) (fun i => (intOf i).toNat)
          case atStart => exact ⟨y.length, rfl, Nat.le_refl _, rfl⟩
          case round =>
            obtain ⟨m, rfl, hm, HT⟩ := hrel
            rcases m with _ | m
            · go_wp2_with fail
              go_ret
              have ht := HT.out
              rw [tl] at ht
              have h3 := HBY3.out
              rw [← ht] at h3
              exact ⟨_, rfl, b, _, h3, hBb.1, HKK.out⟩
            · have hcm := HCC.out m (by omega)
              have h0 : ((0 : Int) < ((m + 1 : Nat) : Int)) := by omega
              by_cases hz : y.getD m 0 = 0
              · rw [hz] at hcm
                go_wp2_with fail
                go_round
                case rel =>
                  have ht := HT.out
                  rw [tl, if_pos hz] at ht
                  exact ⟨m, by go_num, by omega, ht⟩
                case measure => simp [intOf]
              · have hz' : (((y.getD m 0 : Nat) : Int) == 0) = false := by rw [beq_eq_false_iff_ne]; omega
                have ht := HT.out
                rw [tl, if_neg hz] at ht
                have h3 := HBY3.out
                rw [← ht] at h3
                have HB4 : Hid _ := h3
                clear hz ht h3 HBY3 HT
                generalize y.getD m 0 = z at *
                go_wp2_with fail
                go_ret
                exact ⟨_, rfl, b, _, HB4.out, hBb.1, HKK.out⟩
    | some ad =>
      go_enter Tryd.func46, Tryd.ntmps46
      go_wp2_with fail
      go_region
      go_wp2_with fail
      generalize (w.alloc (.cells #[.slice none 0 0, .int .u64 (low : Nat), .int .u64 0] 121)).drew = W at *
      obtain ⟨d0, hE0, hB0⟩ := hh
      have HB0 : Hid _ := hB0
      clear hB0
      go_loopw [4] (fun i wr => ∃ (j : Nat) (d' : Value) (y : List Nat) (low' : Nat), i = .int .i64 j ∧ j ≤ 4 ∧ Ef wr w.heap.size w.heap.size d' y low' 0 ∧ Hid (y.length = k + j) ∧ Hid (pre y (k + j) * 4294967296 + low' = T * 256 ^ j) ∧ Hid (low' < 8589934592) ∧ Hid (0 < j → low' < 4294967296) ∧ Kw w.heap.size d0 d' W wr) (fun i _ => 4 - (intOf i).toNat)
      case atStart => exact ⟨0, d0, ys, low, rfl, by omega, hE0, HLN.out, (show pre ys k * 4294967296 + low = T * 256 ^ 0 by rw [HV.out]; simp), (show low < 8589934592 by omega), (show 0 < 0 → _ by omega), Kw.refl _ _ _⟩
      case round =>
        have HKB : Hid (∀ {u : World} {d' : Value}, Kw w.heap.size d0 d' W u → Below w.heap.size w u) := fun {u d'} hk => HB0.out.trans ⟨hk.os, hk.tape, hk.output, hk.size, fun i hi => hk.block i (by have := hE0.lies; omega) (by omega) (fun e => by have := (hE0.own.lt i e).1; omega)⟩
        clear hE0
        obtain ⟨j, d', y, low', rfl, hj, hE, HL, HVV, HLO, HLP, hk⟩ := hrel
        by_cases hlt : j < 4
        · go_wp2_with fail
          refine (goes_efs (T := T * 256 ^ j) (k := k + j) ⟨y, low', hE, HL.out, HVV.out, by have := HLO.out; omega⟩ (fit_pow HFIT.out j) (by omega)).mono ?_; rintro e w2 ⟨rfl, d2, y2, low2, hd2, hl2, hv2, hlo2, hk2⟩
          have HD2 : Hid _ := hd2
          have HV2 : Hid _ := hv2
          have HL2 : Hid _ := hl2
          have HLO2 : Hid _ := hlo2
          clear hd2 hv2 hl2 hlo2
          go_wp2_with fail
          go_roundw
          case rel =>
            exact ⟨j + 1, d2, y2, low2, by go_num, by omega, HD2.out, HL2.out, (show pre y2 (k + (j + 1)) * 4294967296 + low2 = T * 256 ^ (j + 1) by rw [Nat.pow_succ, ← Nat.mul_assoc]; exact HV2.out), (show low2 < 8589934592 by have := HLO2.out; omega), fun _ => HLO2.out, hk.trans hk2⟩
          case measure => simp [intOf]; omega
        · obtain rfl : j = 4 := by omega
          have hval := four_out HVV.out (HLP.out (by omega))
          obtain ⟨b, cap, rfl, _, hb⟩ := hE.own.form (by have := HL.out; omega)
          have hcap : y.length ≤ cap := by
            rcases hE.own.2 with ⟨h1, _⟩ | ⟨b', cap', cur, h1, _, _, h2, _⟩
            · cases h1
            · simp only [Value.slice.injEq] at h1; omega
          have hdat := hE.data
          have hBb := hE.own.lt b rfl
          have hyl2 : y.length ≤ 1099511627776 := by have := HL.out; omega
          have HBY2 := By.made rfl hE.own hcap HL.out hval hE.byt hb
          have HBY3 : Hid _ := HBY2
          have hcells : ∀ j, j < y.length → wr.cell? ⟨b, j, none⟩ = some (.int .u8 (y.getD j 0 : Nat)) := fun j hj => by rw [hE.own.cellAt j (by omega)]; exact bs_get y j hj
          have HCC : Hid _ := hcells
          clear hcells HBY2 hval hE hlt
          have HKK : Hid _ := HKB.out hk
          clear hk HKB
          go_wp2_with fail
          go_loop [5] (fun i => ∃ m : Nat, i = .int .i64 m ∧ m ≤ y.length ∧ Hid (tl y m = tl y y.length)) (fun i => (intOf i).toNat)
          case atStart => exact ⟨y.length, rfl, Nat.le_refl _, rfl⟩
          case round =>
            obtain ⟨m, rfl, hm, HT⟩ := hrel
            rcases m with _ | m
            · go_wp2_with fail
              go_ret
              have ht := HT.out
              rw [tl] at ht
              have h3 := HBY3.out
              rw [← ht] at h3
              exact ⟨_, rfl, b, _, h3, hBb.1, HKK.out⟩
            · have hcm := HCC.out m (by omega)
              have h0 : ((0 : Int) < ((m + 1 : Nat) : Int)) := by omega
              by_cases hz : y.getD m 0 = 0
              · rw [hz] at hcm
                go_wp2_with fail
                go_round
                case rel =>
                  have ht := HT.out
                  rw [tl, if_pos hz] at ht
                  exact ⟨m, by go_num, by omega, ht⟩
                case measure => simp [intOf]
              · have hz' : (((y.getD m 0 : Nat) : Int) == 0) = false := by rw [beq_eq_false_iff_ne]; omega
                have ht := HT.out
                rw [tl, if_neg hz] at ht
                have h3 := HBY3.out
                rw [← ht] at h3
                have HB4 : Hid _ := h3
                clear hz ht h3 HBY3 HT
                generalize y.getD m 0 = z at *
                go_wp2_with fail
                go_ret
                exact ⟨_, rfl, b, _, HB4.out, hBb.1, HKK.out⟩
  · obtain ⟨i, hi, hz0, hz1, hz2⟩ := info_parts Tryd.info5
    obtain ⟨b, cap, rfl, _, hb⟩ := h1.own.form (by omega)
    have hownA : (w.alloc (.cells #[.slice none 0 0, .int .u64 (low : Nat), .int .u64 0] 121)).drew.ownsRow (w.heap.size + 1) 5 1 (.slice none 0 0) 0 [] := World.ownsRow_nil _ _ _ _
    have hnews : ∀ j u, (bs ys)[j]? = some u → (w.alloc (.cells #[.slice none 0 0, .int .u64 (low : Nat), .int .u64 0] 121)).drew.cell? ((⟨b, 0, none⟩ : Addr).add j) = some u := by
      intro j u hu
      have hj : j < ys.length := by have := List.getElem?_eq_some_iff.1 hu; obtain ⟨h1, _⟩ := this; rw [bs_length] at h1; exact h1
      rw [bs_get ys j hj] at hu
      rw [← hu, show (⟨b, 0, none⟩ : Addr).add j = ⟨b, j, none⟩ from (by unfold Addr.add; split <;> simp_all)]
      show (w.alloc _).cell? ⟨b, j, none⟩ = _
      rw [World.cell?_alloc_lt _ _ _ hb, h1.own.cellAt j (by omega)]
      exact bs_get ys j hj
    have hyl : ys.length ≤ 1099511626000 := by omega
    have h0' : 0 < ys.length := by omega
    clear h1 h2 h3 hfit hbyt hE h0
    go_enter Tryd.func46, Tryd.ntmps46
    go_wp2_with fail
    go_region_law ((refine step_append_lies _ (by rfl) _ _ _ (by rfl) (w.heap.size + 1) 5 i (.int .u8 0) 1 1 Tryd.underlying44 hi hz0 hz1 hz2 rfl (by omega) _ 0 [] (by rfl) hownA ⟨b, 0, none⟩ ys.length cap (bs ys) (by rfl) (by rw [bs_length, Nat.mul_one]) hnews (bs_one _) (by omega) (by unfold maxLen; omega) (by omega) (by simp; try omega) (w.heap.size + 1) (by simp) ?_; intro gg cap2 w1 hown1 hgrow hat hlt; have hgr := undrew hgrow; have e0 := (grownNew hgr (by simp [Value.ownBlock]) 0).1; have e1 := (grownNew hgr (by simp [Value.ownBlock]) 1).1; have e2 := (grownNew hgr (by simp [Value.ownBlock]) 2).1; have f0 := (grownNew hgr (by simp [Value.ownBlock]) 0).2; have f1 := (grownNew hgr (by simp [Value.ownBlock]) 1).2; have f2 := (grownNew hgr (by simp [Value.ownBlock]) 2).2; simp at e0 e1 e2 f0 f1 f2))
    all_goals
      go_wp2_with fail
      have hh : HalfF w (w1.setCell ⟨w.heap.size, 0, none⟩ (.slice (some ⟨gg, 0, none⟩) ys.length cap2)) w.heap.size ys low := by
        rw [List.nil_append, Nat.zero_add] at hown1
        have hg1 := (hown1.lt gg rfl)
        have hsz : w.heap.size + 1 ≤ w1.heap.size := by have := hgr.size; simpa using this
        have ef : ∀ a, (w1.setCell ⟨w.heap.size, 0, none⟩ (.slice (some ⟨gg, 0, none⟩) ys.length cap2)).frozen? a = w1.frozen? a := fun a => by simp
        have hap : (Value.slice (some ⟨gg, 0, none⟩) ys.length cap2).ownBlock ≠ some w.heap.size := by simp [Value.ownBlock]; omega
        refine ⟨_, ⟨World.cell?_setCell_same _ _ _ e0, own_set_far (own_mono hown1 (by omega)) hap _, hap, ?_, ?_, ?_, ?_, ?_, ⟨Nat.le_refl _, by simp [World.setCell]; omega⟩, HBY.out⟩, ?_⟩
        · rw [World.cell?_setCell_other _ _ _ _ (by simp)]; exact e1
        · rw [World.cell?_setCell_other _ _ _ _ (by simp)]; exact e2
        · rw [ef]; exact f0
        · rw [ef]; exact f1
        · rw [ef]; exact f2
        · exact below_set (((Below.refl _ _).alloc (Nat.le_refl _) _).grown hgr (by simp) (fun k hk => by simp [Value.ownBlock] at hk)) (Nat.le_refl _) _
      clear hown1 hgrow hgr e0 e1 e2 f0 f1 f2 hownA hnews hdat hlo
      generalize w1.setCell ⟨w.heap.size, 0, none⟩ (.slice (some ⟨gg, 0, none⟩) ys.length cap2) = W at *
      obtain ⟨d0, hE0, hB0⟩ := hh
      have HB0 : Hid _ := hB0
      clear hB0
      go_loopw [4] (fun i wr => ∃ (j : Nat) (d' : Value) (y : List Nat) (low' : Nat), i = .int .i64 j ∧ j ≤ 4 ∧ Ef wr w.heap.size w.heap.size d' y low' 0 ∧ Hid (y.length = k + j) ∧ Hid (pre y (k + j) * 4294967296 + low' = T * 256 ^ j) ∧ Hid (low' < 8589934592) ∧ Hid (0 < j → low' < 4294967296) ∧ Kw w.heap.size d0 d' W wr) (fun i _ => 4 - (intOf i).toNat)
      case atStart => exact ⟨0, d0, ys, low, rfl, by omega, hE0, HLN.out, (show pre ys k * 4294967296 + low = T * 256 ^ 0 by rw [HV.out]; simp), (show low < 8589934592 by omega), (show 0 < 0 → _ by omega), Kw.refl _ _ _⟩
      case round =>
        have HKB : Hid (∀ {u : World} {d' : Value}, Kw w.heap.size d0 d' W u → Below w.heap.size w u) := fun {u d'} hk => HB0.out.trans ⟨hk.os, hk.tape, hk.output, hk.size, fun i hi => hk.block i (by have := hE0.lies; omega) (by omega) (fun e => by have := (hE0.own.lt i e).1; omega)⟩
        clear hE0
        obtain ⟨j, d', y, low', rfl, hj, hE, HL, HVV, HLO, HLP, hk⟩ := hrel
        by_cases hlt : j < 4
        · go_wp2_with fail
          refine (goes_efs (T := T * 256 ^ j) (k := k + j) ⟨y, low', hE, HL.out, HVV.out, by have := HLO.out; omega⟩ (fit_pow HFIT.out j) (by omega)).mono ?_; rintro e w2 ⟨rfl, d2, y2, low2, hd2, hl2, hv2, hlo2, hk2⟩
          have HD2 : Hid _ := hd2
          have HV2 : Hid _ := hv2
          have HL2 : Hid _ := hl2
          have HLO2 : Hid _ := hlo2
          clear hd2 hv2 hl2 hlo2
          go_wp2_with fail
          go_roundw
          case rel =>
            exact ⟨j + 1, d2, y2, low2, by go_num, by omega, HD2.out, HL2.out, (show pre y2 (k + (j + 1)) * 4294967296 + low2 = T * 256 ^ (j + 1) by rw [Nat.pow_succ, ← Nat.mul_assoc]; exact HV2.out), (show low2 < 8589934592 by have := HLO2.out; omega), fun _ => HLO2.out, hk.trans hk2⟩
          case measure => simp [intOf]; omega
        · obtain rfl : j = 4 := by omega
          have hval := four_out HVV.out (HLP.out (by omega))
          obtain ⟨b, cap, rfl, _, hb⟩ := hE.own.form (by have := HL.out; omega)
          have hcap : y.length ≤ cap := by
            rcases hE.own.2 with ⟨h1, _⟩ | ⟨b', cap', cur, h1, _, _, h2, _⟩
            · cases h1
            · simp only [Value.slice.injEq] at h1; omega
          have hdat := hE.data
          have hBb := hE.own.lt b rfl
          have hyl2 : y.length ≤ 1099511627776 := by have := HL.out; omega
          have HBY2 := By.made rfl hE.own hcap HL.out hval hE.byt hb
          have HBY3 : Hid _ := HBY2
          have hcells : ∀ j, j < y.length → wr.cell? ⟨b, j, none⟩ = some (.int .u8 (y.getD j 0 : Nat)) := fun j hj => by rw [hE.own.cellAt j (by omega)]; exact bs_get y j hj
          have HCC : Hid _ := hcells
          clear hcells HBY2 hval hE hlt
          have HKK : Hid _ := HKB.out hk
          clear hk HKB
          go_wp2_with fail
          go_loop [5] (fun i => ∃ m : Nat, i = .int .i64 m ∧ m ≤ y.length ∧ Hid (tl y m = tl y y.length)) (fun i => (intOf i).toNat)
          case atStart => exact ⟨y.length, rfl, Nat.le_refl _, rfl⟩
          case round =>
            obtain ⟨m, rfl, hm, HT⟩ := hrel
            rcases m with _ | m
            · go_wp2_with fail
              go_ret
              have ht := HT.out
              rw [tl] at ht
              have h3 := HBY3.out
              rw [← ht] at h3
              exact ⟨_, rfl, b, _, h3, hBb.1, HKK.out⟩
            · have hcm := HCC.out m (by omega)
              have h0 : ((0 : Int) < ((m + 1 : Nat) : Int)) := by omega
              by_cases hz : y.getD m 0 = 0
              · rw [hz] at hcm
                go_wp2_with fail
                go_round
                case rel =>
                  have ht := HT.out
                  rw [tl, if_pos hz] at ht
                  exact ⟨m, by go_num, by omega, ht⟩
                case measure => simp [intOf]
              · have hz' : (((y.getD m 0 : Nat) : Int) == 0) = false := by rw [beq_eq_false_iff_ne]; omega
                have ht := HT.out
                rw [tl, if_neg hz] at ht
                have h3 := HBY3.out
                rw [← ht] at h3
                have HB4 : Hid _ := h3
                clear hz ht h3 HBY3 HT
                generalize y.getD m 0 = z at *
                go_wp2_with fail
                go_ret
                exact ⟨_, rfl, b, _, HB4.out, hBb.1, HKK.out⟩

end Go.Proofs.YtppanogpeengnaaDoor.L2
