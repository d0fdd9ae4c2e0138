/- DERIVED. The document's own decoder (zoetroperef02.Decoder) in memory, and the walks of its part, next, Value. -/
import Derived.Test.YtogaekjohnbbiaaDoorLwD
namespace Go.Proofs.YtogaekjohnbbiaaDoor
open Go.RowKit

theorem mul_cast64 {g lo : Nat} (hl : lo ≤ 32768) (hg : g < 4294967296) : (g : Int) / 32768 * lo = ((g / 32768 * lo : Nat) : Int) ∧ g / 32768 * lo < 4294967296 := by
  have h := Nat.lt_of_le_of_lt (pBeg_le (g := g) hl) hg
  unfold pBeg at h
  exact ⟨by rw [Int.natCast_mul, Int.natCast_ediv]; rfl, h⟩

set_option maxRecDepth 100000 in
set_option maxHeartbeats 400000 in
theorem rpart_any (g lo hi : Nat) (w : World) (hg : g < 4294967296) (hl : lo < hi) (hh : hi ≤ 32768) :
    Calls Tryd.prog 30 #[.int .u64 g, .int .u32 lo, .int .u32 hi] w fun e w' => e = .returned (.tuple #[.int .u64 (pBeg g lo : Nat), .int .u64 (pWid g lo hi : Nat)]) ∧ w' = w := by
  have h1 := pBeg_le (g := g) (lo := lo) (by omega)
  have m1 := mul_cast64 (g := g) (lo := lo) (by omega) hg
  have m2 := mul_cast64 (g := g) (lo := hi - lo) (by omega) hg
  have M1 : Hid _ := m1
  have M2 : Hid _ := m2
  clear m1 m2
  unfold pWid
  by_cases h : hi = 32768
  · subst h
    rw [if_pos rfl]
    unfold pBeg at *
    have H1 : Hid (g / 32768 * lo ≤ g) := h1
    clear h1
    go_enter Tryd.func30, Tryd.ntmps30
    go_wp2
    go_ret2
    have e1 := M1.out
    have e2 := H1.out
    refine ⟨ret_two ?_ ?_, rfl⟩
    · rw [IntKind.wrap_u64, e1.1]; omega
    · rw [IntKind.wrap_u64, IntKind.wrap_u64, e1.1]; omega
  · rw [if_neg h]
    unfold pBeg at *
    have H1 : Hid (g / 32768 * lo ≤ g) := h1
    clear h1
    go_enter Tryd.func30, Tryd.ntmps30
    go_wp2
    go_ret2
    have e1 := M1.out
    have e2 := M2.out
    refine ⟨ret_two ?_ ?_, rfl⟩
    · rw [IntKind.wrap_u64, e1.1]; omega
    · rw [show ((hi : Int) - lo) = ((hi - lo : Nat) : Int) from by omega, IntKind.wrap_u64, e2.1]; omega

/-- the document's decoder in block x of the bytes zs, which lie in block b -/
structure Df (w : World) (x b : Nat) (zs : List Nat) (q c g : Nat) : Prop where
  data : ∃ v, w.cell? ⟨x, 0, none⟩ = some v ∧ Dt w v b zs
  place : w.cell? ⟨x, 1, none⟩ = some (.int .i64 (q : Nat))
  code : w.cell? ⟨x, 2, none⟩ = some (.int .u64 (c : Nat))
  rng : w.cell? ⟨x, 3, none⟩ = some (.int .u64 (g : Nat))
  thaw1 : w.frozen? ⟨x, 1, none⟩ = false
  thaw2 : w.frozen? ⟨x, 2, none⟩ = false
  thaw3 : w.frozen? ⟨x, 3, none⟩ = false
  low : x < w.heap.size
  apart : b ≠ x
  byt : ∀ i, zs.getD i 0 < 256
  len : zs.length ≤ 140737488355328
  plc : q ≤ 1099511627776

theorem Df.carry {w w' : World} {x b : Nat} {zs : List Nat} {q c g : Nat} (h : Df w x b zs q c g) (hr : w'.heap[x]? = w.heap[x]?) (hg : zs ≠ [] → b < w.heap.size → w'.heap[b]? = w.heap[b]?) (hs : w.heap.size ≤ w'.heap.size) : Df w' x b zs q c g := by
  have ec : ∀ o, w'.cell? ⟨x, o, none⟩ = w.cell? ⟨x, o, none⟩ := fun o => World.cell?_of_block (w := w) hr
  have ef : ∀ o, w'.frozen? ⟨x, o, none⟩ = w.frozen? ⟨x, o, none⟩ := fun o => World.frozen?_of_block (w := w) hr
  refine ⟨?_, by rw [ec]; exact h.place, by rw [ec]; exact h.code, by rw [ec]; exact h.rng, by rw [ef]; exact h.thaw1, by rw [ef]; exact h.thaw2, by rw [ef]; exact h.thaw3, Nat.lt_of_lt_of_le h.low hs, h.apart, h.byt, h.len, h.plc⟩
  obtain ⟨v, hv, hd⟩ := h.data
  refine ⟨v, by rw [ec]; exact hv, ?_⟩
  rcases hd with h1 | ⟨o, c, h1, h2, h3, h4⟩
  · exact Or.inl h1
  · by_cases hz : zs = []
    · exact Or.inl ⟨hz, _, _, by rw [h3, hz]; rfl⟩
    · exact Or.inr ⟨o, c, Nat.lt_of_lt_of_le h1 hs, h2, h3, fun i hi => by rw [World.cell?_of_block (w := w) (a := ⟨b, o + i, none⟩) (hg hz h1)]; exact h4 i hi⟩
theorem Df.same {w w' : World} {x b : Nat} {zs : List Nat} {q c g : Nat} (h : Df w x b zs q c g) (e : w'.heap = w.heap) : Df w' x b zs q c g :=
  h.carry (by rw [e]) (fun _ _ => by rw [e]) (by rw [e]; exact Nat.le_refl _)
theorem Df.below {w w' : World} {x b : Nat} {zs : List Nat} {q c g : Nat} (h : Df w x b zs q c g) (hb : Below w.heap.size w w') : Df w' x b zs q c g :=
  h.carry (hb.block x h.low) (fun _ hl => hb.block b hl) hb.size
theorem Df.kp {w w' : World} {x b y : Nat} {zs : List Nat} {q c g : Nat} (h : Df w x b zs q c g) (hk : Kp y w w') (hx : x ≠ y) (hb : zs ≠ [] → b ≠ y) : Df w' x b zs q c g :=
  h.carry (hk.block x hx) (fun hz _ => hk.block b (hb hz)) (Nat.le_of_eq hk.size.symm)
theorem Dt.far {w : World} {v : Value} {b x o : Nat} {zs : List Nat} {u : Value} (h : Dt w v b zs) (hn : b ≠ x) : Dt (w.setCell ⟨x, o, none⟩ u) v b zs := by
  rcases h with h1 | ⟨o', c, h1, h2, h3, h4⟩
  · exact Or.inl h1
  · exact Or.inr ⟨o', c, by simpa [World.setCell] using h1, h2, h3, fun i hi => by rw [World.cell?_setCell_far _ _ _ _ (fun e => hn e.symm)]; exact h4 i hi⟩
theorem Df.setPlace {w : World} {x b : Nat} {zs : List Nat} {q c g : Nat} (h : Df w x b zs q c g) (q' : Nat) (hq : q' ≤ 1099511627776) : Df (w.setCell ⟨x, 1, none⟩ (.int .i64 (q' : Nat))) x b zs q' c g := by
  have ef : ∀ a, (w.setCell ⟨x, 1, none⟩ (.int .i64 (q' : Nat))).frozen? a = w.frozen? a := fun a => by simp
  obtain ⟨v, hv, hd⟩ := h.data
  have hlow := h.low
  exact ⟨⟨v, by rw [World.cell?_setCell_other _ _ _ _ (by simp)]; exact hv, hd.far h.apart⟩, World.cell?_setCell_same _ _ _ h.place, by rw [World.cell?_setCell_other _ _ _ _ (by simp)]; exact h.code, by rw [World.cell?_setCell_other _ _ _ _ (by simp)]; exact h.rng, by rw [ef]; exact h.thaw1, by rw [ef]; exact h.thaw2, by rw [ef]; exact h.thaw3, by simpa [World.setCell] using hlow, h.apart, h.byt, h.len, hq⟩
theorem Df.setCode {w : World} {x b : Nat} {zs : List Nat} {q c g : Nat} (h : Df w x b zs q c g) (c' : Nat) : Df (w.setCell ⟨x, 2, none⟩ (.int .u64 (c' : Nat))) x b zs q c' g := by
  have ef : ∀ a, (w.setCell ⟨x, 2, none⟩ (.int .u64 (c' : Nat))).frozen? a = w.frozen? a := fun a => by simp
  obtain ⟨v, hv, hd⟩ := h.data
  have hlow := h.low
  exact ⟨⟨v, by rw [World.cell?_setCell_other _ _ _ _ (by simp)]; exact hv, hd.far h.apart⟩, by rw [World.cell?_setCell_other _ _ _ _ (by simp)]; exact h.place, World.cell?_setCell_same _ _ _ h.code, by rw [World.cell?_setCell_other _ _ _ _ (by simp)]; exact h.rng, by rw [ef]; exact h.thaw1, by rw [ef]; exact h.thaw2, by rw [ef]; exact h.thaw3, by simpa [World.setCell] using hlow, h.apart, h.byt, h.len, h.plc⟩
theorem Df.setRng {w : World} {x b : Nat} {zs : List Nat} {q c g : Nat} (h : Df w x b zs q c g) (g' : Nat) : Df (w.setCell ⟨x, 3, none⟩ (.int .u64 (g' : Nat))) x b zs q c g' := by
  have ef : ∀ a, (w.setCell ⟨x, 3, none⟩ (.int .u64 (g' : Nat))).frozen? a = w.frozen? a := fun a => by simp
  obtain ⟨v, hv, hd⟩ := h.data
  have hlow := h.low
  exact ⟨⟨v, by rw [World.cell?_setCell_other _ _ _ _ (by simp)]; exact hv, hd.far h.apart⟩, by rw [World.cell?_setCell_other _ _ _ _ (by simp)]; exact h.place, by rw [World.cell?_setCell_other _ _ _ _ (by simp)]; exact h.code, World.cell?_setCell_same _ _ _ h.rng, by rw [ef]; exact h.thaw1, by rw [ef]; exact h.thaw2, by rw [ef]; exact h.thaw3, by simpa [World.setCell] using hlow, h.apart, h.byt, h.len, h.plc⟩

set_option maxRecDepth 100000 in
set_option maxHeartbeats 1000000 in
theorem next_df {w : World} {x b : Nat} {zs : List Nat} {q c g : Nat} (h : Df w x b zs q c g) (hq : q < 1099511627776) :
    Calls Tryd.prog 35 #[.pointer (some ⟨x, 0, none⟩)] w fun e w' => e = .returned (.int .u64 (zs.getD q 0 : Nat)) ∧ Df w' x b zs (q + 1) c g ∧ Kp x w w' := by
  obtain ⟨v, hv, hd⟩ := h.data
  have hp := h.place
  have ht := h.thaw1
  have hS := h.setPlace (q + 1) (by omega)
  rw [show ((q + 1 : Nat) : Int) = (q : Int) + 1 from by omega] at hS
  have HS : Hid _ := hS
  have hbyt := h.byt q
  have hap := h.apart
  have hlen := h.len
  have hlow := h.low
  clear h hS
  rcases hd with ⟨h0, a, cc, rfl⟩ | ⟨o, cc, hb, hcc, rfl, hcell⟩
  · subst h0
    go_enter Tryd.func35, Tryd.ntmps35
    go_wp2
    go_ret
    exact ⟨rfl, HS.out, Kp.set _ _ _ _⟩
  · by_cases hlt : q < zs.length
    · have hc := hcell q hlt
      clear hcell
      generalize zs.getD q 0 = z at *
      go_enter Tryd.func35, Tryd.ntmps35
      go_wp2
      go_ret
      exact ⟨rfl, HS.out, Kp.set _ _ _ _⟩
    · rw [getD_len zs (by omega)]
      clear hcell hbyt
      go_enter Tryd.func35, Tryd.ntmps35
      go_wp2
      go_ret
      exact ⟨rfl, HS.out, Kp.set _ _ _ _⟩

set_option maxRecDepth 100000 in
set_option maxHeartbeats 400000 in
theorem value_df {w : World} {x b : Nat} {zs : List Nat} {q c g : Nat} (h : Df w x b zs q c g) (hk : Dk c g) :
    Calls Tryd.prog 21 #[.pointer (some ⟨x, 0, none⟩)] w fun e w' => e = .returned (.tuple #[.int .u32 (dVal c g : Nat), .int .i64 0]) ∧ ∃ k, w' = w.drewN k := by
  have hc := h.code
  have hr := h.rng
  have h1 := hk.below
  have h2 := hk.least
  have h3 := hk.most
  have hr0 : (0 : Int) < (g : Int) / 32768 := by omega
  have hq : (c : Int) / ((g : Int) / 32768) = ((c / (g / 32768) : Nat) : Int) := by rw [Int.natCast_ediv, Int.natCast_ediv]; rfl
  have hle : c / (g / 32768) < 4294967296 := Nat.lt_of_le_of_lt (Nat.div_le_self _ _) (by omega)
  have HQ : Hid _ := hq
  have HL : Hid _ := hle
  clear hq hle
  go_enter Tryd.func21, Tryd.ntmps21
  go_wp2
  go_quiet (fail)
  go_wp2
  all_goals
    go_ret2
    refine ⟨ret_two ?_ rfl, ⟨_, rfl⟩⟩
    have hq := HQ.out
    have hle := HL.out
    unfold dVal
    simp only [IntKind.wrap_u64] at *
    generalize c / (g / 32768) = m at *
    omega

end Go.Proofs.YtogaekjohnbbiaaDoor
