/- DERIVED. A rac.Decoder in memory (Dc), what a method may touch (Kp), and the walks of part and of the decoder's none, place, fetch, Value. -/
import Derived.Test.YtppanogpeengnaaDoorRows
import Derived.Test.YtppanogpeengnaaDoorL2Ra
import Derived.WalkKit
import Derived.WalkSpells
import Derived.WalkLawsBesides
import Derived.Deep.QuietTactic
import Derived.BigQuiet
import Derived.BigRegion
namespace Go.Proofs.YtppanogpeengnaaDoor.L2
open Go.RowKit

theorem ret_int {k : IntKind} {a b : Int} (h : a = b) : Ending.returned (.int k a) = .returned (.int k b) := by rw [h]
theorem ret_two {k k' : IntKind} {a b c d : Int} (h : a = c) (h' : b = d) : Ending.returned (.tuple #[.int k a, .int k' b]) = .returned (.tuple #[.int k c, .int k' d]) := by rw [h, h']

/-! ### part -/
theorem mul_cast {g lo : Nat} (hl : lo ≤ 32768) (hg : g < 4294967296) : (g : Int) / 32768 * lo % 4294967296 = ((g / 32768 * lo : Nat) : Int) := by
  have h := Nat.lt_of_le_of_lt (pBeg_le (g := g) hl) hg
  unfold pBeg at h
  rw [show (g : Int) / 32768 * lo = ((g / 32768 * lo : Nat) : Int) from (by rw [Int.natCast_mul, Int.natCast_ediv]; rfl)]
  omega
set_option maxHeartbeats 400000 in
theorem part_any (g lo hi : Nat) (w : World) (hg : g < 4294967296) (hl : lo < hi) (hh : hi ≤ 32768) :
    Calls Tryd.prog 109 #[.int .u32 g, .int .u32 lo, .int .u32 hi] w fun e w' => e = .returned (.tuple #[.int .u32 (pBeg g lo : Nat), .int .u32 (pWid g lo hi : Nat)]) ∧ w' = w := by
  have h1 := pBeg_le (g := g) (lo := lo) (by omega)
  have m1 := mul_cast (g := g) (lo := lo) (by omega) hg
  have m2 := mul_cast (g := g) (lo := hi - lo) (by omega) hg
  have M1 : Hid _ := m1
  have M2 : Hid _ := m2
  clear m1 m2
  unfold pWid
  by_cases h : hi = 32768
  · subst h
    rw [if_pos rfl]
    unfold pBeg at *
    have H1 : Hid (g / 32768 * lo ≤ g) := h1
    clear h1
    go_enter Tryd.func109, Tryd.ntmps109
    go_wp2
    go_ret2
    refine ⟨ret_two M1.out ?_, rfl⟩
    rw [M1.out]
    have := H1.out
    omega
  · rw [if_neg h]
    unfold pBeg at *
    have H1 : Hid (g / 32768 * lo ≤ g) := h1
    clear h1
    go_enter Tryd.func109, Tryd.ntmps109
    go_wp2
    go_ret2
    refine ⟨ret_two M1.out ?_, rfl⟩
    rw [← M2.out, show ((hi - lo : Nat) : Int) = (hi : Int) - lo from by omega]

/-! ### a decoder -/
/-- a slice of the bytes zs in block b -/
def Dt (w : World) (v : Value) (b : Nat) (zs : List Nat) : Prop :=
  (zs = [] ∧ ∃ a c, v = .slice a 0 c) ∨ ∃ o c, b < w.heap.size ∧ zs.length ≤ c ∧ v = .slice (some ⟨b, o, none⟩) zs.length c ∧ ∀ i, i < zs.length → w.cell? ⟨b, o + i, none⟩ = some (.int .u8 (zs.getD i 0 : Nat))

/-- a decoder in block x of the bytes zs (what is left of them lies in block b), of which q were asked for; its code and its range -/
structure Dc (w : World) (x b : Nat) (zs : List Nat) (q c g : Nat) : Prop where
  data : ∃ v, w.cell? ⟨x, 0, none⟩ = some v ∧ Dt w v b (zs.drop q)
  code : w.cell? ⟨x, 1, none⟩ = some (.int .u32 (c : Nat))
  rng : w.cell? ⟨x, 2, none⟩ = some (.int .u32 (g : Nat))
  thaw0 : w.frozen? ⟨x, 0, none⟩ = false
  thaw1 : w.frozen? ⟨x, 1, none⟩ = false
  thaw2 : w.frozen? ⟨x, 2, none⟩ = false
  low : x < w.heap.size
  apart : b ≠ x
  byt : ∀ i, zs.getD i 0 < 256
  len : zs.length ≤ 140737488355328

/-- what holds of every decoder's numbers -/
structure Dk (c g : Nat) : Prop where
  below : c < g
  least : 16777216 ≤ g
  most : g < 4294967296

/-- of all blocks r alone may have turned; nothing was made -/
structure Kp (r : Nat) (w w' : World) : Prop where
  os : w'.os = w.os
  tape : w'.tape = w.tape
  output : w'.output = w.output
  size : w'.heap.size = w.heap.size
  block : ∀ k, k ≠ r → w'.heap[k]? = w.heap[k]?
theorem Kp.refl (r : Nat) (w : World) : Kp r w w := ⟨rfl, rfl, rfl, rfl, fun _ _ => rfl⟩
theorem Kp.trans {r : Nat} {a b c : World} (h : Kp r a b) (k : Kp r b c) : Kp r a c :=
  ⟨k.os.trans h.os, k.tape.trans h.tape, k.output.trans h.output, k.size.trans h.size, fun i hi => (k.block i hi).trans (h.block i hi)⟩
theorem Kp.drewN {r : Nat} {w w' : World} (h : Kp r w w') (n : Nat) : Kp r w (w'.drewN n) := ⟨h.os, h.tape, h.output, h.size, h.block⟩
theorem Kp.drew {r : Nat} {w w' : World} (h : Kp r w w') : Kp r w w'.drew := ⟨h.os, h.tape, h.output, h.size, h.block⟩
theorem Kp.set (r o : Nat) (w : World) (u : Value) : Kp r w (w.setCell ⟨r, o, none⟩ u) :=
  ⟨rfl, rfl, rfl, by simp [World.setCell], fun k hk => Below.heap_setCell _ _ _ _ (by simpa using hk)⟩

theorem Dc.carry {w w' : World} {x b : Nat} {zs : List Nat} {q c g : Nat} (h : Dc w x b zs q c g) (hr : w'.heap[x]? = w.heap[x]?) (hg : b < w.heap.size → w'.heap[b]? = w.heap[b]?) (hs : w.heap.size ≤ w'.heap.size) : Dc w' x b zs q c g := by
  have ec : ∀ o, w'.cell? ⟨x, o, none⟩ = w.cell? ⟨x, o, none⟩ := fun o => World.cell?_of_block (w := w) hr
  have ef : ∀ o, w'.frozen? ⟨x, o, none⟩ = w.frozen? ⟨x, o, none⟩ := fun o => World.frozen?_of_block (w := w) hr
  refine ⟨?_, by rw [ec]; exact h.code, by rw [ec]; exact h.rng, by rw [ef]; exact h.thaw0, by rw [ef]; exact h.thaw1, by rw [ef]; exact h.thaw2, Nat.lt_of_lt_of_le h.low hs, h.apart, h.byt, h.len⟩
  obtain ⟨v, hv, hd⟩ := h.data
  refine ⟨v, by rw [ec]; exact hv, ?_⟩
  rcases hd with h1 | ⟨o, c, h1, h2, h3, h4⟩
  · exact Or.inl h1
  · exact Or.inr ⟨o, c, Nat.lt_of_lt_of_le h1 hs, h2, h3, fun i hi => by rw [World.cell?_of_block (w := w) (a := ⟨b, o + i, none⟩) (hg h1)]; exact h4 i hi⟩
theorem Dc.same {w w' : World} {x b : Nat} {zs : List Nat} {q c g : Nat} (h : Dc w x b zs q c g) (e : w'.heap = w.heap) : Dc w' x b zs q c g :=
  h.carry (by rw [e]) (fun _ => by rw [e]) (by rw [e]; exact Nat.le_refl _)
theorem Dc.below {w w' : World} {x b : Nat} {zs : List Nat} {q c g : Nat} (h : Dc w x b zs q c g) (hb : Below w.heap.size w w') : Dc w' x b zs q c g :=
  h.carry (hb.block x h.low) (fun hl => hb.block b hl) hb.size
/-- another thing's block turned -/
theorem Dc.kp {w w' : World} {x b y : Nat} {zs : List Nat} {q c g : Nat} (h : Dc w x b zs q c g) (hk : Kp y w w') (hx : x ≠ y) (hb : b ≠ y) : Dc w' x b zs q c g :=
  h.carry (hk.block x hx) (fun _ => hk.block b hb) (Nat.le_of_eq hk.size.symm)
theorem Dc.setCode {w : World} {x b : Nat} {zs : List Nat} {q c g : Nat} (h : Dc w x b zs q c g) (c' : Nat) : Dc (w.setCell ⟨x, 1, none⟩ (.int .u32 (c' : Nat))) x b zs q c' g := by
  have ef : ∀ a, (w.setCell ⟨x, 1, none⟩ (.int .u32 (c' : Nat))).frozen? a = w.frozen? a := fun a => by simp
  obtain ⟨v, hv, hd⟩ := h.data
  have hlow := h.low
  have hap := h.apart
  refine ⟨⟨v, by rw [World.cell?_setCell_other _ _ _ _ (by simp)]; exact hv, ?_⟩, World.cell?_setCell_same _ _ _ h.code, by rw [World.cell?_setCell_other _ _ _ _ (by simp)]; exact h.rng, by rw [ef]; exact h.thaw0, by rw [ef]; exact h.thaw1, by rw [ef]; exact h.thaw2, by simpa [World.setCell] using hlow, hap, h.byt, h.len⟩
  rcases hd with h1 | ⟨o, c, h1, h2, h3, h4⟩
  · exact Or.inl h1
  · exact Or.inr ⟨o, c, by simpa [World.setCell] using h1, h2, h3, fun i hi => by rw [World.cell?_setCell_other _ _ _ _ (by simp)]; exact h4 i hi⟩
theorem Dc.setRng {w : World} {x b : Nat} {zs : List Nat} {q c g : Nat} (h : Dc w x b zs q c g) (g' : Nat) : Dc (w.setCell ⟨x, 2, none⟩ (.int .u32 (g' : Nat))) x b zs q c g' := by
  have ef : ∀ a, (w.setCell ⟨x, 2, none⟩ (.int .u32 (g' : Nat))).frozen? a = w.frozen? a := fun a => by simp
  obtain ⟨v, hv, hd⟩ := h.data
  have hlow := h.low
  have hap := h.apart
  refine ⟨⟨v, by rw [World.cell?_setCell_other _ _ _ _ (by simp)]; exact hv, ?_⟩, by rw [World.cell?_setCell_other _ _ _ _ (by simp)]; exact h.code, World.cell?_setCell_same _ _ _ h.rng, by rw [ef]; exact h.thaw0, by rw [ef]; exact h.thaw1, by rw [ef]; exact h.thaw2, by simpa [World.setCell] using hlow, hap, h.byt, h.len⟩
  rcases hd with h1 | ⟨o, c, h1, h2, h3, h4⟩
  · exact Or.inl h1
  · exact Or.inr ⟨o, c, by simpa [World.setCell] using h1, h2, h3, fun i hi => by rw [World.cell?_setCell_other _ _ _ _ (by simp)]; exact h4 i hi⟩

set_option maxHeartbeats 400000 in
theorem dnone_any {x g : Nat} {w : World} (h : w.cell? ⟨x, 2, none⟩ = some (.int .u32 (g : Nat))) (hg : 0 < g) :
    Calls Tryd.prog 99 #[.pointer (some ⟨x, 0, none⟩)] w fun e w' => e = .returned (.bool false) ∧ w' = w := by
  have h0 : ((g : Int) == 0) = false := by simp; omega
  go_enter Tryd.func99, Tryd.ntmps99
  go_wp2
  go_ret
  exact ⟨rfl, rfl⟩

set_option maxHeartbeats 400000 in
theorem dplace_any {x c g : Nat} {w : World} (hc : w.cell? ⟨x, 1, none⟩ = some (.int .u32 (c : Nat))) (h : w.cell? ⟨x, 2, none⟩ = some (.int .u32 (g : Nat))) (hk : Dk c g) :
    Calls Tryd.prog 100 #[.pointer (some ⟨x, 0, none⟩)] w fun e w' => e = .returned (.int .u32 (dVal c g : Nat)) ∧ ∃ k, w' = w.drewN k := by
  have h1 := hk.below
  have h2 := hk.least
  have h3 := hk.most
  have hr : (0 : Int) < (g : Int) / 32768 := by omega
  have hq : (c : Int) / ((g : Int) / 32768) % 4294967296 = ((c / (g / 32768) : Nat) : Int) := by
    have : c / (g / 32768) ≤ c := Nat.div_le_self _ _
    rw [show (c : Int) / ((g : Int) / 32768) = ((c / (g / 32768) : Nat) : Int) from (by rw [Int.natCast_ediv, Int.natCast_ediv]; rfl)]
    generalize c / (g / 32768) = m at *
    omega
  have HQ : Hid _ := hq
  clear hq
  go_enter Tryd.func100, Tryd.ntmps100
  go_wp2
  go_quiet (fail)
  go_wp2
  all_goals
    go_ret
    refine ⟨ret_int ?_, ⟨_, rfl⟩⟩
    have hq := HQ.out
    unfold dVal
    generalize c / (g / 32768) = m at *
    omega

theorem Dc.setData {w : World} {x b : Nat} {zs : List Nat} {q c g : Nat} (h : Dc w x b zs q c g) {q' : Nat} {v' : Value} (hd : Dt w v' b (zs.drop q')) : Dc (w.setCell ⟨x, 0, none⟩ v') x b zs q' c g := by
  have ef : ∀ a, (w.setCell ⟨x, 0, none⟩ v').frozen? a = w.frozen? a := fun a => by simp
  obtain ⟨v, hv, _⟩ := h.data
  have hlow := h.low
  have hap := h.apart
  refine ⟨⟨v', World.cell?_setCell_same _ _ _ hv, ?_⟩, by rw [World.cell?_setCell_other _ _ _ _ (by simp)]; exact h.code, by rw [World.cell?_setCell_other _ _ _ _ (by simp)]; exact h.rng, by rw [ef]; exact h.thaw0, by rw [ef]; exact h.thaw1, by rw [ef]; exact h.thaw2, by simpa [World.setCell] using hlow, hap, h.byt, h.len⟩
  rcases hd with h1 | ⟨o, c, h1, h2, h3, h4⟩
  · exact Or.inl h1
  · exact Or.inr ⟨o, c, by simpa [World.setCell] using h1, h2, h3, fun i hi => by rw [World.cell?_setCell_other _ _ _ _ (by simp)]; exact h4 i hi⟩

theorem getD_drop (zs : List Nat) (k j : Nat) : (zs.drop k).getD j 0 = zs.getD (k + j) 0 := by
  simp [List.getD_eq_getElem?_getD, List.getElem?_drop]
theorem getD_len (zs : List Nat) {k : Nat} (h : zs.length ≤ k) : zs.getD k 0 = 0 := by
  rw [List.getD_eq_getElem?_getD, List.getElem?_eq_none h]; rfl

theorem wraps_u32 (n : Int) (h₀ : 0 ≤ n) (h₁ : n < 2 ^ 32) : IntKind.u32.wrap n = n := by rw [IntKind.wrap_u32]; omega
theorem fetch_or (a b : Nat) (ha : a < 16777216) (hb : b < 256) : bits .or .u32 ((a : Int) * 256) (b : Nat) = ((a * 256 + b : Nat) : Int) := by
  rw [bits_join .u32 32 (by decide) wraps_u32 8 _ _ (by omega) (by omega) (by omega) (by omega) (by omega) (by omega)]
  omega

set_option maxHeartbeats 1000000 in
theorem fetch_dc {w : World} {x b : Nat} {zs : List Nat} {q c g : Nat} (h : Dc w x b zs q c g) (hc : c < 16777216) :
    Calls Tryd.prog 77 #[.pointer (some ⟨x, 0, none⟩)] w fun e w' => e = .returned (.tuple #[]) ∧ Dc w' x b zs (q + 1) (c * 256 + zs.getD q 0) g ∧ Kp x w w' := by
  obtain ⟨v, hv, hd⟩ := h.data
  have hcode := h.code
  have ht0 := h.thaw0
  have ht1 := h.thaw1
  have hap := h.apart
  have hlen := h.len
  have HD : Hid (Dc w x b zs q c g) := h
  clear h
  rcases hd with ⟨h0, a, cc, rfl⟩ | ⟨o, cc, hb, hcc, rfl, hcell⟩
  · have hl : zs.length ≤ q := by simpa using h0
    rw [getD_len zs hl]
    go_enter Tryd.func77, Tryd.ntmps77
    go_wp2
    go_end0
    refine ⟨rfl, ?_, Kp.set _ _ _ _⟩
    have h1 := HD.out.setCode (c * 256 + 0)
    rw [show (((c * 256 + 0 : Nat)) : Int) = (c : Int) * 256 from by omega] at h1
    obtain ⟨v, hv2, _⟩ := h1.data
    exact ⟨⟨_, (World.cell?_setCell_other _ _ _ _ (by simp)).trans hv, Or.inl ⟨by simp; omega, _, _, rfl⟩⟩, h1.code, h1.rng, h1.thaw0, h1.thaw1, h1.thaw2, h1.low, h1.apart, h1.byt, h1.len⟩
  · by_cases hz : (zs.drop q).length = 0
    · have hl : zs.length ≤ q := by simp at hz; omega
      rw [getD_len zs hl]
      rw [hz] at hv
      go_enter Tryd.func77, Tryd.ntmps77
      go_wp2
      go_end0
      refine ⟨rfl, ?_, Kp.set _ _ _ _⟩
      have h1 := HD.out.setCode (c * 256 + 0)
      rw [show (((c * 256 + 0 : Nat)) : Int) = (c : Int) * 256 from by omega] at h1
      exact ⟨⟨_, (World.cell?_setCell_other _ _ _ _ (by simp)).trans hv, Or.inl ⟨by simp; omega, _, _, rfl⟩⟩, h1.code, h1.rng, h1.thaw0, h1.thaw1, h1.thaw2, h1.low, h1.apart, h1.byt, h1.len⟩
    · have HC : Hid _ := hcell
      have c0 := hcell 0 (by omega)
      rw [getD_drop, Nat.add_zero] at c0
      have hz0 := HD.out.byt q
      have hnl : (zs.drop (q + 1)).length = (zs.drop q).length - 1 := by simp; omega
      have HN : Hid _ := hnl
      have hor : bits .or .u32 ((c : Int) * 256) (zs.getD q 0 : Nat) = ((c * 256 + zs.getD q 0 : Nat) : Int) := fetch_or _ _ hc hz0
      have HO : Hid _ := hor
      clear hcell hnl hor
      generalize zs.getD q 0 = z at *
      generalize hn : (zs.drop q).length = n at *
      have hn2 : n ≤ 140737488355328 := by rw [← hn]; simp; omega
      have HNN : Hid _ := hn
      clear hn
      by_cases hcc1 : cc = 1
      · subst hcc1
        go_enter Tryd.func77, Tryd.ntmps77
        go_wp2
        go_region
        go_wp2_with fail
        go_end0
        rw [HO.out]
        have h1 := (HD.out.setCode (c * 256)).setCode (c * 256 + z)
        rw [show (((c * 256 : Nat)) : Int) = (c : Int) * 256 from by omega] at h1
        exact ⟨rfl, (h1.setData (q' := q + 1) (Or.inl ⟨List.eq_nil_of_length_eq_zero (by have := HN.out; omega), _, _, rfl⟩)).same rfl, (((Kp.set _ _ _ _).trans (Kp.set _ _ _ _)).trans (Kp.set _ _ _ _)).drew⟩
      · go_enter Tryd.func77, Tryd.ntmps77
        go_wp2
        go_region
        go_wp2_with fail
        go_end0
        rw [HO.out]
        have h1 := (HD.out.setCode (c * 256)).setCode (c * 256 + z)
        rw [show (((c * 256 : Nat)) : Int) = (c : Int) * 256 from by omega] at h1
        have hN := HN.out
        refine ⟨rfl, (h1.setData (q' := q + 1) (Or.inr ⟨o + 1, cc - 1, by simpa [World.setCell] using hb, by omega, by rw [hN], fun i hi => ?_⟩)).same rfl, (((Kp.set _ _ _ _).trans (Kp.set _ _ _ _)).trans (Kp.set _ _ _ _)).drew⟩
        have h2 := HC.out (i + 1) (by omega)
        rw [World.cell?_setCell_other _ _ _ _ (by simp), World.cell?_setCell_other _ _ _ _ (by simp), show o + 1 + i = o + (i + 1) from by omega, h2, getD_drop, getD_drop, show q + (i + 1) = q + 1 + i from by omega]

set_option maxHeartbeats 400000 in
theorem value_dc {w : World} {x b : Nat} {zs : List Nat} {q c g : Nat} (h : Dc w x b zs q c g) (hk : Dk c g) :
    Calls Tryd.prog 82 #[.pointer (some ⟨x, 0, none⟩)] w fun e w' => e = .returned (.tuple #[.int .u32 (dVal c g : Nat), .int .i64 0]) ∧ ∃ k, w' = w.drewN k := by
  have hg : 0 < g := by have := hk.least; omega
  go_enter Tryd.func82, Tryd.ntmps82
  go_wp2_with fail
  refine (dnone_any h.rng hg).mono ?_; rintro e w1 ⟨rfl, rfl⟩
  go_wp2_with fail
  refine (dplace_any h.code h.rng hk).mono ?_; rintro e w2 ⟨rfl, k, rfl⟩
  go_wp2_with fail
  go_ret2
  exact ⟨rfl, k, rfl⟩

set_option maxHeartbeats 1000000 in
theorem take_no {w : World} {x b : Nat} {zs : List Nat} {q c g : Nat} (h : Dc w x b zs q c g) (hk : Dk c g) (lo hi : Nat) (hm : ¬ dMay c g lo hi) :
    Calls Tryd.prog 102 #[.pointer (some ⟨x, 0, none⟩), .int .u32 lo, .int .u32 hi] w fun e w' => e = .returned (.int .i64 2) ∧ ∃ k, w' = w.drewN k := by
  have hg : 0 < g := by have := hk.least; omega
  unfold dMay at hm
  have hc := h.code
  have hr := h.rng
  clear h
  have HP : Hid _ := fun w (hc : World.cell? w ⟨x, 1, none⟩ = some (.int .u32 (c : Nat))) h => dplace_any hc h hk
  generalize dVal c g = v at *
  by_cases h1 : lo ≤ v
  · by_cases h2 : v < hi
    · have h3 : 32768 < hi := by omega
      go_enter Tryd.func102, Tryd.ntmps102
      go_wp2_with fail
      refine (dnone_any hr hg).mono ?_; rintro e w1 ⟨rfl, rfl⟩
      go_wp2_with fail
      refine (HP.out _ hc hr).mono ?_; rintro e w2 ⟨rfl, k, rfl⟩
      go_wp2_with fail
      go_ret
      exact ⟨rfl, k, rfl⟩
    · go_enter Tryd.func102, Tryd.ntmps102
      go_wp2_with fail
      refine (dnone_any hr hg).mono ?_; rintro e w1 ⟨rfl, rfl⟩
      go_wp2_with fail
      refine (HP.out _ hc hr).mono ?_; rintro e w2 ⟨rfl, k, rfl⟩
      go_wp2_with fail
      go_ret
      exact ⟨rfl, k, rfl⟩
  · go_enter Tryd.func102, Tryd.ntmps102
    go_wp2_with fail
    refine (dnone_any hr hg).mono ?_; rintro e w1 ⟨rfl, rfl⟩
    go_wp2_with fail
    refine (HP.out _ hc hr).mono ?_; rintro e w2 ⟨rfl, k, rfl⟩
    go_wp2_with fail
    go_ret
    exact ⟨rfl, k, rfl⟩

/-- the range that lies in a decoder's, or in an encoder's block -/
def rngOf (x : Nat) (w : World) : Nat := (intOf ((w.cell? ⟨x, 2, none⟩).getD (.int .u32 0))).toNat

end Go.Proofs.YtppanogpeengnaaDoor.L2
