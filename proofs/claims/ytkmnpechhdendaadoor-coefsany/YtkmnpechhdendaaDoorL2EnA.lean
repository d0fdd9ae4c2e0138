/- DERIVED. A rac.Encoder in memory (En), what a method may touch (Kw), and the walks of New and of the encoder's none and carry. -/
import Derived.Test.YtkmnpechhdendaaDoorL2DcC
import Derived.Deep.RegionLaw
import Derived.WalkMore
namespace Go.Proofs.YtkmnpechhdendaaDoor.L2
open Go.RowKit

/-- an encoder in block x: the bytes ys are out -/
structure En (w : World) (B x : Nat) (d : Value) (ys : List Nat) (low g : Nat) : Prop where
  data : w.cell? ⟨x, 0, none⟩ = some d
  own : w.ownsRow B 5 1 d ys.length (bs ys)
  apart : d.ownBlock ≠ some x
  low : w.cell? ⟨x, 1, none⟩ = some (.int .u64 (low : Nat))
  rng : w.cell? ⟨x, 2, none⟩ = some (.int .u32 (g : Nat))
  thaw0 : w.frozen? ⟨x, 0, none⟩ = false
  thaw1 : w.frozen? ⟨x, 1, none⟩ = false
  thaw2 : w.frozen? ⟨x, 2, none⟩ = false
  lies : B ≤ x ∧ x < w.heap.size
  byt : ∀ i, ys.getD i 0 < 256

/-- of the blocks that were there the encoder's own two alone may have turned -/
structure Kw (x : Nat) (d d' : Value) (w w' : World) : Prop where
  os : w'.os = w.os
  tape : w'.tape = w.tape
  output : w'.output = w.output
  size : w.heap.size ≤ w'.heap.size
  block : ∀ k, k < w.heap.size → k ≠ x → d.ownBlock ≠ some k → w'.heap[k]? = w.heap[k]?
  new : ∀ g, d'.ownBlock = some g → d.ownBlock = some g ∨ w.heap.size ≤ g
theorem Kw.trans {x : Nat} {d d' d'' : Value} {a b c : World} (h : Kw x d d' a b) (k : Kw x d' d'' b c) : Kw x d d'' a c :=
  ⟨k.os.trans h.os, k.tape.trans h.tape, k.output.trans h.output, Nat.le_trans h.size k.size,
   fun i hi hx hd => (k.block i (Nat.lt_of_lt_of_le hi h.size) hx (fun e => by rcases h.new i e with e | e; exact hd e; omega)).trans (h.block i hi hx hd),
   fun g hg => by
    rcases k.new g hg with e | e
    · exact h.new g e
    · right; have := h.size; omega⟩
theorem Kw.refl (x : Nat) (d : Value) (w : World) : Kw x d d w w := ⟨rfl, rfl, rfl, Nat.le_refl _, fun _ _ _ _ => rfl, fun _ h => Or.inl h⟩
theorem Kw.set {x : Nat} {d : Value} {w : World} (o : Nat) (u : Value) : Kw x d d w (w.setCell ⟨x, o, none⟩ u) :=
  ⟨rfl, rfl, rfl, by simp [World.setCell], fun k _ hk _ => Below.heap_setCell _ _ _ _ (by simpa using hk), fun _ h => Or.inl h⟩
theorem Kw.setOwn {x g : Nat} {d : Value} {w : World} (hd : d.ownBlock = some g) (o : Nat) (u : Value) : Kw x d d w (w.setCell ⟨g, o, none⟩ u) :=
  ⟨rfl, rfl, rfl, by simp [World.setCell], fun k _ _ hk => Below.heap_setCell _ _ _ _ (by rw [hd] at hk; simp at hk; exact fun e => hk e.symm), fun _ h => Or.inl h⟩
theorem Kw.drewN {x : Nat} {d d' : Value} {w w' : World} (h : Kw x d d' w w') (n : Nat) : Kw x d d' w (w'.drewN n) := ⟨h.os, h.tape, h.output, h.size, h.block, h.new⟩
theorem Kw.drew {x : Nat} {d d' : Value} {w w' : World} (h : Kw x d d' w w') : Kw x d d' w w'.drew := ⟨h.os, h.tape, h.output, h.size, h.block, h.new⟩
theorem Kw.below {x : Nat} {d : Value} {w w' : World} (h : Below w.heap.size w w') : Kw x d d w w' := ⟨h.os, h.tape, h.output, h.size, fun k hk _ _ => h.block k hk, fun _ h => Or.inl h⟩

theorem own_set_far {w : World} {B e size n : Nat} {v : Value} {xs : List Value} (h : w.ownsRow B e size v n xs) {a : Addr} (ha : v.ownBlock ≠ some a.block) (u : Value) : (w.setCell a u).ownsRow B e size v n xs := by
  refine ⟨h.1, ?_⟩
  rcases h.2 with h1 | ⟨g, cap, cur, rfl, h2, h3, h4⟩
  · exact Or.inl h1
  · exact Or.inr ⟨g, cap, cur, rfl, h2, by rw [Below.heap_setCell _ _ _ _ (fun e => ha (by simp [Value.ownBlock, e]))]; exact h3, h4⟩
theorem far_cell {wr w1 : World} {o : Obj} {row : Option Nat} (hg : (wr.alloc o).grownBy w1 row) {x : Nat} (hx : x < wr.heap.size) (hne : row ≠ some x) (j : Nat) : w1.cell? ⟨x, j, none⟩ = wr.cell? ⟨x, j, none⟩ ∧ w1.frozen? ⟨x, j, none⟩ = wr.frozen? ⟨x, j, none⟩ := by
  have e : w1.heap[x]? = wr.heap[x]? := by
    rw [hg.block x (by simp; omega) (Ne.symm hne), Below.heap_alloc _ _ _ hx]
  exact ⟨World.cell?_of_block (w := wr) (a := ⟨x, j, none⟩) e, World.frozen?_of_block (w := wr) (a := ⟨x, j, none⟩) e⟩
theorem undrew {a b : World} {row : Option Nat} (h : a.drew.grownBy b row) : a.grownBy b row := ⟨h.os, h.tape, h.output, h.size, h.block⟩

theorem En.carry {w w' : World} {B x : Nat} {d : Value} {ys : List Nat} {low g : Nat} (h : En w B x d ys low g) (hr : w'.heap[x]? = w.heap[x]?) (hg : ∀ b, d.ownBlock = some b → w'.heap[b]? = w.heap[b]?) (hs : w.heap.size ≤ w'.heap.size) : En w' B x d ys low g := by
  have ec : ∀ o, w'.cell? ⟨x, o, none⟩ = w.cell? ⟨x, o, none⟩ := fun o => World.cell?_of_block (w := w) hr
  have ef : ∀ o, w'.frozen? ⟨x, o, none⟩ = w.frozen? ⟨x, o, none⟩ := fun o => World.frozen?_of_block (w := w) hr
  refine ⟨by rw [ec]; exact h.data, ?_, h.apart, by rw [ec]; exact h.low, by rw [ec]; exact h.rng, by rw [ef]; exact h.thaw0, by rw [ef]; exact h.thaw1, by rw [ef]; exact h.thaw2, ⟨h.lies.1, Nat.lt_of_lt_of_le h.lies.2 hs⟩, h.byt⟩
  refine ⟨h.own.1, ?_⟩
  rcases h.own.2 with h1 | ⟨b, cap, cur, rfl, h2, h3, h4⟩
  · exact Or.inl h1
  · exact Or.inr ⟨b, cap, cur, rfl, h2, by rw [hg b rfl]; exact h3, h4⟩
theorem En.same {w w' : World} {B x : Nat} {d : Value} {ys : List Nat} {low g : Nat} (h : En w B x d ys low g) (e : w'.heap = w.heap) : En w' B x d ys low g :=
  h.carry (by rw [e]) (fun _ _ => by rw [e]) (by rw [e]; exact Nat.le_refl _)
theorem En.below {w w' : World} {B x : Nat} {d : Value} {ys : List Nat} {low g : Nat} (h : En w B x d ys low g) (hb : Below w.heap.size w w') : En w' B x d ys low g :=
  h.carry (hb.block x h.lies.2) (fun b e => hb.block b (h.own.lt b e).2) hb.size
theorem En.setLow {w : World} {B x : Nat} {d : Value} {ys : List Nat} {low g : Nat} (h : En w B x d ys low g) (low' : Nat) : En (w.setCell ⟨x, 1, none⟩ (.int .u64 (low' : Nat))) B x d ys low' g := by
  have ef : ∀ a, (w.setCell ⟨x, 1, none⟩ (.int .u64 (low' : Nat))).frozen? a = w.frozen? a := fun a => by simp
  have hl := h.lies
  exact ⟨by rw [World.cell?_setCell_other _ _ _ _ (by simp)]; exact h.data, own_set_far h.own h.apart _, h.apart, World.cell?_setCell_same _ _ _ h.low, by rw [World.cell?_setCell_other _ _ _ _ (by simp)]; exact h.rng, by rw [ef]; exact h.thaw0, by rw [ef]; exact h.thaw1, by rw [ef]; exact h.thaw2, by simpa [World.setCell] using hl, h.byt⟩
theorem En.setRng {w : World} {B x : Nat} {d : Value} {ys : List Nat} {low g : Nat} (h : En w B x d ys low g) (g' : Nat) : En (w.setCell ⟨x, 2, none⟩ (.int .u32 (g' : Nat))) B x d ys low g' := by
  have ef : ∀ a, (w.setCell ⟨x, 2, none⟩ (.int .u32 (g' : Nat))).frozen? a = w.frozen? a := fun a => by simp
  have hl := h.lies
  exact ⟨by rw [World.cell?_setCell_other _ _ _ _ (by simp)]; exact h.data, own_set_far h.own h.apart _, h.apart, by rw [World.cell?_setCell_other _ _ _ _ (by simp)]; exact h.low, World.cell?_setCell_same _ _ _ h.rng, by rw [ef]; exact h.thaw0, by rw [ef]; exact h.thaw1, by rw [ef]; exact h.thaw2, by simpa [World.setCell] using hl, h.byt⟩
/-- a byte that is out turns -/
theorem En.setByte {w : World} {B x b cap : Nat} {ys : List Nat} {low g n : Nat} (hn : n = ys.length) (h : En w B x (.slice (some ⟨b, 0, none⟩) n cap) ys low g) (i : Nat) (hi : i < ys.length) (z : Nat) (hz : z < 256) : En (w.setCell ⟨b, i, none⟩ (.int .u8 (z : Nat))) B x (.slice (some ⟨b, 0, none⟩) n cap) (ys.set i z) low g := by
  subst hn
  have ef : ∀ a, (w.setCell ⟨b, i, none⟩ (.int .u8 (z : Nat))).frozen? a = w.frozen? a := fun a => by simp
  have hl := h.lies
  have hbx : b ≠ x := fun e => h.apart (by simp [Value.ownBlock, e])
  have hfar : ∀ o, (⟨b, i, none⟩ : Addr) ≠ ⟨x, o, none⟩ := fun o e => hbx (Addr.mk.inj e).1
  refine ⟨by rw [World.cell?_setCell_other _ _ _ _ (hfar 0)]; exact h.data, ?_, h.apart, by rw [World.cell?_setCell_other _ _ _ _ (hfar 1)]; exact h.low, by rw [World.cell?_setCell_other _ _ _ _ (hfar 2)]; exact h.rng, by rw [ef]; exact h.thaw0, by rw [ef]; exact h.thaw1, by rw [ef]; exact h.thaw2, by simpa [World.setCell] using hl, byt_set h.byt hi hz⟩
  rw [List.length_set, bs_set]
  exact (h.own.stored i (.int .u8 (z : Int))).1

set_option maxHeartbeats 400000 in
theorem new_any (w : World) : Calls Tryd.prog 18 #[] w fun e w' => e = .returned (.pointer (some ⟨w.heap.size, 0, none⟩)) ∧ En w' w.heap.size w.heap.size (.slice none 0 0) [] 0 4294967295 ∧ Below w.heap.size w w' := by
  go_enter Tryd.func18, Tryd.ntmps18
  go_wp2_with fail
  go_ret
  refine ⟨rfl, ⟨by simp, World.ownsRow_nil _ _ _ _, by simp [Value.ownBlock], by simp, by simp, by simp, by simp, by simp, by simp, by simp⟩, (Below.refl _ _).alloc (Nat.le_refl _) _⟩

set_option maxHeartbeats 400000 in
theorem enone_any {x g : Nat} {w : World} (h : w.cell? ⟨x, 2, none⟩ = some (.int .u32 (g : Nat))) (hg : 0 < g) :
    Calls Tryd.prog 43 #[.pointer (some ⟨x, 0, none⟩)] w fun e w' => e = .returned (.bool false) ∧ w' = w := by
  have h0 : ((g : Int) == 0) = false := by simp; omega
  go_enter Tryd.func43, Tryd.ntmps43
  go_wp2
  go_ret
  exact ⟨rfl, rfl⟩

/-- the bytes that are out have taken a carry -/
def EnCar (w w' : World) (B x : Nat) (d : Value) (n N low g : Nat) : Prop := ∃ ys', En w' B x d ys' low g ∧ ys'.length = n ∧ pre ys' n = N + 1 ∧ Kw x d d w w'

set_option maxRecDepth 100000 in
set_option maxHeartbeats 1000000 in
theorem carry_en {w : World} {B x : Nat} {d : Value} {ys : List Nat} {low g : Nat} (h : En w B x d ys low g) (hv : pre ys ys.length + 1 < 256 ^ ys.length) (hl : ys.length ≤ 1099511627776) :
    Calls Tryd.prog 61 #[.pointer (some ⟨x, 0, none⟩)] w fun e w' => e = .returned (.tuple #[]) ∧ EnCar w w' B x d ys.length (pre ys ys.length) low g := by
  have h0 : 0 < ys.length := by
    rcases Nat.eq_zero_or_pos ys.length with e | e
    · rw [e] at hv; simp at hv
    · exact e
  obtain ⟨b, cap, rfl, _, hb⟩ := h.own.form h0
  have hdat := h.data
  have HV : Hid (pre ys ys.length + 1 < 256 ^ ys.length) := hv
  have HE : Hid _ := h
  obtain ⟨n, hn⟩ : ∃ n, ys.length = n := ⟨_, rfl⟩
  rw [hn] at hdat hl h0 HV HE ⊢
  clear h hv
  have HN : Hid (ys.length = n) := hn
  clear hn
  generalize hN : pre ys n = N at *
  have HNN : Hid (pre ys n = N) := hN
  clear hN
  go_enter Tryd.func61, Tryd.ntmps61
  go_wp2_with fail
  go_step3
  go_wp2_with fail
  go_step3
  go_wp2_with fail
  go_loopw [2] (fun i wr => ∃ (j : Nat) (yr : List Nat), i = .int .i64 ((j : Int) - 1) ∧ j ≤ n ∧ En wr B x (.slice (some ⟨b, 0, none⟩) n cap) yr low g ∧ Hid (yr.length = n) ∧ Hid (pre yr n + 256 ^ (n - j) = N + 1) ∧ Kw x (.slice (some ⟨b, 0, none⟩) n cap) (.slice (some ⟨b, 0, none⟩) n cap) w wr) (fun i _ => (intOf i + 1).toNat)
  case atStart => exact ⟨n, ys, rfl, Nat.le_refl _, HE.out, HN.out, (show pre ys n + 256 ^ (n - n) = N + 1 by rw [HNN.out]; simp), Kw.refl _ _ _⟩
  case round =>
    clear HE hdat
    obtain ⟨j, yr, rfl, hj, hE, HL, HP, hk⟩ := hrel
    by_cases hj0 : j = 0
    · exfalso
      subst hj0
      have h1 := HP.out
      have h2 := HV.out
      rw [Nat.sub_zero] at h1
      omega
    · obtain ⟨q, rfl⟩ : ∃ q, j = q + 1 := ⟨j - 1, by omega⟩
      rw [show (((q + 1 : Nat) : Int) - 1) = (q : Int) from by omega]
      have hdat := hE.data
      have hown := hE.own
      rw [HL.out] at hown
      have hc := hown.cellAt q (by omega)
      rw [bs_get _ _ (by have := HL.out; omega)] at hc
      have hf := hown.frozenAt q
      have hz := hE.byt q
      have hset := fun z hz => hE.setByte HL.out.symm q (by have := HL.out; omega) z hz
      have hpre := fun z => pre_set yr q z (by have := HL.out; omega) n (by omega)
      have HS : Hid _ := hset
      have HPR : Hid _ := hpre
      clear hset hpre hown
      generalize yr.getD q 0 = z at *
      by_cases hz255 : z = 255
      · subst hz255
        go_wp2_with fail
        go_roundw
        case rel =>
          refine ⟨q, yr.set q 0, by go_num, by omega, HS.out 0 (by omega), (by have := HL.out; simp; omega), ?_, hk.trans (Kw.setOwn rfl _ _)⟩
          have h1 := HPR.out 0
          have h2 := HP.out
          show pre (yr.set q 0) n + 256 ^ (n - q) = N + 1
          rw [show n - q = (n - (q + 1)) + 1 from by omega, Nat.pow_succ]
          rw [show n - 1 - q = n - (q + 1) from by omega] at h1
          generalize 256 ^ (n - (q + 1)) = P at *
          omega
        case measure => simp [intOf]
      · have hne : ((z : Int) == 255) = false := by simp; omega
        go_wp2_with fail
        rw [Exit.noGoto_normal]
        go_end0
        refine ⟨rfl, yr.set q (z + 1), ?_, (by have := HL.out; simp; omega), ?_, hk.trans (Kw.setOwn rfl _ _)⟩
        · have h1 := HS.out (z + 1) (by omega)
          rw [show ((z + 1 : Nat) : Int) = (z : Int) + 1 from by omega] at h1
          exact h1
        · have h1 := HPR.out (z + 1)
          have h2 := HP.out
          rw [show n - 1 - q = n - (q + 1) from by omega, Nat.add_mul] at h1
          omega

end Go.Proofs.YtkmnpechhdendaaDoor.L2
