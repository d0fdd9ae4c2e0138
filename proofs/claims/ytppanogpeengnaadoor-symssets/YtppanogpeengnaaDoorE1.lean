/- DERIVED. Several texts in one: A rac.Encoder in memory (En), what a method may touch (Kw), and the walks of New and of the encoder's none and carry. The walk of an encoder's send. An encoder's number (EnS), and the walk of Put. The walks of bytes.TrimRight (for one byte 0) and of an encoder's Bytes. The walk of an encoder's Bytes. -/
import Derived.Test.YtppanogpeengnaaDoorL2DcC
import Derived.Deep.RegionLaw
import Derived.WalkMore
namespace Go.Proofs.YtppanogpeengnaaDoor.L2
open Go.RowKit

/-- an encoder in block x: the bytes ys are out -/
structure En (w : World) (B x : Nat) (d : Value) (ys : List Nat) (low g : Nat) : Prop where
  data : w.cell? ⟨x, 0, none⟩ = some d
  own : w.ownsRow B 5 1 d ys.length (bs ys)
  apart : d.ownBlock ≠ some x
  low : w.cell? ⟨x, 1, none⟩ = some (.int .u64 (low : Nat))
  rng : w.cell? ⟨x, 2, none⟩ = some (.int .u32 (g : Nat))
  thaw0 : w.frozen? ⟨x, 0, none⟩ = false
  thaw1 : w.frozen? ⟨x, 1, none⟩ = false
  thaw2 : w.frozen? ⟨x, 2, none⟩ = false
  lies : B ≤ x ∧ x < w.heap.size
  byt : ∀ i, ys.getD i 0 < 256

/-- of the blocks that were there the encoder's own two alone may have turned -/
structure Kw (x : Nat) (d d' : Value) (w w' : World) : Prop where
  os : w'.os = w.os
  tape : w'.tape = w.tape
  output : w'.output = w.output
  size : w.heap.size ≤ w'.heap.size
  block : ∀ k, k < w.heap.size → k ≠ x → d.ownBlock ≠ some k → w'.heap[k]? = w.heap[k]?
  new : ∀ g, d'.ownBlock = some g → d.ownBlock = some g ∨ w.heap.size ≤ g
theorem Kw.trans {x : Nat} {d d' d'' : Value} {a b c : World} (h : Kw x d d' a b) (k : Kw x d' d'' b c) : Kw x d d'' a c :=
  ⟨k.os.trans h.os, k.tape.trans h.tape, k.output.trans h.output, Nat.le_trans h.size k.size,
   fun i hi hx hd => (k.block i (Nat.lt_of_lt_of_le hi h.size) hx (fun e => by rcases h.new i e with e | e; exact hd e; omega)).trans (h.block i hi hx hd),
   fun g hg => by
    rcases k.new g hg with e | e
    · exact h.new g e
    · right; have := h.size; omega⟩
theorem Kw.refl (x : Nat) (d : Value) (w : World) : Kw x d d w w := ⟨rfl, rfl, rfl, Nat.le_refl _, fun _ _ _ _ => rfl, fun _ h => Or.inl h⟩
theorem Kw.set {x : Nat} {d : Value} {w : World} (o : Nat) (u : Value) : Kw x d d w (w.setCell ⟨x, o, none⟩ u) :=
  ⟨rfl, rfl, rfl, by simp [World.setCell], fun k _ hk _ => Below.heap_setCell _ _ _ _ (by simpa using hk), fun _ h => Or.inl h⟩
theorem Kw.setOwn {x g : Nat} {d : Value} {w : World} (hd : d.ownBlock = some g) (o : Nat) (u : Value) : Kw x d d w (w.setCell ⟨g, o, none⟩ u) :=
  ⟨rfl, rfl, rfl, by simp [World.setCell], fun k _ _ hk => Below.heap_setCell _ _ _ _ (by rw [hd] at hk; simp at hk; exact fun e => hk e.symm), fun _ h => Or.inl h⟩
theorem Kw.drewN {x : Nat} {d d' : Value} {w w' : World} (h : Kw x d d' w w') (n : Nat) : Kw x d d' w (w'.drewN n) := ⟨h.os, h.tape, h.output, h.size, h.block, h.new⟩
theorem Kw.drew {x : Nat} {d d' : Value} {w w' : World} (h : Kw x d d' w w') : Kw x d d' w w'.drew := ⟨h.os, h.tape, h.output, h.size, h.block, h.new⟩
theorem Kw.below {x : Nat} {d : Value} {w w' : World} (h : Below w.heap.size w w') : Kw x d d w w' := ⟨h.os, h.tape, h.output, h.size, fun k hk _ _ => h.block k hk, fun _ h => Or.inl h⟩

theorem own_set_far {w : World} {B e size n : Nat} {v : Value} {xs : List Value} (h : w.ownsRow B e size v n xs) {a : Addr} (ha : v.ownBlock ≠ some a.block) (u : Value) : (w.setCell a u).ownsRow B e size v n xs := by
  refine ⟨h.1, ?_⟩
  rcases h.2 with h1 | ⟨g, cap, cur, rfl, h2, h3, h4⟩
  · exact Or.inl h1
  · exact Or.inr ⟨g, cap, cur, rfl, h2, by rw [Below.heap_setCell _ _ _ _ (fun e => ha (by simp [Value.ownBlock, e]))]; exact h3, h4⟩
theorem far_cell {wr w1 : World} {o : Obj} {row : Option Nat} (hg : (wr.alloc o).grownBy w1 row) {x : Nat} (hx : x < wr.heap.size) (hne : row ≠ some x) (j : Nat) : w1.cell? ⟨x, j, none⟩ = wr.cell? ⟨x, j, none⟩ ∧ w1.frozen? ⟨x, j, none⟩ = wr.frozen? ⟨x, j, none⟩ := by
  have e : w1.heap[x]? = wr.heap[x]? := by
    rw [hg.block x (by simp; omega) (Ne.symm hne), Below.heap_alloc _ _ _ hx]
  exact ⟨World.cell?_of_block (w := wr) (a := ⟨x, j, none⟩) e, World.frozen?_of_block (w := wr) (a := ⟨x, j, none⟩) e⟩
theorem undrew {a b : World} {row : Option Nat} (h : a.drew.grownBy b row) : a.grownBy b row := ⟨h.os, h.tape, h.output, h.size, h.block⟩

theorem En.carry {w w' : World} {B x : Nat} {d : Value} {ys : List Nat} {low g : Nat} (h : En w B x d ys low g) (hr : w'.heap[x]? = w.heap[x]?) (hg : ∀ b, d.ownBlock = some b → w'.heap[b]? = w.heap[b]?) (hs : w.heap.size ≤ w'.heap.size) : En w' B x d ys low g := by
  have ec : ∀ o, w'.cell? ⟨x, o, none⟩ = w.cell? ⟨x, o, none⟩ := fun o => World.cell?_of_block (w := w) hr
  have ef : ∀ o, w'.frozen? ⟨x, o, none⟩ = w.frozen? ⟨x, o, none⟩ := fun o => World.frozen?_of_block (w := w) hr
  refine ⟨by rw [ec]; exact h.data, ?_, h.apart, by rw [ec]; exact h.low, by rw [ec]; exact h.rng, by rw [ef]; exact h.thaw0, by rw [ef]; exact h.thaw1, by rw [ef]; exact h.thaw2, ⟨h.lies.1, Nat.lt_of_lt_of_le h.lies.2 hs⟩, h.byt⟩
  refine ⟨h.own.1, ?_⟩
  rcases h.own.2 with h1 | ⟨b, cap, cur, rfl, h2, h3, h4⟩
  · exact Or.inl h1
  · exact Or.inr ⟨b, cap, cur, rfl, h2, by rw [hg b rfl]; exact h3, h4⟩
theorem En.same {w w' : World} {B x : Nat} {d : Value} {ys : List Nat} {low g : Nat} (h : En w B x d ys low g) (e : w'.heap = w.heap) : En w' B x d ys low g :=
  h.carry (by rw [e]) (fun _ _ => by rw [e]) (by rw [e]; exact Nat.le_refl _)
theorem En.below {w w' : World} {B x : Nat} {d : Value} {ys : List Nat} {low g : Nat} (h : En w B x d ys low g) (hb : Below w.heap.size w w') : En w' B x d ys low g :=
  h.carry (hb.block x h.lies.2) (fun b e => hb.block b (h.own.lt b e).2) hb.size
theorem En.setLow {w : World} {B x : Nat} {d : Value} {ys : List Nat} {low g : Nat} (h : En w B x d ys low g) (low' : Nat) : En (w.setCell ⟨x, 1, none⟩ (.int .u64 (low' : Nat))) B x d ys low' g := by
  have ef : ∀ a, (w.setCell ⟨x, 1, none⟩ (.int .u64 (low' : Nat))).frozen? a = w.frozen? a := fun a => by simp
  have hl := h.lies
  exact ⟨by rw [World.cell?_setCell_other _ _ _ _ (by simp)]; exact h.data, own_set_far h.own h.apart _, h.apart, World.cell?_setCell_same _ _ _ h.low, by rw [World.cell?_setCell_other _ _ _ _ (by simp)]; exact h.rng, by rw [ef]; exact h.thaw0, by rw [ef]; exact h.thaw1, by rw [ef]; exact h.thaw2, by simpa [World.setCell] using hl, h.byt⟩
theorem En.setRng {w : World} {B x : Nat} {d : Value} {ys : List Nat} {low g : Nat} (h : En w B x d ys low g) (g' : Nat) : En (w.setCell ⟨x, 2, none⟩ (.int .u32 (g' : Nat))) B x d ys low g' := by
  have ef : ∀ a, (w.setCell ⟨x, 2, none⟩ (.int .u32 (g' : Nat))).frozen? a = w.frozen? a := fun a => by simp
  have hl := h.lies
  exact ⟨by rw [World.cell?_setCell_other _ _ _ _ (by simp)]; exact h.data, own_set_far h.own h.apart _, h.apart, by rw [World.cell?_setCell_other _ _ _ _ (by simp)]; exact h.low, World.cell?_setCell_same _ _ _ h.rng, by rw [ef]; exact h.thaw0, by rw [ef]; exact h.thaw1, by rw [ef]; exact h.thaw2, by simpa [World.setCell] using hl, h.byt⟩
/-- a byte that is out turns -/
theorem En.setByte {w : World} {B x b cap : Nat} {ys : List Nat} {low g n : Nat} (hn : n = ys.length) (h : En w B x (.slice (some ⟨b, 0, none⟩) n cap) ys low g) (i : Nat) (hi : i < ys.length) (z : Nat) (hz : z < 256) : En (w.setCell ⟨b, i, none⟩ (.int .u8 (z : Nat))) B x (.slice (some ⟨b, 0, none⟩) n cap) (ys.set i z) low g := by
  subst hn
  have ef : ∀ a, (w.setCell ⟨b, i, none⟩ (.int .u8 (z : Nat))).frozen? a = w.frozen? a := fun a => by simp
  have hl := h.lies
  have hbx : b ≠ x := fun e => h.apart (by simp [Value.ownBlock, e])
  have hfar : ∀ o, (⟨b, i, none⟩ : Addr) ≠ ⟨x, o, none⟩ := fun o e => hbx (Addr.mk.inj e).1
  refine ⟨by rw [World.cell?_setCell_other _ _ _ _ (hfar 0)]; exact h.data, ?_, h.apart, by rw [World.cell?_setCell_other _ _ _ _ (hfar 1)]; exact h.low, by rw [World.cell?_setCell_other _ _ _ _ (hfar 2)]; exact h.rng, by rw [ef]; exact h.thaw0, by rw [ef]; exact h.thaw1, by rw [ef]; exact h.thaw2, by simpa [World.setCell] using hl, byt_set h.byt hi hz⟩
  rw [List.length_set, bs_set]
  exact (h.own.stored i (.int .u8 (z : Int))).1

set_option maxHeartbeats 400000 in
theorem new_any (w : World) : Calls Tryd.prog 41 #[] w fun e w' => e = .returned (.pointer (some ⟨w.heap.size, 0, none⟩)) ∧ En w' w.heap.size w.heap.size (.slice none 0 0) [] 0 4294967295 ∧ Below w.heap.size w w' := by
  go_enter Tryd.func41, Tryd.ntmps41
  go_wp2_with fail
  go_ret
  refine ⟨rfl, ⟨by simp, World.ownsRow_nil _ _ _ _, by simp [Value.ownBlock], by simp, by simp, by simp, by simp, by simp, by simp, by simp⟩, (Below.refl _ _).alloc (Nat.le_refl _) _⟩

set_option maxHeartbeats 400000 in
theorem enone_any {x g : Nat} {w : World} (h : w.cell? ⟨x, 2, none⟩ = some (.int .u32 (g : Nat))) (hg : 0 < g) :
    Calls Tryd.prog 72 #[.pointer (some ⟨x, 0, none⟩)] w fun e w' => e = .returned (.bool false) ∧ w' = w := by
  have h0 : ((g : Int) == 0) = false := by simp; omega
  go_enter Tryd.func72, Tryd.ntmps72
  go_wp2
  go_ret
  exact ⟨rfl, rfl⟩

/-- the bytes that are out have taken a carry -/
def EnCar (w w' : World) (B x : Nat) (d : Value) (n N low g : Nat) : Prop := ∃ ys', En w' B x d ys' low g ∧ ys'.length = n ∧ pre ys' n = N + 1 ∧ Kw x d d w w'

set_option maxRecDepth 100000 in
set_option maxHeartbeats 1000000 in
theorem carry_en {w : World} {B x : Nat} {d : Value} {ys : List Nat} {low g : Nat} (h : En w B x d ys low g) (hv : pre ys ys.length + 1 < 256 ^ ys.length) (hl : ys.length ≤ 1099511627776) :
    Calls Tryd.prog 90 #[.pointer (some ⟨x, 0, none⟩)] w fun e w' => e = .returned (.tuple #[]) ∧ EnCar w w' B x d ys.length (pre ys ys.length) low g := by
  have h0 : 0 < ys.length := by
    rcases Nat.eq_zero_or_pos ys.length with e | e
    · rw [e] at hv; simp at hv
    · exact e
  obtain ⟨b, cap, rfl, _, hb⟩ := h.own.form h0
  have hdat := h.data
  have HV : Hid (pre ys ys.length + 1 < 256 ^ ys.length) := hv
  have HE : Hid _ := h
  obtain ⟨n, hn⟩ : ∃ n, ys.length = n := ⟨_, rfl⟩
  rw [hn] at hdat hl h0 HV HE ⊢
  clear h hv
  have HN : Hid (ys.length = n) := hn
  clear hn
  generalize hN : pre ys n = N at *
  have HNN : Hid (pre ys n = N) := hN
  clear hN
  go_enter Tryd.func90, Tryd.ntmps90
  go_wp2_with fail
  go_step3
  go_wp2_with fail
  go_step3
  go_wp2_with fail
  go_loopw [2] (fun i wr => ∃ (j : Nat) (yr : List Nat), i = .int .i64 ((j : Int) - 1) ∧ j ≤ n ∧ En wr B x (.slice (some ⟨b, 0, none⟩) n cap) yr low g ∧ Hid (yr.length = n) ∧ Hid (pre yr n + 256 ^ (n - j) = N + 1) ∧ Kw x (.slice (some ⟨b, 0, none⟩) n cap) (.slice (some ⟨b, 0, none⟩) n cap) w wr) (fun i _ => (intOf i + 1).toNat)
  case atStart => exact ⟨n, ys, rfl, Nat.le_refl _, HE.out, HN.out, (show pre ys n + 256 ^ (n - n) = N + 1 by rw [HNN.out]; simp), Kw.refl _ _ _⟩
  case round =>
    clear HE hdat
    obtain ⟨j, yr, rfl, hj, hE, HL, HP, hk⟩ := hrel
    by_cases hj0 : j = 0
    · exfalso
      subst hj0
      have h1 := HP.out
      have h2 := HV.out
      rw [Nat.sub_zero] at h1
      omega
    · obtain ⟨q, rfl⟩ : ∃ q, j = q + 1 := ⟨j - 1, by omega⟩
      rw [show (((q + 1 : Nat) : Int) - 1) = (q : Int) from by omega]
      have hdat := hE.data
      have hown := hE.own
      rw [HL.out] at hown
      have hc := hown.cellAt q (by omega)
      rw [bs_get _ _ (by have := HL.out; omega)] at hc
      have hf := hown.frozenAt q
      have hz := hE.byt q
      have hset := fun z hz => hE.setByte HL.out.symm q (by have := HL.out; omega) z hz
      have hpre := fun z => pre_set yr q z (by have := HL.out; omega) n (by omega)
      have HS : Hid _ := hset
      have HPR : Hid _ := hpre
      clear hset hpre hown
      generalize yr.getD q 0 = z at *
      by_cases hz255 : z = 255
      · subst hz255
        go_wp2_with fail
        go_roundw
        case rel =>
          refine ⟨q, yr.set q 0, by go_num, by omega, HS.out 0 (by omega), (by have := HL.out; simp; omega), ?_, hk.trans (Kw.setOwn rfl _ _)⟩
          have h1 := HPR.out 0
          have h2 := HP.out
          show pre (yr.set q 0) n + 256 ^ (n - q) = N + 1
          rw [show n - q = (n - (q + 1)) + 1 from by omega, Nat.pow_succ]
          rw [show n - 1 - q = n - (q + 1) from by omega] at h1
          generalize 256 ^ (n - (q + 1)) = P at *
          omega
        case measure => simp [intOf]
      · have hne : ((z : Int) == 255) = false := by simp; omega
        go_wp2_with fail
        rw [Exit.noGoto_normal]
        go_end0
        refine ⟨rfl, yr.set q (z + 1), ?_, (by have := HL.out; simp; omega), ?_, hk.trans (Kw.setOwn rfl _ _)⟩
        · have h1 := HS.out (z + 1) (by omega)
          rw [show ((z + 1 : Nat) : Int) = (z : Int) + 1 from by omega] at h1
          exact h1
        · have h1 := HPR.out (z + 1)
          have h2 := HP.out
          rw [show n - 1 - q = n - (q + 1) from by omega, Nat.add_mul] at h1
          omega

end Go.Proofs.YtppanogpeengnaaDoor.L2

namespace Go.Proofs.YtppanogpeengnaaDoor.L2
open Go.RowKit

theorem wraps_u64_63 (n : Int) (h₀ : 0 ≤ n) (h₁ : n < 2 ^ 63) : IntKind.u64.wrap n = n := by rw [IntKind.wrap_u64]; omega
theorem and24 (low : Nat) (h : low < 8589934592) : bits .and .u64 (low : Int) 16777215 = ((low % 16777216 : Nat) : Int) := by
  have := bits_mask .u64 63 (by decide) wraps_u64_63 24 (by omega) (low : Int) (by omega) (by omega)
  rw [show ((2 : Int) ^ 24 - 1) = 16777215 from by decide] at this
  rw [this]
  omega

theorem grow_en {wr w1 : World} {o : Obj} {B x gb cap b : Nat} {dr : Value} {ys : List Nat} {low g : Nat} (hw : En wr B x dr ys low g) (hb : b < 256) (hgrow : (wr.alloc o).grownBy w1 dr.ownBlock) (hown1 : w1.ownsRow B 5 1 (.slice (some ⟨gb, 0, none⟩) (ys.length + 1) cap) (ys.length + 1) (bs ys ++ bs [b]))
    (hat : dr.ownBlock = some gb ∨ gb = wr.heap.size + 1) :
    En (w1.setCell ⟨x, 0, none⟩ (.slice (some ⟨gb, 0, none⟩) (ys.length + 1) cap)) B x (.slice (some ⟨gb, 0, none⟩) (ys.length + 1) cap) (ys ++ [b]) low g ∧
    Kw x dr (.slice (some ⟨gb, 0, none⟩) (ys.length + 1) cap) wr (w1.setCell ⟨x, 0, none⟩ (.slice (some ⟨gb, 0, none⟩) (ys.length + 1) cap)) := by
  have hlow := hw.lies
  have hap := hw.apart
  have hgx : gb ≠ x := by
    rcases hat with e | e
    · intro e2; rw [e, e2] at hap; exact hap rfl
    · omega
  have fc := fun j => far_cell hgrow hlow.2 hap j
  have hsz : wr.heap.size + 1 ≤ w1.heap.size := by have := hgrow.size; simpa using this
  have hlen : (ys ++ [b]).length = ys.length + 1 := by simp
  constructor
  · refine ⟨World.cell?_setCell_same w1 ⟨x, 0, none⟩ _ ((fc 0).1.trans hw.data), ?_, ?_, ?_, ?_, ?_, ?_, ?_, ⟨hlow.1, by simp [World.setCell]; omega⟩, byt_snoc hw.byt hb⟩
    · rw [bs_append, hlen]
      exact own_set_far hown1 (by simp [Value.ownBlock]; exact hgx) _
    · simp [Value.ownBlock]; exact hgx
    · rw [World.cell?_setCell_other _ _ _ _ (by simp), (fc 1).1]; exact hw.low
    · rw [World.cell?_setCell_other _ _ _ _ (by simp), (fc 2).1]; exact hw.rng
    · rw [World.frozen?_setCell, (fc 0).2]; exact hw.thaw0
    · rw [World.frozen?_setCell, (fc 1).2]; exact hw.thaw1
    · rw [World.frozen?_setCell, (fc 2).2]; exact hw.thaw2
  · refine ⟨hgrow.os, hgrow.tape, hgrow.output, by simp [World.setCell]; omega, fun k hk hx hd => ?_, fun g' hg' => ?_⟩
    · rw [Below.heap_setCell _ _ _ _ (by simpa using hx), hgrow.block k (by simp; omega) (Ne.symm hd), Below.heap_alloc _ _ _ hk]
    · simp [Value.ownBlock] at hg'
      subst hg'
      rcases hat with e | e
      · exact Or.inl e
      · right; omega

/-- a byte has gone out: n bytes of number N were out -/
def EnSent (w w' : World) (B x : Nat) (d : Value) (n N low g : Nat) : Prop := ∃ d' ys', En w' B x d' ys' (low % 16777216 * 256) g ∧ ys'.length = n + 1 ∧ pre ys' (n + 1) = (N + low / 4294967296) * 256 + low / 16777216 % 256 ∧ Kw x d d' w w'

set_option maxRecDepth 100000 in
set_option maxHeartbeats 2000000 in
theorem send_en {w : World} {B x : Nat} {d : Value} {ys : List Nat} {low g : Nat} (h : En w B x d ys low g) (hlw : low < 8589934592) (hv : pre ys ys.length + low / 4294967296 < 256 ^ ys.length) (hl : ys.length ≤ 1099511627000) :
    Calls Tryd.prog 74 #[.pointer (some ⟨x, 0, none⟩)] w fun e w' => e = .returned (.tuple #[]) ∧ EnSent w w' B x d ys.length (pre ys ys.length) low g := by
  obtain ⟨i, hi, hz0, hz1, hz2⟩ := info_parts Tryd.info5
  have hand := and24 low hlw
  have HA : Hid _ := hand
  clear hand
  by_cases hc : low < 4294967296
  · have hc' : ((low : Int) / 4294967296 != 0) = false := by simp; omega
    have hlo := h.low
    go_enter Tryd.func74, Tryd.ntmps74
    go_wp2_with fail
    obtain ⟨a, c, rfl⟩ := own_slice h.own
    have hdat := h.data
    have hlo := h.low
    have hlow := h.lies.2
    have ht0 := h.thaw0
    have ht1 := h.thaw1
    have hap := h.apart
    have hB : B ≤ w.heap.size := by have := h.lies; omega
    have hownA : (w.alloc (.cells #[.int .u8 ((low : Int) / 16777216 % 256)] 5)).drew.ownsRow B 5 1 (.slice a ys.length c) ys.length (bs ys) := (h.own.alloc _).drew
    have hnews : ∀ j u, (bs [low / 16777216 % 256])[j]? = some u → (w.alloc (.cells #[.int .u8 ((low : Int) / 16777216 % 256)] 5)).drew.cell? ((⟨w.heap.size, 0, none⟩ : Addr).add j) = some u := by
      rw [show ((low : Int) / 16777216 % 256) = ((low / 16777216 % 256 : Nat) : Int) from by omega]
      exact World.news_of_block (cs := #[.int .u8 ((low / 16777216 % 256 : Nat) : Int)]) (heap_alloc_new w _)
    have hyl : ys.length ≤ 1099511627776 := by omega
    have HE : Hid _ := h
    clear h
    go_wp2_with fail
    go_region_law ((refine step_append_lies _ (by rfl) _ _ _ (by rfl) B 5 i (.int .u8 0) 1 1 Tryd.underlying44 hi hz0 hz1 hz2 rfl (by omega) _ ys.length (bs ys) (by rfl) hownA ⟨w.heap.size, 0, none⟩ 1 1 (bs [low / 16777216 % 256]) (by rfl) (by rfl) hnews (bs_one _) (by omega) (by unfold maxLen; omega) (by omega) (by simp; omega) (w.heap.size + 1) (by simp) ?_; intro g cap w1 hown1 hgrow hat hlt; have hgr := undrew hgrow; have c0 := (far_cell hgr hlow hap 0).1.trans hdat; have zz := (far_cell hgr hlow hap 0).2.trans ht0; have c1 := (far_cell hgr hlow hap 1).1.trans hlo; have zz1 := (far_cell hgr hlow hap 1).2.trans ht1))
    all_goals
      go_wp2_with fail
      go_end0
      obtain ⟨g1, g2⟩ := grow_en HE.out (b := low / 16777216 % 256) (Nat.mod_lt _ (by omega)) hgr hown1 hat
      rw [HA.out, wraps_u64_63 _ (by omega) (by omega), show (((low % 16777216 : Nat)) : Int) * 256 = ((low % 16777216 * 256 : Nat) : Int) from by omega]
      exact ⟨rfl, _, ys ++ [low / 16777216 % 256], g1.setLow _, by simp, by rw [pre_snoc]; omega, g2.trans (Kw.set _ _)⟩
  · have hc' : ((low : Int) / 4294967296 != 0) = true := by rw [bne_iff_ne]; omega
    have hlo := h.low
    go_enter Tryd.func74, Tryd.ntmps74
    go_wp2_with fail
    refine (carry_en h (by omega) (by omega)).mono ?_; rintro e wc ⟨rfl, yc, hEc, hLc, hPc, hKc⟩
    have hyc : yc.length ≤ 1099511627000 := by omega
    have HLc : Hid (yc.length = ys.length) := hLc
    have HPc : Hid (pre yc ys.length = pre ys ys.length + 1) := hPc
    have HKc : Hid (Kw x d d w wc) := hKc
    clear hLc hPc hKc hlo h hl
    obtain ⟨dd, hdd⟩ : ∃ dd, dd = d := ⟨_, rfl⟩
    rw [← hdd] at hEc
    have HDD : Hid (dd = d) := hdd
    clear hdd
    obtain ⟨a, c, rfl⟩ := own_slice hEc.own
    have hdat := hEc.data
    have hlo := hEc.low
    have hlow := hEc.lies.2
    have ht0 := hEc.thaw0
    have ht1 := hEc.thaw1
    have hap := hEc.apart
    have hB : B ≤ wc.heap.size := by have := hEc.lies; omega
    have hownA : (wc.alloc (.cells #[.int .u8 ((low : Int) / 16777216 % 256)] 5)).drew.ownsRow B 5 1 (.slice a yc.length c) yc.length (bs yc) := (hEc.own.alloc _).drew
    have hnews : ∀ j u, (bs [low / 16777216 % 256])[j]? = some u → (wc.alloc (.cells #[.int .u8 ((low : Int) / 16777216 % 256)] 5)).drew.cell? ((⟨wc.heap.size, 0, none⟩ : Addr).add j) = some u := by
      rw [show ((low : Int) / 16777216 % 256) = ((low / 16777216 % 256 : Nat) : Int) from by omega]
      exact World.news_of_block (cs := #[.int .u8 ((low / 16777216 % 256 : Nat) : Int)]) (heap_alloc_new wc _)
    have hyl : yc.length ≤ 1099511627776 := by omega
    have HE : Hid _ := hEc
    clear hEc
    go_wp2_with fail
    go_region_law ((refine step_append_lies _ (by rfl) _ _ _ (by rfl) B 5 i (.int .u8 0) 1 1 Tryd.underlying44 hi hz0 hz1 hz2 rfl (by omega) _ yc.length (bs yc) (by rfl) hownA ⟨wc.heap.size, 0, none⟩ 1 1 (bs [low / 16777216 % 256]) (by rfl) (by rfl) hnews (bs_one _) (by omega) (by unfold maxLen; omega) (by omega) (by simp; omega) (wc.heap.size + 1) (by simp) ?_; intro g cap w1 hown1 hgrow hat hlt; have hgr := undrew hgrow; have c0 := (far_cell hgr hlow hap 0).1.trans hdat; have zz := (far_cell hgr hlow hap 0).2.trans ht0; have c1 := (far_cell hgr hlow hap 1).1.trans hlo; have zz1 := (far_cell hgr hlow hap 1).2.trans ht1))
    all_goals
      go_wp2_with fail
      go_end0
      obtain ⟨g1, g2⟩ := grow_en HE.out (b := low / 16777216 % 256) (Nat.mod_lt _ (by omega)) hgr hown1 hat
      rw [HA.out, wraps_u64_63 _ (by omega) (by omega), show (((low % 16777216 : Nat)) : Int) * 256 = ((low % 16777216 * 256 : Nat) : Int) from by omega]
      have hdd := HDD.out
      subst hdd
      refine ⟨rfl, _, yc ++ [low / 16777216 % 256], g1.setLow _, by simp; exact HLc.out, ?_, (HKc.out.trans g2).trans (Kw.set _ _)⟩
      have h1 := HPc.out
      have h2 := HLc.out
      rw [← h2, pre_snoc, h2, h1]
      omega

end Go.Proofs.YtppanogpeengnaaDoor.L2

namespace Go.Proofs.YtppanogpeengnaaDoor.L2
open Go.RowKit

/-- an encoder whose number is T, its range g, and of which k bytes are out -/
def EnS (w : World) (B x : Nat) (d : Value) (T g k : Nat) : Prop := ∃ ys low, En w B x d ys low g ∧ ys.length = k ∧ pre ys k * 4294967296 + low = T ∧ low + g < 8589934592
/-- and what may have turned -/
def EnK (w w' : World) (B x : Nat) (d : Value) (T g k : Nat) : Prop := ∃ d', EnS w' B x d' T g k ∧ Kw x d d' w w'

theorem EnS.below {w w' : World} {B x : Nat} {d : Value} {T g k : Nat} (h : EnS w B x d T g k) (hb : Below w.heap.size w w') : EnS w' B x d T g k := by
  obtain ⟨ys, low, h1, h2⟩ := h
  exact ⟨ys, low, h1.below hb, h2⟩
theorem EnS.same {w w' : World} {B x : Nat} {d : Value} {T g k : Nat} (h : EnS w B x d T g k) (e : w'.heap = w.heap) : EnS w' B x d T g k := by
  obtain ⟨ys, low, h1, h2⟩ := h
  exact ⟨ys, low, h1.same e, h2⟩
theorem EnS.carry {w w' : World} {B x : Nat} {d : Value} {T g k : Nat} (h : EnS w B x d T g k) (hr : w'.heap[x]? = w.heap[x]?) (hg : ∀ b, d.ownBlock = some b → w'.heap[b]? = w.heap[b]?) (hs : w.heap.size ≤ w'.heap.size) : EnS w' B x d T g k := by
  obtain ⟨ys, low, h1, h2⟩ := h
  exact ⟨ys, low, h1.carry hr hg hs, h2⟩
theorem EnS.rng {w : World} {B x : Nat} {d : Value} {T g k : Nat} (h : EnS w B x d T g k) : w.cell? ⟨x, 2, none⟩ = some (.int .u32 (g : Nat)) := by
  obtain ⟨ys, low, h1, h2⟩ := h
  exact h1.rng
theorem EnS.lies {w : World} {B x : Nat} {d : Value} {T g k : Nat} (h : EnS w B x d T g k) : B ≤ x ∧ x < w.heap.size := by
  obtain ⟨ys, low, h1, h2⟩ := h
  exact h1.lies
theorem EnS.own_lt {w : World} {B x : Nat} {d : Value} {T g k : Nat} (h : EnS w B x d T g k) : ∀ b, d.ownBlock = some b → B ≤ b ∧ b < w.heap.size ∧ b ≠ x := by
  obtain ⟨ys, low, h1, h2⟩ := h
  exact fun b e => ⟨(h1.own.lt b e).1, (h1.own.lt b e).2, fun e2 => h1.apart (by rw [e, e2])⟩
theorem EnS.setRng {w : World} {B x : Nat} {d : Value} {T g k : Nat} (h : EnS w B x d T g k) (g' : Nat) (hg : ∀ low, low + g < 8589934592 → low + g' < 8589934592) : EnS (w.setCell ⟨x, 2, none⟩ (.int .u32 (g' : Nat))) B x d T g' k := by
  obtain ⟨ys, low, h1, h2, h3, h4⟩ := h
  exact ⟨ys, low, h1.setRng g', h2, h3, hg low h4⟩
/-- of the blocks below B none has turned -/
theorem EnS.kwBelow {a b : World} {B x : Nat} {d d' : Value} {T g k : Nat} (h : EnS a B x d T g k) (hk : Kw x d d' a b) : Below B a b :=
  ⟨hk.os, hk.tape, hk.output, hk.size, fun i hi => hk.block i (by have := h.lies; omega) (by have := h.lies; omega) (fun e => by have := (h.own_lt i e).1; omega)⟩

theorem fit_carry {N low T P : Nat} (hv : N * 4294967296 + low = T) (hf : T < P * 4294967295) : N + low / 4294967296 < P := by omega

theorem low_parts (low : Nat) : low = (low / 4294967296) * 4294967296 + (low / 16777216 % 256) * 16777216 + low % 16777216 := by
  have h1 : low / 16777216 / 256 = low / 4294967296 := by rw [Nat.div_div_eq_div_mul]
  have h2 := Nat.div_add_mod low 16777216
  have h3 := Nat.div_add_mod (low / 16777216) 256
  rw [h1] at h3
  generalize low / 4294967296 = q at *
  generalize low / 16777216 % 256 = m at *
  generalize low % 16777216 = r at *
  generalize low / 16777216 = s at *
  subst h3
  omega
theorem send_num {N low T P : Nat} (h3 : N * 4294967296 + low = T) (g3 : P = (N + low / 4294967296) * 256 + low / 16777216 % 256) : P * 4294967296 + low % 16777216 * 256 = T * 256 := by
  have hl := low_parts low
  generalize low / 4294967296 = q at *
  generalize low / 16777216 % 256 = m at *
  generalize low % 16777216 = r at *
  subst hl g3 h3
  omega
theorem send_low (low : Nat) : low % 16777216 * 256 < 4294967296 := by omega

/-- a byte goes out, by the number -/
theorem send_ens {w : World} {B x : Nat} {d : Value} {T g k : Nat} (h : EnS w B x d T g k) (hf : T < 256 ^ k * 4294967295) (hk : k ≤ 1099511627000) :
    Calls Tryd.prog 74 #[.pointer (some ⟨x, 0, none⟩)] w fun e w' => e = .returned (.tuple #[]) ∧ ∃ d' ys low, En w' B x d' ys low g ∧ ys.length = k + 1 ∧ pre ys (k + 1) * 4294967296 + low = T * 256 ∧ low < 4294967296 ∧ Kw x d d' w w' := by
  obtain ⟨ys, low, h1, rfl, h3, h4⟩ := h
  refine (send_en h1 (by omega) (fit_carry h3 hf) hk).mono ?_
  rintro e w' ⟨rfl, d', ys', g1, g2, g3, g4⟩
  exact ⟨rfl, d', ys', low % 16777216 * 256, g1, g2, send_num h3 g3, send_low low, g4⟩

set_option maxHeartbeats 1000000 in
theorem put_no {w : World} {x g : Nat} (h : w.cell? ⟨x, 2, none⟩ = some (.int .u32 (g : Nat))) (hg : 0 < g) (lo hi : Nat) (hm : ¬ (lo < hi ∧ hi ≤ 32768)) :
    Calls Tryd.prog 101 #[.pointer (some ⟨x, 0, none⟩), .int .u32 lo, .int .u32 hi] w fun e w' => e = .returned (.int .i64 2) ∧ w' = w := by
  by_cases h1 : lo < hi
  · have h3 : 32768 < hi := by omega
    go_enter Tryd.func101, Tryd.ntmps101
    go_wp2_with fail
    refine (enone_any h hg).mono ?_; rintro e w1 ⟨rfl, rfl⟩
    go_wp2_with fail
    go_ret
    exact ⟨rfl, rfl⟩
  · go_enter Tryd.func101, Tryd.ntmps101
    go_wp2_with fail
    refine (enone_any h hg).mono ?_; rintro e w1 ⟨rfl, rfl⟩
    go_wp2_with fail
    go_ret
    exact ⟨rfl, rfl⟩

set_option maxRecDepth 100000 in
set_option maxHeartbeats 1000000 in
theorem put_yes {w : World} {B x : Nat} {d : Value} {T g k : Nat} (h : EnS w B x d T g k) (hE : Ev T g k) (hkb : k ≤ 1099511626000) (lo hi : Nat) (hlt : lo < hi) (hh : hi ≤ 32768) :
    Calls Tryd.prog 101 #[.pointer (some ⟨x, 0, none⟩), .int .u32 lo, .int .u32 hi] w fun e w' => e = .returned (.int .i64 0) ∧ EnK w w' B x d (ePut T g k lo hi).1 (ePut T g k lo hi).2.1 (ePut T g k lo hi).2.2 := by
  have hg : 0 < g := by have := hE.least; omega
  have hwid := pWid_ok hE.least hlt hh
  have hgm := hE.most
  have hfit := hE.fit
  have HPA : Hid _ := fun w => part_any g lo hi w hgm hlt hh
  have hfin : ePut T g k lo hi = en 2 (T + pBeg g lo) (pWid g lo hi) k := rfl
  generalize ePut T g k lo hi = out at *
  have HF : Hid _ := hfin
  clear hfin
  generalize pBeg g lo = beg at *
  generalize pWid g lo hi = wid at *
  obtain ⟨ys, low, h1, h2, h3, h4⟩ := h
  have hlo := h1.low
  have hr := h1.rng
  have ht1 := h1.thaw1
  have ht2 := h1.thaw2
  have HD : Hid _ := h1
  have HV : Hid _ := h3
  have HFIT : Hid _ := hfit
  clear h1 h3 hfit hE
  go_enter Tryd.func101, Tryd.ntmps101
  go_wp2_with fail
  refine (enone_any hr hg).mono ?_; rintro e w1 ⟨rfl, rfl⟩
  go_wp2_with fail
  refine (HPA.out _).mono ?_; rintro e w3 ⟨rfl, rfl⟩
  go_wp2_with fail
  have h0 : EnS ((w3.setCell ⟨x, 1, none⟩ (.int .u64 ((low : Int) + (beg : Nat)))).setCell ⟨x, 2, none⟩ (.int .u32 (wid : Nat))) B x d (T + beg) wid k := by
    refine ⟨ys, low + beg, ?_, h2, by have := HV.out; omega, by omega⟩
    have := (HD.out.setLow (low + beg)).setRng wid
    rw [show ((low + beg : Nat) : Int) = (low : Int) + beg from by omega] at this
    exact this
  have k0 : Kw x d d w3 ((w3.setCell ⟨x, 1, none⟩ (.int .u64 ((low : Int) + (beg : Nat)))).setCell ⟨x, 2, none⟩ (.int .u32 (wid : Nat))) := (Kw.set _ _).trans (Kw.set _ _)
  clear hlo hr ht1 ht2
  go_loopw [] (fun wr => ∃ f T' g' k' d', EnS wr B x d' T' g' k' ∧ Kw x d d' w3 wr ∧ Hid (en f T' g' k' = out) ∧ Hid (g' < 4294967296) ∧ Hid (16777216 ≤ g' * 256 ^ f) ∧ Hid (T' + g' ≤ 256 ^ k' * 4294967295) ∧ Hid (k' + f ≤ k + 2)) (fun wr => 4294967296 - rngOf x wr)
  case atStart => exact ⟨2, _, _, _, _, h0, k0, HF.out.symm, (show wid < 4294967296 by omega), (show 16777216 ≤ wid * 256 ^ 2 by omega), (show T + beg + wid ≤ 256 ^ k * 4294967295 by have := HFIT.out; omega), (show k + 2 ≤ k + 2 by omega)⟩
  case round =>
    clear h0 k0 HF HPA HD HV HFIT h2 h4 hwid hg hgm hlt hh
    obtain ⟨f, T', g', k', d', hd, hk, HN, HGM, HFU, HFI, HKB⟩ := hrel
    have hr := hd.rng
    by_cases hlt : g' < 16777216
    · obtain ⟨f, rfl⟩ : ∃ f', f = f' + 1 := ⟨f - 1, by
        rcases f with _ | f
        · have := HFU.out; simp at this; omega
        · omega⟩
      have hlt' : ((g' : Int) < 16777216) := by omega
      have HLT : Hid (g' < 16777216) := hlt
      have HPOS : Hid (0 < g') := by
        show 0 < g'
        have h1 := HFU.out
        rcases Nat.eq_zero_or_pos g' with e | e
        · rw [e] at h1; simp at h1
        · exact e
      clear hlt
      go_wp2_with fail
      refine (send_ens hd (by have h1 := HFI.out; have h2 := HPOS.out; omega) (by have := HKB.out; omega)).mono ?_; rintro e w2 ⟨rfl, d2, y2, low2, hd2, hl2, hv2, hlo2, hk2⟩
      have hr2 := hd2.rng
      have ht2 := hd2.thaw2
      have HD2 : Hid _ := hd2
      have HV2 : Hid _ := hv2
      have HL2 : Hid _ := hl2
      have HLO2 : Hid _ := hlo2
      clear hd2 hv2 hl2 hlo2
      go_wp2_with fail
      go_roundw
      case rel =>
        have h3 := HD2.out.setRng (g' * 256)
        rw [show ((g' * 256 : Nat) : Int) = (g' : Int) * 256 from by omega] at h3
        have hlt := HLT.out
        have hgm := HGM.out
        have hlo := HLO2.out
        have hfi := HFI.out
        have hkb := HKB.out
        refine ⟨f, T' * 256, g' * 256, k' + 1, d2, ⟨y2, low2, h3, HL2.out, HV2.out, by omega⟩, (hk.trans hk2).trans (Kw.set _ _), ?_, (show g' * 256 < 4294967296 by omega), ?_, ?_, (show k' + 1 + f ≤ k + 2 by omega)⟩
        · have := HN.out
          rw [en, if_pos hlt] at this
          exact this
        · have := HFU.out
          rw [Nat.pow_succ', ← Nat.mul_assoc] at this
          exact this
        · show T' * 256 + g' * 256 ≤ 256 ^ (k' + 1) * 4294967295
          rw [Nat.pow_succ]
          omega
      case measure =>
        have e1 : rngOf x wr = g' := by unfold rngOf; rw [hr]; rfl
        have e2 : rngOf x (w2.setCell ⟨x, 2, none⟩ (.int .u32 ((g' : Int) * 256))) = g' * 256 := by
          unfold rngOf; rw [World.cell?_setCell_same _ _ _ hr2]; simp [intOf]; omega
        rw [e1, e2]
        have h2 := HPOS.out
        have h3 := HGM.out
        omega
    · have hlt' : decide ((g' : Int) < 16777216) = false := by simp; omega
      have HLT : Hid (¬ g' < 16777216) := hlt
      clear hlt
      go_wp2_with fail
      go_ret
      have hlt := HLT.out
      have := HN.out
      have e : en f T' g' k' = (T', g', k') := by
        rcases f with _ | f
        · rfl
        · rw [en, if_neg hlt]
      rw [e] at this
      subst this
      exact ⟨rfl, d', hd, hk⟩

end Go.Proofs.YtppanogpeengnaaDoor.L2

namespace Go.Proofs.YtppanogpeengnaaDoor.L2
open Go.RowKit

/-- how many bytes there are without the noughts at the end -/
def tl (ys : List Nat) : Nat → Nat
  | 0 => 0
  | n + 1 => if ys.getD n 0 = 0 then tl ys n else n + 1
theorem tl_ok (ys : List Nat) : ∀ n, tl ys n ≤ n ∧ (∀ i, tl ys n ≤ i → i < n → ys.getD i 0 = 0) ∧ (0 < tl ys n → ys.getD (tl ys n - 1) 0 ≠ 0) := by
  intro n
  induction n with
  | zero => simp [tl]
  | succ n ih =>
    rw [tl]
    split
    · rename_i h
      refine ⟨by omega, fun i h1 h2 => ?_, ih.2.2⟩
      by_cases e : i = n
      · rw [e]; exact h
      · exact ih.2.1 i h1 (by omega)
    · rename_i h
      exact ⟨Nat.le_refl _, fun i h1 h2 => by omega, fun _ => by simpa using h⟩

set_option maxRecDepth 100000 in
set_option maxHeartbeats 1000000 in
theorem trimByte_any {w : World} {b cap n : Nat} {ys : List Nat} (hc : ∀ j, j < n → w.cell? ⟨b, j, none⟩ = some (.int .u8 (ys.getD j 0 : Nat))) (hl : n ≤ 1099511627776) (hn : n ≤ cap) :
    Calls Tryd.prog 91 #[.slice (some ⟨b, 0, none⟩) n cap, .int .u8 0] w fun e w' => e = .returned (.slice (some ⟨b, 0, none⟩) (tl ys n) cap) ∧ w' = w := by
  have HC : Hid _ := hc
  clear hc
  go_enter Tryd.func91, Tryd.ntmps91
  go_wp2_with fail
  go_loop [0] (fun v => ∃ m : Nat, v = .slice (some ⟨b, 0, none⟩) m cap ∧ m ≤ n ∧ Hid (tl ys m = tl ys n)) (fun v => match v with | .slice _ m _ => m | _ => 0)
  case atStart => exact ⟨n, rfl, Nat.le_refl _, rfl⟩
  case round =>
    obtain ⟨m, rfl, hm, HT⟩ := hrel
    rcases m with _ | m
    · go_wp2_with fail
      go_ret
      have := HT.out
      rw [tl] at this
      exact ⟨by rw [← this]; rfl, rfl⟩
    · have hcm := HC.out m (by omega)
      have h0 : ((0 : Int) < ((m + 1 : Nat) : Int)) := by omega
      by_cases hz : ys.getD m 0 = 0
      · rw [hz] at hcm
        go_wp2_with fail
        go_round
        case rel =>
          have := HT.out
          rw [tl, if_pos hz] at this
          exact ⟨m, by simp, by omega, this⟩
        case measure => simp
      · have hz' : (((ys.getD m 0 : Nat) : Int) == 0) = false := by rw [beq_eq_false_iff_ne]; omega
        have HZ : Hid _ := hz
        clear hz
        generalize hy : ys.getD m 0 = z at *
        have HY : Hid _ := hy
        clear hy
        go_wp2_with fail
        go_ret
        have := HT.out
        have hz := HZ.out
        have hy := HY.out
        rw [tl, if_neg (by rw [hy]; exact hz)] at this
        exact ⟨by rw [← this]; rfl, rfl⟩

set_option maxRecDepth 100000 in
set_option maxHeartbeats 1000000 in
theorem trim_any {w : World} {b cap n : Nat} {ys : List Nat} (hc : ∀ j, j < n → w.cell? ⟨b, j, none⟩ = some (.int .u8 (ys.getD j 0 : Nat))) (hl : n ≤ 1099511627776) (hn : n ≤ cap) (h0 : 0 < n) :
    Calls Tryd.prog 75 #[.slice (some ⟨b, 0, none⟩) n cap, .string { data := #[0] }] w fun e w' => e = .returned (.slice (some ⟨b, 0, none⟩) (tl ys n) cap) ∧ w' = w := by
  have HC : Hid _ := hc
  have HL : Hid _ := hl
  have HN : Hid _ := hn
  have h0' : ((n : Int) == 0) = false := by rw [beq_eq_false_iff_ne]; omega
  clear hc hl hn h0
  go_enter Tryd.func75, Tryd.ntmps75
  go_wp2_with fail
  refine (trimByte_any HC.out HL.out HN.out).mono ?_; rintro e w1 ⟨rfl, rfl⟩
  go_wp2_with fail
  go_ret
  exact ⟨rfl, rfl⟩

end Go.Proofs.YtppanogpeengnaaDoor.L2

namespace Go.Proofs.YtppanogpeengnaaDoor.L2
open Go.RowKit

/-- bytes zs that an encoder has answered: the number T in k + 4 bytes, without the noughts at the end; they lie in block b -/
structure By (w : World) (v : Value) (b : Nat) (zs : List Nat) (T k : Nat) : Prop where
  form : ∃ c, v = .slice (some ⟨b, 0, none⟩) zs.length c ∧ zs.length ≤ c
  cell : ∀ j, j < zs.length → w.cell? ⟨b, j, none⟩ = some (.int .u8 (zs.getD j 0 : Nat))
  thaw : ∀ j, w.frozen? ⟨b, j, none⟩ = false
  lies : b < w.heap.size
  len : zs.length ≤ k + 4
  val : pre zs (k + 4) = T
  byt : ∀ i, zs.getD i 0 < 256
  last : 0 < zs.length → zs.getD (zs.length - 1) 0 ≠ 0
def ByNew (w w' : World) (v : Value) (T k : Nat) : Prop := ∃ b zs, By w' v b zs T k ∧ w.heap.size ≤ b ∧ Below w.heap.size w w'

theorem SrcOf.ofOwn {w : World} {B : Nat} {v : Value} {zs : List Nat} (h : w.ownsRow B 5 1 v zs.length (bs zs)) : SrcOf w v zs := by
  obtain ⟨h1, h2⟩ := h
  rcases h2 with ⟨rfl, h0⟩ | ⟨g, cap, cur, rfl, hB, hg, hn, hm, hs, ht⟩
  · obtain rfl := List.eq_nil_of_length_eq_zero h0
    exact Or.inl ⟨rfl, rfl⟩
  · refine Or.inr ⟨⟨g, 0, none⟩, cap, rfl, fun i hi => ?_⟩
    have hown : w.ownsRow B 5 1 (.slice (some ⟨g, 0, none⟩) zs.length cap) zs.length (bs zs) := ⟨h1, Or.inr ⟨g, cap, cur, rfl, hB, hg, hn, hm, hs, ht⟩⟩
    rw [show (⟨g, 0, none⟩ : Addr).add i = ⟨g, i, none⟩ from (by unfold Addr.add; split <;> simp_all), hown.cellAt i (by omega)]
    exact bs_get zs i hi

theorem own_mono {w : World} {base base' : Nat} {e : TypeId} {size : Nat} {v : Value} {n : Nat} {xs : List Value} (h : w.ownsRow base e size v n xs) (hb : base' ≤ base) : w.ownsRow base' e size v n xs := by
  refine ⟨h.1, ?_⟩
  rcases h.2 with h1 | ⟨g, cap, cur, h1, h2, h3⟩
  · exact Or.inl h1
  · exact Or.inr ⟨g, cap, cur, h1, Nat.le_trans hb h2, h3⟩

theorem newCell {B : Nat} {u u' : World} (h : Below B u u') (i o : Nat) : i < B → u'.cell? ⟨i, o, none⟩ = u.cell? ⟨i, o, none⟩ := fun hs => World.cell?_of_block (w := u) (a := ⟨i, o, none⟩) (h.block i hs)
theorem newFrozen {B : Nat} {u u' : World} (h : Below B u u') (i o : Nat) : i < B → u'.frozen? ⟨i, o, none⟩ = u.frozen? ⟨i, o, none⟩ := fun hs => World.frozen?_of_block (w := u) (a := ⟨i, o, none⟩) (h.block i hs)
theorem below_alloc {B : Nat} {w u : World} (h : Below B w u) (hs : B ≤ w.heap.size) (o : Obj) : Below B w (u.alloc o) := h.alloc (Nat.le_trans hs h.size) o
theorem below_set {B : Nat} {w u : World} (h : Below B w u) {a : Addr} (ha : B ≤ a.block) (v : Value) : Below B w (u.setCell a v) :=
  ⟨h.os, h.tape, h.output, by have := h.size; simpa [World.setCell] using this, fun k hk => by rw [Below.heap_setCell _ _ _ _ (by omega)]; exact h.block k hk⟩

theorem En.madeSet {w3 u : World} {B x2 low : Nat} {v c0 c1 c2 : Value} {ys : List Nat} (hb : Below u.heap.size u w3) (hx : x2 < u.heap.size) (h0 : u.cell? ⟨x2, 0, none⟩ = some c0) (h1 : u.cell? ⟨x2, 1, none⟩ = some c1) (h2 : u.cell? ⟨x2, 2, none⟩ = some c2)
    (f0 : u.frozen? ⟨x2, 0, none⟩ = false) (f1 : u.frozen? ⟨x2, 1, none⟩ = false) (f2 : u.frozen? ⟨x2, 2, none⟩ = false) (hown : w3.ownsRow u.heap.size 5 1 v ys.length (bs ys)) (hB : B ≤ x2) (hz : ∀ i, ys.getD i 0 < 256) :
    En (((w3.setCell ⟨x2, 0, none⟩ v).setCell ⟨x2, 1, none⟩ (.int .u64 (low : Nat))).setCell ⟨x2, 2, none⟩ (.int .u32 0)) B x2 v ys low 0 := by
  have hs := hb.size
  have hap : v.ownBlock ≠ some x2 := fun e => by have := (hown.lt x2 e).1; omega
  have e0 := (newCell hb x2 0 hx).trans h0
  have e1 := (newCell hb x2 1 hx).trans h1
  have e2 := (newCell hb x2 2 hx).trans h2
  refine ⟨?_, own_set_far (own_set_far (own_set_far (own_mono hown (by omega)) hap _) hap _) hap _, hap, ?_, ?_, ?_, ?_, ?_, ⟨hB, by simp [World.setCell]; omega⟩, hz⟩
  · rw [World.cell?_setCell_other _ _ _ _ (by simp), World.cell?_setCell_other _ _ _ _ (by simp)]; exact World.cell?_setCell_same _ _ _ e0
  · rw [World.cell?_setCell_other _ _ _ _ (by simp)]; exact World.cell?_setCell_same _ _ _ ((World.cell?_setCell_other _ _ _ _ (by simp)).trans e1)
  · exact World.cell?_setCell_same _ _ _ ((World.cell?_setCell_other _ _ _ _ (by simp)).trans ((World.cell?_setCell_other _ _ _ _ (by simp)).trans e2))
  · rw [World.frozen?_setCell, World.frozen?_setCell, World.frozen?_setCell, newFrozen hb x2 0 hx]; exact f0
  · rw [World.frozen?_setCell, World.frozen?_setCell, World.frozen?_setCell, newFrozen hb x2 1 hx]; exact f1
  · rw [World.frozen?_setCell, World.frozen?_setCell, World.frozen?_setCell, newFrozen hb x2 2 hx]; exact f2
theorem En.madeNew {w3 : World} {B C low : Nat} {v : Value} {ys : List Nat} (hown : w3.ownsRow C 5 1 v ys.length (bs ys)) (hC : B ≤ C) (hB : B ≤ w3.heap.size) (hz : ∀ i, ys.getD i 0 < 256) :
    En (w3.alloc (.cells #[v, .int .u64 (low : Nat), .int .u32 0] 119)) B w3.heap.size v ys low 0 :=
  ⟨by simp, own_mono (hown.alloc _) hC, fun e => by have := (hown.lt _ e).2; omega, by simp, by simp, by simp, by simp, by simp, ⟨hB, by simp⟩, hz⟩

theorem fit_pow {T k : Nat} (h : T < 256 ^ k * 4294967295) (j : Nat) : T * 256 ^ j < 256 ^ (k + j) * 4294967295 := by
  have hP : 0 < 256 ^ j := Nat.pow_pos (by omega)
  have := Nat.mul_lt_mul_of_pos_right h hP
  rw [Nat.pow_add]
  rw [Nat.mul_assoc, Nat.mul_comm 4294967295, ← Nat.mul_assoc] at this
  exact this
theorem four_out {N low T : Nat} (h : N * 4294967296 + low = T * 256 ^ 4) (hl : low < 4294967296) : N = T := by
  rw [show (256 : Nat) ^ 4 = 4294967296 from by decide] at h
  omega
theorem getD_take (ys : List Nat) (m i : Nat) : (ys.take m).getD i 0 = if i < m then ys.getD i 0 else 0 := by
  rw [List.getD_eq_getElem?_getD, List.getD_eq_getElem?_getD]
  split
  · rename_i h; rw [List.getElem?_take_of_lt h]
  · rename_i h; rw [List.getElem?_eq_none (by simp; omega)]; rfl
/-- the bytes that are answered -/
theorem By.made {wr : World} {B b cap n T k : Nat} {y : List Nat} (hn : n = y.length) (hown : wr.ownsRow B 5 1 (.slice (some ⟨b, 0, none⟩) n cap) n (bs y)) (hc : n ≤ cap) (hl : y.length = k + 4) (hv : pre y (k + 4) = T) (hz : ∀ i, y.getD i 0 < 256) (hb : b < wr.heap.size) :
    By wr (.slice (some ⟨b, 0, none⟩) (tl y n) cap) b (y.take (tl y n)) T k := by
  subst hn
  obtain ⟨t1, t2, t3⟩ := tl_ok y y.length
  have hlen : (y.take (tl y y.length)).length = tl y y.length := by simp; omega
  have hget : ∀ i, (y.take (tl y y.length)).getD i 0 = y.getD i 0 := fun i => by
    rw [getD_take]
    split
    · rfl
    · rename_i h
      by_cases hi : i < y.length
      · exact (t2 i (by omega) hi).symm
      · exact (getD_len y (by omega)).symm
  refine ⟨⟨cap, by rw [hlen], by omega⟩, fun j hj => ?_, fun j => hown.frozenAt j, hb, by omega, by rw [pre_congr (k + 4) (fun i _ => hget i)]; exact hv, fun i => by rw [hget]; exact hz i, fun h => ?_⟩
  · rw [hlen] at hj
    rw [hget, hown.cellAt j (by omega)]
    exact bs_get y j (by omega)
  · rw [hlen] at h ⊢
    rw [hget]
    exact t3 h

/-- what is left of Bytes: four bytes go out, and the noughts at the end are left out -/
def Half (w W : World) (x : Nat) (ys : List Nat) (low : Nat) : Prop := ∃ d, En W w.heap.size x d ys low 0 ∧ Below w.heap.size w W

set_option maxRecDepth 100000 in
set_option maxHeartbeats 2000000 in
theorem bytes_ens {w : World} {B x : Nat} {d : Value} {T g k : Nat} (h : EnS w B x d T g k) (hE : Ev T g k) (hkb : k ≤ 1099511626000) :
    Calls Tryd.prog 45 #[.pointer (some ⟨x, 0, none⟩)] w fun e w' => ∃ v, e = .returned v ∧ ByNew w w' v T k := by
  have hg : 0 < g := by have := hE.least; omega
  have hfit : T < 256 ^ k * 4294967295 := by have := hE.fit; omega
  obtain ⟨ys, low, h1, h2, h3, h4⟩ := h
  have hdat := h1.data
  have hlo := h1.low
  have hr := h1.rng
  have hlow := h1.lies.2
  have HCL : Hid (∀ u : World, Below w.heap.size w u → Calls Tryd.prog 73 #[d] u fun e u' => ∃ a c, e = .returned (.slice a ys.length c) ∧ u'.ownsRow u.heap.size 5 1 (.slice a ys.length c) ys.length (bs ys) ∧ Below w.heap.size w u' ∧ Below u.heap.size u u' ∧ u'.cell? ⟨x, 1, none⟩ = some (.int .u64 (low : Nat)) ∧ u'.cell? ⟨x, 0, none⟩ = some d) := fun u hb => by
    have hsr : SrcOf u d ys := SrcOf.ofOwn (h1.below hb).own
    refine (clone_any hsr (by omega)).mono ?_
    rintro e u' ⟨a, c, rfl, g1, g2⟩
    have hb2 := hb.trans (g2.mono hb.size)
    exact ⟨a, c, rfl, g1, hb2, g2, by rw [hb2.cell (p := ⟨x, 1, none⟩) hlow]; exact hlo, by rw [hb2.cell (p := ⟨x, 0, none⟩) hlow]; exact hdat⟩
  have hbyt := h1.byt
  have HBY : Hid _ := hbyt
  have HFIT : Hid _ := hfit
  have HV : Hid _ := h3
  have hB : Below w.heap.size w w := Below.refl _ _
  have hnx : x ≠ w.heap.size := by omega
  have hn0 := World.new_ne w ⟨x, 0, none⟩ hdat
  have hn1 := World.new_ne w ⟨x, 1, none⟩ hlo
  have HLN : Hid _ := h2
  have hyl : ys.length ≤ 1099511626000 := by omega
  clear h1 h2 h3 hfit hbyt hE
  go_enter Tryd.func45, Tryd.ntmps45
  go_wp2_with fail
  refine (enone_any hr hg).mono ?_; rintro e w1 ⟨rfl, rfl⟩
  go_wp2_with fail
  go_region_held3 (fun u => u.cell? ⟨x, 0, none⟩ = some d ∧ u.cell? ⟨x, 1, none⟩ = some (.int .u64 (low : Nat)) ∧ Below w1.heap.size w1 u) (((try dsimp only); first | assumption | (solve | (repeat (first | with_reducible assumption | with_reducible refine Below.drew ?_ | with_reducible refine below_alloc ?_ ?_ _ | with_reducible refine below_set ?_ ?_ _ | exact Nat.le_refl _ | exact Below.size (by assumption)))) | (refine ⟨?_, ?_, ?_⟩ <;> first | assumption | (solve | (repeat (first | with_reducible assumption | with_reducible refine Below.drew ?_ | with_reducible refine below_alloc ?_ ?_ _ | with_reducible refine below_set ?_ ?_ _ | exact Nat.le_refl _ | exact Below.size (by assumption)))) | go_keep) | go_keep)) ((go_at_call 73; refine (HCL.out _ (by (repeat (first | with_reducible assumption | with_reducible refine Below.drew ?_ | with_reducible refine below_alloc ?_ ?_ _ | with_reducible refine below_set ?_ ?_ _ | exact Nat.le_refl _ | exact Below.size (by assumption))))).mono ?_; rintro e w3 ⟨a3, c3, rfl, hown3, hb3, hb4, hc31, hc32⟩; have q0 := newCell hb4 w1.heap.size 0; have f0 := newFrozen hb4 w1.heap.size 0; have q1 := newCell hb4 w1.heap.size 1; have f1 := newFrozen hb4 w1.heap.size 1; have q2 := newCell hb4 w1.heap.size 2; have f2 := newFrozen hb4 w1.heap.size 2))
  · have hh : Half w1 (w3.alloc (.cells #[.slice a3 ys.length c3, .int .u64 (low : Nat), .int .u32 0] 119)) w3.heap.size ys low := ⟨_, En.madeNew hown3 (by simp) hb3.size HBY.out, below_alloc hb3 (Nat.le_refl _) _⟩
    generalize w3.alloc (.cells #[.slice a3 ys.length c3, .int .u64 (low : Nat), .int .u32 0] 119) = W at *
    generalize w3.heap.size = x2 at *
    clear hown3 hb3 hb4 q0 q1 q2 f0 f1 f2 hc31 hc32 hn0 hn1 hnx hB hdat hlo hr HCL
    obtain ⟨d0, hE0, hB0⟩ := hh
    have HB0 : Hid _ := hB0
    clear hB0
    go_wp2_with fail
    go_loopw [16] (fun i wr => ∃ (j : Nat) (d' : Value) (y : List Nat) (low' : Nat), i = .int .i64 j ∧ j ≤ 4 ∧ En wr w1.heap.size x2 d' y low' 0 ∧ Hid (y.length = k + j) ∧ Hid (pre y (k + j) * 4294967296 + low' = T * 256 ^ j) ∧ Hid (low' < 8589934592) ∧ Hid (0 < j → low' < 4294967296) ∧ Kw x2 d0 d' W wr) (fun i _ => 4 - (intOf i).toNat)
    case atStart => exact ⟨0, d0, ys, low, rfl, by omega, hE0, HLN.out, (show pre ys k * 4294967296 + low = T * 256 ^ 0 by rw [HV.out]; simp), (show low < 8589934592 by omega), (show 0 < 0 → _ by omega), Kw.refl _ _ _⟩
    case round =>
      have hB0' : w1.heap.size ≤ x2 := hE0.lies.1
      have HKB : Hid (∀ {u : World} {d' : Value}, Kw x2 d0 d' W u → Below w1.heap.size w1 u) := fun {u d'} hk => HB0.out.trans ⟨hk.os, hk.tape, hk.output, hk.size, fun i hi => hk.block i (by have := hE0.lies; omega) (by omega) (fun e => by have := (hE0.own.lt i e).1; omega)⟩
      clear hE0
      obtain ⟨j, d', y, low', rfl, hj, hE, HL, HVV, HLO, HLP, hk⟩ := hrel
      by_cases hlt : j < 4
      · go_wp2_with fail
        refine (send_ens (T := T * 256 ^ j) (k := k + j) ⟨y, low', hE, HL.out, HVV.out, by have := HLO.out; omega⟩ (fit_pow HFIT.out j) (by omega)).mono ?_; rintro e w2 ⟨rfl, d2, y2, low2, hd2, hl2, hv2, hlo2, hk2⟩
        have HD2 : Hid _ := hd2
        have HV2 : Hid _ := hv2
        have HL2 : Hid _ := hl2
        have HLO2 : Hid _ := hlo2
        clear hd2 hv2 hl2 hlo2
        go_wp2_with fail
        go_roundw
        case rel =>
          exact ⟨j + 1, d2, y2, low2, by go_num, by omega, HD2.out, HL2.out, (show pre y2 (k + (j + 1)) * 4294967296 + low2 = T * 256 ^ (j + 1) by rw [Nat.pow_succ, ← Nat.mul_assoc]; exact HV2.out), (show low2 < 8589934592 by have := HLO2.out; omega), fun _ => HLO2.out, hk.trans hk2⟩
        case measure => simp [intOf]; omega
      · obtain rfl : j = 4 := by omega
        have hval := four_out HVV.out (HLP.out (by omega))
        obtain ⟨b, cap, rfl, _, hb⟩ := hE.own.form (by have := HL.out; omega)
        have hcap : y.length ≤ cap := by
          rcases hE.own.2 with ⟨h1, _⟩ | ⟨b', cap', cur, h1, _, _, h2, _⟩
          · cases h1
          · simp only [Value.slice.injEq] at h1; omega
        have hdat := hE.data
        have hBb := hE.own.lt b rfl
        have hyl2 : y.length ≤ 1099511627776 := by have := HL.out; omega
        have HBY2 := By.made rfl hE.own hcap HL.out hval hE.byt hb
        have HBY3 : Hid _ := HBY2
        have hcells : ∀ j, j < y.length → wr.cell? ⟨b, j, none⟩ = some (.int .u8 (y.getD j 0 : Nat)) := fun j hj => by rw [hE.own.cellAt j (by omega)]; exact bs_get y j hj
        have HCC : Hid _ := hcells
        have h0y : 0 < y.length := by have := HL.out; omega
        clear hcells HBY2 hval hE
        go_wp2_with fail
        refine (trim_any HCC.out hyl2 hcap h0y).mono ?_; rintro e w2 ⟨rfl, rfl⟩
        go_wp2_with fail
        go_ret
        exact ⟨_, rfl, b, _, HBY3.out, hBb.1, HKB.out hk⟩
  · have hh : Half w1 (((w3.setCell ⟨w1.heap.size, 0, none⟩ (.slice a3 ys.length c3)).setCell ⟨w1.heap.size, 1, none⟩ (.int .u64 (low : Nat))).setCell ⟨w1.heap.size, 2, none⟩ (.int .u32 0)) w1.heap.size ys low := ⟨_, En.madeSet hb4 (by simp) (c0 := .slice none 0 0) (c1 := .int .u64 0) (c2 := .int .u32 0) (by simp) (by simp) (by simp) (by simp) (by simp) (by simp) hown3 (Nat.le_refl _) HBY.out, below_set (below_set (below_set hb3 (Nat.le_refl _) _) (Nat.le_refl _) _) (Nat.le_refl _) _⟩
    generalize (((w3.setCell ⟨w1.heap.size, 0, none⟩ (.slice a3 ys.length c3)).setCell ⟨w1.heap.size, 1, none⟩ (.int .u64 (low : Nat))).setCell ⟨w1.heap.size, 2, none⟩ (.int .u32 0)) = W at *
    clear hown3 hb3 hb4 q0 q1 q2 f0 f1 f2 hc31 hc32 hn0 hn1 hnx hB hdat hlo hr HCL
    obtain ⟨d0, hE0, hB0⟩ := hh
    have HB0 : Hid _ := hB0
    clear hB0
    go_wp2_with fail
    go_loopw [16] (fun i wr => ∃ (j : Nat) (d' : Value) (y : List Nat) (low' : Nat), i = .int .i64 j ∧ j ≤ 4 ∧ En wr w1.heap.size w1.heap.size d' y low' 0 ∧ Hid (y.length = k + j) ∧ Hid (pre y (k + j) * 4294967296 + low' = T * 256 ^ j) ∧ Hid (low' < 8589934592) ∧ Hid (0 < j → low' < 4294967296) ∧ Kw w1.heap.size d0 d' W wr) (fun i _ => 4 - (intOf i).toNat)
    case atStart => exact ⟨0, d0, ys, low, rfl, by omega, hE0, HLN.out, (show pre ys k * 4294967296 + low = T * 256 ^ 0 by rw [HV.out]; simp), (show low < 8589934592 by omega), (show 0 < 0 → _ by omega), Kw.refl _ _ _⟩
    case round =>
      have hB0' : w1.heap.size ≤ w1.heap.size := hE0.lies.1
      have HKB : Hid (∀ {u : World} {d' : Value}, Kw w1.heap.size d0 d' W u → Below w1.heap.size w1 u) := fun {u d'} hk => HB0.out.trans ⟨hk.os, hk.tape, hk.output, hk.size, fun i hi => hk.block i (by have := hE0.lies; omega) (by omega) (fun e => by have := (hE0.own.lt i e).1; omega)⟩
      clear hE0
      obtain ⟨j, d', y, low', rfl, hj, hE, HL, HVV, HLO, HLP, hk⟩ := hrel
      by_cases hlt : j < 4
      · go_wp2_with fail
        refine (send_ens (T := T * 256 ^ j) (k := k + j) ⟨y, low', hE, HL.out, HVV.out, by have := HLO.out; omega⟩ (fit_pow HFIT.out j) (by omega)).mono ?_; rintro e w2 ⟨rfl, d2, y2, low2, hd2, hl2, hv2, hlo2, hk2⟩
        have HD2 : Hid _ := hd2
        have HV2 : Hid _ := hv2
        have HL2 : Hid _ := hl2
        have HLO2 : Hid _ := hlo2
        clear hd2 hv2 hl2 hlo2
        go_wp2_with fail
        go_roundw
        case rel =>
          exact ⟨j + 1, d2, y2, low2, by go_num, by omega, HD2.out, HL2.out, (show pre y2 (k + (j + 1)) * 4294967296 + low2 = T * 256 ^ (j + 1) by rw [Nat.pow_succ, ← Nat.mul_assoc]; exact HV2.out), (show low2 < 8589934592 by have := HLO2.out; omega), fun _ => HLO2.out, hk.trans hk2⟩
        case measure => simp [intOf]; omega
      · obtain rfl : j = 4 := by omega
        have hval := four_out HVV.out (HLP.out (by omega))
        obtain ⟨b, cap, rfl, _, hb⟩ := hE.own.form (by have := HL.out; omega)
        have hcap : y.length ≤ cap := by
          rcases hE.own.2 with ⟨h1, _⟩ | ⟨b', cap', cur, h1, _, _, h2, _⟩
          · cases h1
          · simp only [Value.slice.injEq] at h1; omega
        have hdat := hE.data
        have hBb := hE.own.lt b rfl
        have hyl2 : y.length ≤ 1099511627776 := by have := HL.out; omega
        have HBY2 := By.made rfl hE.own hcap HL.out hval hE.byt hb
        have HBY3 : Hid _ := HBY2
        have hcells : ∀ j, j < y.length → wr.cell? ⟨b, j, none⟩ = some (.int .u8 (y.getD j 0 : Nat)) := fun j hj => by rw [hE.own.cellAt j (by omega)]; exact bs_get y j hj
        have HCC : Hid _ := hcells
        have h0y : 0 < y.length := by have := HL.out; omega
        clear hcells HBY2 hval hE
        go_wp2_with fail
        refine (trim_any HCC.out hyl2 hcap h0y).mono ?_; rintro e w2 ⟨rfl, rfl⟩
        go_wp2_with fail
        go_ret
        exact ⟨_, rfl, b, _, HBY3.out, hBb.1, HKB.out hk⟩

end Go.Proofs.YtppanogpeengnaaDoor.L2
