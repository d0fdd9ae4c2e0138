/- DERIVED. The document's own encoder (zoetroperef02.Encoder) in memory, and the walks of its New and goes. -/
import Derived.Test.YtogaekjohnbbiaaDoorRtA
import Derived.Test.YtogaekjohnbbiaaDoorLwC
namespace Go.Proofs.YtogaekjohnbbiaaDoor
open Go.RowKit

/-- the document's encoder in block x: the bytes ys are out -/
structure Ef (w : World) (B x : Nat) (d : Value) (ys : List Nat) (low g : Nat) : Prop where
  data : w.cell? ⟨x, 0, none⟩ = some d
  own : w.ownsRow B 5 1 d ys.length (bs ys)
  apart : d.ownBlock ≠ some x
  low : w.cell? ⟨x, 1, none⟩ = some (.int .u64 (low : Nat))
  rng : w.cell? ⟨x, 2, none⟩ = some (.int .u64 (g : Nat))
  thaw0 : w.frozen? ⟨x, 0, none⟩ = false
  thaw1 : w.frozen? ⟨x, 1, none⟩ = false
  thaw2 : w.frozen? ⟨x, 2, none⟩ = false
  lies : B ≤ x ∧ x < w.heap.size
  byt : ∀ i, ys.getD i 0 < 256

theorem Ef.carry {w w' : World} {B x : Nat} {d : Value} {ys : List Nat} {low g : Nat} (h : Ef w B x d ys low g) (hr : w'.heap[x]? = w.heap[x]?) (hg : ∀ b, d.ownBlock = some b → w'.heap[b]? = w.heap[b]?) (hs : w.heap.size ≤ w'.heap.size) : Ef w' B x d ys low g := by
  have ec : ∀ o, w'.cell? ⟨x, o, none⟩ = w.cell? ⟨x, o, none⟩ := fun o => World.cell?_of_block (w := w) hr
  have ef : ∀ o, w'.frozen? ⟨x, o, none⟩ = w.frozen? ⟨x, o, none⟩ := fun o => World.frozen?_of_block (w := w) hr
  refine ⟨by rw [ec]; exact h.data, ?_, h.apart, by rw [ec]; exact h.low, by rw [ec]; exact h.rng, by rw [ef]; exact h.thaw0, by rw [ef]; exact h.thaw1, by rw [ef]; exact h.thaw2, ⟨h.lies.1, Nat.lt_of_lt_of_le h.lies.2 hs⟩, h.byt⟩
  refine ⟨h.own.1, ?_⟩
  rcases h.own.2 with h1 | ⟨b, cap, cur, rfl, h2, h3, h4⟩
  · exact Or.inl h1
  · exact Or.inr ⟨b, cap, cur, rfl, h2, by rw [hg b rfl]; exact h3, h4⟩
theorem Ef.same {w w' : World} {B x : Nat} {d : Value} {ys : List Nat} {low g : Nat} (h : Ef w B x d ys low g) (e : w'.heap = w.heap) : Ef w' B x d ys low g :=
  h.carry (by rw [e]) (fun _ _ => by rw [e]) (by rw [e]; exact Nat.le_refl _)
theorem Ef.below {w w' : World} {B x : Nat} {d : Value} {ys : List Nat} {low g : Nat} (h : Ef w B x d ys low g) (hb : Below w.heap.size w w') : Ef w' B x d ys low g :=
  h.carry (hb.block x h.lies.2) (fun b e => hb.block b (h.own.lt b e).2) hb.size
theorem Ef.setLow {w : World} {B x : Nat} {d : Value} {ys : List Nat} {low g : Nat} (h : Ef w B x d ys low g) (low' : Nat) : Ef (w.setCell ⟨x, 1, none⟩ (.int .u64 (low' : Nat))) B x d ys low' g := by
  have ef : ∀ a, (w.setCell ⟨x, 1, none⟩ (.int .u64 (low' : Nat))).frozen? a = w.frozen? a := fun a => by simp
  have hl := h.lies
  exact ⟨by rw [World.cell?_setCell_other _ _ _ _ (by simp)]; exact h.data, own_set_far h.own h.apart _, h.apart, World.cell?_setCell_same _ _ _ h.low, by rw [World.cell?_setCell_other _ _ _ _ (by simp)]; exact h.rng, by rw [ef]; exact h.thaw0, by rw [ef]; exact h.thaw1, by rw [ef]; exact h.thaw2, by simpa [World.setCell] using hl, h.byt⟩
theorem Ef.setRng {w : World} {B x : Nat} {d : Value} {ys : List Nat} {low g : Nat} (h : Ef w B x d ys low g) (g' : Nat) : Ef (w.setCell ⟨x, 2, none⟩ (.int .u64 (g' : Nat))) B x d ys low g' := by
  have ef : ∀ a, (w.setCell ⟨x, 2, none⟩ (.int .u64 (g' : Nat))).frozen? a = w.frozen? a := fun a => by simp
  have hl := h.lies
  exact ⟨by rw [World.cell?_setCell_other _ _ _ _ (by simp)]; exact h.data, own_set_far h.own h.apart _, h.apart, by rw [World.cell?_setCell_other _ _ _ _ (by simp)]; exact h.low, World.cell?_setCell_same _ _ _ h.rng, by rw [ef]; exact h.thaw0, by rw [ef]; exact h.thaw1, by rw [ef]; exact h.thaw2, by simpa [World.setCell] using hl, h.byt⟩
/-- a byte that is out turns -/
theorem Ef.setByte {w : World} {B x b cap : Nat} {ys : List Nat} {low g n : Nat} (hn : n = ys.length) (h : Ef w B x (.slice (some ⟨b, 0, none⟩) n cap) ys low g) (i : Nat) (hi : i < ys.length) (z : Nat) (hz : z < 256) : Ef (w.setCell ⟨b, i, none⟩ (.int .u8 (z : Nat))) B x (.slice (some ⟨b, 0, none⟩) n cap) (ys.set i z) low g := by
  subst hn
  have ef : ∀ a, (w.setCell ⟨b, i, none⟩ (.int .u8 (z : Nat))).frozen? a = w.frozen? a := fun a => by simp
  have hl := h.lies
  have hbx : b ≠ x := fun e => h.apart (by simp [Value.ownBlock, e])
  have hfar : ∀ o, (⟨b, i, none⟩ : Addr) ≠ ⟨x, o, none⟩ := fun o e => hbx (Addr.mk.inj e).1
  refine ⟨by rw [World.cell?_setCell_other _ _ _ _ (hfar 0)]; exact h.data, ?_, h.apart, by rw [World.cell?_setCell_other _ _ _ _ (hfar 1)]; exact h.low, by rw [World.cell?_setCell_other _ _ _ _ (hfar 2)]; exact h.rng, by rw [ef]; exact h.thaw0, by rw [ef]; exact h.thaw1, by rw [ef]; exact h.thaw2, by simpa [World.setCell] using hl, byt_set h.byt hi hz⟩
  rw [List.length_set, bs_set]
  exact (h.own.stored i (.int .u8 (z : Int))).1

theorem grow_ef {wr w1 : World} {o : Obj} {B x gb cap b : Nat} {dr : Value} {ys : List Nat} {low g : Nat} (hw : Ef wr B x dr ys low g) (hb : b < 256) (hgrow : (wr.alloc o).grownBy w1 dr.ownBlock) (hown1 : w1.ownsRow B 5 1 (.slice (some ⟨gb, 0, none⟩) (ys.length + 1) cap) (ys.length + 1) (bs ys ++ bs [b]))
    (hat : dr.ownBlock = some gb ∨ gb = wr.heap.size + 1) :
    Ef (w1.setCell ⟨x, 0, none⟩ (.slice (some ⟨gb, 0, none⟩) (ys.length + 1) cap)) B x (.slice (some ⟨gb, 0, none⟩) (ys.length + 1) cap) (ys ++ [b]) low g ∧
    Kw x dr (.slice (some ⟨gb, 0, none⟩) (ys.length + 1) cap) wr (w1.setCell ⟨x, 0, none⟩ (.slice (some ⟨gb, 0, none⟩) (ys.length + 1) cap)) := by
  have hlow := hw.lies
  have hap := hw.apart
  have hgx : gb ≠ x := by
    rcases hat with e | e
    · intro e2; rw [e, e2] at hap; exact hap rfl
    · omega
  have fc := fun j => far_cell hgrow hlow.2 hap j
  have hsz : wr.heap.size + 1 ≤ w1.heap.size := by have := hgrow.size; simpa using this
  have hlen : (ys ++ [b]).length = ys.length + 1 := by simp
  constructor
  · refine ⟨World.cell?_setCell_same w1 ⟨x, 0, none⟩ _ ((fc 0).1.trans hw.data), ?_, ?_, ?_, ?_, ?_, ?_, ?_, ⟨hlow.1, by simp [World.setCell]; omega⟩, byt_snoc hw.byt hb⟩
    · rw [bs_append, hlen]
      exact own_set_far hown1 (by simp [Value.ownBlock]; exact hgx) _
    · simp [Value.ownBlock]; exact hgx
    · rw [World.cell?_setCell_other _ _ _ _ (by simp), (fc 1).1]; exact hw.low
    · rw [World.cell?_setCell_other _ _ _ _ (by simp), (fc 2).1]; exact hw.rng
    · rw [World.frozen?_setCell, (fc 0).2]; exact hw.thaw0
    · rw [World.frozen?_setCell, (fc 1).2]; exact hw.thaw1
    · rw [World.frozen?_setCell, (fc 2).2]; exact hw.thaw2
  · refine ⟨hgrow.os, hgrow.tape, hgrow.output, by simp [World.setCell]; omega, fun k hk hx hd => ?_, fun g' hg' => ?_⟩
    · rw [Below.heap_setCell _ _ _ _ (by simpa using hx), hgrow.block k (by simp; omega) (Ne.symm hd), Below.heap_alloc _ _ _ hk]
    · simp [Value.ownBlock] at hg'
      subst hg'
      rcases hat with e | e
      · exact Or.inl e
      · right; omega

set_option maxHeartbeats 400000 in
theorem rnew_any (w : World) : Calls Tryd.prog 10 #[] w fun e w' => e = .returned (.pointer (some ⟨w.heap.size, 0, none⟩)) ∧ Ef w' w.heap.size w.heap.size (.slice none 0 0) [] 0 4294967295 ∧ Below w.heap.size w w' := by
  go_enter Tryd.func10, Tryd.ntmps10
  go_wp2_with fail
  go_ret
  refine ⟨rfl, ⟨by simp, World.ownsRow_nil _ _ _ _, by simp [Value.ownBlock], by simp, by simp, by simp, by simp, by simp, by simp, by simp⟩, (Below.refl _ _).alloc (Nat.le_refl _) _⟩

/-- a byte has gone out: n bytes of number N were out -/
def EfSent (w w' : World) (B x : Nat) (d : Value) (n N low g : Nat) : Prop := ∃ d' ys', Ef w' B x d' ys' (low % 16777216 * 256) g ∧ ys'.length = n + 1 ∧ pre ys' (n + 1) = (N + low / 4294967296) * 256 + low / 16777216 % 256 ∧ Kw x d d' w w'

set_option maxRecDepth 100000 in
set_option maxHeartbeats 2000000 in
theorem goes_ef {w : World} {B x : Nat} {d : Value} {ys : List Nat} {low g : Nat} (h : Ef w B x d ys low g) (hlw : low < 8589934592) (hv : pre ys ys.length + low / 4294967296 < 256 ^ ys.length) (hl : ys.length ≤ 1099511627000) :
    Calls Tryd.prog 31 #[.pointer (some ⟨x, 0, none⟩)] w fun e w' => e = .returned (.tuple #[]) ∧ EfSent w w' B x d ys.length (pre ys ys.length) low g := by
  obtain ⟨i, hi, hz0, hz1, hz2⟩ := info_parts Tryd.info5
  by_cases hc : low < 4294967296
  · have hc' : decide ((4294967296 : Int) ≤ (low : Int)) = false := by simp; omega
    have HC : Bx (low < 4294967296) := ⟨hc⟩
    have HLB : Bx (low < 8589934592) := ⟨hlw⟩
    have hlo := h.low
    clear hc hlw
    go_enter Tryd.func31, Tryd.ntmps31
    go_wp2_with fail
    obtain ⟨a, c, rfl⟩ := own_slice h.own
    have hdat := h.data
    have hlo := h.low
    have hlow := h.lies.2
    have ht0 := h.thaw0
    have ht1 := h.thaw1
    have hap := h.apart
    have hB : B ≤ w.heap.size := by have := h.lies; omega
    have hownA : (w.alloc (.cells #[.int .u8 (IntKind.u8.wrap (IntKind.u64.wrap ((low : Int) / 16777216)))] 5)).drew.ownsRow B 5 1 (.slice a ys.length c) ys.length (bs ys) := (h.own.alloc _).drew
    have hnews : ∀ j u, (bs [low / 16777216 % 256])[j]? = some u → (w.alloc (.cells #[.int .u8 (IntKind.u8.wrap (IntKind.u64.wrap ((low : Int) / 16777216)))] 5)).drew.cell? ((⟨w.heap.size, 0, none⟩ : Addr).add j) = some u := by
      rw [show IntKind.u8.wrap (IntKind.u64.wrap ((low : Int) / 16777216)) = ((low / 16777216 % 256 : Nat) : Int) from (by rw [IntKind.wrap_u64, IntKind.wrap_u8]; have := HLB.out; omega)]
      exact World.news_of_block (cs := #[.int .u8 ((low / 16777216 % 256 : Nat) : Int)]) (heap_alloc_new w _)
    have hyl : ys.length ≤ 1099511627776 := by omega
    have HE : Hid _ := h
    clear h
    go_wp2_with fail
    go_region_law ((refine step_append_lies _ (by rfl) _ _ _ (by rfl) B 5 i (.int .u8 0) 1 1 Tryd.underlying32 hi hz0 hz1 hz2 rfl (by omega) _ ys.length (bs ys) (by rfl) hownA ⟨w.heap.size, 0, none⟩ 1 1 (bs [low / 16777216 % 256]) (by rfl) (by rfl) hnews (bs_one _) (by omega) (by unfold maxLen; omega) (by omega) (by simp; omega) (w.heap.size + 1) (by simp) ?_; intro g cap w1 hown1 hgrow hat hlt; have hgr := undrew hgrow; have c0 := (far_cell hgr hlow hap 0).1.trans hdat; have zz := (far_cell hgr hlow hap 0).2.trans ht0; have c1 := (far_cell hgr hlow hap 1).1.trans hlo; have zz1 := (far_cell hgr hlow hap 1).2.trans ht1))
    all_goals
      go_wp2_with fail
      go_end0
      obtain ⟨g1, g2⟩ := grow_ef HE.out (b := low / 16777216 % 256) (Nat.mod_lt _ (by omega)) hgr hown1 hat
      have hc := HC.out
      refine ⟨rfl, _, ys ++ [low / 16777216 % 256], ?_, by simp, by rw [pre_snoc]; omega, g2.trans (Kw.set _ _)⟩
      have g3 := g1.setLow (low % 16777216 * 256)
      rw [show ((low % 16777216 * 256 : Nat) : Int) = (low : Int) % 16777216 * 256 from by omega] at g3
      exact g3
  · have h0 : 0 < ys.length := by
      rcases Nat.eq_zero_or_pos ys.length with e | e
      · rw [e] at hv; simp at hv; omega
      · exact e
    have hc' : decide ((4294967296 : Int) ≤ (low : Int)) = true := by simp; omega
    obtain ⟨b, cap, rfl, _, hb⟩ := h.own.form h0
    have hdat := h.data
    have hlo := h.low
    have HV : Hid (pre ys ys.length + 1 < 256 ^ ys.length) := (show pre ys ys.length + 1 < 256 ^ ys.length by omega)
    have HE0 : Hid _ := h
    obtain ⟨n, hn⟩ : ∃ n, ys.length = n := ⟨_, rfl⟩
    rw [hn] at hdat hl h0 HV HE0 ⊢
    have HC : Bx (¬ low < 4294967296) := ⟨hc⟩
    have HLW : Bx (low < 8589934592) := ⟨hlw⟩
    clear h hv hc hlw
    have HN : Hid (ys.length = n) := hn
    clear hn
    generalize hN : pre ys n = N at *
    have HNN : Hid (pre ys n = N) := hN
    clear hN
    go_enter Tryd.func31, Tryd.ntmps31
    go_wp2_with fail
    go_loopw [2] (fun i wr => ∃ (j : Nat) (yr : List Nat), i = .int .i64 ((j : Int) - 1) ∧ j ≤ n ∧ Ef wr B x (.slice (some ⟨b, 0, none⟩) n cap) yr low g ∧ Hid (yr.length = n) ∧ Hid (pre yr n + 256 ^ (n - j) = N + 1) ∧ Kw x (.slice (some ⟨b, 0, none⟩) n cap) (.slice (some ⟨b, 0, none⟩) n cap) w wr) (fun i _ => (intOf i + 1).toNat)
    case atStart => exact ⟨n, ys, rfl, Nat.le_refl _, HE0.out, HN.out, (show pre ys n + 256 ^ (n - n) = N + 1 by rw [HNN.out]; simp), Kw.refl _ _ _⟩
    case round =>
      clear HE0 hdat
      obtain ⟨j, yr, rfl, hj, hE, HL, HP, hk⟩ := hrel
      by_cases hj0 : j = 0
      · exfalso
        subst hj0
        have h1 := HP.out
        have h2 := HV.out
        rw [Nat.sub_zero] at h1
        omega
      · obtain ⟨q, rfl⟩ : ∃ q, j = q + 1 := ⟨j - 1, by omega⟩
        rw [show (((q + 1 : Nat) : Int) - 1) = (q : Int) from by omega]
        have hdat := hE.data
        have hown := hE.own
        rw [HL.out] at hown
        have hcq := hown.cellAt q (by omega)
        rw [bs_get _ _ (by have := HL.out; omega)] at hcq
        have hf := hown.frozenAt q
        have hz := hE.byt q
        have hset := fun z hz => hE.setByte HL.out.symm q (by have := HL.out; omega) z hz
        have hpre := fun z => pre_set yr q z (by have := HL.out; omega) n (by omega)
        have HS : Hid _ := hset
        have HPR : Hid _ := hpre
        have hlo := hE.low
        have hft := hE.thaw1
        have hbx : b ≠ x := fun e => hE.apart (by simp [Value.ownBlock, e])
        clear hset hpre hown
        generalize yr.getD q 0 = z at *
        by_cases hz255 : z = 255
        · subst hz255
          go_wp2_with fail
          go_roundw
          case rel =>
            refine ⟨q, yr.set q 0, by go_num, by omega, HS.out 0 (by omega), (by have := HL.out; simp; omega), ?_, hk.trans (Kw.setOwn rfl _ _)⟩
            have h1 := HPR.out 0
            have h2 := HP.out
            show pre (yr.set q 0) n + 256 ^ (n - q) = N + 1
            rw [show n - q = (n - (q + 1)) + 1 from by omega, Nat.pow_succ]
            rw [show n - 1 - q = n - (q + 1) from by omega] at h1
            generalize 256 ^ (n - (q + 1)) = P at *
            omega
          case measure => simp [intOf]
        · have hne : ((z : Int) == 255) = false := by simp; omega
          have hE2 := (HS.out (z + 1) (by omega)).setLow (low - 4294967296)
          rw [show ((z + 1 : Nat) : Int) = (z : Int) + 1 from by omega, show ((low - 4294967296 : Nat) : Int) = (low : Int) - 4294967296 from by have := HC.out; omega] at hE2
          have HP2 : Hid (pre (yr.set q (z + 1)) n = N + 1) := by
            have h1 := HPR.out (z + 1)
            have h2 := HP.out
            show pre (yr.set q (z + 1)) n = N + 1
            rw [show n - 1 - q = n - (q + 1) from by omega, Nat.add_mul] at h1
            omega
          have HL2 : Hid ((yr.set q (z + 1)).length = n) := (show (yr.set q (z + 1)).length = n by have := HL.out; simp; omega)
          have HK2 : Hid _ := (hk.trans (Kw.setOwn (x := x) (w := wr) (d := .slice (some ⟨b, 0, none⟩) n cap) rfl q (.int .u8 ((z : Int) + 1)))).trans (Kw.set 1 (.int .u64 ((low : Int) - 4294967296)))
          have HE2 : Hid _ := hE2
          clear hE2 HS HPR HP hE
          go_wp2_with fail
          have hcc := HC.out
          have hll := HLW.out
          obtain ⟨m, hm⟩ : ∃ m : Nat, (low : Int) - 4294967296 = (m : Int) := ⟨low - 4294967296, by omega⟩
          have HM : Bx (low = m + 4294967296) := ⟨by omega⟩
          have HLB : Bx (m < 8589934592) := ⟨by omega⟩
          have hme : low - 4294967296 = m := by omega
          rw [hm] at HE2 HK2 ⊢
          rw [wraps_u64_63 (m : Int) (by omega) (by omega)]
          rw [hme] at HE2
          clear hm hme hcc hll hlo hdat hcq hf
          have hE3 := HE2.out
          have hlen3 : (yr.set q (z + 1)).length ≤ 1099511627000 := by have := HL2.out; omega
          clear HE2
          generalize (wr.setCell ⟨b, q, none⟩ (.int .u8 ((z : Int) + 1))).setCell ⟨x, 1, none⟩ (.int .u64 (m : Int)) = W2 at *
          generalize yr.set q (z + 1) = y2 at *
          have HDD : Hid _ := HK2
          obtain ⟨dd, hdd⟩ : ∃ dd, dd = Value.slice (some ⟨b, 0, none⟩) n cap := ⟨_, rfl⟩
          rw [← hdd] at hE3
          have HDE : Hid _ := hdd
          clear hdd
          obtain ⟨a, c, rfl⟩ := own_slice hE3.own
          have hdat := hE3.data
          have hlo := hE3.low
          have hlow := hE3.lies.2
          have ht0 := hE3.thaw0
          have ht1 := hE3.thaw1
          have hap := hE3.apart
          have hB : B ≤ W2.heap.size := by have := hE3.lies; omega
          have hownA : (W2.alloc (.cells #[.int .u8 (IntKind.u8.wrap (IntKind.u64.wrap ((m : Int) / 16777216)))] 5)).drew.ownsRow B 5 1 (.slice a y2.length c) y2.length (bs y2) := (hE3.own.alloc _).drew
          have hnews : ∀ j u, (bs [m / 16777216 % 256])[j]? = some u → (W2.alloc (.cells #[.int .u8 (IntKind.u8.wrap (IntKind.u64.wrap ((m : Int) / 16777216)))] 5)).drew.cell? ((⟨W2.heap.size, 0, none⟩ : Addr).add j) = some u := by
            rw [show IntKind.u8.wrap (IntKind.u64.wrap ((m : Int) / 16777216)) = ((m / 16777216 % 256 : Nat) : Int) from (by rw [IntKind.wrap_u64, IntKind.wrap_u8]; have := HLB.out; omega)]
            exact World.news_of_block (cs := #[.int .u8 ((m / 16777216 % 256 : Nat) : Int)]) (heap_alloc_new W2 _)
          have hyl : y2.length ≤ 1099511627776 := by omega
          have HE : Hid _ := hE3
          clear hE3
          go_wp2_with fail
          go_region_law ((refine step_append_lies _ (by rfl) _ _ _ (by rfl) B 5 i (.int .u8 0) 1 1 Tryd.underlying32 hi hz0 hz1 hz2 rfl (by omega) _ y2.length (bs y2) (by rfl) hownA ⟨W2.heap.size, 0, none⟩ 1 1 (bs [m / 16777216 % 256]) (by rfl) (by rfl) hnews (bs_one _) (by omega) (by unfold maxLen; omega) (by omega) (by simp; omega) (W2.heap.size + 1) (by simp) ?_; intro g cap w1 hown1 hgrow hat hlt; have hgr := undrew hgrow; have c0 := (far_cell hgr hlow hap 0).1.trans hdat; have zz := (far_cell hgr hlow hap 0).2.trans ht0; have c1 := (far_cell hgr hlow hap 1).1.trans hlo; have zz1 := (far_cell hgr hlow hap 1).2.trans ht1))
          all_goals
            go_wp2_with fail
            go_end0
            obtain ⟨g1, g2⟩ := grow_ef HE.out (b := m / 16777216 % 256) (Nat.mod_lt _ (by omega)) hgr hown1 hat
            have hde := HDE.out
            rw [hde] at g2
            have hmm := HM.out
            have hmb := HLB.out
            have hlw := HLW.out
            have e1 : low % 16777216 = m % 16777216 := by omega
            have e2 : low / 16777216 % 256 = m / 16777216 % 256 := by omega
            have e3 : low / 4294967296 = 1 := by omega
            refine ⟨rfl, _, y2 ++ [m / 16777216 % 256], ?_, by simp; exact HL2.out, ?_, (HK2.out.trans g2).trans (Kw.set _ _)⟩
            · have g3 := g1.setLow (low % 16777216 * 256)
              rw [e1, show ((m % 16777216 * 256 : Nat) : Int) = (m : Int) % 16777216 * 256 from by omega] at g3
              rw [e1]
              exact g3
            · have h1 := HP2.out
              have h2 := HL2.out
              rw [← h2, pre_snoc, h2, h1, e2, e3]

end Go.Proofs.YtogaekjohnbbiaaDoor
