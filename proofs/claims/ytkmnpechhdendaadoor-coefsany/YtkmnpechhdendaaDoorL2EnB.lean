/- DERIVED. The walk of an encoder's send. -/
import Derived.Test.YtkmnpechhdendaaDoorL2EnA
namespace Go.Proofs.YtkmnpechhdendaaDoor.L2
open Go.RowKit

theorem wraps_u64_63 (n : Int) (h₀ : 0 ≤ n) (h₁ : n < 2 ^ 63) : IntKind.u64.wrap n = n := by rw [IntKind.wrap_u64]; omega
theorem and24 (low : Nat) (h : low < 8589934592) : bits .and .u64 (low : Int) 16777215 = ((low % 16777216 : Nat) : Int) := by
  have := bits_mask .u64 63 (by decide) wraps_u64_63 24 (by omega) (low : Int) (by omega) (by omega)
  rw [show ((2 : Int) ^ 24 - 1) = 16777215 from by decide] at this
  rw [this]
  omega

theorem grow_en {wr w1 : World} {o : Obj} {B x gb cap b : Nat} {dr : Value} {ys : List Nat} {low g : Nat} (hw : En wr B x dr ys low g) (hb : b < 256) (hgrow : (wr.alloc o).grownBy w1 dr.ownBlock) (hown1 : w1.ownsRow B 5 1 (.slice (some ⟨gb, 0, none⟩) (ys.length + 1) cap) (ys.length + 1) (bs ys ++ bs [b]))
    (hat : dr.ownBlock = some gb ∨ gb = wr.heap.size + 1) :
    En (w1.setCell ⟨x, 0, none⟩ (.slice (some ⟨gb, 0, none⟩) (ys.length + 1) cap)) B x (.slice (some ⟨gb, 0, none⟩) (ys.length + 1) cap) (ys ++ [b]) low g ∧
    Kw x dr (.slice (some ⟨gb, 0, none⟩) (ys.length + 1) cap) wr (w1.setCell ⟨x, 0, none⟩ (.slice (some ⟨gb, 0, none⟩) (ys.length + 1) cap)) := by
  have hlow := hw.lies
  have hap := hw.apart
  have hgx : gb ≠ x := by
    rcases hat with e | e
    · intro e2; rw [e, e2] at hap; exact hap rfl
    · omega
  have fc := fun j => far_cell hgrow hlow.2 hap j
  have hsz : wr.heap.size + 1 ≤ w1.heap.size := by have := hgrow.size; simpa using this
  have hlen : (ys ++ [b]).length = ys.length + 1 := by simp
  constructor
  · refine ⟨World.cell?_setCell_same w1 ⟨x, 0, none⟩ _ ((fc 0).1.trans hw.data), ?_, ?_, ?_, ?_, ?_, ?_, ?_, ⟨hlow.1, by simp [World.setCell]; omega⟩, byt_snoc hw.byt hb⟩
    · rw [bs_append, hlen]
      exact own_set_far hown1 (by simp [Value.ownBlock]; exact hgx) _
    · simp [Value.ownBlock]; exact hgx
    · rw [World.cell?_setCell_other _ _ _ _ (by simp), (fc 1).1]; exact hw.low
    · rw [World.cell?_setCell_other _ _ _ _ (by simp), (fc 2).1]; exact hw.rng
    · rw [World.frozen?_setCell, (fc 0).2]; exact hw.thaw0
    · rw [World.frozen?_setCell, (fc 1).2]; exact hw.thaw1
    · rw [World.frozen?_setCell, (fc 2).2]; exact hw.thaw2
  · refine ⟨hgrow.os, hgrow.tape, hgrow.output, by simp [World.setCell]; omega, fun k hk hx hd => ?_, fun g' hg' => ?_⟩
    · rw [Below.heap_setCell _ _ _ _ (by simpa using hx), hgrow.block k (by simp; omega) (Ne.symm hd), Below.heap_alloc _ _ _ hk]
    · simp [Value.ownBlock] at hg'
      subst hg'
      rcases hat with e | e
      · exact Or.inl e
      · right; omega

/-- a byte has gone out: n bytes of number N were out -/
def EnSent (w w' : World) (B x : Nat) (d : Value) (n N low g : Nat) : Prop := ∃ d' ys', En w' B x d' ys' (low % 16777216 * 256) g ∧ ys'.length = n + 1 ∧ pre ys' (n + 1) = (N + low / 4294967296) * 256 + low / 16777216 % 256 ∧ Kw x d d' w w'

set_option maxRecDepth 100000 in
set_option maxHeartbeats 2000000 in
theorem send_en {w : World} {B x : Nat} {d : Value} {ys : List Nat} {low g : Nat} (h : En w B x d ys low g) (hlw : low < 8589934592) (hv : pre ys ys.length + low / 4294967296 < 256 ^ ys.length) (hl : ys.length ≤ 1099511627000) :
    Calls Tryd.prog 45 #[.pointer (some ⟨x, 0, none⟩)] w fun e w' => e = .returned (.tuple #[]) ∧ EnSent w w' B x d ys.length (pre ys ys.length) low g := by
  obtain ⟨i, hi, hz0, hz1, hz2⟩ := info_parts Tryd.info5
  have hand := and24 low hlw
  have HA : Hid _ := hand
  clear hand
  by_cases hc : low < 4294967296
  · have hc' : ((low : Int) / 4294967296 != 0) = false := by simp; omega
    have hlo := h.low
    go_enter Tryd.func45, Tryd.ntmps45
    go_wp2_with fail
    obtain ⟨a, c, rfl⟩ := own_slice h.own
    have hdat := h.data
    have hlo := h.low
    have hlow := h.lies.2
    have ht0 := h.thaw0
    have ht1 := h.thaw1
    have hap := h.apart
    have hB : B ≤ w.heap.size := by have := h.lies; omega
    have hownA : (w.alloc (.cells #[.int .u8 ((low : Int) / 16777216 % 256)] 5)).drew.ownsRow B 5 1 (.slice a ys.length c) ys.length (bs ys) := (h.own.alloc _).drew
    have hnews : ∀ j u, (bs [low / 16777216 % 256])[j]? = some u → (w.alloc (.cells #[.int .u8 ((low : Int) / 16777216 % 256)] 5)).drew.cell? ((⟨w.heap.size, 0, none⟩ : Addr).add j) = some u := by
      rw [show ((low : Int) / 16777216 % 256) = ((low / 16777216 % 256 : Nat) : Int) from by omega]
      exact World.news_of_block (cs := #[.int .u8 ((low / 16777216 % 256 : Nat) : Int)]) (heap_alloc_new w _)
    have hyl : ys.length ≤ 1099511627776 := by omega
    have HE : Hid _ := h
    clear h
    go_wp2_with fail
    go_region_law ((refine step_append_lies _ (by rfl) _ _ _ (by rfl) B 5 i (.int .u8 0) 1 1 Tryd.underlying39 hi hz0 hz1 hz2 rfl (by omega) _ ys.length (bs ys) (by rfl) hownA ⟨w.heap.size, 0, none⟩ 1 1 (bs [low / 16777216 % 256]) (by rfl) (by rfl) hnews (bs_one _) (by omega) (by unfold maxLen; omega) (by omega) (by simp; omega) (w.heap.size + 1) (by simp) ?_; intro g cap w1 hown1 hgrow hat hlt; have hgr := undrew hgrow; have c0 := (far_cell hgr hlow hap 0).1.trans hdat; have zz := (far_cell hgr hlow hap 0).2.trans ht0; have c1 := (far_cell hgr hlow hap 1).1.trans hlo; have zz1 := (far_cell hgr hlow hap 1).2.trans ht1))
    all_goals
      go_wp2_with fail
      go_end0
      obtain ⟨g1, g2⟩ := grow_en HE.out (b := low / 16777216 % 256) (Nat.mod_lt _ (by omega)) hgr hown1 hat
      rw [HA.out, wraps_u64_63 _ (by omega) (by omega), show (((low % 16777216 : Nat)) : Int) * 256 = ((low % 16777216 * 256 : Nat) : Int) from by omega]
      exact ⟨rfl, _, ys ++ [low / 16777216 % 256], g1.setLow _, by simp, by rw [pre_snoc]; omega, g2.trans (Kw.set _ _)⟩
  · have hc' : ((low : Int) / 4294967296 != 0) = true := by rw [bne_iff_ne]; omega
    have hlo := h.low
    go_enter Tryd.func45, Tryd.ntmps45
    go_wp2_with fail
    refine (carry_en h (by omega) (by omega)).mono ?_; rintro e wc ⟨rfl, yc, hEc, hLc, hPc, hKc⟩
    have hyc : yc.length ≤ 1099511627000 := by omega
    have HLc : Hid (yc.length = ys.length) := hLc
    have HPc : Hid (pre yc ys.length = pre ys ys.length + 1) := hPc
    have HKc : Hid (Kw x d d w wc) := hKc
    clear hLc hPc hKc hlo h hl
    obtain ⟨dd, hdd⟩ : ∃ dd, dd = d := ⟨_, rfl⟩
    rw [← hdd] at hEc
    have HDD : Hid (dd = d) := hdd
    clear hdd
    obtain ⟨a, c, rfl⟩ := own_slice hEc.own
    have hdat := hEc.data
    have hlo := hEc.low
    have hlow := hEc.lies.2
    have ht0 := hEc.thaw0
    have ht1 := hEc.thaw1
    have hap := hEc.apart
    have hB : B ≤ wc.heap.size := by have := hEc.lies; omega
    have hownA : (wc.alloc (.cells #[.int .u8 ((low : Int) / 16777216 % 256)] 5)).drew.ownsRow B 5 1 (.slice a yc.length c) yc.length (bs yc) := (hEc.own.alloc _).drew
    have hnews : ∀ j u, (bs [low / 16777216 % 256])[j]? = some u → (wc.alloc (.cells #[.int .u8 ((low : Int) / 16777216 % 256)] 5)).drew.cell? ((⟨wc.heap.size, 0, none⟩ : Addr).add j) = some u := by
      rw [show ((low : Int) / 16777216 % 256) = ((low / 16777216 % 256 : Nat) : Int) from by omega]
      exact World.news_of_block (cs := #[.int .u8 ((low / 16777216 % 256 : Nat) : Int)]) (heap_alloc_new wc _)
    have hyl : yc.length ≤ 1099511627776 := by omega
    have HE : Hid _ := hEc
    clear hEc
    go_wp2_with fail
    go_region_law ((refine step_append_lies _ (by rfl) _ _ _ (by rfl) B 5 i (.int .u8 0) 1 1 Tryd.underlying39 hi hz0 hz1 hz2 rfl (by omega) _ yc.length (bs yc) (by rfl) hownA ⟨wc.heap.size, 0, none⟩ 1 1 (bs [low / 16777216 % 256]) (by rfl) (by rfl) hnews (bs_one _) (by omega) (by unfold maxLen; omega) (by omega) (by simp; omega) (wc.heap.size + 1) (by simp) ?_; intro g cap w1 hown1 hgrow hat hlt; have hgr := undrew hgrow; have c0 := (far_cell hgr hlow hap 0).1.trans hdat; have zz := (far_cell hgr hlow hap 0).2.trans ht0; have c1 := (far_cell hgr hlow hap 1).1.trans hlo; have zz1 := (far_cell hgr hlow hap 1).2.trans ht1))
    all_goals
      go_wp2_with fail
      go_end0
      obtain ⟨g1, g2⟩ := grow_en HE.out (b := low / 16777216 % 256) (Nat.mod_lt _ (by omega)) hgr hown1 hat
      rw [HA.out, wraps_u64_63 _ (by omega) (by omega), show (((low % 16777216 : Nat)) : Int) * 256 = ((low % 16777216 * 256 : Nat) : Int) from by omega]
      have hdd := HDD.out
      subst hdd
      refine ⟨rfl, _, yc ++ [low / 16777216 % 256], g1.setLow _, by simp; exact HLc.out, ?_, (HKc.out.trans g2).trans (Kw.set _ _)⟩
      have h1 := HPc.out
      have h2 := HLc.out
      rw [← h2, pre_snoc, h2, h1]
      omega

end Go.Proofs.YtkmnpechhdendaaDoor.L2
