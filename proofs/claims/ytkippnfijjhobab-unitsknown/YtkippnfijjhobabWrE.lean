/- DERIVED. The walks of (*bits.Writer).Leb over a writer in memory, and of the statements' own 'write'. -/
import Derived.Test.YtkippnfijjhobabWrD
namespace Go.Proofs.Ytkippnfijjhobab
open Go.RowKit

theorem Wv.push {ys : List Nat} {t V : Nat} (h : Wv ys t V) (h8 : t % 8 = 0) (b : Nat) (hb : b < 256) : Wv (ys ++ [b]) (t + 8) (V * 256 + b) := by
  have hl := h.len
  have hv := h.val
  have hlt := h.vlt
  have e : 8 * ys.length - t = 0 := by omega
  rw [e, Nat.pow_zero, Nat.mul_one] at hv
  refine ⟨?_, by simp; omega, ?_, ?_⟩
  · intro i
    have := h.byt i
    rw [List.getD_eq_getElem?_getD] at *
    rcases Nat.lt_or_ge i ys.length with hi | hi
    · rw [List.getElem?_append_left hi]; exact this
    · rw [List.getElem?_append_right hi]
      rcases Nat.eq_zero_or_pos (i - ys.length) with e | e
      · rw [e]; simpa using hb
      · rw [List.getElem?_eq_none (by simp; omega)]; simp
  · rw [List.length_append, List.length_singleton, acc, acc_append _ _ _ (Nat.le_refl _), hv, show 8 * (ys.length + 1) - (t + 8) = 0 from by omega]
    simp [List.getD_eq_getElem?_getD]
  · rw [Nat.pow_add]; omega

theorem grow_wr {wr w1 : World} {o : Obj} {B x g cap t V b : Nat} {dr : Value} {yr : List Nat} (hw : Wr wr B x dr yr t V) (h8 : t % 8 = 0) (hb : b < 256) (hgrow : (wr.alloc o).grownBy w1 dr.ownBlock) (hown1 : w1.ownsRow B 5 1 (.slice (some ⟨g, 0, none⟩) (yr.length + 1) cap) (yr.length + 1) (bs yr ++ bs [b]))
    (hat : dr.ownBlock = some g ∨ g = wr.heap.size + 1) :
    Wr (w1.setCell ⟨x, 1, none⟩ (.slice (some ⟨g, 0, none⟩) (yr.length + 1) cap)) B x (.slice (some ⟨g, 0, none⟩) (yr.length + 1) cap) (yr ++ [b]) (t + 8) (V * 256 + b) ∧
    Kw x dr (.slice (some ⟨g, 0, none⟩) (yr.length + 1) cap) wr (w1.setCell ⟨x, 1, none⟩ (.slice (some ⟨g, 0, none⟩) (yr.length + 1) cap)) := by
  have hlow := hw.low
  have hap := hw.apart
  have hl := hw.wv.len
  have hgx : g ≠ x := by
    rcases hat with e | e
    · intro e2; rw [e, e2] at hap; exact hap rfl
    · omega
  have fc := fun j => far_cell hgrow hlow.2 hap j
  have hsz : wr.heap.size + 1 ≤ w1.heap.size := by have := hgrow.size; simpa using this
  have hlen : (yr ++ [b]).length = yr.length + 1 := by simp
  constructor
  · refine ⟨?_, ?_, ?_, ?_, ?_, ?_, ?_, ?_, hw.wv.push h8 b hb⟩
    · rw [World.cell?_setCell_other _ _ _ _ (by simp), (fc 0).1]; exact hw.made
    · exact World.cell?_setCell_same w1 ⟨x, 1, none⟩ _ ((fc 1).1.trans hw.data)
    · rw [bs_append, hlen]
      exact own_set_far hown1 (by simp [Value.ownBlock]; exact hgx) _
    · simp [Value.ownBlock]; exact hgx
    · rw [World.cell?_setCell_other _ _ _ _ (by simp), (fc 2).1, hlen, show 8 * (yr.length + 1) - (t + 8) = 8 * yr.length - t from by omega]; exact hw.free
    · rw [World.frozen?_setCell, (fc 1).2]; exact hw.thaw1
    · rw [World.frozen?_setCell, (fc 2).2]; exact hw.thaw2
    · exact ⟨hlow.1, by simp [World.setCell]; omega⟩
  · refine ⟨hgrow.os, hgrow.tape, hgrow.output, by simp [World.setCell]; omega, fun k hk hx hd => ?_, fun g' hg' => ?_⟩
    · rw [Below.heap_setCell _ _ _ _ (by simpa using hx), hgrow.block k (by simp; omega) (Ne.symm hd), Below.heap_alloc _ _ _ hk]
    · simp [Value.ownBlock] at hg'
      subst hg'
      rcases hat with e | e
      · exact Or.inl e
      · right; omega

def lebGo : Nat → Nat → Nat → Nat → Nat × Nat
  | 0, t, V, v => (t + 8, V * 256 + v)
  | f + 1, t, V, v => if v < 128 then (t + 8, V * 256 + v) else lebGo f (t + 8) (V * 256 + (v % 128 + 128)) (v / 128)
def wLeb (t V v : Nat) : Nat × Nat × Nat := if t % 8 = 0 then (0, (lebGo 4 t V v).1, (lebGo 4 t V v).2) else (2, t, V)

theorem u8_or128 : ∀ b : Nat, b < 256 → bits .or .u8 (b : Int) 128 = ((b % 128 + 128 : Nat) : Int) := by decide +kernel
theorem leb_byte (v : Nat) : bits .or .u8 ((v : Int) % 256) 128 = ((v % 128 + 128 : Nat) : Int) := by
  have := u8_or128 (v % 256) (by omega)
  rw [show (v % 256) % 128 = v % 128 from by omega] at this
  rw [← this]
  congr 1

def LebInv (B x : Nat) (d : Value) (w' : World) (t : Nat) (R : Nat × Nat) (z : Value) (wr : World) : Prop :=
  ∃ (f t' V' v' : Nat) (dr : Value) (yr : List Nat), f ≤ 4 ∧ v' < 128 * 128 ^ f ∧ z = .int .u32 v' ∧ t' % 8 = 0 ∧ t' + 8 * f = t + 32 ∧ Wr wr B x dr yr t' V' ∧ Kw x d dr w' wr ∧ Hid (lebGo f t' V' v' = R)

set_option maxHeartbeats 1000000 in
set_option maxRecDepth 100000 in
theorem leb_wr {w : World} {B x : Nat} {d : Value} {ys : List Nat} {t V : Nat} (h : Wr w B x d ys t V) (ht : t ≤ 1099511627000) (v : Nat) (hv : v < 4294967296) :
    Calls Try.prog 19 #[.pointer (some ⟨x, 0, none⟩), .int .u32 v] w fun e w' => e = .returned (.int .i64 (wLeb t V v).1) ∧ WrK w w' B x d (wLeb t V v).2.1 (wLeb t V v).2.2 := by
  have hm := h.made
  have hf := h.free
  have hl := h.wv.len
  by_cases h8 : t % 8 = 0
  · rw [show wLeb t V v = (0, (lebGo 4 t V v).1, (lebGo 4 t V v).2) from if_pos h8]
    rw [show 8 * ys.length - t = 0 from by omega] at hf
    generalize hR : lebGo 4 t V v = R
    have HR : Hid (lebGo 4 t V v = R) := hR
    clear hR hl
    obtain ⟨i, hi, hz0, hz1, hz2⟩ := info_parts Try.info5
    go_enter Try.func19, Try.ntmps19
    go_wp2_with fail
    refine (wnone_made _ _ hm).mono ?_; rintro e w' ⟨rfl, rfl⟩
    go_wp2_with fail
    go_loopw [1] (fun z wr => LebInv B x d w' t R z wr) (fun z _ => (intOf z).toNat)
    case atStart => exact ⟨4, t, V, v, d, ys, by omega, by omega, rfl, h8, by omega, h, Kw.refl _ _ _, HR⟩
    case round =>
      obtain ⟨f, t', V', v', dr, yr, hf4, hv', rfl, h8', ht', hw, hk, HI⟩ := hrel
      have hlen := hw.wv.len
      obtain ⟨a, c, rfl⟩ := own_slice hw.own
      have hdat := hw.data
      have hlow := hw.low.2
      have ht1 := hw.thaw1
      have hap := hw.apart
      have hyl : yr.length ≤ 1099511627776 := by omega
      have hB : B ≤ wr.heap.size := by have := hw.low; omega
      have hmade := hw.made
      have HLn : Hid (yr.length = (t' + 7) / 8) := hlen
      have HV : Hid (v' < 128 * 128 ^ f) := hv'
      have HT : Hid (t' + 8 * f = t + 32) := ht'
      clear hlen hv' ht'
      by_cases h128 : v' < 128
      · have hown : (wr.alloc (.cells #[.int .u8 v'] 5)).ownsRow B 5 1 (.slice a yr.length c) yr.length (bs yr) := hw.own.alloc _
        have hnews : ∀ j u, (bs [v'])[j]? = some u → (wr.alloc (.cells #[.int .u8 v'] 5)).cell? ((⟨wr.heap.size, 0, none⟩ : Addr).add j) = some u := World.news_of_block (cs := #[.int .u8 v']) (heap_alloc_new wr _)
        go_wp2_with (at_builtin; refine wpList_append_lies _ (by rfl) _ _ _ (by rfl) B 5 i (.int .u8 0) 1 1 Try.underlying24 hi hz0 hz1 hz2 rfl (by omega) _ yr.length (bs yr) (by rfl) hown ⟨wr.heap.size, 0, none⟩ 1 1 (bs [v']) (by rfl) (by rfl) hnews (bs_one _) (by omega) (by unfold maxLen; omega) (by omega) (by simp; omega) (wr.heap.size + 1) (by simp) ?_; intro g cap w1 hown1 hgrow hat hlt; have c1 := (far_cell hgrow hlow hap 1).1.trans hdat; have z1 := (far_cell hgrow hlow hap 1).2.trans ht1)
        go_ret
        obtain ⟨g1, g2⟩ := grow_wr hw h8' (by omega) hgrow hown1 hat
        have e : R = (t' + 8, V' * 256 + v') := by
          have := HI.out
          cases f with
          | zero => exact this.symm
          | succ f => rw [lebGo, if_pos h128] at this; exact this.symm
        subst e
        exact ⟨rfl, _, _, g1, hk.trans g2⟩
      · have hown : (wr.alloc (.cells #[.int .u8 ((v' % 128 + 128 : Nat) : Int)] 5)).ownsRow B 5 1 (.slice a yr.length c) yr.length (bs yr) := hw.own.alloc _
        have hnews : ∀ j u, (bs [v' % 128 + 128])[j]? = some u → (wr.alloc (.cells #[.int .u8 ((v' % 128 + 128 : Nat) : Int)] 5)).cell? ((⟨wr.heap.size, 0, none⟩ : Addr).add j) = some u := World.news_of_block (cs := #[.int .u8 ((v' % 128 + 128 : Nat) : Int)]) (heap_alloc_new wr _)
        have hby := leb_byte v'
        generalize hbe : v' % 128 + 128 = b at *
        have HBE : Hid (v' % 128 + 128 = b) := hbe
        clear hbe
        go_wp2_with (at_builtin; refine wpList_append_lies _ (by rfl) _ _ _ (by rfl) B 5 i (.int .u8 0) 1 1 Try.underlying24 hi hz0 hz1 hz2 rfl (by omega) _ yr.length (bs yr) (by rfl) hown ⟨wr.heap.size, 0, none⟩ 1 1 (bs [b]) (by rfl) (by rfl) hnews (bs_one _) (by omega) (by unfold maxLen; omega) (by omega) (by simp; omega) (wr.heap.size + 1) (by simp) ?_; intro g cap w1 hown1 hgrow hat hlt; have c1 := (far_cell hgrow hlow hap 1).1.trans hdat; have z1 := (far_cell hgrow hlow hap 1).2.trans ht1)
        go_roundw
        case rel =>
          obtain ⟨g1, g2⟩ := grow_wr hw h8' (by have := HBE.out; omega) hgrow hown1 hat
          obtain ⟨f0, rfl⟩ : ∃ f0, f = f0 + 1 := ⟨f - 1, by
            have := HV.out
            rcases Nat.eq_zero_or_pos f with e | e
            · subst e; simp at this; omega
            · omega⟩
          have hpow : v' / 128 < 128 * 128 ^ f0 := by
            have := HV.out
            rw [Nat.pow_succ] at this
            omega
          have hgo : lebGo f0 (t' + 8) (V' * 256 + b) (v' / 128) = R := by
            have := HI.out
            rw [lebGo, if_neg h128, HBE.out] at this
            exact this
          exact ⟨f0, t' + 8, V' * 256 + b, v' / 128, _, _, by omega, hpow, by simp, by omega, by have := HT.out; omega, g1, hk.trans g2, hgo⟩
        case measure => simp [intOf]; omega
  · rw [show wLeb t V v = (2, t, V) from if_neg h8]
    have hfz : (((8 * ys.length - t : Nat) : Int) != 0) = true := by rw [bne_iff_ne]; omega
    generalize 8 * ys.length - t = q at *
    clear hl
    go_enter Try.func19, Try.ntmps19
    go_wp2_with fail
    refine (wnone_made _ _ hm).mono ?_; rintro e w' ⟨rfl, rfl⟩
    go_wp2_with fail
    go_ret
    exact ⟨rfl, d, ys, h, Kw.refl _ _ _⟩

end Go.Proofs.Ytkippnfijjhobab
