/- DERIVED. An encoder's number (EnS), and the walk of Put. -/
import Derived.Test.YtkmnpechhdendaaDoorL2EnB
namespace Go.Proofs.YtkmnpechhdendaaDoor.L2
open Go.RowKit

/-- an encoder whose number is T, its range g, and of which k bytes are out -/
def EnS (w : World) (B x : Nat) (d : Value) (T g k : Nat) : Prop := ∃ ys low, En w B x d ys low g ∧ ys.length = k ∧ pre ys k * 4294967296 + low = T ∧ low + g < 8589934592
/-- and what may have turned -/
def EnK (w w' : World) (B x : Nat) (d : Value) (T g k : Nat) : Prop := ∃ d', EnS w' B x d' T g k ∧ Kw x d d' w w'

theorem EnS.below {w w' : World} {B x : Nat} {d : Value} {T g k : Nat} (h : EnS w B x d T g k) (hb : Below w.heap.size w w') : EnS w' B x d T g k := by
  obtain ⟨ys, low, h1, h2⟩ := h
  exact ⟨ys, low, h1.below hb, h2⟩
theorem EnS.same {w w' : World} {B x : Nat} {d : Value} {T g k : Nat} (h : EnS w B x d T g k) (e : w'.heap = w.heap) : EnS w' B x d T g k := by
  obtain ⟨ys, low, h1, h2⟩ := h
  exact ⟨ys, low, h1.same e, h2⟩
theorem EnS.carry {w w' : World} {B x : Nat} {d : Value} {T g k : Nat} (h : EnS w B x d T g k) (hr : w'.heap[x]? = w.heap[x]?) (hg : ∀ b, d.ownBlock = some b → w'.heap[b]? = w.heap[b]?) (hs : w.heap.size ≤ w'.heap.size) : EnS w' B x d T g k := by
  obtain ⟨ys, low, h1, h2⟩ := h
  exact ⟨ys, low, h1.carry hr hg hs, h2⟩
theorem EnS.rng {w : World} {B x : Nat} {d : Value} {T g k : Nat} (h : EnS w B x d T g k) : w.cell? ⟨x, 2, none⟩ = some (.int .u32 (g : Nat)) := by
  obtain ⟨ys, low, h1, h2⟩ := h
  exact h1.rng
theorem EnS.lies {w : World} {B x : Nat} {d : Value} {T g k : Nat} (h : EnS w B x d T g k) : B ≤ x ∧ x < w.heap.size := by
  obtain ⟨ys, low, h1, h2⟩ := h
  exact h1.lies
theorem EnS.own_lt {w : World} {B x : Nat} {d : Value} {T g k : Nat} (h : EnS w B x d T g k) : ∀ b, d.ownBlock = some b → B ≤ b ∧ b < w.heap.size ∧ b ≠ x := by
  obtain ⟨ys, low, h1, h2⟩ := h
  exact fun b e => ⟨(h1.own.lt b e).1, (h1.own.lt b e).2, fun e2 => h1.apart (by rw [e, e2])⟩
theorem EnS.setRng {w : World} {B x : Nat} {d : Value} {T g k : Nat} (h : EnS w B x d T g k) (g' : Nat) (hg : ∀ low, low + g < 8589934592 → low + g' < 8589934592) : EnS (w.setCell ⟨x, 2, none⟩ (.int .u32 (g' : Nat))) B x d T g' k := by
  obtain ⟨ys, low, h1, h2, h3, h4⟩ := h
  exact ⟨ys, low, h1.setRng g', h2, h3, hg low h4⟩
/-- of the blocks below B none has turned -/
theorem EnS.kwBelow {a b : World} {B x : Nat} {d d' : Value} {T g k : Nat} (h : EnS a B x d T g k) (hk : Kw x d d' a b) : Below B a b :=
  ⟨hk.os, hk.tape, hk.output, hk.size, fun i hi => hk.block i (by have := h.lies; omega) (by have := h.lies; omega) (fun e => by have := (h.own_lt i e).1; omega)⟩

theorem fit_carry {N low T P : Nat} (hv : N * 4294967296 + low = T) (hf : T < P * 4294967295) : N + low / 4294967296 < P := by omega

theorem low_parts (low : Nat) : low = (low / 4294967296) * 4294967296 + (low / 16777216 % 256) * 16777216 + low % 16777216 := by
  have h1 : low / 16777216 / 256 = low / 4294967296 := by rw [Nat.div_div_eq_div_mul]
  have h2 := Nat.div_add_mod low 16777216
  have h3 := Nat.div_add_mod (low / 16777216) 256
  rw [h1] at h3
  generalize low / 4294967296 = q at *
  generalize low / 16777216 % 256 = m at *
  generalize low % 16777216 = r at *
  generalize low / 16777216 = s at *
  subst h3
  omega
theorem send_num {N low T P : Nat} (h3 : N * 4294967296 + low = T) (g3 : P = (N + low / 4294967296) * 256 + low / 16777216 % 256) : P * 4294967296 + low % 16777216 * 256 = T * 256 := by
  have hl := low_parts low
  generalize low / 4294967296 = q at *
  generalize low / 16777216 % 256 = m at *
  generalize low % 16777216 = r at *
  subst hl g3 h3
  omega
theorem send_low (low : Nat) : low % 16777216 * 256 < 4294967296 := by omega

/-- a byte goes out, by the number -/
theorem send_ens {w : World} {B x : Nat} {d : Value} {T g k : Nat} (h : EnS w B x d T g k) (hf : T < 256 ^ k * 4294967295) (hk : k ≤ 1099511627000) :
    Calls Tryd.prog 45 #[.pointer (some ⟨x, 0, none⟩)] w fun e w' => e = .returned (.tuple #[]) ∧ ∃ d' ys low, En w' B x d' ys low g ∧ ys.length = k + 1 ∧ pre ys (k + 1) * 4294967296 + low = T * 256 ∧ low < 4294967296 ∧ Kw x d d' w w' := by
  obtain ⟨ys, low, h1, rfl, h3, h4⟩ := h
  refine (send_en h1 (by omega) (fit_carry h3 hf) hk).mono ?_
  rintro e w' ⟨rfl, d', ys', g1, g2, g3, g4⟩
  exact ⟨rfl, d', ys', low % 16777216 * 256, g1, g2, send_num h3 g3, send_low low, g4⟩

set_option maxHeartbeats 1000000 in
theorem put_no {w : World} {x g : Nat} (h : w.cell? ⟨x, 2, none⟩ = some (.int .u32 (g : Nat))) (hg : 0 < g) (lo hi : Nat) (hm : ¬ (lo < hi ∧ hi ≤ 32768)) :
    Calls Tryd.prog 68 #[.pointer (some ⟨x, 0, none⟩), .int .u32 lo, .int .u32 hi] w fun e w' => e = .returned (.int .i64 2) ∧ w' = w := by
  by_cases h1 : lo < hi
  · have h3 : 32768 < hi := by omega
    go_enter Tryd.func68, Tryd.ntmps68
    go_wp2_with fail
    refine (enone_any h hg).mono ?_; rintro e w1 ⟨rfl, rfl⟩
    go_wp2_with fail
    go_ret
    exact ⟨rfl, rfl⟩
  · go_enter Tryd.func68, Tryd.ntmps68
    go_wp2_with fail
    refine (enone_any h hg).mono ?_; rintro e w1 ⟨rfl, rfl⟩
    go_wp2_with fail
    go_ret
    exact ⟨rfl, rfl⟩

set_option maxRecDepth 100000 in
set_option maxHeartbeats 1000000 in
theorem put_yes {w : World} {B x : Nat} {d : Value} {T g k : Nat} (h : EnS w B x d T g k) (hE : Ev T g k) (hkb : k ≤ 1099511626000) (lo hi : Nat) (hlt : lo < hi) (hh : hi ≤ 32768) :
    Calls Tryd.prog 68 #[.pointer (some ⟨x, 0, none⟩), .int .u32 lo, .int .u32 hi] w fun e w' => e = .returned (.int .i64 0) ∧ EnK w w' B x d (ePut T g k lo hi).1 (ePut T g k lo hi).2.1 (ePut T g k lo hi).2.2 := by
  have hg : 0 < g := by have := hE.least; omega
  have hwid := pWid_ok hE.least hlt hh
  have hgm := hE.most
  have hfit := hE.fit
  have HPA : Hid _ := fun w => part_any g lo hi w hgm hlt hh
  have hfin : ePut T g k lo hi = en 2 (T + pBeg g lo) (pWid g lo hi) k := rfl
  generalize ePut T g k lo hi = out at *
  have HF : Hid _ := hfin
  clear hfin
  generalize pBeg g lo = beg at *
  generalize pWid g lo hi = wid at *
  obtain ⟨ys, low, h1, h2, h3, h4⟩ := h
  have hlo := h1.low
  have hr := h1.rng
  have ht1 := h1.thaw1
  have ht2 := h1.thaw2
  have HD : Hid _ := h1
  have HV : Hid _ := h3
  have HFIT : Hid _ := hfit
  clear h1 h3 hfit hE
  go_enter Tryd.func68, Tryd.ntmps68
  go_wp2_with fail
  refine (enone_any hr hg).mono ?_; rintro e w1 ⟨rfl, rfl⟩
  go_wp2_with fail
  refine (HPA.out _).mono ?_; rintro e w3 ⟨rfl, rfl⟩
  go_wp2_with fail
  have h0 : EnS ((w3.setCell ⟨x, 1, none⟩ (.int .u64 ((low : Int) + (beg : Nat)))).setCell ⟨x, 2, none⟩ (.int .u32 (wid : Nat))) B x d (T + beg) wid k := by
    refine ⟨ys, low + beg, ?_, h2, by have := HV.out; omega, by omega⟩
    have := (HD.out.setLow (low + beg)).setRng wid
    rw [show ((low + beg : Nat) : Int) = (low : Int) + beg from by omega] at this
    exact this
  have k0 : Kw x d d w3 ((w3.setCell ⟨x, 1, none⟩ (.int .u64 ((low : Int) + (beg : Nat)))).setCell ⟨x, 2, none⟩ (.int .u32 (wid : Nat))) := (Kw.set _ _).trans (Kw.set _ _)
  clear hlo hr ht1 ht2
  go_loopw [] (fun wr => ∃ f T' g' k' d', EnS wr B x d' T' g' k' ∧ Kw x d d' w3 wr ∧ Hid (en f T' g' k' = out) ∧ Hid (g' < 4294967296) ∧ Hid (16777216 ≤ g' * 256 ^ f) ∧ Hid (T' + g' ≤ 256 ^ k' * 4294967295) ∧ Hid (k' + f ≤ k + 2)) (fun wr => 4294967296 - rngOf x wr)
  case atStart => exact ⟨2, _, _, _, _, h0, k0, HF.out.symm, (show wid < 4294967296 by omega), (show 16777216 ≤ wid * 256 ^ 2 by omega), (show T + beg + wid ≤ 256 ^ k * 4294967295 by have := HFIT.out; omega), (show k + 2 ≤ k + 2 by omega)⟩
  case round =>
    clear h0 k0 HF HPA HD HV HFIT h2 h4 hwid hg hgm hlt hh
    obtain ⟨f, T', g', k', d', hd, hk, HN, HGM, HFU, HFI, HKB⟩ := hrel
    have hr := hd.rng
    by_cases hlt : g' < 16777216
    · obtain ⟨f, rfl⟩ : ∃ f', f = f' + 1 := ⟨f - 1, by
        rcases f with _ | f
        · have := HFU.out; simp at this; omega
        · omega⟩
      have hlt' : ((g' : Int) < 16777216) := by omega
      have HLT : Hid (g' < 16777216) := hlt
      have HPOS : Hid (0 < g') := by
        show 0 < g'
        have h1 := HFU.out
        rcases Nat.eq_zero_or_pos g' with e | e
        · rw [e] at h1; simp at h1
        · exact e
      clear hlt
      go_wp2_with fail
      refine (send_ens hd (by have h1 := HFI.out; have h2 := HPOS.out; omega) (by have := HKB.out; omega)).mono ?_; rintro e w2 ⟨rfl, d2, y2, low2, hd2, hl2, hv2, hlo2, hk2⟩
      have hr2 := hd2.rng
      have ht2 := hd2.thaw2
      have HD2 : Hid _ := hd2
      have HV2 : Hid _ := hv2
      have HL2 : Hid _ := hl2
      have HLO2 : Hid _ := hlo2
      clear hd2 hv2 hl2 hlo2
      go_wp2_with fail
      go_roundw
      case rel =>
        have h3 := HD2.out.setRng (g' * 256)
        rw [show ((g' * 256 : Nat) : Int) = (g' : Int) * 256 from by omega] at h3
        have hlt := HLT.out
        have hgm := HGM.out
        have hlo := HLO2.out
        have hfi := HFI.out
        have hkb := HKB.out
        refine ⟨f, T' * 256, g' * 256, k' + 1, d2, ⟨y2, low2, h3, HL2.out, HV2.out, by omega⟩, (hk.trans hk2).trans (Kw.set _ _), ?_, (show g' * 256 < 4294967296 by omega), ?_, ?_, (show k' + 1 + f ≤ k + 2 by omega)⟩
        · have := HN.out
          rw [en, if_pos hlt] at this
          exact this
        · have := HFU.out
          rw [Nat.pow_succ', ← Nat.mul_assoc] at this
          exact this
        · show T' * 256 + g' * 256 ≤ 256 ^ (k' + 1) * 4294967295
          rw [Nat.pow_succ]
          omega
      case measure =>
        have e1 : rngOf x wr = g' := by unfold rngOf; rw [hr]; rfl
        have e2 : rngOf x (w2.setCell ⟨x, 2, none⟩ (.int .u32 ((g' : Int) * 256))) = g' * 256 := by
          unfold rngOf; rw [World.cell?_setCell_same _ _ _ hr2]; simp [intOf]; omega
        rw [e1, e2]
        have h2 := HPOS.out
        have h3 := HGM.out
        omega
    · have hlt' : decide ((g' : Int) < 16777216) = false := by simp; omega
      have HLT : Hid (¬ g' < 16777216) := hlt
      clear hlt
      go_wp2_with fail
      go_ret
      have hlt := HLT.out
      have := HN.out
      have e : en f T' g' k' = (T', g', k') := by
        rcases f with _ | f
        · rfl
        · rw [en, if_neg hlt]
      rw [e] at this
      subst this
      exact ⟨rfl, d', hd, hk⟩

end Go.Proofs.YtkmnpechhdendaaDoor.L2
