/- DERIVED. The walk of an encoder's Bytes. -/
import Derived.Test.YtkmnpechhdendaaDoorL2EnD
namespace Go.Proofs.YtkmnpechhdendaaDoor.L2
open Go.RowKit

/-- bytes zs that an encoder has answered: the number T in k + 4 bytes, without the noughts at the end; they lie in block b -/
structure By (w : World) (v : Value) (b : Nat) (zs : List Nat) (T k : Nat) : Prop where
  form : ∃ c, v = .slice (some ⟨b, 0, none⟩) zs.length c ∧ zs.length ≤ c
  cell : ∀ j, j < zs.length → w.cell? ⟨b, j, none⟩ = some (.int .u8 (zs.getD j 0 : Nat))
  thaw : ∀ j, w.frozen? ⟨b, j, none⟩ = false
  lies : b < w.heap.size
  len : zs.length ≤ k + 4
  val : pre zs (k + 4) = T
  byt : ∀ i, zs.getD i 0 < 256
  last : 0 < zs.length → zs.getD (zs.length - 1) 0 ≠ 0
def ByNew (w w' : World) (v : Value) (T k : Nat) : Prop := ∃ b zs, By w' v b zs T k ∧ w.heap.size ≤ b ∧ Below w.heap.size w w'

theorem SrcOf.ofOwn {w : World} {B : Nat} {v : Value} {zs : List Nat} (h : w.ownsRow B 5 1 v zs.length (bs zs)) : SrcOf w v zs := by
  obtain ⟨h1, h2⟩ := h
  rcases h2 with ⟨rfl, h0⟩ | ⟨g, cap, cur, rfl, hB, hg, hn, hm, hs, ht⟩
  · obtain rfl := List.eq_nil_of_length_eq_zero h0
    exact Or.inl ⟨rfl, rfl⟩
  · refine Or.inr ⟨⟨g, 0, none⟩, cap, rfl, fun i hi => ?_⟩
    have hown : w.ownsRow B 5 1 (.slice (some ⟨g, 0, none⟩) zs.length cap) zs.length (bs zs) := ⟨h1, Or.inr ⟨g, cap, cur, rfl, hB, hg, hn, hm, hs, ht⟩⟩
    rw [show (⟨g, 0, none⟩ : Addr).add i = ⟨g, i, none⟩ from (by unfold Addr.add; split <;> simp_all), hown.cellAt i (by omega)]
    exact bs_get zs i hi

theorem own_mono {w : World} {base base' : Nat} {e : TypeId} {size : Nat} {v : Value} {n : Nat} {xs : List Value} (h : w.ownsRow base e size v n xs) (hb : base' ≤ base) : w.ownsRow base' e size v n xs := by
  refine ⟨h.1, ?_⟩
  rcases h.2 with h1 | ⟨g, cap, cur, h1, h2, h3⟩
  · exact Or.inl h1
  · exact Or.inr ⟨g, cap, cur, h1, Nat.le_trans hb h2, h3⟩

theorem newCell {B : Nat} {u u' : World} (h : Below B u u') (i o : Nat) : i < B → u'.cell? ⟨i, o, none⟩ = u.cell? ⟨i, o, none⟩ := fun hs => World.cell?_of_block (w := u) (a := ⟨i, o, none⟩) (h.block i hs)
theorem newFrozen {B : Nat} {u u' : World} (h : Below B u u') (i o : Nat) : i < B → u'.frozen? ⟨i, o, none⟩ = u.frozen? ⟨i, o, none⟩ := fun hs => World.frozen?_of_block (w := u) (a := ⟨i, o, none⟩) (h.block i hs)
theorem below_alloc {B : Nat} {w u : World} (h : Below B w u) (hs : B ≤ w.heap.size) (o : Obj) : Below B w (u.alloc o) := h.alloc (Nat.le_trans hs h.size) o
theorem below_set {B : Nat} {w u : World} (h : Below B w u) {a : Addr} (ha : B ≤ a.block) (v : Value) : Below B w (u.setCell a v) :=
  ⟨h.os, h.tape, h.output, by have := h.size; simpa [World.setCell] using this, fun k hk => by rw [Below.heap_setCell _ _ _ _ (by omega)]; exact h.block k hk⟩

theorem En.madeSet {w3 u : World} {B x2 low : Nat} {v c0 c1 c2 : Value} {ys : List Nat} (hb : Below u.heap.size u w3) (hx : x2 < u.heap.size) (h0 : u.cell? ⟨x2, 0, none⟩ = some c0) (h1 : u.cell? ⟨x2, 1, none⟩ = some c1) (h2 : u.cell? ⟨x2, 2, none⟩ = some c2)
    (f0 : u.frozen? ⟨x2, 0, none⟩ = false) (f1 : u.frozen? ⟨x2, 1, none⟩ = false) (f2 : u.frozen? ⟨x2, 2, none⟩ = false) (hown : w3.ownsRow u.heap.size 5 1 v ys.length (bs ys)) (hB : B ≤ x2) (hz : ∀ i, ys.getD i 0 < 256) :
    En (((w3.setCell ⟨x2, 0, none⟩ v).setCell ⟨x2, 1, none⟩ (.int .u64 (low : Nat))).setCell ⟨x2, 2, none⟩ (.int .u32 0)) B x2 v ys low 0 := by
  have hs := hb.size
  have hap : v.ownBlock ≠ some x2 := fun e => by have := (hown.lt x2 e).1; omega
  have e0 := (newCell hb x2 0 hx).trans h0
  have e1 := (newCell hb x2 1 hx).trans h1
  have e2 := (newCell hb x2 2 hx).trans h2
  refine ⟨?_, own_set_far (own_set_far (own_set_far (own_mono hown (by omega)) hap _) hap _) hap _, hap, ?_, ?_, ?_, ?_, ?_, ⟨hB, by simp [World.setCell]; omega⟩, hz⟩
  · rw [World.cell?_setCell_other _ _ _ _ (by simp), World.cell?_setCell_other _ _ _ _ (by simp)]; exact World.cell?_setCell_same _ _ _ e0
  · rw [World.cell?_setCell_other _ _ _ _ (by simp)]; exact World.cell?_setCell_same _ _ _ ((World.cell?_setCell_other _ _ _ _ (by simp)).trans e1)
  · exact World.cell?_setCell_same _ _ _ ((World.cell?_setCell_other _ _ _ _ (by simp)).trans ((World.cell?_setCell_other _ _ _ _ (by simp)).trans e2))
  · rw [World.frozen?_setCell, World.frozen?_setCell, World.frozen?_setCell, newFrozen hb x2 0 hx]; exact f0
  · rw [World.frozen?_setCell, World.frozen?_setCell, World.frozen?_setCell, newFrozen hb x2 1 hx]; exact f1
  · rw [World.frozen?_setCell, World.frozen?_setCell, World.frozen?_setCell, newFrozen hb x2 2 hx]; exact f2
theorem En.madeNew {w3 : World} {B C low : Nat} {v : Value} {ys : List Nat} (hown : w3.ownsRow C 5 1 v ys.length (bs ys)) (hC : B ≤ C) (hB : B ≤ w3.heap.size) (hz : ∀ i, ys.getD i 0 < 256) :
    En (w3.alloc (.cells #[v, .int .u64 (low : Nat), .int .u32 0] 80)) B w3.heap.size v ys low 0 :=
  ⟨by simp, own_mono (hown.alloc _) hC, fun e => by have := (hown.lt _ e).2; omega, by simp, by simp, by simp, by simp, by simp, ⟨hB, by simp⟩, hz⟩

theorem fit_pow {T k : Nat} (h : T < 256 ^ k * 4294967295) (j : Nat) : T * 256 ^ j < 256 ^ (k + j) * 4294967295 := by
  have hP : 0 < 256 ^ j := Nat.pow_pos (by omega)
  have := Nat.mul_lt_mul_of_pos_right h hP
  rw [Nat.pow_add]
  rw [Nat.mul_assoc, Nat.mul_comm 4294967295, ← Nat.mul_assoc] at this
  exact this
theorem four_out {N low T : Nat} (h : N * 4294967296 + low = T * 256 ^ 4) (hl : low < 4294967296) : N = T := by
  rw [show (256 : Nat) ^ 4 = 4294967296 from by decide] at h
  omega
theorem getD_take (ys : List Nat) (m i : Nat) : (ys.take m).getD i 0 = if i < m then ys.getD i 0 else 0 := by
  rw [List.getD_eq_getElem?_getD, List.getD_eq_getElem?_getD]
  split
  · rename_i h; rw [List.getElem?_take_of_lt h]
  · rename_i h; rw [List.getElem?_eq_none (by simp; omega)]; rfl
/-- the bytes that are answered -/
theorem By.made {wr : World} {B b cap n T k : Nat} {y : List Nat} (hn : n = y.length) (hown : wr.ownsRow B 5 1 (.slice (some ⟨b, 0, none⟩) n cap) n (bs y)) (hc : n ≤ cap) (hl : y.length = k + 4) (hv : pre y (k + 4) = T) (hz : ∀ i, y.getD i 0 < 256) (hb : b < wr.heap.size) :
    By wr (.slice (some ⟨b, 0, none⟩) (tl y n) cap) b (y.take (tl y n)) T k := by
  subst hn
  obtain ⟨t1, t2, t3⟩ := tl_ok y y.length
  have hlen : (y.take (tl y y.length)).length = tl y y.length := by simp; omega
  have hget : ∀ i, (y.take (tl y y.length)).getD i 0 = y.getD i 0 := fun i => by
    rw [getD_take]
    split
    · rfl
    · rename_i h
      by_cases hi : i < y.length
      · exact (t2 i (by omega) hi).symm
      · exact (getD_len y (by omega)).symm
  refine ⟨⟨cap, by rw [hlen], by omega⟩, fun j hj => ?_, fun j => hown.frozenAt j, hb, by omega, by rw [pre_congr (k + 4) (fun i _ => hget i)]; exact hv, fun i => by rw [hget]; exact hz i, fun h => ?_⟩
  · rw [hlen] at hj
    rw [hget, hown.cellAt j (by omega)]
    exact bs_get y j (by omega)
  · rw [hlen] at h ⊢
    rw [hget]
    exact t3 h

/-- what is left of Bytes: four bytes go out, and the noughts at the end are left out -/
def Half (w W : World) (x : Nat) (ys : List Nat) (low : Nat) : Prop := ∃ d, En W w.heap.size x d ys low 0 ∧ Below w.heap.size w W

set_option maxRecDepth 100000 in
set_option maxHeartbeats 2000000 in
theorem bytes_ens {w : World} {B x : Nat} {d : Value} {T g k : Nat} (h : EnS w B x d T g k) (hE : Ev T g k) (hkb : k ≤ 1099511626000) :
    Calls Tryd.prog 30 #[.pointer (some ⟨x, 0, none⟩)] w fun e w' => ∃ v, e = .returned v ∧ ByNew w w' v T k := by
  have hg : 0 < g := by have := hE.least; omega
  have hfit : T < 256 ^ k * 4294967295 := by have := hE.fit; omega
  obtain ⟨ys, low, h1, h2, h3, h4⟩ := h
  have hdat := h1.data
  have hlo := h1.low
  have hr := h1.rng
  have hlow := h1.lies.2
  have HCL : Hid (∀ u : World, Below w.heap.size w u → Calls Tryd.prog 44 #[d] u fun e u' => ∃ a c, e = .returned (.slice a ys.length c) ∧ u'.ownsRow u.heap.size 5 1 (.slice a ys.length c) ys.length (bs ys) ∧ Below w.heap.size w u' ∧ Below u.heap.size u u' ∧ u'.cell? ⟨x, 1, none⟩ = some (.int .u64 (low : Nat)) ∧ u'.cell? ⟨x, 0, none⟩ = some d) := fun u hb => by
    have hsr : SrcOf u d ys := SrcOf.ofOwn (h1.below hb).own
    refine (clone_any hsr (by omega)).mono ?_
    rintro e u' ⟨a, c, rfl, g1, g2⟩
    have hb2 := hb.trans (g2.mono hb.size)
    exact ⟨a, c, rfl, g1, hb2, g2, by rw [hb2.cell (p := ⟨x, 1, none⟩) hlow]; exact hlo, by rw [hb2.cell (p := ⟨x, 0, none⟩) hlow]; exact hdat⟩
  have hbyt := h1.byt
  have HBY : Hid _ := hbyt
  have HFIT : Hid _ := hfit
  have HV : Hid _ := h3
  have hB : Below w.heap.size w w := Below.refl _ _
  have hnx : x ≠ w.heap.size := by omega
  have hn0 := World.new_ne w ⟨x, 0, none⟩ hdat
  have hn1 := World.new_ne w ⟨x, 1, none⟩ hlo
  have HLN : Hid _ := h2
  have hyl : ys.length ≤ 1099511626000 := by omega
  clear h1 h2 h3 hfit hbyt hE
  go_enter Tryd.func30, Tryd.ntmps30
  go_wp2_with fail
  refine (enone_any hr hg).mono ?_; rintro e w1 ⟨rfl, rfl⟩
  go_wp2_with fail
  go_region_held3 (fun u => u.cell? ⟨x, 0, none⟩ = some d ∧ u.cell? ⟨x, 1, none⟩ = some (.int .u64 (low : Nat)) ∧ Below w1.heap.size w1 u) (((try dsimp only); first | assumption | (solve | (repeat (first | with_reducible assumption | with_reducible refine Below.drew ?_ | with_reducible refine below_alloc ?_ ?_ _ | with_reducible refine below_set ?_ ?_ _ | exact Nat.le_refl _ | exact Below.size (by assumption)))) | (refine ⟨?_, ?_, ?_⟩ <;> first | assumption | (solve | (repeat (first | with_reducible assumption | with_reducible refine Below.drew ?_ | with_reducible refine below_alloc ?_ ?_ _ | with_reducible refine below_set ?_ ?_ _ | exact Nat.le_refl _ | exact Below.size (by assumption)))) | go_keep) | go_keep)) ((go_at_call 44; refine (HCL.out _ (by (repeat (first | with_reducible assumption | with_reducible refine Below.drew ?_ | with_reducible refine below_alloc ?_ ?_ _ | with_reducible refine below_set ?_ ?_ _ | exact Nat.le_refl _ | exact Below.size (by assumption))))).mono ?_; rintro e w3 ⟨a3, c3, rfl, hown3, hb3, hb4, hc31, hc32⟩; have q0 := newCell hb4 w1.heap.size 0; have f0 := newFrozen hb4 w1.heap.size 0; have q1 := newCell hb4 w1.heap.size 1; have f1 := newFrozen hb4 w1.heap.size 1; have q2 := newCell hb4 w1.heap.size 2; have f2 := newFrozen hb4 w1.heap.size 2))
  · have hh : Half w1 (w3.alloc (.cells #[.slice a3 ys.length c3, .int .u64 (low : Nat), .int .u32 0] 80)) w3.heap.size ys low := ⟨_, En.madeNew hown3 (by simp) hb3.size HBY.out, below_alloc hb3 (Nat.le_refl _) _⟩
    generalize w3.alloc (.cells #[.slice a3 ys.length c3, .int .u64 (low : Nat), .int .u32 0] 80) = W at *
    generalize w3.heap.size = x2 at *
    clear hown3 hb3 hb4 q0 q1 q2 f0 f1 f2 hc31 hc32 hn0 hn1 hnx hB hdat hlo hr HCL
    obtain ⟨d0, hE0, hB0⟩ := hh
    have HB0 : Hid _ := hB0
    clear hB0
    go_wp2_with fail
    go_loopw [16] (fun i wr => ∃ (j : Nat) (d' : Value) (y : List Nat) (low' : Nat), i = .int .i64 j ∧ j ≤ 4 ∧ En wr w1.heap.size x2 d' y low' 0 ∧ Hid (y.length = k + j) ∧ Hid (pre y (k + j) * 4294967296 + low' = T * 256 ^ j) ∧ Hid (low' < 8589934592) ∧ Hid (0 < j → low' < 4294967296) ∧ Kw x2 d0 d' W wr) (fun i _ => 4 - (intOf i).toNat)
    case atStart => exact ⟨0, d0, ys, low, rfl, by omega, hE0, HLN.out, (show pre ys k * 4294967296 + low = T * 256 ^ 0 by rw [HV.out]; simp), (show low < 8589934592 by omega), (show 0 < 0 → _ by omega), Kw.refl _ _ _⟩
    case round =>
      have hB0' : w1.heap.size ≤ x2 := hE0.lies.1
      have HKB : Hid (∀ {u : World} {d' : Value}, Kw x2 d0 d' W u → Below w1.heap.size w1 u) := fun {u d'} hk => HB0.out.trans ⟨hk.os, hk.tape, hk.output, hk.size, fun i hi => hk.block i (by have := hE0.lies; omega) (by omega) (fun e => by have := (hE0.own.lt i e).1; omega)⟩
      clear hE0
      obtain ⟨j, d', y, low', rfl, hj, hE, HL, HVV, HLO, HLP, hk⟩ := hrel
      by_cases hlt : j < 4
      · go_wp2_with fail
        refine (send_ens (T := T * 256 ^ j) (k := k + j) ⟨y, low', hE, HL.out, HVV.out, by have := HLO.out; omega⟩ (fit_pow HFIT.out j) (by omega)).mono ?_; rintro e w2 ⟨rfl, d2, y2, low2, hd2, hl2, hv2, hlo2, hk2⟩
        have HD2 : Hid _ := hd2
        have HV2 : Hid _ := hv2
        have HL2 : Hid _ := hl2
        have HLO2 : Hid _ := hlo2
        clear hd2 hv2 hl2 hlo2
        go_wp2_with fail
        go_roundw
        case rel =>
          exact ⟨j + 1, d2, y2, low2, by go_num, by omega, HD2.out, HL2.out, (show pre y2 (k + (j + 1)) * 4294967296 + low2 = T * 256 ^ (j + 1) by rw [Nat.pow_succ, ← Nat.mul_assoc]; exact HV2.out), (show low2 < 8589934592 by have := HLO2.out; omega), fun _ => HLO2.out, hk.trans hk2⟩
        case measure => simp [intOf]; omega
      · obtain rfl : j = 4 := by omega
        have hval := four_out HVV.out (HLP.out (by omega))
        obtain ⟨b, cap, rfl, _, hb⟩ := hE.own.form (by have := HL.out; omega)
        have hcap : y.length ≤ cap := by
          rcases hE.own.2 with ⟨h1, _⟩ | ⟨b', cap', cur, h1, _, _, h2, _⟩
          · cases h1
          · simp only [Value.slice.injEq] at h1; omega
        have hdat := hE.data
        have hBb := hE.own.lt b rfl
        have hyl2 : y.length ≤ 1099511627776 := by have := HL.out; omega
        have HBY2 := By.made rfl hE.own hcap HL.out hval hE.byt hb
        have HBY3 : Hid _ := HBY2
        have hcells : ∀ j, j < y.length → wr.cell? ⟨b, j, none⟩ = some (.int .u8 (y.getD j 0 : Nat)) := fun j hj => by rw [hE.own.cellAt j (by omega)]; exact bs_get y j hj
        have HCC : Hid _ := hcells
        have h0y : 0 < y.length := by have := HL.out; omega
        clear hcells HBY2 hval hE
        go_wp2_with fail
        refine (trim_any HCC.out hyl2 hcap h0y).mono ?_; rintro e w2 ⟨rfl, rfl⟩
        go_wp2_with fail
        go_ret
        exact ⟨_, rfl, b, _, HBY3.out, hBb.1, HKB.out hk⟩
  · have hh : Half w1 (((w3.setCell ⟨w1.heap.size, 0, none⟩ (.slice a3 ys.length c3)).setCell ⟨w1.heap.size, 1, none⟩ (.int .u64 (low : Nat))).setCell ⟨w1.heap.size, 2, none⟩ (.int .u32 0)) w1.heap.size ys low := ⟨_, En.madeSet hb4 (by simp) (c0 := .slice none 0 0) (c1 := .int .u64 0) (c2 := .int .u32 0) (by simp) (by simp) (by simp) (by simp) (by simp) (by simp) hown3 (Nat.le_refl _) HBY.out, below_set (below_set (below_set hb3 (Nat.le_refl _) _) (Nat.le_refl _) _) (Nat.le_refl _) _⟩
    generalize (((w3.setCell ⟨w1.heap.size, 0, none⟩ (.slice a3 ys.length c3)).setCell ⟨w1.heap.size, 1, none⟩ (.int .u64 (low : Nat))).setCell ⟨w1.heap.size, 2, none⟩ (.int .u32 0)) = W at *
    clear hown3 hb3 hb4 q0 q1 q2 f0 f1 f2 hc31 hc32 hn0 hn1 hnx hB hdat hlo hr HCL
    obtain ⟨d0, hE0, hB0⟩ := hh
    have HB0 : Hid _ := hB0
    clear hB0
    go_wp2_with fail
    go_loopw [16] (fun i wr => ∃ (j : Nat) (d' : Value) (y : List Nat) (low' : Nat), i = .int .i64 j ∧ j ≤ 4 ∧ En wr w1.heap.size w1.heap.size d' y low' 0 ∧ Hid (y.length = k + j) ∧ Hid (pre y (k + j) * 4294967296 + low' = T * 256 ^ j) ∧ Hid (low' < 8589934592) ∧ Hid (0 < j → low' < 4294967296) ∧ Kw w1.heap.size d0 d' W wr) (fun i _ => 4 - (intOf i).toNat)
    case atStart => exact ⟨0, d0, ys, low, rfl, by omega, hE0, HLN.out, (show pre ys k * 4294967296 + low = T * 256 ^ 0 by rw [HV.out]; simp), (show low < 8589934592 by omega), (show 0 < 0 → _ by omega), Kw.refl _ _ _⟩
    case round =>
      have hB0' : w1.heap.size ≤ w1.heap.size := hE0.lies.1
      have HKB : Hid (∀ {u : World} {d' : Value}, Kw w1.heap.size d0 d' W u → Below w1.heap.size w1 u) := fun {u d'} hk => HB0.out.trans ⟨hk.os, hk.tape, hk.output, hk.size, fun i hi => hk.block i (by have := hE0.lies; omega) (by omega) (fun e => by have := (hE0.own.lt i e).1; omega)⟩
      clear hE0
      obtain ⟨j, d', y, low', rfl, hj, hE, HL, HVV, HLO, HLP, hk⟩ := hrel
      by_cases hlt : j < 4
      · go_wp2_with fail
        refine (send_ens (T := T * 256 ^ j) (k := k + j) ⟨y, low', hE, HL.out, HVV.out, by have := HLO.out; omega⟩ (fit_pow HFIT.out j) (by omega)).mono ?_; rintro e w2 ⟨rfl, d2, y2, low2, hd2, hl2, hv2, hlo2, hk2⟩
        have HD2 : Hid _ := hd2
        have HV2 : Hid _ := hv2
        have HL2 : Hid _ := hl2
        have HLO2 : Hid _ := hlo2
        clear hd2 hv2 hl2 hlo2
        go_wp2_with fail
        go_roundw
        case rel =>
          exact ⟨j + 1, d2, y2, low2, by go_num, by omega, HD2.out, HL2.out, (show pre y2 (k + (j + 1)) * 4294967296 + low2 = T * 256 ^ (j + 1) by rw [Nat.pow_succ, ← Nat.mul_assoc]; exact HV2.out), (show low2 < 8589934592 by have := HLO2.out; omega), fun _ => HLO2.out, hk.trans hk2⟩
        case measure => simp [intOf]; omega
      · obtain rfl : j = 4 := by omega
        have hval := four_out HVV.out (HLP.out (by omega))
        obtain ⟨b, cap, rfl, _, hb⟩ := hE.own.form (by have := HL.out; omega)
        have hcap : y.length ≤ cap := by
          rcases hE.own.2 with ⟨h1, _⟩ | ⟨b', cap', cur, h1, _, _, h2, _⟩
          · cases h1
          · simp only [Value.slice.injEq] at h1; omega
        have hdat := hE.data
        have hBb := hE.own.lt b rfl
        have hyl2 : y.length ≤ 1099511627776 := by have := HL.out; omega
        have HBY2 := By.made rfl hE.own hcap HL.out hval hE.byt hb
        have HBY3 : Hid _ := HBY2
        have hcells : ∀ j, j < y.length → wr.cell? ⟨b, j, none⟩ = some (.int .u8 (y.getD j 0 : Nat)) := fun j hj => by rw [hE.own.cellAt j (by omega)]; exact bs_get y j hj
        have HCC : Hid _ := hcells
        have h0y : 0 < y.length := by have := HL.out; omega
        clear hcells HBY2 hval hE
        go_wp2_with fail
        refine (trim_any HCC.out hyl2 hcap h0y).mono ?_; rintro e w2 ⟨rfl, rfl⟩
        go_wp2_with fail
        go_ret
        exact ⟨_, rfl, b, _, HBY3.out, hBb.1, HKB.out hk⟩

end Go.Proofs.YtkmnpechhdendaaDoor.L2
