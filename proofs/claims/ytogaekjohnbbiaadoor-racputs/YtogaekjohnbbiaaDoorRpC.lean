/- DERIVED. The walk of the document's encoder's Bytes. -/
import Derived.Test.YtogaekjohnbbiaaDoorRpB
import Derived.Test.YtogaekjohnbbiaaDoorRtC
namespace Go.Proofs.YtogaekjohnbbiaaDoor
open Go.RowKit

def HalfF (w W : World) (x : Nat) (ys : List Nat) (low : Nat) : Prop := ∃ d, Ef W w.heap.size x d ys low 0 ∧ Below w.heap.size w W

set_option maxRecDepth 100000 in
set_option maxHeartbeats 2000000 in
theorem rbytes_efs {w : World} {B x : Nat} {d : Value} {T g k : Nat} (h : EfS w B x d T g k) (hE : Ev T g k) (hkb : k ≤ 1099511626000) :
    Calls Tryd.prog 15 #[.pointer (some ⟨x, 0, none⟩)] w fun e w' => ∃ v, e = .returned v ∧ ByNew w w' v T k := by
  have hfit : T < 256 ^ k * 4294967295 := by have := hE.fit; have := hE.least; omega
  have hg0 : 0 < g := by have := hE.least; omega
  obtain ⟨ys, low, h1, h2, h3, h4⟩ := h
  have hdat := h1.data
  have hlo := h1.low
  have hlow := h1.lies.2
  have hbyt := h1.byt
  have HBY : Hid (∀ i, ys.getD i 0 < 256) := hbyt
  have HFIT : Hid (T < 256 ^ k * 4294967295) := hfit
  have HV : Hid (pre ys k * 4294967296 + low = T) := h3
  have HLN : Hid (ys.length = k) := h2
  by_cases h0 : ys.length = 0
  · have hys : ys = [] := List.eq_nil_of_length_eq_zero h0
    obtain ⟨a, c, hd⟩ := own_slice h1.own
    rw [h0] at hd
    subst hd
    have hh : HalfF w (w.alloc (.cells #[.slice none 0 0, .int .u64 (low : Nat), .int .u64 0] 54)).drew w.heap.size ys low :=
      ⟨.slice none 0 0, ⟨by simp, by rw [hys]; exact World.ownsRow_nil _ _ _ _, by simp [Value.ownBlock], by simp, by simp, by simp, by simp, by simp, ⟨Nat.le_refl _, by simp⟩, hbyt⟩, Below.drew (below_alloc (Below.refl _ _) (Nat.le_refl _) _)⟩
    clear h1 h2 h3 hfit hbyt hE h0 hys
    cases a with
    | none =>
      go_enter Tryd.func15, Tryd.ntmps15
      go_wp2_with fail
      go_region
      go_wp2_with fail
      generalize (w.alloc (.cells #[.slice none 0 0, .int .u64 (low : Nat), .int .u64 0] 54)).drew = W at *
      obtain ⟨d0, hE0, hB0⟩ := hh
      have HB0 : Hid _ := hB0
      clear hB0
      go_loopw [4] (fun i wr => ∃ (j : Nat) (d' : Value) (y : List Nat) (low' : Nat), i = .int .i64 j ∧ j ≤ 4 ∧ Ef wr w.heap.size w.heap.size d' y low' 0 ∧ Hid (y.length = k + j) ∧ Hid (pre y (k + j) * 4294967296 + low' = T * 256 ^ j) ∧ Hid (low' < 8589934592) ∧ Hid (0 < j → low' < 4294967296) ∧ Kw w.heap.size d0 d' W wr) (fun i _ => 4 - (intOf i).toNat)
      case atStart => exact ⟨0, d0, ys, low, rfl, by omega, hE0, HLN.out, (show pre ys k * 4294967296 + low = T * 256 ^ 0 by rw [HV.out]; simp), (show low < 8589934592 by omega), (show 0 < 0 → _ by omega), Kw.refl _ _ _⟩
      case round =>
        have HKB : Hid (∀ {u : World} {d' : Value}, Kw w.heap.size d0 d' W u → Below w.heap.size w u) := fun {u d'} hk => HB0.out.trans ⟨hk.os, hk.tape, hk.output, hk.size, fun i hi => hk.block i (by have := hE0.lies; omega) (by omega) (fun e => by have := (hE0.own.lt i e).1; omega)⟩
        clear hE0
        obtain ⟨j, d', y, low', rfl, hj, hE, HL, HVV, HLO, HLP, hk⟩ := hrel
        by_cases hlt : j < 4
        · go_wp2_with fail
          refine (goes_efs (T := T * 256 ^ j) (k := k + j) ⟨y, low', hE, HL.out, HVV.out, by have := HLO.out; omega⟩ (fit_pow HFIT.out j) (by omega)).mono ?_; rintro e w2 ⟨rfl, d2, y2, low2, hd2, hl2, hv2, hlo2, hk2⟩
          have HD2 : Hid _ := hd2
          have HV2 : Hid _ := hv2
          have HL2 : Hid _ := hl2
          have HLO2 : Hid _ := hlo2
          clear hd2 hv2 hl2 hlo2
          go_wp2_with fail
          go_roundw
          case rel =>
            exact ⟨j + 1, d2, y2, low2, by go_num, by omega, HD2.out, HL2.out, (show pre y2 (k + (j + 1)) * 4294967296 + low2 = T * 256 ^ (j + 1) by rw [Nat.pow_succ, ← Nat.mul_assoc]; exact HV2.out), (show low2 < 8589934592 by have := HLO2.out; omega), fun _ => HLO2.out, hk.trans hk2⟩
          case measure => simp [intOf]; omega
        · obtain rfl : j = 4 := by omega
          have hval := four_out HVV.out (HLP.out (by omega))
          obtain ⟨b, cap, rfl, _, hb⟩ := hE.own.form (by have := HL.out; omega)
          have hcap : y.length ≤ cap := by
            rcases hE.own.2 with ⟨h1, _⟩ | ⟨b', cap', cur, h1, _, _, h2, _⟩
            · cases h1
            · simp only [Value.slice.injEq] at h1; omega
          have hdat := hE.data
          have hBb := hE.own.lt b rfl
          have hyl2 : y.length ≤ 1099511627776 := by have := HL.out; omega
          have HBY2 := By.made rfl hE.own hcap HL.out hval hE.byt hb
          have HBY3 : Hid _ := HBY2
          have hcells : ∀ j, j < y.length → wr.cell? ⟨b, j, none⟩ = some (.int .u8 (y.getD j 0 : Nat)) := fun j hj => by rw [hE.own.cellAt j (by omega)]; exact bs_get y j hj
          have HCC : Hid _ := hcells
          clear hcells HBY2 hval hE hlt
          have HKK : Hid _ := HKB.out hk
          clear hk HKB
          go_wp2_with fail
          go_loop [5] (fun i => ∃ m : Nat, i = .int .i64 m ∧ m ≤ y.length ∧ Hid (tl y m = tl y y.length)) (fun i => (intOf i).toNat)
          case atStart => exact ⟨y.length, rfl, Nat.le_refl _, rfl⟩
          case round =>
            obtain ⟨m, rfl, hm, HT⟩ := hrel
            rcases m with _ | m
            · go_wp2_with fail
              go_ret
              have ht := HT.out
              rw [tl] at ht
              have h3 := HBY3.out
              rw [← ht] at h3
              exact ⟨_, rfl, b, _, h3, hBb.1, HKK.out⟩
            · have hcm := HCC.out m (by omega)
              have h0 : ((0 : Int) < ((m + 1 : Nat) : Int)) := by omega
              by_cases hz : y.getD m 0 = 0
              · rw [hz] at hcm
                go_wp2_with fail
                go_round
                case rel =>
                  have ht := HT.out
                  rw [tl, if_pos hz] at ht
                  exact ⟨m, by go_num, by omega, ht⟩
                case measure => simp [intOf]
              · have hz' : (((y.getD m 0 : Nat) : Int) == 0) = false := by rw [beq_eq_false_iff_ne]; omega
                have ht := HT.out
                rw [tl, if_neg hz] at ht
                have h3 := HBY3.out
                rw [← ht] at h3
                have HB4 : Hid _ := h3
                clear hz ht h3 HBY3 HT
                generalize y.getD m 0 = z at *
                go_wp2_with fail
                go_ret
                exact ⟨_, rfl, b, _, HB4.out, hBb.1, HKK.out⟩
    | some ad =>
      go_enter Tryd.func15, Tryd.ntmps15
      go_wp2_with fail
      go_region
      go_wp2_with fail
      generalize (w.alloc (.cells #[.slice none 0 0, .int .u64 (low : Nat), .int .u64 0] 54)).drew = W at *
      obtain ⟨d0, hE0, hB0⟩ := hh
      have HB0 : Hid _ := hB0
      clear hB0
      go_loopw [4] (fun i wr => ∃ (j : Nat) (d' : Value) (y : List Nat) (low' : Nat), i = .int .i64 j ∧ j ≤ 4 ∧ Ef wr w.heap.size w.heap.size d' y low' 0 ∧ Hid (y.length = k + j) ∧ Hid (pre y (k + j) * 4294967296 + low' = T * 256 ^ j) ∧ Hid (low' < 8589934592) ∧ Hid (0 < j → low' < 4294967296) ∧ Kw w.heap.size d0 d' W wr) (fun i _ => 4 - (intOf i).toNat)
      case atStart => exact ⟨0, d0, ys, low, rfl, by omega, hE0, HLN.out, (show pre ys k * 4294967296 + low = T * 256 ^ 0 by rw [HV.out]; simp), (show low < 8589934592 by omega), (show 0 < 0 → _ by omega), Kw.refl _ _ _⟩
      case round =>
        have HKB : Hid (∀ {u : World} {d' : Value}, Kw w.heap.size d0 d' W u → Below w.heap.size w u) := fun {u d'} hk => HB0.out.trans ⟨hk.os, hk.tape, hk.output, hk.size, fun i hi => hk.block i (by have := hE0.lies; omega) (by omega) (fun e => by have := (hE0.own.lt i e).1; omega)⟩
        clear hE0
        obtain ⟨j, d', y, low', rfl, hj, hE, HL, HVV, HLO, HLP, hk⟩ := hrel
        by_cases hlt : j < 4
        · go_wp2_with fail
          refine (goes_efs (T := T * 256 ^ j) (k := k + j) ⟨y, low', hE, HL.out, HVV.out, by have := HLO.out; omega⟩ (fit_pow HFIT.out j) (by omega)).mono ?_; rintro e w2 ⟨rfl, d2, y2, low2, hd2, hl2, hv2, hlo2, hk2⟩
          have HD2 : Hid _ := hd2
          have HV2 : Hid _ := hv2
          have HL2 : Hid _ := hl2
          have HLO2 : Hid _ := hlo2
          clear hd2 hv2 hl2 hlo2
          go_wp2_with fail
          go_roundw
          case rel =>
            exact ⟨j + 1, d2, y2, low2, by go_num, by omega, HD2.out, HL2.out, (show pre y2 (k + (j + 1)) * 4294967296 + low2 = T * 256 ^ (j + 1) by rw [Nat.pow_succ, ← Nat.mul_assoc]; exact HV2.out), (show low2 < 8589934592 by have := HLO2.out; omega), fun _ => HLO2.out, hk.trans hk2⟩
          case measure => simp [intOf]; omega
        · obtain rfl : j = 4 := by omega
          have hval := four_out HVV.out (HLP.out (by omega))
          obtain ⟨b, cap, rfl, _, hb⟩ := hE.own.form (by have := HL.out; omega)
          have hcap : y.length ≤ cap := by
            rcases hE.own.2 with ⟨h1, _⟩ | ⟨b', cap', cur, h1, _, _, h2, _⟩
            · cases h1
            · simp only [Value.slice.injEq] at h1; omega
          have hdat := hE.data
          have hBb := hE.own.lt b rfl
          have hyl2 : y.length ≤ 1099511627776 := by have := HL.out; omega
          have HBY2 := By.made rfl hE.own hcap HL.out hval hE.byt hb
          have HBY3 : Hid _ := HBY2
          have hcells : ∀ j, j < y.length → wr.cell? ⟨b, j, none⟩ = some (.int .u8 (y.getD j 0 : Nat)) := fun j hj => by rw [hE.own.cellAt j (by omega)]; exact bs_get y j hj
          have HCC : Hid _ := hcells
          clear hcells HBY2 hval hE hlt
          have HKK : Hid _ := HKB.out hk
          clear hk HKB
          go_wp2_with fail
          go_loop [5] (fun i => ∃ m : Nat, i = .int .i64 m ∧ m ≤ y.length ∧ Hid (tl y m = tl y y.length)) (fun i => (intOf i).toNat)
          case atStart => exact ⟨y.length, rfl, Nat.le_refl _, rfl⟩
          case round =>
            obtain ⟨m, rfl, hm, HT⟩ := hrel
            rcases m with _ | m
            · go_wp2_with fail
              go_ret
              have ht := HT.out
              rw [tl] at ht
              have h3 := HBY3.out
              rw [← ht] at h3
              exact ⟨_, rfl, b, _, h3, hBb.1, HKK.out⟩
            · have hcm := HCC.out m (by omega)
              have h0 : ((0 : Int) < ((m + 1 : Nat) : Int)) := by omega
              by_cases hz : y.getD m 0 = 0
              · rw [hz] at hcm
                go_wp2_with fail
                go_round
                case rel =>
                  have ht := HT.out
                  rw [tl, if_pos hz] at ht
                  exact ⟨m, by go_num, by omega, ht⟩
                case measure => simp [intOf]
              · have hz' : (((y.getD m 0 : Nat) : Int) == 0) = false := by rw [beq_eq_false_iff_ne]; omega
                have ht := HT.out
                rw [tl, if_neg hz] at ht
                have h3 := HBY3.out
                rw [← ht] at h3
                have HB4 : Hid _ := h3
                clear hz ht h3 HBY3 HT
                generalize y.getD m 0 = z at *
                go_wp2_with fail
                go_ret
                exact ⟨_, rfl, b, _, HB4.out, hBb.1, HKK.out⟩
  · obtain ⟨i, hi, hz0, hz1, hz2⟩ := info_parts Tryd.info5
    obtain ⟨b, cap, rfl, _, hb⟩ := h1.own.form (by omega)
    have hownA : (w.alloc (.cells #[.slice none 0 0, .int .u64 (low : Nat), .int .u64 0] 54)).drew.ownsRow (w.heap.size + 1) 5 1 (.slice none 0 0) 0 [] := World.ownsRow_nil _ _ _ _
    have hnews : ∀ j u, (bs ys)[j]? = some u → (w.alloc (.cells #[.slice none 0 0, .int .u64 (low : Nat), .int .u64 0] 54)).drew.cell? ((⟨b, 0, none⟩ : Addr).add j) = some u := by
      intro j u hu
      have hj : j < ys.length := by have := List.getElem?_eq_some_iff.1 hu; obtain ⟨h1, _⟩ := this; rw [bs_length] at h1; exact h1
      rw [bs_get ys j hj] at hu
      rw [← hu, show (⟨b, 0, none⟩ : Addr).add j = ⟨b, j, none⟩ from (by unfold Addr.add; split <;> simp_all)]
      show (w.alloc _).cell? ⟨b, j, none⟩ = _
      rw [World.cell?_alloc_lt _ _ _ hb, h1.own.cellAt j (by omega)]
      exact bs_get ys j hj
    have hyl : ys.length ≤ 1099511626000 := by omega
    have h0' : 0 < ys.length := by omega
    clear h1 h2 h3 hfit hbyt hE h0
    go_enter Tryd.func15, Tryd.ntmps15
    go_wp2_with fail
    go_region_law ((refine step_append_lies _ (by rfl) _ _ _ (by rfl) (w.heap.size + 1) 5 i (.int .u8 0) 1 1 Tryd.underlying32 hi hz0 hz1 hz2 rfl (by omega) _ 0 [] (by rfl) hownA ⟨b, 0, none⟩ ys.length cap (bs ys) (by rfl) (by rw [bs_length, Nat.mul_one]) hnews (bs_one _) (by omega) (by unfold maxLen; omega) (by omega) (by simp; try omega) (w.heap.size + 1) (by simp) ?_; intro gg cap2 w1 hown1 hgrow hat hlt; have hgr := undrew hgrow; have e0 := (grownNew hgr (by simp [Value.ownBlock]) 0).1; have e1 := (grownNew hgr (by simp [Value.ownBlock]) 1).1; have e2 := (grownNew hgr (by simp [Value.ownBlock]) 2).1; have f0 := (grownNew hgr (by simp [Value.ownBlock]) 0).2; have f1 := (grownNew hgr (by simp [Value.ownBlock]) 1).2; have f2 := (grownNew hgr (by simp [Value.ownBlock]) 2).2; simp at e0 e1 e2 f0 f1 f2))
    all_goals
      go_wp2_with fail
      have hh : HalfF w (w1.setCell ⟨w.heap.size, 0, none⟩ (.slice (some ⟨gg, 0, none⟩) ys.length cap2)) w.heap.size ys low := by
        rw [List.nil_append, Nat.zero_add] at hown1
        have hg1 := (hown1.lt gg rfl)
        have hsz : w.heap.size + 1 ≤ w1.heap.size := by have := hgr.size; simpa using this
        have ef : ∀ a, (w1.setCell ⟨w.heap.size, 0, none⟩ (.slice (some ⟨gg, 0, none⟩) ys.length cap2)).frozen? a = w1.frozen? a := fun a => by simp
        have hap : (Value.slice (some ⟨gg, 0, none⟩) ys.length cap2).ownBlock ≠ some w.heap.size := by simp [Value.ownBlock]; omega
        refine ⟨_, ⟨World.cell?_setCell_same _ _ _ e0, own_set_far (own_mono hown1 (by omega)) hap _, hap, ?_, ?_, ?_, ?_, ?_, ⟨Nat.le_refl _, by simp [World.setCell]; omega⟩, HBY.out⟩, ?_⟩
        · rw [World.cell?_setCell_other _ _ _ _ (by simp)]; exact e1
        · rw [World.cell?_setCell_other _ _ _ _ (by simp)]; exact e2
        · rw [ef]; exact f0
        · rw [ef]; exact f1
        · rw [ef]; exact f2
        · exact below_set (((Below.refl _ _).alloc (Nat.le_refl _) _).grown hgr (by simp) (fun k hk => by simp [Value.ownBlock] at hk)) (Nat.le_refl _) _
      clear hown1 hgrow hgr e0 e1 e2 f0 f1 f2 hownA hnews hdat hlo
      generalize w1.setCell ⟨w.heap.size, 0, none⟩ (.slice (some ⟨gg, 0, none⟩) ys.length cap2) = W at *
      obtain ⟨d0, hE0, hB0⟩ := hh
      have HB0 : Hid _ := hB0
      clear hB0
      go_loopw [4] (fun i wr => ∃ (j : Nat) (d' : Value) (y : List Nat) (low' : Nat), i = .int .i64 j ∧ j ≤ 4 ∧ Ef wr w.heap.size w.heap.size d' y low' 0 ∧ Hid (y.length = k + j) ∧ Hid (pre y (k + j) * 4294967296 + low' = T * 256 ^ j) ∧ Hid (low' < 8589934592) ∧ Hid (0 < j → low' < 4294967296) ∧ Kw w.heap.size d0 d' W wr) (fun i _ => 4 - (intOf i).toNat)
      case atStart => exact ⟨0, d0, ys, low, rfl, by omega, hE0, HLN.out, (show pre ys k * 4294967296 + low = T * 256 ^ 0 by rw [HV.out]; simp), (show low < 8589934592 by omega), (show 0 < 0 → _ by omega), Kw.refl _ _ _⟩
      case round =>
        have HKB : Hid (∀ {u : World} {d' : Value}, Kw w.heap.size d0 d' W u → Below w.heap.size w u) := fun {u d'} hk => HB0.out.trans ⟨hk.os, hk.tape, hk.output, hk.size, fun i hi => hk.block i (by have := hE0.lies; omega) (by omega) (fun e => by have := (hE0.own.lt i e).1; omega)⟩
        clear hE0
        obtain ⟨j, d', y, low', rfl, hj, hE, HL, HVV, HLO, HLP, hk⟩ := hrel
        by_cases hlt : j < 4
        · go_wp2_with fail
          refine (goes_efs (T := T * 256 ^ j) (k := k + j) ⟨y, low', hE, HL.out, HVV.out, by have := HLO.out; omega⟩ (fit_pow HFIT.out j) (by omega)).mono ?_; rintro e w2 ⟨rfl, d2, y2, low2, hd2, hl2, hv2, hlo2, hk2⟩
          have HD2 : Hid _ := hd2
          have HV2 : Hid _ := hv2
          have HL2 : Hid _ := hl2
          have HLO2 : Hid _ := hlo2
          clear hd2 hv2 hl2 hlo2
          go_wp2_with fail
          go_roundw
          case rel =>
            exact ⟨j + 1, d2, y2, low2, by go_num, by omega, HD2.out, HL2.out, (show pre y2 (k + (j + 1)) * 4294967296 + low2 = T * 256 ^ (j + 1) by rw [Nat.pow_succ, ← Nat.mul_assoc]; exact HV2.out), (show low2 < 8589934592 by have := HLO2.out; omega), fun _ => HLO2.out, hk.trans hk2⟩
          case measure => simp [intOf]; omega
        · obtain rfl : j = 4 := by omega
          have hval := four_out HVV.out (HLP.out (by omega))
          obtain ⟨b, cap, rfl, _, hb⟩ := hE.own.form (by have := HL.out; omega)
          have hcap : y.length ≤ cap := by
            rcases hE.own.2 with ⟨h1, _⟩ | ⟨b', cap', cur, h1, _, _, h2, _⟩
            · cases h1
            · simp only [Value.slice.injEq] at h1; omega
          have hdat := hE.data
          have hBb := hE.own.lt b rfl
          have hyl2 : y.length ≤ 1099511627776 := by have := HL.out; omega
          have HBY2 := By.made rfl hE.own hcap HL.out hval hE.byt hb
          have HBY3 : Hid _ := HBY2
          have hcells : ∀ j, j < y.length → wr.cell? ⟨b, j, none⟩ = some (.int .u8 (y.getD j 0 : Nat)) := fun j hj => by rw [hE.own.cellAt j (by omega)]; exact bs_get y j hj
          have HCC : Hid _ := hcells
          clear hcells HBY2 hval hE hlt
          have HKK : Hid _ := HKB.out hk
          clear hk HKB
          go_wp2_with fail
          go_loop [5] (fun i => ∃ m : Nat, i = .int .i64 m ∧ m ≤ y.length ∧ Hid (tl y m = tl y y.length)) (fun i => (intOf i).toNat)
          case atStart => exact ⟨y.length, rfl, Nat.le_refl _, rfl⟩
          case round =>
            obtain ⟨m, rfl, hm, HT⟩ := hrel
            rcases m with _ | m
            · go_wp2_with fail
              go_ret
              have ht := HT.out
              rw [tl] at ht
              have h3 := HBY3.out
              rw [← ht] at h3
              exact ⟨_, rfl, b, _, h3, hBb.1, HKK.out⟩
            · have hcm := HCC.out m (by omega)
              have h0 : ((0 : Int) < ((m + 1 : Nat) : Int)) := by omega
              by_cases hz : y.getD m 0 = 0
              · rw [hz] at hcm
                go_wp2_with fail
                go_round
                case rel =>
                  have ht := HT.out
                  rw [tl, if_pos hz] at ht
                  exact ⟨m, by go_num, by omega, ht⟩
                case measure => simp [intOf]
              · have hz' : (((y.getD m 0 : Nat) : Int) == 0) = false := by rw [beq_eq_false_iff_ne]; omega
                have ht := HT.out
                rw [tl, if_neg hz] at ht
                have h3 := HBY3.out
                rw [← ht] at h3
                have HB4 : Hid _ := h3
                clear hz ht h3 HBY3 HT
                generalize y.getD m 0 = z at *
                go_wp2_with fail
                go_ret
                exact ⟨_, rfl, b, _, HB4.out, hBb.1, HKK.out⟩

end Go.Proofs.YtogaekjohnbbiaaDoor
