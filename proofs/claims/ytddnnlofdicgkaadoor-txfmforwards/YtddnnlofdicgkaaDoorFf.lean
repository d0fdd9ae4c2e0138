/- DERIVED. The walks of the document's On and of its Wht; Weights. -/
import Derived.Test.YtddnnlofdicgkaaDoorFe
namespace Go.Proofs.YtddnnlofdicgkaaDoor
open Go.RowKit

set_option maxRecDepth 100000 in
set_option maxHeartbeats 1000000 in
theorem rback_wht {w : World} {a : Option Addr} {c : Nat} {C : List Int} (hs : Si w a C) (hn : C.length = 4) (hC : Mst C 1048576) :
    Calls Tryd.prog 34 #[.slice none 0 0, .slice a C.length c] w fun e w' => N1 w w' e (whtI (C.getD 0 0) (C.getD 1 0) (C.getD 2 0) (C.getD 3 0)) := by
  obtain ⟨b, o, rfl, hbl, hc⟩ := hs.form (by omega)
  have c0 := hc 0 (by omega)
  have c1 := hc 1 (by omega)
  have c2 := hc 2 (by omega)
  have c3 := hc 3 (by omega)
  rw [Nat.add_zero] at c0
  obtain ⟨b0, b1⟩ := hC 0 (by omega)
  obtain ⟨b2, b3⟩ := hC 1 (by omega)
  obtain ⟨b4, b5⟩ := hC 2 (by omega)
  obtain ⟨b6, b7⟩ := hC 3 (by omega)
  have HB : Hid (∀ nq : Nat, Below w.heap.size w (w.drewN nq)) := fun nq => below_drewN (Below.refl _ _) nq
  rw [hn]
  clear hc hs hC
  generalize C.getD 0 0 = x0 at *
  generalize C.getD 1 0 = x1 at *
  generalize C.getD 2 0 = x2 at *
  generalize C.getD 3 0 = x3 at *
  clear hn C
  go_enter Tryd.func34, Tryd.ntmps34
  go_wp2_with fail
  go_quiet (fail)
  have HB1 := HB.out nq
  go_wp2_with fail
  go_ret
  refine ⟨w.heap.size, rfl, Nat.le_refl _, ?_, ?_⟩
  · exact Ri.built 3 (w.drewN nq) (whtI x0 x1 x2 x3) rfl
  · exact to_alloc HB1 _

set_option maxRecDepth 100000 in
set_option maxHeartbeats 1000000 in
theorem ron_wht {w : World} {a : Option Addr} {c : Nat} {C : List Int} (hs : Si w a C) (hn : C.length = 4) (hC : Mst C 1048576) :
    Calls Tryd.prog 39 #[.slice none 0 0, .slice a C.length c] w fun e w' => N1 w w' e (whtF (C.getD 0 0) (C.getD 1 0) (C.getD 2 0) (C.getD 3 0)) := by
  obtain ⟨b, o, rfl, hbl, hc⟩ := hs.form (by omega)
  have c0 := hc 0 (by omega)
  have c1 := hc 1 (by omega)
  have c2 := hc 2 (by omega)
  have c3 := hc 3 (by omega)
  rw [Nat.add_zero] at c0
  obtain ⟨b0, b1⟩ := hC 0 (by omega)
  obtain ⟨b2, b3⟩ := hC 1 (by omega)
  obtain ⟨b4, b5⟩ := hC 2 (by omega)
  obtain ⟨b6, b7⟩ := hC 3 (by omega)
  have HB : Hid (∀ nq : Nat, Below w.heap.size w (w.drewN nq)) := fun nq => below_drewN (Below.refl _ _) nq
  rw [hn]
  clear hc hs hC
  generalize C.getD 0 0 = x0 at *
  generalize C.getD 1 0 = x1 at *
  generalize C.getD 2 0 = x2 at *
  generalize C.getD 3 0 = x3 at *
  clear hn C
  go_enter Tryd.func39, Tryd.ntmps39
  go_wp2_with fail
  go_quiet (fail)
  have HB1 := HB.out nq
  go_wp2_with fail
  go_ret
  refine ⟨w.heap.size, rfl, Nat.le_refl _, ?_, ?_⟩
  · exact Ri.built 3 (w.drewN nq) (whtF x0 x1 x2 x3) rfl
  · exact to_alloc HB1 _

set_option maxRecDepth 100000 in
set_option maxHeartbeats 4000000 in
theorem on_any {w : World} {a m : Option Addr} {c d n b0 : Nat} {C : List Int} {W : Nat → Nat → Int} {G : Nat → Nat} (hs : Si w a C) (hm : Mt w m n W b0 G) (hn : C.length = n) (h0 : 0 < n) (h1 : n ≤ 64) (hC : Mst C 1048576) (hW : ∀ k i, -16384 ≤ W k i ∧ W k i ≤ 16384) :
    Calls Tryd.prog 39 #[.slice m n d, .slice a n c] w fun e w' => N1 w w' e (wr (fun i k => W k i) C) := by
  obtain ⟨b, o, rfl, hbl, hc⟩ := hs.form (by omega)
  obtain rfl := hm.at0
  have hmk := mk_ints (n := n) (by omega)
  have b64 : (n : Int) ≤ 64 := by omega
  have nz : ((n : Int) == 0) = false := by rw [beq_eq_false_iff_ne]; omega
  have HCc : Hid _ := hc
  have HM : Hid _ := hm
  have hb0 : b0 < w.heap.size := hm.lt
  have HN : Hid (C.length = n) := hn
  have HWb : Hid (∀ k t, t ≤ n → -(1099511627776) ≤ ws (fun i k => W k i) C t k ∧ ws (fun i k => W k i) C t k ≤ 1099511627776) := fun k t ht => by
    have := ws_le (W := fun i k => W k i) (C := C) (m := t) (t := k) (A := 1048576) (B := 16384) (by omega) hC (fun i k => hW k i)
    omega
  clear hs hc hm
  go_enter Tryd.func39, Tryd.ntmps39
  go_wp2_with fail
  go_loopw [12] (fun i wr => ∃ k : Nat, k ≤ n ∧ i = .int .i64 k ∧ Ri 3 wr w.heap.size (mx n k (fun k => (2048 + ws (fun i k => W k i) C n k) / 4096) zf) ∧ Below w.heap.size w wr) (fun i _ => n - (intOf i).toNat)
  case atStart =>
    refine ⟨0, by omega, rfl, ?_, from_alloc _ _⟩
    rw [← mx_zero n _ zf (fun _ _ => rfl)]
    exact Ri.made 3 w n rfl
  case round =>
    obtain ⟨k, hk, rfl, hr, hb⟩ := hrel
    have k0 : 0 ≤ (k : Int) := by omega
    by_cases hlt : k < n
    · have k1 : (k : Int) < (n : Int) := by omega
      have HR : Hid (Ri 3 wr w.heap.size (mx n k (fun k => (2048 + ws (fun i k => W k i) C n k) / 4096) zf)) := hr
      have HB : Hid (Below w.heap.size w wr) := hb
      clear hr hb
      go_wp2_with fail
      go_loopw [13, 14] (fun s i wq => ∃ t : Nat, t ≤ n ∧ i = .int .i64 t ∧ s = .int .i64 (2048 + ws (fun i k => W k i) C t k) ∧ Ri 3 wq w.heap.size (mx n k (fun k => (2048 + ws (fun i k => W k i) C n k) / 4096) zf) ∧ Below w.heap.size w wq) (fun _ i _ => n - (intOf i).toNat)
      case atStart => exact ⟨0, by omega, rfl, by simp [ws, sm], HR.out, HB.out⟩
      case round =>
        clear HR HB
        obtain ⟨t, ht, rfl, rfl, hr, hb⟩ := hrel
        have t0 : 0 ≤ (t : Int) := by omega
        by_cases htn : t < n
        · have t1 : (t : Int) < (n : Int) := by omega
          have d2 : wr.cell? ⟨b, o + t, none⟩ = some (.int .i64 (C.getD t 0)) := by rw [newCell hb _ _ hbl]; exact HCc.out t (by omega)
          have d3 : wr.cell? ⟨b0, k, none⟩ = some (.slice (some ⟨G k, 0, none⟩) n n) := by rw [newCell hb _ _ hb0]; exact HM.out.cell k hlt
          have hG : G k < w.heap.size := (HM.out.rows k hlt).lt
          have d4 : wr.cell? ⟨G k, t, none⟩ = some (.int .i64 (W k t)) := by rw [newCell hb _ _ hG, (HM.out.rows k hlt).cell t (by rw [rowW_len]; exact htn), rowW_get _ _ _ _ htn]
          have HBz : Hid (∀ z, Below w.heap.size w (wr.drewN z)) := fun z => below_drewN hb z
          have HRz : Hid (∀ z, Ri 3 (wr.drewN z) w.heap.size (mx n k (fun k => (2048 + ws (fun i k => W k i) C n k) / 4096) zf)) := fun z => ⟨hr.heap⟩
          obtain ⟨s0, s1⟩ := HWb.out k t ht
          obtain ⟨v0, v1⟩ := hC t (by omega)
          obtain ⟨q0, q1⟩ := hW k t
          obtain ⟨p0, p1⟩ := prod_le (a := C.getD t 0) (b := W k t) ⟨v0, v1⟩ ⟨q0, q1⟩
          have HX : Hid (ws (fun i k => W k i) C (t + 1) k = ws (fun i k => W k i) C t k + C.getD t 0 * W k t) := ws_succ _ _ _ _
          generalize ws (fun i k => W k i) C t k = S0 at *
          generalize W k t = x at *
          generalize C.getD t 0 = v at *
          generalize G k = gk at *
          have y0 : -17179869184 ≤ v * x := by omega
          have y1 : v * x ≤ 17179869184 := by omega
          clear hr hb p0 p1
          go_wp2_with fail
          go_quiet (fail)
          have HB2 := HBz.out nq
          have HR2 := HRz.out nq
          go_wp2_with fail
          go_roundw
          case rel => exact ⟨t + 1, by omega, by go_num, by rw [HX.out, Int.add_assoc], HR2, HB2⟩
          case measure => simp [intOf]; omega
        · obtain rfl : t = n := by omega
          have d1 := hr.thaw k
          have d2 := hr.cell k (by rw [mx_len]; exact hlt)
          have HR2 : Hid (∀ x, x = (2048 + ws (fun i k => W k i) C t k) / 4096 → Ri 3 (wr.setCell ⟨w.heap.size, k, none⟩ (.int .i64 x)) w.heap.size (mx t (k + 1) (fun k => (2048 + ws (fun i k => W k i) C t k) / 4096) zf)) := by
            rintro x rfl
            rw [← mx_set t k (fun k => (2048 + ws (fun i k => W k i) C t k) / 4096) _ hlt]
            exact hr.set k _
          have HB2 : Hid (Below w.heap.size w wr) := hb
          obtain ⟨s0, s1⟩ := HWb.out k t ht
          generalize ws (fun i k => W k i) C t k = S0 at *
          clear hr hb
          go_wp2_with fail
          go_roundw
          case rel => exact ⟨k + 1, by omega, by go_num, HR2.out _ rfl, below_set HB2.out (by simp) _⟩
          case measure => simp [intOf]; omega
    · obtain rfl : k = n := by omega
      have HR3 : Hid (Ri 3 wr w.heap.size (mx k k (fun q => (2048 + ws (fun i k => W k i) C k q) / 4096) zf)) := hr
      have HB3 : Hid (Below w.heap.size w wr) := hb
      clear hb hr
      go_wp2_with fail
      go_ret
      have e : mx k k (fun q => (2048 + ws (fun i k => W k i) C k q) / 4096) zf = Go.Proofs.YtddnnlofdicgkaaDoor.wr (fun i k => W k i) C := by
        refine ext_getD (by rw [mx_len, wr_len, HN.out]) fun j hj => ?_
        rw [mx_len] at hj
        rw [mx_get _ _ _ _ _ hj, if_pos hj, wr_get _ _ _ (by have := HN.out; omega), HN.out, Int.add_comm]
      refine ⟨w.heap.size, by rw [wr_len, HN.out]; rfl, Nat.le_refl _, ?_, HB3.out⟩
      rw [← e]; exact HR3.out

set_option maxRecDepth 100000 in
set_option maxHeartbeats 400000 in
theorem weights_any {w : World} {q n : Nat} (hq : q < 3) (h0 : 0 < n) (hn : n ≤ 64) : Calls Tryd.prog 32 #[.int .i64 (q : Int), .int .i64 (n : Int)] w fun e w' => MtR w w' e n (kW (q : Int) n) := by
  have q3 : ((q : Int) == 3) = false := by rw [beq_eq_false_iff_ne]; omega
  have HM : Hid (Calls Tryd.prog 51 #[.int .i64 (q : Int), .int .i64 (n : Int)] w fun e w' => MtR w w' e n (kW (q : Int) n)) := matrix_any hq h0 hn
  go_enter Tryd.func32, Tryd.ntmps32
  go_wp2_with (go_at_call 51; refine HM.out.mono ?_; rintro e w' ⟨a, c, b, G, rfl, hm, hb⟩)
  go_ret
  exact ⟨a, c, b, G, rfl, hm, hb⟩
theorem weights_wht {w : World} {n : Nat} : Calls Tryd.prog 32 #[.int .i64 3, .int .i64 (n : Int)] w fun e w' => e = .returned (.slice none 0 0) ∧ w = w' := by
  go_enter Tryd.func32, Tryd.ntmps32
  go_wp2_with fail
  go_ret
  exact ⟨rfl, rfl⟩

end Go.Proofs.YtddnnlofdicgkaaDoor
