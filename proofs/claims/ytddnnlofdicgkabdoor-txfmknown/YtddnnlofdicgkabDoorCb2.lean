/- DERIVED. The walk of sums, by a function that holds an address. -/
import Derived.Test.YtddnnlofdicgkabDoorCb
namespace Go.Proofs.YtddnnlofdicgkabDoor
open Go.RowKit

set_option maxRecDepth 100000 in
set_option maxHeartbeats 2000000 in
theorem sums_rev {w : World} {a : Option Addr} {c n K : Nat} {p : Addr} {C : List Int} {W : Nat → Nat → Int} (hs : Si w a C) (hn : C.length = n) (h0 : 0 < n) (h1 : n ≤ 64) (hC : Mst C 1048576) (hW : ∀ k i, -16384 ≤ W k i ∧ W k i ≤ 16384)
    (hK : ∀ (xs : Array Value) (u : World), (callFunc K xs).run Tryd.prog u = .ok (.enter K xs) u)
    (hf : ∀ u, Below w.heap.size w u → ∀ k i : Nat, k < n → i < n → Calls Tryd.prog K #[.int .i64 (k : Int), .int .i64 (i : Int), .pointer (some p)] u fun e w' => e = .returned (.int .i64 (W k i)) ∧ w' = u) :
    Calls Tryd.prog 46 #[.slice a C.length c, .func (.func K) #[] #[.pointer (some p)]] w fun e w' => N1 w w' e (wr W C) := by
  obtain ⟨b, o, rfl, hbl, hc⟩ := hs.form (by omega)
  have hmk := mk_longs (n := n) (by omega)
  have hmk2 := mk_ints (n := n) (by omega)
  have b64 : (n : Int) ≤ 64 := by omega
  have HF : Hid _ := hf
  have HCc : Hid _ := hc
  have HS0 : Hid _ := hs
  rw [hn]
  clear hs hf hc
  go_enter Tryd.func46, Tryd.ntmps46
  go_wp2_with fail
  go_loopw [17] (fun i wr => ∃ m : Nat, m ≤ n ∧ i = .int .i64 m ∧ Ri 2 wr w.heap.size (mx n 0 zf (fun t => ws W C m t)) ∧ Below w.heap.size w wr) (fun i _ => n - (intOf i).toNat)
  case atStart =>
    refine ⟨0, by omega, rfl, ?_, from_alloc _ _⟩
    rw [← mx_zero n zf (fun t => ws W C 0 t) (fun _ _ => rfl)]
    exact Ri.made 2 w n rfl
  case round =>
    obtain ⟨m, hm, rfl, hr, hb⟩ := hrel
    by_cases hlt : m < n
    · have c0 : wr.cell? ⟨b, o + m, none⟩ = some (.int .i64 (C.getD m 0)) := by rw [newCell hb _ _ hbl]; exact HCc.out m (by omega)
      have m0 : 0 ≤ (m : Int) := by omega
      have m1 : (m : Int) < (n : Int) := by omega
      obtain ⟨v0, v1⟩ := hC m (by omega)
      have HV : Hid (C.getD m 0 = C.getD m 0) := rfl
      by_cases hz : C.getD m 0 = 0
      · rw [hz] at c0
        have HR : Hid (Ri 2 wr w.heap.size (mx n 0 zf (fun t => ws W C (m + 1) t))) := by
          show Ri _ _ _ _
          rw [mx_same n 0 zf _ (fun t => ws W C m t) (fun j _ => by rw [ws_succ, hz, Int.zero_mul, Int.add_zero])]
          exact hr
        have HB : Hid (Below w.heap.size w wr) := hb
        clear hz hr hb HV v0 v1
        go_wp2_with fail
        go_roundw
        case rel => exact ⟨m + 1, by omega, by go_num, HR.out, HB.out⟩
        case measure => simp [intOf]; omega
      · have z0 : (C.getD m 0 == 0) = false := by rw [beq_eq_false_iff_ne]; exact hz
        have HWs : Hid (∀ t, ws W C (m + 1) t = ws W C m t + C.getD m 0 * W m t) := fun t => ws_succ W C m t
        have HWb : Hid (∀ t, -(1099511627776) ≤ ws W C m t ∧ ws W C m t ≤ 1099511627776) := fun t => by
          have := ws_le (W := W) (C := C) (m := m) (t := t) (A := 1048576) (B := 16384) (by omega) hC hW
          omega
        have HB : Hid (Below w.heap.size w wr) := hb
        have HR : Hid (Ri 2 wr w.heap.size (mx n 0 (fun t => ws W C (m + 1) t) (fun t => ws W C m t))) := by
          show Ri _ _ _ _
          rw [mx_start n _ zf]
          exact hr
        clear hr hb hz
        generalize C.getD m 0 = v at *
        go_wp2_with fail
        go_loopw [26] (fun i wr => ∃ t : Nat, t ≤ n ∧ i = .int .i64 t ∧ Ri 2 wr w.heap.size (mx n t (fun t => ws W C (m + 1) t) (fun t => ws W C m t)) ∧ Below w.heap.size w wr) (fun i _ => n - (intOf i).toNat)
        case atStart => exact ⟨0, by omega, rfl, HR.out, HB.out⟩
        case round =>
          obtain ⟨t, ht, rfl, hr, hb⟩ := hrel
          by_cases hlt2 : t < n
          · have t0 : 0 ≤ (t : Int) := by omega
            have t1 : (t : Int) < (n : Int) := by omega
            have d0 : wr.cell? ⟨w.heap.size, t, none⟩ = some (.int .i64 (ws W C m t)) := by rw [hr.cell t (by rw [mx_len]; exact hlt2), mx_get _ _ _ _ _ hlt2, if_neg (by omega)]
            have d1 := hr.thaw t
            have HR2 : Hid (∀ x, x = ws W C (m + 1) t → Ri 2 (wr.drew.setCell ⟨w.heap.size, t, none⟩ (.int .i64 x)) w.heap.size (mx n (t + 1) (fun t => ws W C (m + 1) t) (fun t => ws W C m t))) := by
              rintro x rfl
              rw [← mx_set n t (fun t => ws W C (m + 1) t) _ hlt2]
              exact hr.drew.set t _
            have HB2 : Hid (Below w.heap.size w wr) := hb
            have HC1 := HF.out wr hb m t hlt hlt2
            have HC2 := HF.out wr.drew (below_drew hb) m t hlt hlt2
            obtain ⟨s0, s1⟩ := HWb.out t
            have HX := HWs.out t
            obtain ⟨q0, q1⟩ := hW m t
            obtain ⟨p0, p1⟩ := prod_le (a := v) (b := W m t) ⟨v0, v1⟩ ⟨q0, q1⟩
            generalize ws W C (m + 1) t = S1 at *
            generalize ws W C m t = S0 at *
            generalize W m t = x at *
            have HXX : Hid _ := HX
            have y0 : -17179869184 ≤ v * x := by omega
            have y1 : v * x ≤ 17179869184 := by omega
            clear hr hb HX p0 p1
            go_wp2_with fail
            go_region_with (first | (refine HC1.mono ?_; rintro e w5 ⟨rfl, rfl⟩) | (refine HC2.mono ?_; rintro e w5 ⟨rfl, rfl⟩))
            all_goals
              go_wp2_with fail
              go_roundw
              case rel => exact ⟨t + 1, by omega, by go_num, HR2.out _ HXX.out.symm, below_set (below_drew HB2.out) (by simp) _⟩
              case measure => simp [intOf]; omega
          · obtain rfl : t = n := by omega
            have HR3 : Hid (Ri 2 wr w.heap.size (mx t 0 zf (fun j => ws W C (m + 1) j))) := by
              show Ri _ _ _ _
              rw [mx_all t _ _ zf] at hr
              exact hr
            have HB3 : Hid (Below w.heap.size w wr) := hb
            clear hr hb
            go_wp2_with fail
            go_roundw
            case rel => exact ⟨m + 1, by omega, by go_num, HR3.out, HB3.out⟩
            case measure => simp [intOf]; omega
    · obtain rfl : m = n := by omega
      have HB3 : Hid (Below w.heap.size w wr) := hb
      have HR3 : Hid (Ri 2 wr w.heap.size (mx m 0 zf (fun j => ws W C m j))) := hr
      have HWb : Hid (∀ t, -(1099511627776) ≤ ws W C m t ∧ ws W C m t ≤ 1099511627776) := fun t => by
        have := ws_le (W := W) (C := C) (m := m) (t := t) (A := 1048576) (B := 16384) (by omega) hC hW
        omega
      have HG : Hid (w.heap.size < wr.heap.size) := hr.lt
      clear hr hb
      go_wp2_with fail
      generalize hg : wr.heap.size = g at *
      go_loopw [48] (fun i wv => ∃ t : Nat, t ≤ m ∧ i = .int .i64 t ∧ Ri 2 wv w.heap.size (mx m 0 zf (fun j => ws W C m j)) ∧ Ri 3 wv g (mx m t (fun j => (ws W C m j + 2048) / 4096) zf) ∧ Below w.heap.size w wv) (fun i _ => m - (intOf i).toNat)
      case atStart =>
        refine ⟨0, by omega, rfl, HR3.out.to (from_alloc _ _), ?_, to_alloc HB3.out _⟩
        rw [← mx_zero m _ zf (fun _ _ => rfl)]
        exact Ri.made 3 wr m hg
      case round =>
        clear HR3 HB3 hg
        obtain ⟨t, ht, rfl, hr, hq, hb⟩ := hrel
        by_cases hlt2 : t < m
        · have t0 : 0 ≤ (t : Int) := by omega
          have t1 : (t : Int) < (m : Int) := by omega
          have d0 : wr.cell? ⟨w.heap.size, t, none⟩ = some (.int .i64 (ws W C m t)) := by rw [hr.cell t (by rw [mx_len]; exact hlt2), mx_get _ _ _ _ _ hlt2, if_neg (by omega)]
          have d1 := hq.thaw t
          have d2 := hq.cell t (by rw [mx_len]; exact hlt2)
          have HR2 : Hid (∀ x, x = (ws W C m t + 2048) / 4096 → Ri 3 (wr.setCell ⟨g, t, none⟩ (.int .i64 x)) g (mx m (t + 1) (fun j => (ws W C m j + 2048) / 4096) zf)) := by
            rintro x rfl
            rw [← mx_set m t (fun j => (ws W C m j + 2048) / 4096) _ hlt2]
            exact hq.set t _
          have HQ2 : Hid (∀ x, Ri 2 (wr.setCell ⟨g, t, none⟩ (.int .i64 x)) w.heap.size (mx m 0 zf (fun j => ws W C m j))) := fun x => hr.far (by have := HG.out; simp; omega) _
          have HB2 : Hid (Below w.heap.size w wr) := hb
          obtain ⟨s0, s1⟩ := HWb.out t
          generalize ws W C m t = S0 at *
          clear hr hb hq
          go_wp2_with fail
          go_roundw
          case rel => exact ⟨t + 1, by omega, by go_num, HQ2.out _, HR2.out _ rfl, below_set HB2.out (by have := HG.out; simp; omega) _⟩
          case measure => simp [intOf]; omega
        · obtain rfl : t = m := by omega
          have HR3 : Hid (Ri 3 wr g (mx t t (fun j => (ws W C t j + 2048) / 4096) zf)) := hq
          have HB3 : Hid (Below w.heap.size w wr) := hb
          clear hr hb hq
          go_wp2_with fail
          go_ret
          have e : mx t t (fun j => (ws W C t j + 2048) / 4096) zf = Go.Proofs.YtddnnlofdicgkabDoor.wr W C := by
            refine ext_getD (by rw [mx_len, wr_len, hn]) fun j hj => ?_
            rw [mx_len] at hj
            rw [mx_get _ _ _ _ _ hj, if_pos hj, wr_get _ _ _ (by omega), hn]
          refine ⟨g, by rw [wr_len, hn]; rfl, by have := HG.out; omega, ?_, HB3.out⟩
          rw [← e]; exact HR3.out

end Go.Proofs.YtddnnlofdicgkabDoor
