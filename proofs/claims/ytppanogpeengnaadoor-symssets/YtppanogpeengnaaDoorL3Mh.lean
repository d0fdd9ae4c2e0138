/- DERIVED. The walks of the document's Log and Adapt. -/
import Derived.Test.YtppanogpeengnaaDoorMA
namespace Go.Proofs.YtppanogpeengnaaDoor.L3
open Go.RowKit

/-- how often a number can be halved -/
def lg : Nat → Nat → Nat
  | 0, _ => 0
  | f + 1, m => if 1 < m then lg f (m / 2) + 1 else 0
theorem lg_all2 : ∀ m : Nat, m < 17 → 2 ≤ m → (m < 4 → lg 20 m = 1) ∧ (¬ m < 4 → 2 ≤ lg 20 m ∧ lg 20 m ≤ 4) := by decide +kernel

set_option maxHeartbeats 1000000 in
theorem log_any (m : Nat) (w : World) (hm : m ≤ 16) : Calls Tryd.prog 89 #[.int .i64 m] w fun e w' => e = .returned (.int .i64 (lg 20 m : Nat)) ∧ w' = w := by
  go_enter Tryd.func89, Tryd.ntmps89
  go_wp2_with fail
  go_loop [0, 3] (fun mv kv => ∃ k q f : Nat, q ≤ 16 ∧ q < 2 ^ f ∧ k + f ≤ 20 ∧ mv = .int .i64 q ∧ kv = .int .i64 k ∧ k + lg f q = lg 20 m) (fun mv _ => (intOf mv).toNat)
  case atStart => exact ⟨0, m, 20, by omega, by omega, by omega, rfl, rfl, by omega⟩
  case round =>
    obtain ⟨k, q, f, hq, hqf, hkf, rfl, rfl, he⟩ := hrel
    have HE : Hid (k + lg f q = lg 20 m) := he
    have HQF : Hid (q < 2 ^ f) := hqf
    clear he hqf
    by_cases h1 : 1 < q
    · have h1' : (1 : Int) < (q : Int) := by omega
      go_wp2_with fail
      go_round
      case rel =>
        cases f with
        | zero => have := HQF.out; simp at this; omega
        | succ f =>
          have h2 := HQF.out
          have h3 := HE.out
          rw [Nat.pow_succ] at h2
          rw [lg, if_pos h1] at h3
          exact ⟨k + 1, q / 2, f, by omega, by omega, by omega, by congr 1, by go_num, by omega⟩
      case measure => simp [intOf]; omega
    · have h1' : ¬ (1 : Int) < (q : Int) := by omega
      go_wp2_with fail
      go_ret
      refine ⟨ret_int ?_, rfl⟩
      have h3 := HE.out
      have h4 : lg f q = 0 := by cases f with
        | zero => rfl
        | succ f => rw [lg, if_neg h1]
      omega

theorem pw_step (k : Nat) : (2 : Nat) ^ (k + 1) = 2 ^ k * 2 := Nat.pow_succ ..

set_option maxRecDepth 100000 in
set_option maxHeartbeats 2000000 in
theorem radapt_ok {w : World} {a : Option Addr} {c : Nat} {C : List Nat} {n : Int} {s : Nat} (h : Sl w .u16 a C) (ht : TOk C n) (hs : s < C.length) :
    Calls Tryd.prog 71 #[.agg #[.slice a C.length c, .int .i64 n], .int .i64 s] w fun e w' => Tn w w' e (ad C n s) (adN n) := by
  have HT : Hid (TOk C n) := ht
  have hhi := ht.hi
  have hlo := ht.lo
  have n0 := ht.n0
  have n1 := ht.n1
  have hi1 : ¬ (s : Int) < 0 := by omega
  have hi2 : ¬ (C.length : Int) ≤ (s : Int) := by omega
  have hL0 : Loc ((w.alloc (.cells #[.slice a C.length c, .int .i64 n] 63)).alloc (.cells #[.slice none 0 0, .int .i64 0] 63)) w.heap.size ⟨a, c, C, n⟩ := (Loc.new ⟨a, c, C, n⟩ h).to (from_alloc _ _)
  have HL0 : Hid _ := hL0
  have HZ0 : Hid (((w.alloc (.cells #[.slice a C.length c, .int .i64 n] 63)).alloc (.cells #[.slice none 0 0, .int .i64 0] 63)).cell? ⟨w.heap.size + 1, 0, none⟩ = some (.slice none 0 0) ∧ ((w.alloc (.cells #[.slice a C.length c, .int .i64 n] 63)).alloc (.cells #[.slice none 0 0, .int .i64 0] 63)).cell? ⟨w.heap.size + 1, 1, none⟩ = some (.int .i64 0) ∧ ((w.alloc (.cells #[.slice a C.length c, .int .i64 n] 63)).alloc (.cells #[.slice none 0 0, .int .i64 0] 63)).frozen? ⟨w.heap.size + 1, 0, none⟩ = false ∧ ((w.alloc (.cells #[.slice a C.length c, .int .i64 n] 63)).alloc (.cells #[.slice none 0 0, .int .i64 0] 63)).frozen? ⟨w.heap.size + 1, 1, none⟩ = false) := by unfold Hid; simp
  have HWs : Hid (((w.alloc (.cells #[.slice a C.length c, .int .i64 n] 63)).alloc (.cells #[.slice none 0 0, .int .i64 0] 63)).heap.size = w.heap.size + 2) := by unfold Hid; simp
  have HBW : Hid (Below w.heap.size w ((w.alloc (.cells #[.slice a C.length c, .int .i64 n] 63)).alloc (.cells #[.slice none 0 0, .int .i64 0] 63))) := to_alloc (from_alloc _ _) _
  have HSLw : Hid (Sl w .u16 a C) := h
  clear h ht hL0
  go_enter Tryd.func71, Tryd.ntmps71
  go_wp2_with fail
  generalize ((w.alloc (.cells #[.slice a C.length c, .int .i64 n] 63)).alloc (.cells #[.slice none 0 0, .int .i64 0] 63)) = W0 at *
  refine (rcheck_any HL0.out.sl (by show C.length ≤ _; omega)).mono ?_
  rintro e w1 ⟨rfl, hb⟩
  rw [show ck C n = 0 from ck_ok HT.out]
  have HL1 : Hid (Loc w1 w.heap.size ⟨a, c, C, n⟩) := HL0.out.to hb
  have HZ1 : Hid (w1.cell? ⟨w.heap.size + 1, 0, none⟩ = some (.slice none 0 0) ∧ w1.cell? ⟨w.heap.size + 1, 1, none⟩ = some (.int .i64 0) ∧ w1.frozen? ⟨w.heap.size + 1, 0, none⟩ = false ∧ w1.frozen? ⟨w.heap.size + 1, 1, none⟩ = false) := by
    unfold Hid
    rw [newCell hb _ _ (by rw [HWs.out]; omega), newCell hb _ _ (by rw [HWs.out]; omega), newFrozen hb _ _ (by rw [HWs.out]; omega), newFrozen hb _ _ (by rw [HWs.out]; omega)]
    exact HZ0.out
  have HS1 : Hid (w.heap.size + 2 ≤ w1.heap.size) := by have := hb.size; rw [HWs.out] at this; exact this
  have HB1 : Hid (Below w.heap.size w w1) := below_to HBW.out hb
  clear hb HL0 HZ0 HWs HBW
  have q0 : w1.cell? ⟨w.heap.size, 0, none⟩ = some (.slice a C.length c) := HL1.out.c0
  have q1 : w1.cell? ⟨w.heap.size, 1, none⟩ = some (.int .i64 n) := HL1.out.c1
  have hlg := lg_all2 C.length (by omega) hlo
  have HLG : Hid (∀ u, Calls Tryd.prog 89 #[.int .i64 (C.length : Nat)] u fun e w' => e = .returned (.int .i64 (lg 20 C.length : Nat)) ∧ w' = u) := fun u => log_any C.length u hhi
  generalize lg 20 C.length = G at *
  have hrt : rt C.length n = 3 + (if C.length < 4 then 1 else 2) + (if n > 15 then 1 else 0) + (if n > 31 then 1 else 0) := rfl
  have HRT : Hid _ := hrt
  clear hrt
  obtain ⟨m2, hm2, hm3⟩ : ∃ m2 : Int, min (G : Int) 2 = m2 ∧ m2 = (if C.length < 4 then 1 else 2 : Nat) := ⟨_, rfl, by split <;> omega⟩
  have HM3 : Hid _ := hm3
  have hm4 : 0 ≤ m2 ∧ m2 ≤ 2 := by omega
  have hm5 := hm4.1
  have hm6 := hm4.2
  clear hlg hm3 hm4
  rcases (show n ≤ 15 ∨ (15 < n ∧ n ≤ 31) ∨ (15 < n ∧ 31 < n) by omega) with hn | ⟨hn, hn'⟩ | ⟨hn, hn'⟩
  all_goals
    go_wp2_with fail
    refine (HLG.out _).mono ?_
    rintro e w2 ⟨rfl, rfl⟩
    go_wp2_with fail
    have hrr : ∀ z : Int, z = 3 + m2 + (if n > 15 then 1 else 0) + (if n > 31 then 1 else 0) → z = ((rt C.length n : Nat) : Int) := fun z hz => by
      rw [hz, HM3.out, HRT.out]
      split <;> (try split) <;> (try split) <;> omega
    first
      | rw [hrr (3 + m2 + 1 + 1) (by rw [if_pos (by omega), if_pos (by omega)])]
      | rw [hrr (3 + m2 + 1) (by rw [if_pos (by omega), if_neg (by omega)]; omega)]
      | rw [hrr (3 + m2) (by rw [if_neg (by omega), if_neg (by omega)]; omega)]
    clear hrr
    have hr := rt_cases C.length n
    have HADG : Hid (∀ i, i < C.length → (ad C n s).getD i 0 = adE C (rt C.length n) s i) := fun i hi => ad_get C n s i hi
    have HLA : Hid ((ad C n s).length = C.length) := ad_len C n s
    generalize hrv : rt C.length n = r at *
    clear hrv HRT HM3 HLG hm2 hm5 hm6 q0 q1
    go_loop [8, 9] (fun pv iv => ∃ k : Nat, k ≤ r ∧ iv = .int .i64 k ∧ pv = .int .i64 ((2 ^ k : Nat) : Int) ∧ 2 ^ k ≤ 128) (fun _ iv => r - (intOf iv).toNat)
    case atStart => exact ⟨0, by omega, rfl, rfl, by omega⟩
    case round =>
      obtain ⟨k, hk, rfl, rfl, hp⟩ := hrel
      by_cases hlt : k < r
      · have hlt' : (k : Int) < (r : Int) := by omega
        have HPS : Hid _ := pw_step k
        have HPL : Hid ((2 : Nat) ^ (k + 1) ≤ 128) := by
          have : (2 : Nat) ^ (k + 1) ≤ 2 ^ 7 := Nat.pow_le_pow_right (by omega) (by omega)
          exact this
        generalize (2 : Nat) ^ k = pk at *
        go_wp2_with fail
        go_round
        case rel => exact ⟨k + 1, by omega, by go_num, by rw [HPS.out]; congr 1, HPL.out⟩
        case measure => simp [intOf]; omega
      · have hk' : k = r := by omega
        subst hk'
        have hlt' : ¬ (k : Int) < (k : Int) := by omega
        have q1 : w2.cell? ⟨w.heap.size, 1, none⟩ = some (.int .i64 n) := HL1.out.c1
        have hgw0 : Gw (w2.alloc (.cells #[.slice none 0 0, .int .i64 (min (n + 1) 32)] 63)) (w2.heap.size + 1) w2.heap.size [] (min (n + 1) 32) none 0 (w2.alloc (.cells #[.slice none 0 0, .int .i64 (min (n + 1) 32)] 63)) := by
          have := Gw.start (W := w2.alloc (.cells #[.slice none 0 0, .int .i64 (min (n + 1) 32)] 63)) (X := w2.heap.size) (n := min (n + 1) 32) (by simp) (by simp) (by simp) (by simp)
          rw [show (w2.alloc (.cells #[.slice none 0 0, .int .i64 (min (n + 1) 32)] 63)).heap.size = w2.heap.size + 1 from by simp] at this
          exact this
        have HGW0 : Hid _ := hgw0
        have HLW : Hid (Loc (w2.alloc (.cells #[.slice none 0 0, .int .i64 (min (n + 1) 32)] 63)) w.heap.size ⟨a, c, C, n⟩) := HL1.out.to (from_alloc _ _)
        have HBW : Hid (Below w.heap.size w (w2.alloc (.cells #[.slice none 0 0, .int .i64 (min (n + 1) 32)] 63))) := to_alloc HB1.out _
        have HZW : Hid ((w2.alloc (.cells #[.slice none 0 0, .int .i64 (min (n + 1) 32)] 63)).cell? ⟨w.heap.size + 1, 0, none⟩ = some (.slice none 0 0) ∧ (w2.alloc (.cells #[.slice none 0 0, .int .i64 (min (n + 1) 32)] 63)).cell? ⟨w.heap.size + 1, 1, none⟩ = some (.int .i64 0) ∧ (w2.alloc (.cells #[.slice none 0 0, .int .i64 (min (n + 1) 32)] 63)).frozen? ⟨w.heap.size + 1, 0, none⟩ = false ∧ (w2.alloc (.cells #[.slice none 0 0, .int .i64 (min (n + 1) 32)] 63)).frozen? ⟨w.heap.size + 1, 1, none⟩ = false) := by
          have hs1 := HS1.out
          unfold Hid
          rw [newCell (from_alloc _ _) _ _ (by omega), newCell (from_alloc _ _) _ _ (by omega), newFrozen (from_alloc _ _) _ _ (by omega), newFrozen (from_alloc _ _) _ _ (by omega)]
          exact HZ1.out
        have hs1 := HS1.out
        have hll := HL1.out.low
        clear hgw0 HL1 HZ1 HB1
        have HPP : Hid (∀ i, i < C.length → adE C k s i = if i + 1 = C.length then C.getD i 0 else if s ≤ i then C.getD i 0 + (32768 - C.getD i 0) / 2 ^ k else C.getD i 0 - C.getD i 0 / 2 ^ k) := fun i hi => rfl
        have hpp0 : 0 < 2 ^ k := Nat.pos_of_ne_zero (by simp)
        generalize (2 : Nat) ^ k = pp at *
        go_wp2_with fail
        generalize w2.alloc (.cells #[.slice none 0 0, .int .i64 (min (n + 1) 32)] 63) = W at *
        generalize w2.heap.size = X at *
        clear q1
        go_loopw [11] (fun iv wr => ∃ (i : Nat) (ga : Option Addr) (gc : Nat), i ≤ C.length ∧ iv = .int .i64 i ∧ Gw W (X + 1) X ((ad C n s).take i) (min (n + 1) 32) ga gc wr) (fun iv _ => C.length - (intOf iv).toNat)
        case atStart => exact ⟨0, none, 0, by omega, rfl, by simpa using HGW0.out⟩
        case round =>
          obtain ⟨i, ga, gc, hi, rfl, hgw⟩ := hrel
          clear HGW0
          have hlen : ((ad C n s).take i).length = i := by rw [List.length_take, HLA.out]; omega
          have c0 := hgw.c0
          have c1 := hgw.c1
          have f0 := hgw.f0
          rw [hlen] at c0
          have hsB := hgw.sB
          have HLEN : Hid (((ad C n s).take i).length = i) := hlen
          have HGW : Hid (Gw W (X + 1) X ((ad C n s).take i) (min (n + 1) 32) ga gc wr) := hgw
          by_cases hit : i < C.length
          · obtain ⟨b, o, rfl, hbl, hcell⟩ := HSLw.out.form (by omega)
            have e0 : wr.cell? ⟨w.heap.size, 0, none⟩ = some (.slice (some ⟨b, o, none⟩) C.length c) := by rw [hgw.cell _ _ (by omega) (by omega)]; exact HLW.out.c0
            have e1 : wr.cell? ⟨b, o + i, none⟩ = some (.int .u16 (C.getD i 0 : Nat)) := by rw [hgw.cell _ _ (by omega) (by omega), newCell HBW.out _ _ hbl]; exact hcell i hit
            have hx := HT.out.le i
            have hadi := HPP.out i hit
            have HTK : Hid ((ad C n s).take i ++ [adE C k s i] = (ad C n s).take (i + 1)) := by
              have hh := HADG.out i hit
              unfold Hid
              rw [List.take_add_one, List.getElem?_eq_getElem (by rw [HLA.out]; exact hit)]
              rw [getD_lt _ (by rw [HLA.out]; exact hit)] at hh
              rw [hh]; rfl
            have hyle : adE C k s i ≤ 65535 := by
              have h1 : (32768 - C.getD i 0) / pp ≤ 32768 - C.getD i 0 := Nat.div_le_self _ _
              rw [hadi]; split; omega; split; omega; exact Nat.le_trans (Nat.sub_le _ _) (by omega)
            generalize hyy : adE C k s i = y at *
            clear hyy hcell hgw hlen
            generalize C.getD i 0 = x at *
            have HX : Hid (x ≤ 32768) := hx
            have b0 : 0 ≤ (i : Int) := by omega
            have b1 : (i : Int) < (C.length : Int) := by omega
            have b3 : (x : Int) ≤ 32768 := by omega
            have b4 : (0 : Int) < (pp : Int) := by omega
            have b5 : (pp : Int) ≤ 128 := by omega
            have d1 : ((32768 - x : Nat) : Int) / (pp : Int) = (((32768 - x) / pp : Nat) : Int) := (Int.natCast_ediv _ _).symm
            have d2 : (x : Int) / (pp : Int) = ((x / pp : Nat) : Int) := (Int.natCast_ediv _ _).symm
            rw [show ((32768 - x : Nat) : Int) = 32768 - (x : Int) from by omega] at d1
            have d3 : (32768 - x) / pp ≤ 32768 - x := Nat.div_le_self _ _
            have d4 : x / pp ≤ x := Nat.div_le_self _ _
            generalize (32768 - x) / pp = u1 at *
            generalize x / pp = u2 at *
            by_cases hl1 : i + 1 < C.length
            · have c4 : (i : Int) < (C.length : Int) - 1 := by omega
              rw [if_neg (by omega)] at hadi
              by_cases hsi : s ≤ i
              · have c5 : (s : Int) ≤ (i : Int) := by omega
                rw [if_pos hsi] at hadi
                have HV : Hid ((x : Int) + (u1 : Int) = (y : Int)) := by unfold Hid; omega
                have HVw : Hid (IntKind.u16.wrap ((x : Int) + (u1 : Int)) = (y : Int)) := by unfold Hid; rw [IntKind.wrap_u16]; omega
                have c6 : (u1 : Int) ≤ 32768 - (x : Int) := by omega
                clear hadi hyle hx d3 d4
                go_wp2_with (at_builtin; refine wpList_append_num _ (by rfl) _ _ (by rfl) (X + 1) i ((ad C n s).take i) (.slice ga i gc) _ y (by first | exact HV.out | exact HVw.out) HLEN.out (by have := HGW.out.own; rw [HLEN.out] at this; exact this) hsB (by omega) (by rfl) (by rfl) ?_; intro g cap w' how' hgr' hat'; have haf := HGW.out.after (by rw [HLEN.out]; exact hgr'); rw [HLEN.out] at haf; have z0 := haf.1; have z1 := haf.2.1; have z2 := haf.2.2; clear haf)
                have hst := HGW.out.step (y := y) (by rw [HLEN.out]; exact how') (by rw [HLEN.out]; exact hgr')
                rw [HTK.out, HLEN.out] at hst
                go_roundw
                case rel => exact ⟨i + 1, _, cap, by omega, by go_num, hst⟩
                case measure => simp [intOf]; omega
              · have c5 : ¬ (s : Int) ≤ (i : Int) := by omega
                rw [if_neg hsi] at hadi
                have HV : Hid ((x : Int) - (u2 : Int) = (y : Int)) := by unfold Hid; omega
                have HVw : Hid (IntKind.u16.wrap ((x : Int) - (u2 : Int)) = (y : Int)) := by unfold Hid; rw [IntKind.wrap_u16]; omega
                have c6 : (u2 : Int) ≤ (x : Int) := by omega
                clear hadi hyle hx d3 d4
                go_wp2_with (at_builtin; refine wpList_append_num _ (by rfl) _ _ (by rfl) (X + 1) i ((ad C n s).take i) (.slice ga i gc) _ y (by first | exact HV.out | exact HVw.out) HLEN.out (by have := HGW.out.own; rw [HLEN.out] at this; exact this) hsB (by omega) (by rfl) (by rfl) ?_; intro g cap w' how' hgr' hat'; have haf := HGW.out.after (by rw [HLEN.out]; exact hgr'); rw [HLEN.out] at haf; have z0 := haf.1; have z1 := haf.2.1; have z2 := haf.2.2; clear haf)
                have hst := HGW.out.step (y := y) (by rw [HLEN.out]; exact how') (by rw [HLEN.out]; exact hgr')
                rw [HTK.out, HLEN.out] at hst
                go_roundw
                case rel => exact ⟨i + 1, _, cap, by omega, by go_num, hst⟩
                case measure => simp [intOf]; omega
            · have c4 : ¬ (i : Int) < (C.length : Int) - 1 := by omega
              rw [if_pos (by omega)] at hadi
              have HV : Hid ((x : Int) = (y : Int)) := by unfold Hid; omega
              have HVw : Hid (IntKind.u16.wrap (x : Int) = (y : Int)) := by unfold Hid; rw [IntKind.wrap_u16]; omega
              clear hadi hyle hx d3 d4
              go_wp2_with (at_builtin; refine wpList_append_num _ (by rfl) _ _ (by rfl) (X + 1) i ((ad C n s).take i) (.slice ga i gc) _ y (by first | exact HV.out | exact HVw.out) HLEN.out (by have := HGW.out.own; rw [HLEN.out] at this; exact this) hsB (by omega) (by rfl) (by rfl) ?_; intro g cap w' how' hgr' hat'; have haf := HGW.out.after (by rw [HLEN.out]; exact hgr'); rw [HLEN.out] at haf; have z0 := haf.1; have z1 := haf.2.1; have z2 := haf.2.2; clear haf)
              have hst := HGW.out.step (y := y) (by rw [HLEN.out]; exact how') (by rw [HLEN.out]; exact hgr')
              rw [HTK.out, HLEN.out] at hst
              go_roundw
              case rel => exact ⟨i + 1, _, cap, by omega, by go_num, hst⟩
              case measure => simp [intOf]; omega
          · have hi' : i = C.length := by omega
            subst hi'
            have b1 : ¬ (C.length : Int) < (C.length : Int) := by omega
            rw [List.take_of_length_le (by rw [HLA.out]; exact Nat.le_refl _)] at hgw
            have z0 : wr.cell? ⟨w.heap.size + 1, 0, none⟩ = some (.slice none 0 0) := by rw [hgw.cell _ _ (by omega) (by omega)]; exact HZW.out.1
            have z1 : wr.cell? ⟨w.heap.size + 1, 1, none⟩ = some (.int .i64 0) := by rw [hgw.cell _ _ (by omega) (by omega)]; exact HZW.out.2.1
            have z2 : wr.frozen? ⟨w.heap.size + 1, 0, none⟩ = false := by rw [hgw.frozen _ _ (by omega) (by omega)]; exact HZW.out.2.2.1
            have z3 : wr.frozen? ⟨w.heap.size + 1, 1, none⟩ = false := by rw [hgw.frozen _ _ (by omega) (by omega)]; exact HZW.out.2.2.2
            obtain ⟨g, rfl, hgB⟩ : ∃ g, ga = some ⟨g, 0, none⟩ ∧ X + 1 ≤ g := by
              obtain ⟨g, cap, hv, hb, _⟩ := hgw.own.form (by rw [HLA.out]; omega)
              simp only [Value.slice.injEq] at hv
              exact ⟨g, hv.1, hb⟩
            have HSL : Hid (Ow wr (X + 1) g C.length gc (ad C n s)) := ⟨by have := hgw.own; rw [HLA.out] at this; exact this⟩
            have HBE : Hid (Below w.heap.size w wr) := hgw.below HBW.out (by omega)
            have HGB : Hid (X + 1 ≤ g) := hgB
            clear hgw hlen hgB
            go_wp2_with fail
            refine bodyPost_ret (v := .tuple #[.agg #[.slice (some ⟨g, 0, none⟩) C.length gc, .int .i64 (min (n + 1) 32)], .int .i64 0]) (by simp [results, Tryd.results71, go_sem, z0, z1]) rfl ⟨_, gc, by rw [HLA.out]; rfl, ?_, ?_⟩
            · have := HGB.out
              rw [HLA.out]
              exact ((HSL.out.far (by simp; omega) _).far (by simp; omega) _).mono (by omega)
            · exact below_set (below_set HBE.out (by simp) _) (by simp) _

end Go.Proofs.YtppanogpeengnaaDoor.L3
