/- DERIVED. Several texts in one: What the document's Code refuses; both Signs. What the program's Code refuses; its Sign. -/
import Derived.Test.YtkmnpechhdendaaGreatDoorF1
import Derived.Test.YtkmnpechhdendaaGreatDoorY5
namespace Go.Proofs.YtkmnpechhdendaaGreatDoor
open Go.RowKit L3

set_option maxRecDepth 100000 in
set_option maxHeartbeats 2000000 in
theorem asked_nz {w : World} {pv : Value} {z pl sg : Int} {la : Option Addr} {len lc : Nat} (hz : L10.Nz z) :
    Calls Tryz.prog 43 #[pv, .int .i64 z, .int .i64 pl, .int .i64 sg, .slice la len lc] w fun e w' => e = .returned (.bool false) ∧ w' = w := by
  have HSd : Hid (Calls Tryz.prog 44 #[.int .i64 z] w fun e w' => e = .returned (.int .i64 0) ∧ w = w') := L10.side_no hz
  clear hz
  go_enter Tryz.func43, Tryz.ntmps43
  go_wp2_with fail
  refine HSd.out.mono ?_
  rintro e w1 ⟨rfl, rfl⟩
  go_wp2_with fail
  go_ret
  exact ⟨rfl, rfl⟩
set_option maxRecDepth 100000 in
set_option maxHeartbeats 2000000 in
theorem asked_kind {w : World} {pv : Value} {z pl sg : Int} {n : Nat} {la : Option Addr} {len lc : Nat} (hz : L10.Sz z n) (h : ¬ (0 ≤ pl ∧ pl ≤ 2 ∧ 0 ≤ sg ∧ sg ≤ 2)) :
    Calls Tryz.prog 43 #[pv, .int .i64 z, .int .i64 pl, .int .i64 sg, .slice la len lc] w fun e w' => e = .returned (.bool false) ∧ w' = w := by
  have HSd : Hid (Calls Tryz.prog 44 #[.int .i64 z] w fun e w' => e = .returned (.int .i64 (n : Int)) ∧ w = w') := L10.side_yes hz
  have hn : 4 ≤ n := hz.sd.lo
  have n0 : ((n : Int) == 0) = false := by rw [beq_eq_false_iff_ne]; omega
  have hc : pl < 0 ∨ (¬ pl < 0 ∧ 2 < pl) ∨ (¬ pl < 0 ∧ ¬ 2 < pl ∧ sg < 0) ∨ (¬ pl < 0 ∧ ¬ 2 < pl ∧ ¬ sg < 0 ∧ 2 < sg) := by omega
  clear hz h hn
  rcases hc with h1 | ⟨h1, h2⟩ | ⟨h1, h2, h3⟩ | ⟨h1, h2, h3, h4⟩
  all_goals
    go_enter Tryz.func43, Tryz.ntmps43
    go_wp2_with fail
    refine HSd.out.mono ?_
    rintro e w1 ⟨rfl, rfl⟩
    go_wp2_with fail
    go_ret
    exact ⟨rfl, rfl⟩
set_option maxRecDepth 100000 in
set_option maxHeartbeats 2000000 in
theorem asked_len {w : World} {lo x : Nat} {O : Nat → Prop} {s : Cs} (h : Fc w lo x O s) (hW : s.W = true) {z : Int} {n : Nat} (hz : L10.Sz z n) {pl sg : Nat} (hp : pl ≤ 2) (hs : sg ≤ 2) {la : Option Addr} {len lc : Nat} (hl : len ≠ n * n) :
    Calls Tryz.prog 43 #[.pointer (some ⟨x, 0, none⟩), .int .i64 z, .int .i64 (pl : Int), .int .i64 (sg : Int), .slice la len lc] w fun e w' => e = .returned (.bool false) ∧ w' = w := by
  have hq : n * n ≤ 1024 := hz.sd.sq
  have hn : 4 ≤ n := hz.sd.lo
  have HSd : Hid (Calls Tryz.prog 44 #[.int .i64 z] w fun e w' => e = .returned (.int .i64 (n : Int)) ∧ w = w') := L10.side_yes hz
  have HWr : Hid (Calls Tryz.prog 46 #[.pointer (some ⟨x, 0, none⟩)] w fun e w' => e = .returned (.bool true) ∧ w' = w) := by have := fwrites_fc h; rw [hW] at this; exact this
  have n0 : ((n : Int) == 0) = false := by rw [beq_eq_false_iff_ne]; omega
  have p0 : ¬ (pl : Int) < 0 := by omega
  have p1 : ¬ (2 : Int) < (pl : Int) := by omega
  have s0 : ¬ (sg : Int) < 0 := by omega
  have s1 : ¬ (2 : Int) < (sg : Int) := by omega
  obtain ⟨q, hqn⟩ : ∃ q, n * n = q := ⟨_, rfl⟩
  have hqi : (n : Int) * (n : Int) = (q : Int) := by rw [← hqn]; simp
  rw [hqn] at hl
  have hwq := wrap_small (x := (q : Int)) (by omega) (by omega)
  have hne : ((len : Int) == (q : Int)) = false := by rw [beq_eq_false_iff_ne]; omega
  clear h hz hp hs hq hn hl hqn
  go_enter Tryz.func43, Tryz.ntmps43
  go_wp2_with fail
  refine HSd.out.mono ?_
  rintro e w1 ⟨rfl, rfl⟩
  go_wp2_with fail
  refine HWr.out.mono ?_
  rintro e w1 ⟨rfl, rfl⟩
  go_wp2_with fail
  go_ret
  exact ⟨rfl, rfl⟩
set_option maxRecDepth 100000 in
set_option maxHeartbeats 2000000 in
theorem asked_amt {w : World} {lo x : Nat} {O : Nat → Prop} {s : Cs} (h : Fc w lo x O s) (hW : s.W = true) {z : Int} {n : Nat} (hz : L10.Sz z n) {pl sg : Nat} (hp : pl ≤ 2) (hs : sg ≤ 2) {lb lf lc : Nat} {L : List Int} (hc : ∀ p, p < n * n → w.cell? ⟨lb, lf + p, none⟩ = some (.int .i64 (L.getD p 0))) {f : Nat} (hf : f < n * n) (hf1 : ∀ p, p < f → -1048576 ≤ L.getD p 0 ∧ L.getD p 0 ≤ 1048576) (hf2 : L.getD f 0 < -1048576 ∨ 1048576 < L.getD f 0) :
    Calls Tryz.prog 43 #[.pointer (some ⟨x, 0, none⟩), .int .i64 z, .int .i64 (pl : Int), .int .i64 (sg : Int), .slice (some ⟨lb, lf, none⟩) (n * n) lc] w fun e w' => e = .returned (.bool false) ∧ w' = w := by
  have hq : n * n ≤ 1024 := hz.sd.sq
  have hn : 4 ≤ n := hz.sd.lo
  have HSd : Hid (Calls Tryz.prog 44 #[.int .i64 z] w fun e w' => e = .returned (.int .i64 (n : Int)) ∧ w = w') := L10.side_yes hz
  have HWr : Hid (Calls Tryz.prog 46 #[.pointer (some ⟨x, 0, none⟩)] w fun e w' => e = .returned (.bool true) ∧ w' = w) := by have := fwrites_fc h; rw [hW] at this; exact this
  have n0 : ((n : Int) == 0) = false := by rw [beq_eq_false_iff_ne]; omega
  have p0 : ¬ (pl : Int) < 0 := by omega
  have p1 : ¬ (2 : Int) < (pl : Int) := by omega
  have s0 : ¬ (sg : Int) < 0 := by omega
  have s1 : ¬ (2 : Int) < (sg : Int) := by omega
  obtain ⟨len, hqn⟩ : ∃ q, n * n = q := ⟨_, rfl⟩
  have hqi : (n : Int) * (n : Int) = (len : Int) := by rw [← hqn]; simp
  rw [hqn] at hc hf ⊢
  have hwq := wrap_small (x := (len : Int)) (by omega) (by omega)
  have hne : ((len : Int) == (len : Int)) = true := by simp
  have HC : Hid (∀ p, p < len → w.cell? ⟨lb, lf + p, none⟩ = some (.int .i64 (L.getD p 0))) := hc
  have HR : Hid (∀ p, p < f → -1048576 ≤ L.getD p 0 ∧ L.getD p 0 ≤ 1048576) := hf1
  have HF : Hid (f < len ∧ (L.getD f 0 < -1048576 ∨ 1048576 < L.getD f 0)) := ⟨hf, hf2⟩
  have hq2 : (len : Int) ≤ 1024 := by omega
  clear h hz hp hs hq hn hc hqn hf hf1 hf2
  go_enter Tryz.func43, Tryz.ntmps43
  go_wp2_with fail
  refine HSd.out.mono ?_
  rintro e w1 ⟨rfl, rfl⟩
  go_wp2_with fail
  refine HWr.out.mono ?_
  rintro e w1 ⟨rfl, hw1⟩
  obtain rfl : w = w1 := hw1.symm
  clear hw1
  go_wp2_with fail
  go_loopw [12] (fun i wr => ∃ j : Nat, j ≤ f ∧ i = .int .i64 j ∧ wr = w) (fun i _ => len - (intOf i).toNat)
  case atStart => exact ⟨0, by omega, rfl, rfl⟩
  case round =>
    obtain ⟨j, hj, rfl, rfl⟩ := hrel
    have hfl := HF.out.1
    have c := HC.out j (by omega)
    have j0 : (0 : Int) ≤ (j : Int) := by omega
    have j1 : (j : Int) < (len : Int) := by omega
    by_cases hlt : j < f
    · obtain ⟨r0, r1⟩ := HR.out j hlt
      generalize L.getD j 0 = v at *
      have d0 : ¬ v < -1048576 := by omega
      have d1 : ¬ 1048576 < v := by omega
      have HJ : Hid (j < f) := hlt
      clear r0 r1 hlt hj hfl
      go_wp2_with fail
      have hlt := HJ.out
      have hfl := HF.out.1
      go_roundw
      case rel => exact ⟨j + 1, by omega, by go_num, (by first | trivial | rfl)⟩
      case measure => simp [intOf]; omega
    · obtain rfl : j = f := by omega
      have hv := HF.out.2
      generalize L.getD j 0 = v at *
      rcases hv with hv | hv
      · go_wp2_with fail
        go_ret
        exact ⟨rfl, rfl⟩
      · have d0 : ¬ v < -1048576 := by omega
        go_wp2_with fail
        go_ret
        exact ⟨rfl, rfl⟩
set_option maxRecDepth 100000 in
set_option maxHeartbeats 2000000 in
theorem rcode_no {w : World} {xa : Option Addr} {z pl sg : Int} {la : Option Addr} {len lc : Nat} (h : Calls Tryz.prog 43 #[.pointer xa, .int .i64 z, .int .i64 pl, .int .i64 sg, .slice la len lc] w fun e w' => e = .returned (.bool false) ∧ w' = w) :
    Calls Tryz.prog 12 #[.pointer xa, .int .i64 z, .int .i64 pl, .int .i64 sg, .slice la len lc] w fun e w' => e = .returned (.tuple #[.slice none 0 0, .int .i64 2]) ∧ w' = w := by
  have H : Hid (Calls Tryz.prog 43 #[.pointer xa, .int .i64 z, .int .i64 pl, .int .i64 sg, .slice la len lc] w fun e w' => e = .returned (.bool false) ∧ w' = w) := h
  clear h
  go_enter Tryz.func12, Tryz.ntmps12
  go_wp2_with fail
  refine H.out.mono ?_
  rintro e w1 ⟨rfl, hw1⟩
  obtain rfl : w = w1 := hw1.symm
  clear hw1
  go_wp2_with fail
  exact bodyPost_ret (v := .tuple #[.slice none 0 0, .int .i64 2]) (by simp [results, Tryz.results12, go_sem]) rfl ⟨rfl, rfl⟩
/-- what Sign answers -/
def sgnV (v : Int) : Int := if v = 0 then 0 else if v < 0 then 1 else 2
set_option maxRecDepth 100000 in
theorem rsign_none {w : World} {la : Option Addr} {lc : Nat} : Calls Tryz.prog 16 #[.slice la 0 lc] w fun e w' => e = .returned (.int .i64 0) ∧ w' = w := by
  go_enter Tryz.func16, Tryz.ntmps16
  go_wp2_with fail
  go_ret
  exact ⟨rfl, rfl⟩
set_option maxRecDepth 100000 in
theorem rsign_some {w : World} {lb lf len lc : Nat} {v : Int} (h0 : 0 < len) (hc : w.cell? ⟨lb, lf, none⟩ = some (.int .i64 v)) : Calls Tryz.prog 16 #[.slice (some ⟨lb, lf, none⟩) len lc] w fun e w' => e = .returned (.int .i64 (sgnV v)) ∧ w' = w := by
  have l0 : ((len : Int) == 0) = false := by rw [beq_eq_false_iff_ne]; omega
  have l1 : (0 : Int) < (len : Int) := by omega
  clear h0
  by_cases h1 : v = 0
  · rw [show sgnV v = 0 by unfold sgnV; rw [if_pos h1]]
    have hd : (v == 0) = true := by rw [h1]; rfl
    clear h1
    go_enter Tryz.func16, Tryz.ntmps16
    go_wp2_with fail
    go_ret
    exact ⟨rfl, rfl⟩
  · have hd : (v == 0) = false := by rw [beq_eq_false_iff_ne]; exact h1
    by_cases h2 : v < 0
    · rw [show sgnV v = 1 by unfold sgnV; rw [if_neg h1, if_pos h2]]
      clear h1
      go_enter Tryz.func16, Tryz.ntmps16
      go_wp2_with fail
      go_ret
      exact ⟨rfl, rfl⟩
    · rw [show sgnV v = 2 by unfold sgnV; rw [if_neg h1, if_neg h2]]
      clear h1
      go_enter Tryz.func16, Tryz.ntmps16
      go_wp2_with fail
      go_ret
      exact ⟨rfl, rfl⟩

end Go.Proofs.YtkmnpechhdendaaGreatDoor

namespace Go.Proofs.YtkmnpechhdendaaGreatDoor
open Go.RowKit L3

set_option maxRecDepth 100000 in
set_option maxHeartbeats 2000000 in
theorem writable_len {w : World} {la : Option Addr} {len lc q : Nat} (h : len ≠ q) :
    Calls Tryz.prog 41 #[.slice la len lc, .int .i64 (q : Int)] w fun e w' => e = .returned (.bool false) ∧ w' = w := by
  have hqq : ((len : Int) == (q : Int)) = false := by rw [beq_eq_false_iff_ne]; omega
  clear h
  go_enter Tryz.func41, Tryz.ntmps41
  go_wp2_with fail
  go_ret
  exact ⟨rfl, rfl⟩
set_option maxRecDepth 100000 in
set_option maxHeartbeats 2000000 in
theorem writable_amt {w : World} {lb lf lc q : Nat} {L : List Int} (hq : q ≤ 1024) (hc : ∀ p, p < q → w.cell? ⟨lb, lf + p, none⟩ = some (.int .i64 (L.getD p 0))) {f : Nat} (hf : f < q) (hf1 : ∀ p, p < f → -1048576 ≤ L.getD p 0 ∧ L.getD p 0 ≤ 1048576) (hf2 : L.getD f 0 < -1048576 ∨ 1048576 < L.getD f 0) :
    Calls Tryz.prog 41 #[.slice (some ⟨lb, lf, none⟩) q lc, .int .i64 (q : Int)] w fun e w' => e = .returned (.bool false) ∧ w' = w := by
  have HC : Hid (∀ p, p < q → w.cell? ⟨lb, lf + p, none⟩ = some (.int .i64 (L.getD p 0))) := hc
  have HL : Hid (∀ p, p < f → -1048576 ≤ L.getD p 0 ∧ L.getD p 0 ≤ 1048576) := hf1
  have HF : Hid (f < q ∧ (L.getD f 0 < -1048576 ∨ 1048576 < L.getD f 0)) := ⟨hf, hf2⟩
  have hqq : ((q : Int) != (q : Int)) = false := by simp
  clear hc hf hf1 hf2
  go_enter Tryz.func41, Tryz.ntmps41
  go_wp2_with fail
  go_loopw [13] (fun i wr => ∃ k : Nat, k ≤ f ∧ i = .int .i64 k ∧ wr = w) (fun i _ => q - (intOf i).toNat)
  case atStart => exact ⟨0, by omega, rfl, rfl⟩
  case round =>
    obtain ⟨k, hk, rfl, rfl⟩ := hrel
    have k0 : (0 : Int) ≤ (k : Int) := by omega
    have hfq := HF.out.1
    have k1 : (k : Int) < (q : Int) := by omega
    have c1 := HC.out k (by omega)
    by_cases hlt : k < f
    · obtain ⟨b1, b2⟩ := HL.out k hlt
      generalize L.getD k 0 = v at *
      have d1 : ¬ v < -1048576 := by omega
      have d2 : ¬ (1048576 : Int) < v := by omega
      clear hk
      go_wp2_with fail
      go_roundw
      case rel => exact ⟨k + 1, by omega, by go_num, (by first | trivial | rfl)⟩
      case measure => simp [intOf]; omega
    · obtain rfl : k = f := by omega
      have hv := HF.out.2
      generalize L.getD k 0 = v at *
      rcases hv with hv | hv
      · go_wp2_with fail
        go_ret
        exact ⟨rfl, rfl⟩
      · have d1 : ¬ v < -1048576 := by omega
        go_wp2_with fail
        go_ret
        exact ⟨rfl, rfl⟩
/-- what Code refuses leaves its coder as it was -/
def Kz (w w' : World) (lo x : Nat) (O : Nat → Prop) (s : Cs) (en : Ending) : Prop := ∃ O', Cd w' lo x O' s ∧ Trn O O' w w' ∧ Below lo w w' ∧ en = .returned (.tuple #[.slice none 0 0, .int .i64 2])
theorem Cd.lo_le {w : World} {lo x : Nat} {O : Nat → Prop} {s : Cs} (h : Cd w lo x O s) : lo ≤ w.heap.size := by
  cases hW2 : s.W
  · obtain ⟨_, _, _, _, hc, _⟩ := h.rc hW2
    exact Nat.le_trans hc.co.xlo (Nat.le_of_lt hc.co.low)
  · obtain ⟨_, _, _, _, hc, _⟩ := h.wc hW2
    exact Nat.le_trans hc.co.xlo (Nat.le_of_lt hc.co.low)
theorem bits_none {w : World} {lo x : Nat} {O : Nat → Prop} {s : Cs} (h : Cd w lo x O s) (hn : s.n ≤ 900000000) :
    Calls Tryz.prog 38 #[.pointer (some ⟨x, 0, none⟩), .int .i64 0, .int .i64 0] w fun e w' => ∃ b : Nat, e = .returned (.tuple #[.int .i64 (b : Int), .int .i64 0]) ∧ Go w w' lo x O s := by
  refine (bits_cd h (n := 0) (z := 0) ⟨by omega, by omega, fun _ => ⟨by omega, by simp⟩⟩).mono ?_
  rintro e w' ⟨rfl, hg⟩
  rw [biN_zero] at hg
  exact ⟨_, rfl, hg⟩
set_option maxRecDepth 100000 in
set_option maxHeartbeats 2000000 in
theorem kcode_nz {w : World} {lo x : Nat} {O : Nat → Prop} {s : Cs} (h : Cd w lo x O s) (hn : s.n ≤ 900000000) {z pl sg : Int} (hz : L10.Nz z) {la : Option Addr} {len lc : Nat} :
    Calls Tryz.prog 11 #[.pointer (some ⟨x, 0, none⟩), .int .i64 z, .int .i64 pl, .int .i64 sg, .slice la len lc] w fun en w' => Kz w w' lo x O s en := by
  have HB0 : Hid (Calls Tryz.prog 38 #[.pointer (some ⟨x, 0, none⟩), .int .i64 0, .int .i64 0] w fun e w' => ∃ b : Nat, e = .returned (.tuple #[.int .i64 (b : Int), .int .i64 0]) ∧ Go w w' lo x O s) := bits_none h hn
  have HOr : Hid (∀ u : World, Calls Tryz.prog 39 #[.int .i64 z] u fun e w' => e = .returned (.tuple #[.slice none 0 0, .int .i64 2]) ∧ u = w') := fun u => L10.order_no hz
  clear h hz
  go_enter Tryz.func11, Tryz.ntmps11
  go_wp2_with fail
  refine HB0.out.mono ?_
  rintro en w1 ⟨b, rfl, hg⟩
  have HG : Hid (Go w w1 lo x O s) := hg
  clear hg
  go_wp2_with fail
  refine (HOr.out _).mono ?_
  rintro en w2 ⟨rfl, rfl⟩
  go_wp2_with fail
  refine bodyPost_ret (v := .tuple #[.slice none 0 0, .int .i64 2]) (by simp [results, Tryz.results11, go_sem]) rfl ?_
  obtain ⟨O', h1, h2, h3⟩ := HG.out
  exact ⟨O', h1, h2, h3, rfl⟩
set_option maxRecDepth 100000 in
set_option maxHeartbeats 2000000 in
theorem kcode_kind {w : World} {lo x : Nat} {O : Nat → Prop} {s : Cs} (h : Cd w lo x O s) (hn : s.n ≤ 900000000) {z pl sg : Int} {n : Nat} (hz : L10.Sz z n) (hk : ¬ (0 ≤ pl ∧ pl ≤ 2 ∧ 0 ≤ sg ∧ sg ≤ 2)) {la : Option Addr} {len lc : Nat} :
    Calls Tryz.prog 11 #[.pointer (some ⟨x, 0, none⟩), .int .i64 z, .int .i64 pl, .int .i64 sg, .slice la len lc] w fun en w' => Kz w w' lo x O s en := by
  have HB0 : Hid (Calls Tryz.prog 38 #[.pointer (some ⟨x, 0, none⟩), .int .i64 0, .int .i64 0] w fun e w' => ∃ b : Nat, e = .returned (.tuple #[.int .i64 (b : Int), .int .i64 0]) ∧ Go w w' lo x O s) := bits_none h hn
  have HOr : Hid (∀ u : World, Calls Tryz.prog 39 #[.int .i64 z] u fun e w' => L10.On u w' e n) := fun u => L10.order_yes hz
  have HLw : Hid (lo ≤ w.heap.size) := h.lo_le
  have hc : pl < 0 ∨ (¬ pl < 0 ∧ 2 < pl) ∨ (¬ pl < 0 ∧ ¬ 2 < pl ∧ sg < 0) ∨ (¬ pl < 0 ∧ ¬ 2 < pl ∧ ¬ sg < 0 ∧ 2 < sg) := by omega
  clear h hz hk
  rcases hc with h1 | ⟨h1, h2⟩ | ⟨h1, h2, h3⟩ | ⟨h1, h2, h3, h4⟩
  all_goals
    go_enter Tryz.func11, Tryz.ntmps11
    go_wp2_with fail
    refine HB0.out.mono ?_
    rintro en w1 ⟨b, rfl, hg⟩
    have HG : Hid (Go w w1 lo x O s) := hg
    clear hg
    go_wp2_with fail
    refine (HOr.out _).mono ?_
    rintro en w2 ⟨ob, oc, rfl, ho2, hb2⟩
    have HB2 : Hid (Below w1.heap.size w1 w2) := hb2
    clear ho2 hb2
    go_wp2_with fail
    refine bodyPost_ret (v := .tuple #[.slice none 0 0, .int .i64 2]) (by simp [results, Tryz.results11, go_sem]) rfl ?_
    obtain ⟨O', g1, g2, g3⟩ := HG.out
    exact ⟨O', g1.to HB2.out, g2.trans (Trn.of HB2.out), g3.trans (HB2.out.mono (Nat.le_trans HLw.out g2.ke.size)), rfl⟩
set_option maxRecDepth 100000 in
set_option maxHeartbeats 2000000 in
theorem kcode_bad {w : World} {lo x : Nat} {O : Nat → Prop} {s : Cs} (h : Cd w lo x O s) (hn : s.n ≤ 900000000) (hW : s.W = true) {z : Int} {n : Nat} (hz : L10.Sz z n) {pl sg : Nat} (hp : pl ≤ 2) (hs : sg ≤ 2) {la : Option Addr} {len lc : Nat}
    (hw : ∀ (O1 : Nat → Prop) (w1 u : World), Trn O O1 w w1 → Below w1.heap.size w1 u → Calls Tryz.prog 41 #[.slice la len lc, .int .i64 ((n * n : Nat) : Int)] u fun e w' => e = .returned (.bool false) ∧ w' = u) :
    Calls Tryz.prog 11 #[.pointer (some ⟨x, 0, none⟩), .int .i64 z, .int .i64 (pl : Int), .int .i64 (sg : Int), .slice la len lc] w fun en w' => Kz w w' lo x O s en := by
  have hq : n * n ≤ 1024 := hz.sd.sq
  have HB0 : Hid (Calls Tryz.prog 38 #[.pointer (some ⟨x, 0, none⟩), .int .i64 0, .int .i64 0] w fun e w' => ∃ b : Nat, e = .returned (.tuple #[.int .i64 (b : Int), .int .i64 0]) ∧ Go w w' lo x O s) := bits_none h hn
  have HOr : Hid (∀ u : World, Calls Tryz.prog 39 #[.int .i64 z] u fun e w' => L10.On u w' e n) := fun u => L10.order_yes hz
  have HLw : Hid (lo ≤ w.heap.size) := h.lo_le
  obtain ⟨q, hqn⟩ : ∃ q, n * n = q := ⟨_, rfl⟩
  have HQ : Hid (n * n = q) := hqn
  rw [hqn] at hw
  have HWb : Hid (∀ (O1 : Nat → Prop) (w1 u : World), Trn O O1 w w1 → Below w1.heap.size w1 u → Calls Tryz.prog 41 #[.slice la len lc, .int .i64 (q : Int)] u fun e w' => e = .returned (.bool false) ∧ w' = u) := hw
  have HW : Hid (s.W = true) := hW
  have p0 : ¬ (pl : Int) < 0 := by omega
  have p1 : ¬ (2 : Int) < (pl : Int) := by omega
  have s0 : ¬ (sg : Int) < 0 := by omega
  have s1 : ¬ (2 : Int) < (sg : Int) := by omega
  clear h hz hw hW hp hs hq hqn
  go_enter Tryz.func11, Tryz.ntmps11
  go_wp2_with fail
  refine HB0.out.mono ?_
  rintro en w1 ⟨b, rfl, hg⟩
  have HG : Hid (Go w w1 lo x O s) := hg
  clear hg
  go_wp2_with fail
  refine (HOr.out _).mono ?_
  rintro en w2 ⟨ob, oc, rfl, ho2, hb2⟩
  rw [HQ.out]
  have HB2 : Hid (Below w1.heap.size w1 w2) := hb2
  clear ho2 hb2
  have HK : Hid (Cd w2 lo x (Classical.choose HG.out) s ∧ Trn O (Classical.choose HG.out) w w2 ∧ Below lo w w2 ∧ Trn O (Classical.choose HG.out) w w1) := by
    obtain ⟨g1, g2, g3⟩ := Classical.choose_spec HG.out
    exact ⟨g1.to HB2.out, g2.trans (Trn.of HB2.out), g3.trans (HB2.out.mono (Nat.le_trans HLw.out g2.ke.size)), g2⟩
  generalize Classical.choose HG.out = O1 at *
  have HWc : Hid (Calls Tryz.prog 41 #[.slice la len lc, .int .i64 (q : Int)] w2 fun e w' => e = .returned (.bool false) ∧ w' = w2) := HWb.out O1 w1 w2 HK.out.2.2.2 HB2.out
  have HWr : Hid (Calls Tryz.prog 40 #[.pointer (some ⟨x, 0, none⟩)] w2 fun e w' => e = .returned (.bool true) ∧ w' = w2) := by have := writes_cd HK.out.1; rw [HW.out] at this; exact this
  clear HWb HG
  go_wp2_with fail
  refine HWr.out.mono ?_
  rintro en w3 ⟨rfl, hw3⟩
  obtain rfl : w2 = w3 := hw3.symm
  clear hw3
  go_wp2_with fail
  refine HWc.out.mono ?_
  rintro en w3 ⟨rfl, hw3⟩
  obtain rfl : w2 = w3 := hw3.symm
  clear hw3
  go_wp2_with fail
  refine bodyPost_ret (v := .tuple #[.slice none 0 0, .int .i64 2]) (by simp [results, Tryz.results11, go_sem]) rfl ?_
  exact ⟨O1, HK.out.1, HK.out.2.1, HK.out.2.2.1, rfl⟩
set_option maxRecDepth 100000 in
theorem ksign_none {w : World} {la : Option Addr} {lc : Nat} : Calls Tryz.prog 15 #[.slice la 0 lc] w fun e w' => e = .returned (.int .i64 0) ∧ w' = w := by
  go_enter Tryz.func15, Tryz.ntmps15
  go_wp2_with fail
  go_ret
  exact ⟨rfl, rfl⟩
set_option maxRecDepth 100000 in
theorem ksign_some {w : World} {lb lf len lc : Nat} {v : Int} (h0 : 0 < len) (hc : w.cell? ⟨lb, lf, none⟩ = some (.int .i64 v)) : Calls Tryz.prog 15 #[.slice (some ⟨lb, lf, none⟩) len lc] w fun e w' => e = .returned (.int .i64 (sgnV v)) ∧ w' = w := by
  have l0 : ((len : Int) == 0) = false := by rw [beq_eq_false_iff_ne]; omega
  have l1 : (0 : Int) < (len : Int) := by omega
  clear h0
  by_cases h1 : v = 0
  · rw [show sgnV v = 0 by unfold sgnV; rw [if_pos h1]]
    have hd : (v == 0) = true := by rw [h1]; rfl
    clear h1
    go_enter Tryz.func15, Tryz.ntmps15
    go_wp2_with fail
    go_ret
    exact ⟨rfl, rfl⟩
  · have hd : (v == 0) = false := by rw [beq_eq_false_iff_ne]; exact h1
    by_cases h2 : v < 0
    · rw [show sgnV v = 1 by unfold sgnV; rw [if_neg h1, if_pos h2]]
      clear h1
      go_enter Tryz.func15, Tryz.ntmps15
      go_wp2_with fail
      go_ret
      exact ⟨rfl, rfl⟩
    · rw [show sgnV v = 2 by unfold sgnV; rw [if_neg h1, if_neg h2]]
      clear h1
      go_enter Tryz.func15, Tryz.ntmps15
      go_wp2_with fail
      go_ret
      exact ⟨rfl, rfl⟩

end Go.Proofs.YtkmnpechhdendaaGreatDoor
