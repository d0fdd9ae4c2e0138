/- DERIVED. The walks of transform and takes. -/
import Derived.Test.YtddnnlofdicgkabDoorCb
namespace Go.Proofs.YtddnnlofdicgkabDoor
open Go.RowKit

theorem run_store_func (fn : Fn) (x y : Array Value) (a : Addr) (m : Mode) (w : World) : (store a (.func fn x y) m).run Tryd.prog w = stored Tryd.prog w a (.func fn x y) m := run_store Tryd.prog w a _ m rfl
theorem run_store_nilFunc (a : Addr) (m : Mode) (w : World) : (store a .nilFunc m).run Tryd.prog w = stored Tryd.prog w a .nilFunc m := run_store Tryd.prog w a _ m rfl

set_option maxRecDepth 100000 in
set_option maxHeartbeats 400000 in
theorem tr_0 {w : World} {n : Nat} : Calls Tryd.prog 38 #[.int .i64 (n : Int), .int .i64 0] w fun e w' => e = .returned (.agg #[.int .i64 64, .func (.func 42) #[.int .i64 (n : Int)] #[]]) ∧ Below w.heap.size w w' := by
  have hst := run_store_func
  have hst2 := run_store_nilFunc
  go_enter Tryd.func38, Tryd.ntmps38
  go_wp2_with fail
  exact bodyPost_ret (v := .agg #[.int .i64 64, .func (.func 42) #[.int .i64 (n : Int)] #[]]) (by simp [results, Tryd.results38, go_sem]) rfl ⟨rfl, by go_grown⟩

set_option maxRecDepth 100000 in
set_option maxHeartbeats 400000 in
theorem tr_1 {w : World} {n : Nat} : Calls Tryd.prog 38 #[.int .i64 (n : Int), .int .i64 1] w fun e w' => e = .returned (.agg #[.int .i64 16, .func (.func 43) #[.int .i64 (n : Int)] #[]]) ∧ Below w.heap.size w w' := by
  have hst := run_store_func
  have hst2 := run_store_nilFunc
  go_enter Tryd.func38, Tryd.ntmps38
  go_wp2_with fail
  exact bodyPost_ret (v := .agg #[.int .i64 16, .func (.func 43) #[.int .i64 (n : Int)] #[]]) (by simp [results, Tryd.results38, go_sem]) rfl ⟨rfl, by go_grown⟩

set_option maxRecDepth 100000 in
set_option maxHeartbeats 400000 in
theorem tr_2 {w : World} {n : Nat} : Calls Tryd.prog 38 #[.int .i64 (n : Int), .int .i64 2] w fun e w' => e = .returned (.agg #[.int .i64 32, .func (.func 44) #[.int .i64 (n : Int)] #[]]) ∧ Below w.heap.size w w' := by
  have hst := run_store_func
  have hst2 := run_store_nilFunc
  go_enter Tryd.func38, Tryd.ntmps38
  go_wp2_with fail
  exact bodyPost_ret (v := .agg #[.int .i64 32, .func (.func 44) #[.int .i64 (n : Int)] #[]]) (by simp [results, Tryd.results38, go_sem]) rfl ⟨rfl, by go_grown⟩

set_option maxRecDepth 100000 in
set_option maxHeartbeats 400000 in
theorem tr_3 {w : World} {n : Nat} : Calls Tryd.prog 38 #[.int .i64 (n : Int), .int .i64 3] w fun e w' => e = .returned (.agg #[.int .i64 4, .nilFunc]) ∧ Below w.heap.size w w' := by
  have hst := run_store_func
  have hst2 := run_store_nilFunc
  go_enter Tryd.func38, Tryd.ntmps38
  go_wp2_with fail
  exact bodyPost_ret (v := .agg #[.int .i64 4, .nilFunc]) (by simp [results, Tryd.results38, go_sem]) rfl ⟨rfl, by go_grown⟩

set_option maxRecDepth 100000 in
set_option maxHeartbeats 400000 in
theorem tr_no {w : World} {n : Nat} {k : Int} (h : k < 0 ∨ 3 < k) : Calls Tryd.prog 38 #[.int .i64 (n : Int), .int .i64 k] w fun e w' => e = .returned (.agg #[.int .i64 0, .nilFunc]) ∧ Below w.heap.size w w' := by
  have h0 : (k == 0) = false := by rw [beq_eq_false_iff_ne]; omega
  have h1 : (k == 1) = false := by rw [beq_eq_false_iff_ne]; omega
  have h2 : (k == 2) = false := by rw [beq_eq_false_iff_ne]; omega
  have h3 : (k == 3) = false := by rw [beq_eq_false_iff_ne]; omega
  clear h
  have hst := run_store_func
  have hst2 := run_store_nilFunc
  go_enter Tryd.func38, Tryd.ntmps38
  go_wp2_with fail
  exact bodyPost_ret (v := .agg #[.int .i64 0, .nilFunc]) (by simp [results, Tryd.results38, go_sem]) rfl ⟨rfl, by go_grown⟩

/-- which lengths there are -/
def p2 (n : Nat) : Bool := n == 4 || n == 8 || n == 16 || n == 32 || n == 64
theorem and_self : ∀ n : Nat, n < 65 → 4 ≤ n → (bits .and .i64 (n : Int) ((n : Int) - 1) != 0) = !p2 n := by decide +kernel
/-- may a row be? -/
def tkB (L : Nat) (C : List Int) : Bool := decide (4 ≤ C.length) && decide (C.length ≤ L) && p2 C.length && (List.range C.length).all fun j => decide (-1048576 ≤ C.getD j 0) && decide (C.getD j 0 ≤ 1048576)
theorem tkB_yes {L : Nat} {C : List Int} (h : tkB L C = true) : 4 ≤ C.length ∧ C.length ≤ L ∧ p2 C.length = true ∧ Mst C 1048576 := by
  simp only [tkB, Bool.and_eq_true, decide_eq_true_eq, List.all_eq_true, List.mem_range] at h
  exact ⟨h.1.1.1, h.1.1.2, h.1.2, fun k hk => h.2 k hk⟩
theorem tkB_mk {L : Nat} {C : List Int} (h0 : 4 ≤ C.length) (h1 : C.length ≤ L) (h2 : p2 C.length = true) (h3 : Mst C 1048576) : tkB L C = true := by
  simp only [tkB, Bool.and_eq_true, decide_eq_true_eq, List.all_eq_true, List.mem_range]
  exact ⟨⟨⟨h0, h1⟩, h2⟩, fun k hk => h3 k hk⟩
theorem tkB_no {L : Nat} {C : List Int} (h : ¬ (4 ≤ C.length ∧ C.length ≤ L ∧ p2 C.length = true ∧ Mst C 1048576)) : tkB L C = false := by
  cases e : tkB L C with
  | false => rfl
  | true => exact (h (tkB_yes e)).elim

set_option maxRecDepth 100000 in
set_option maxHeartbeats 1000000 in
theorem takes_any {w : World} {a : Option Addr} {c L : Nat} {f : Value} {C : List Int} (hs : Si w a C) (hL : L ≤ 64) (hl : C.length ≤ 140737488355328) :
    Calls Tryd.prog 39 #[.agg #[.int .i64 (L : Int), f], .slice a C.length c] w fun e w' => e = .returned (.bool (tkB L C)) ∧ Below w.heap.size w w' := by
  by_cases h4 : C.length < 4
  · rw [tkB_no (fun k => by omega)]
    have g0 : (C.length : Int) < 4 := by omega
    go_enter Tryd.func39, Tryd.ntmps39
    go_wp2_with fail
    go_ret
    exact ⟨rfl, by go_grown⟩
  have g0 : ¬ (C.length : Int) < 4 := by omega
  by_cases hL2 : L < C.length
  · rw [tkB_no (fun k => by omega)]
    have g1 : (L : Int) < (C.length : Int) := by omega
    go_enter Tryd.func39, Tryd.ntmps39
    go_wp2_with fail
    go_ret
    exact ⟨rfl, by go_grown⟩
  have g1 : ¬ (L : Int) < (C.length : Int) := by omega
  have hp := and_self C.length (by omega) (by omega)
  have g2 : (C.length : Int) ≤ 64 := by omega
  have g3 : (0 : Int) ≤ (C.length : Int) := by omega
  cases h2 : p2 C.length with
  | false =>
    rw [h2] at hp
    rw [tkB_no (fun k => by rw [h2] at k; cases k.2.2.1)]
    have hp' : (bits .and .i64 (C.length : Int) ((C.length : Int) - 1) != 0) = true := hp
    clear hp h2
    go_enter Tryd.func39, Tryd.ntmps39
    go_wp2_with fail
    go_ret
    exact ⟨rfl, by go_grown⟩
  | true =>
    rw [h2] at hp
    have hp' : (bits .and .i64 (C.length : Int) ((C.length : Int) - 1) != 0) = false := hp
    obtain ⟨b, o, rfl, hbl, hc⟩ := hs.form (by omega)
    have HT : Hid (Mst C 1048576 → tkB L C = true) := fun h => tkB_mk (by omega) (by omega) h2 h
    have HN : Hid (¬ Mst C 1048576 → tkB L C = false) := fun h => tkB_no (fun k => h k.2.2.2)
    have HB : Hid (Below w.heap.size w (w.alloc (.cells #[.int .i64 (L : Int), f] 53))) := from_alloc _ _
    have HC : Hid (∀ j, j < C.length → (w.alloc (.cells #[.int .i64 (L : Int), f] 53)).cell? ⟨b, o + j, none⟩ = some (.int .i64 (C.getD j 0))) := fun j hj => by rw [newCell HB.out _ _ hbl]; exact hc j hj
    clear hp h2 hs hc
    generalize tkB L C = tk at *
    generalize hn : C.length = n at *
    go_enter Tryd.func39, Tryd.ntmps39
    go_wp2_with fail
    go_loop [27] (fun i => ∃ k : Nat, k ≤ n ∧ i = .int .i64 k ∧ Hid (∀ j, j < k → -1048576 ≤ C.getD j 0 ∧ C.getD j 0 ≤ 1048576)) (fun i => n - (intOf i).toNat)
    case atStart => exact ⟨0, by omega, rfl, fun j hj => by omega⟩
    case round =>
      obtain ⟨k, hk, rfl, HK⟩ := hrel
      by_cases hlt : k < n
      · have c0 := HC.out k hlt
        have b0 : 0 ≤ (k : Int) := by omega
        have b1 : (k : Int) < (n : Int) := by omega
        have HV : Hid (C.getD k 0 = C.getD k 0) := rfl
        generalize hv : C.getD k 0 = v at *
        have HW : Hid (C.getD k 0 = v) := hv
        clear hv
        by_cases v0 : v < -1048576
        · have HF : Hid (tk = false) := HN.out (fun h => by have := h k (by omega); rw [HW.out] at this; omega)
          go_wp2_with fail
          go_ret
          exact ⟨by rw [HF.out]; rfl, HB.out⟩
        · by_cases v1 : 1048576 < v
          · have HF : Hid (tk = false) := HN.out (fun h => by have := h k (by omega); rw [HW.out] at this; omega)
            go_wp2_with fail
            go_ret
            exact ⟨by rw [HF.out]; rfl, HB.out⟩
          · go_wp2_with fail
            go_round
            case rel => exact ⟨k + 1, by omega, by go_num, fun j hj => by
              by_cases e : j = k
              · rw [e, HW.out]; omega
              · exact HK.out j (by omega)⟩
            case measure => simp [intOf]; omega
      · have HF : Hid (tk = true) := HT.out (fun j hj => HK.out j (by omega))
        go_wp2_with fail
        go_ret
        exact ⟨by rw [HF.out]; rfl, HB.out⟩

end Go.Proofs.YtddnnlofdicgkabDoor
