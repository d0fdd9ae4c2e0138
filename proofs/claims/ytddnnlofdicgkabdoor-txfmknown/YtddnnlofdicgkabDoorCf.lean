/- DERIVED. The walks of Inverse and Forward, kind by kind. -/
import Derived.Test.YtddnnlofdicgkabDoorCe
namespace Go.Proofs.YtddnnlofdicgkabDoor
open Go.RowKit

/-- a row and no error -/
def N2 (w w' : World) (e : Ending) (C : List Int) : Prop := ∃ g, e = .returned (.tuple #[.slice (some ⟨g, 0, none⟩) C.length C.length, .int .i64 0]) ∧ w.heap.size ≤ g ∧ Ri 3 w' g C ∧ Below w.heap.size w w'
/-- ErrArg -/
def N0 (w w' : World) (e : Ending) : Prop := e = .returned (.tuple #[.slice none 0 0, .int .i64 2]) ∧ Below w.heap.size w w'

set_option maxRecDepth 100000 in
set_option maxHeartbeats 400000 in
theorem inv_fn_yes {w : World} {a : Option Addr} {c L : Nat} {k : Int} {C : List Int} {K : Nat} {W : Nat → Nat → Int} (hw : Wf w K C.length W) (hs : Si w a C) (hl : C.length ≤ 140737488355328) (hL : L ≤ 64) (hm : tkB L C = true)
    (ht : Calls Tryd.prog 38 #[.int .i64 (C.length : Int), .int .i64 k] w fun e w' => e = .returned (.agg #[.int .i64 (L : Int), .func (.func K) #[.int .i64 (C.length : Int)] #[]]) ∧ Below w.heap.size w w') :
    Calls Tryd.prog 35 #[.int .i64 k, .slice a C.length c] w fun e w' => N2 w w' e (wr W C) := by
  have hst := run_store_func
  have hst2 := run_store_nilFunc
  have HS : Hid (Si w a C) := hs
  obtain ⟨l0, l1, l2, l3⟩ := tkB_yes hm
  have HM : Hid (Mst C 1048576) := l3
  have HW : Hid (Wf w K C.length W) := hw
  clear hw
  clear l3 l2
  have HTk : Hid (tkB L C = true) := hm
  have HT : Hid (Calls Tryd.prog 38 #[.int .i64 (C.length : Int), .int .i64 k] w fun e w' => e = .returned (.agg #[.int .i64 (L : Int), .func (.func K) #[.int .i64 (C.length : Int)] #[]]) ∧ Below w.heap.size w w') := by exact ht
  clear hs hm ht
  go_enter Tryd.func35, Tryd.ntmps35
  go_wp2_with (go_at_call 38; refine HT.out.mono ?_; rintro e w1 ⟨rfl, hb1⟩)
  have HV : Hid (Below w.heap.size w (w1.alloc (.cells #[.int .i64 (L : Int), .func (.func K) #[.int .i64 (C.length : Int)] #[]] 53))) := to_alloc hb1 _
  have HG : Hid (w1.heap.size < (w1.alloc (.cells #[.int .i64 (L : Int), .func (.func K) #[.int .i64 (C.length : Int)] #[]] 53)).heap.size) := by show _ < _; simp
  have v0 : (w1.alloc (.cells #[.int .i64 (L : Int), .func (.func K) #[.int .i64 (C.length : Int)] #[]] 53)).cell? ⟨w1.heap.size, 0, none⟩ = some (.int .i64 (L : Int)) := by simp [go_sem]
  have v1 : (w1.alloc (.cells #[.int .i64 (L : Int), .func (.func K) #[.int .i64 (C.length : Int)] #[]] 53)).cell? ⟨w1.heap.size, 1, none⟩ = some (.func (.func K) #[.int .i64 (C.length : Int)] #[]) := by simp [go_sem]
  generalize (w1.alloc (.cells #[.int .i64 (L : Int), .func (.func K) #[.int .i64 (C.length : Int)] #[]] 53)) = V at *
  have HC : Hid (Calls Tryd.prog 39 #[.agg #[.int .i64 (L : Int), .func (.func K) #[.int .i64 (C.length : Int)] #[]], .slice a C.length c] V fun e w' => e = .returned (.bool true) ∧ Below V.heap.size V w') := by
    have := takes_any (w := V) (f := .func (.func K) #[.int .i64 (C.length : Int)] #[]) (c := c) (HS.out.to HV.out) hL hl
    rw [HTk.out] at this
    exact this
  clear hb1
  refine HC.out.mono ?_
  rintro e w2 ⟨rfl, hb2⟩
  have x0 : w2.cell? ⟨w1.heap.size, 0, none⟩ = some (.int .i64 (L : Int)) := by rw [newCell hb2 _ _ HG.out]; exact v0
  have x1 : w2.cell? ⟨w1.heap.size, 1, none⟩ = some (.func (.func K) #[.int .i64 (C.length : Int)] #[]) := by rw [newCell hb2 _ _ HG.out]; exact v1
  have HD : Hid (Calls Tryd.prog 40 #[.agg #[.int .i64 (L : Int), .func (.func K) #[.int .i64 (C.length : Int)] #[]], .slice a C.length c] w2 fun e w' => N1 w2 w' e (wr W C)) := minv_fn (HS.out.to (below_to HV.out hb2)) rfl (by omega) (by omega) HM.out (HW.out.to (below_to HV.out hb2))
  have HB2 : Hid (Below w.heap.size w w2) := below_to HV.out hb2
  clear hb2
  go_wp2_with (go_at_call 40; refine HD.out.mono ?_; rintro e w3 ⟨g, rfl, hg, hr, hb3⟩)
  refine bodyPost_ret (v := .tuple #[.slice (some ⟨g, 0, none⟩) (wr W C).length (wr W C).length, .int .i64 0]) (by simp [results, Tryd.results35, go_sem]) rfl ?_
  exact ⟨g, rfl, Nat.le_trans HB2.out.size hg, hr, below_to HB2.out hb3⟩

set_option maxRecDepth 100000 in
set_option maxHeartbeats 400000 in
theorem inv_fn_no {w : World} {a : Option Addr} {c L : Nat} {k : Int} {C : List Int} {K : Nat} (hs : Si w a C) (hl : C.length ≤ 140737488355328) (hL : L ≤ 64) (hm : tkB L C = false)
    (ht : Calls Tryd.prog 38 #[.int .i64 (C.length : Int), .int .i64 k] w fun e w' => e = .returned (.agg #[.int .i64 (L : Int), .func (.func K) #[.int .i64 (C.length : Int)] #[]]) ∧ Below w.heap.size w w') :
    Calls Tryd.prog 35 #[.int .i64 k, .slice a C.length c] w fun e w' => N0 w w' e := by
  have hst := run_store_func
  have hst2 := run_store_nilFunc
  have HS : Hid (Si w a C) := hs
  have HTk : Hid (tkB L C = false) := hm
  have HT : Hid (Calls Tryd.prog 38 #[.int .i64 (C.length : Int), .int .i64 k] w fun e w' => e = .returned (.agg #[.int .i64 (L : Int), .func (.func K) #[.int .i64 (C.length : Int)] #[]]) ∧ Below w.heap.size w w') := by exact ht
  clear hs hm ht
  go_enter Tryd.func35, Tryd.ntmps35
  go_wp2_with (go_at_call 38; refine HT.out.mono ?_; rintro e w1 ⟨rfl, hb1⟩)
  have HV : Hid (Below w.heap.size w (w1.alloc (.cells #[.int .i64 (L : Int), .func (.func K) #[.int .i64 (C.length : Int)] #[]] 53))) := to_alloc hb1 _
  have HG : Hid (w1.heap.size < (w1.alloc (.cells #[.int .i64 (L : Int), .func (.func K) #[.int .i64 (C.length : Int)] #[]] 53)).heap.size) := by show _ < _; simp
  have v0 : (w1.alloc (.cells #[.int .i64 (L : Int), .func (.func K) #[.int .i64 (C.length : Int)] #[]] 53)).cell? ⟨w1.heap.size, 0, none⟩ = some (.int .i64 (L : Int)) := by simp [go_sem]
  have v1 : (w1.alloc (.cells #[.int .i64 (L : Int), .func (.func K) #[.int .i64 (C.length : Int)] #[]] 53)).cell? ⟨w1.heap.size, 1, none⟩ = some (.func (.func K) #[.int .i64 (C.length : Int)] #[]) := by simp [go_sem]
  generalize (w1.alloc (.cells #[.int .i64 (L : Int), .func (.func K) #[.int .i64 (C.length : Int)] #[]] 53)) = V at *
  have HC : Hid (Calls Tryd.prog 39 #[.agg #[.int .i64 (L : Int), .func (.func K) #[.int .i64 (C.length : Int)] #[]], .slice a C.length c] V fun e w' => e = .returned (.bool false) ∧ Below V.heap.size V w') := by
    have := takes_any (w := V) (f := .func (.func K) #[.int .i64 (C.length : Int)] #[]) (c := c) (HS.out.to HV.out) hL hl
    rw [HTk.out] at this
    exact this
  clear hb1
  refine HC.out.mono ?_
  rintro e w2 ⟨rfl, hb2⟩
  go_wp2_with fail
  refine bodyPost_ret (v := .tuple #[.slice none 0 0, .int .i64 2]) (by simp [results, Tryd.results35, go_sem]) rfl ?_
  exact ⟨rfl, below_to HV.out hb2⟩

set_option maxRecDepth 100000 in
set_option maxHeartbeats 400000 in
theorem inv_nil_yes {w : World} {a : Option Addr} {c L : Nat} {k : Int} {C : List Int} (hn : C.length = 4) (hs : Si w a C) (hl : C.length ≤ 140737488355328) (hL : L ≤ 64) (hm : tkB L C = true)
    (ht : Calls Tryd.prog 38 #[.int .i64 (C.length : Int), .int .i64 k] w fun e w' => e = .returned (.agg #[.int .i64 (L : Int), .nilFunc]) ∧ Below w.heap.size w w') :
    Calls Tryd.prog 35 #[.int .i64 k, .slice a C.length c] w fun e w' => N2 w w' e (whtI (C.getD 0 0) (C.getD 1 0) (C.getD 2 0) (C.getD 3 0)) := by
  have hst := run_store_func
  have hst2 := run_store_nilFunc
  have HS : Hid (Si w a C) := hs
  obtain ⟨l0, l1, l2, l3⟩ := tkB_yes hm
  have HM : Hid (Mst C 1048576) := l3
  clear l3 l2
  have HN : Hid (C.length = 4) := hn
  clear hn
  have HTk : Hid (tkB L C = true) := hm
  have HT : Hid (Calls Tryd.prog 38 #[.int .i64 (C.length : Int), .int .i64 k] w fun e w' => e = .returned (.agg #[.int .i64 (L : Int), .nilFunc]) ∧ Below w.heap.size w w') := by exact ht
  clear hs hm ht
  go_enter Tryd.func35, Tryd.ntmps35
  go_wp2_with (go_at_call 38; refine HT.out.mono ?_; rintro e w1 ⟨rfl, hb1⟩)
  have HV : Hid (Below w.heap.size w (w1.alloc (.cells #[.int .i64 (L : Int), .nilFunc] 53))) := to_alloc hb1 _
  have HG : Hid (w1.heap.size < (w1.alloc (.cells #[.int .i64 (L : Int), .nilFunc] 53)).heap.size) := by show _ < _; simp
  have v0 : (w1.alloc (.cells #[.int .i64 (L : Int), .nilFunc] 53)).cell? ⟨w1.heap.size, 0, none⟩ = some (.int .i64 (L : Int)) := by simp [go_sem]
  have v1 : (w1.alloc (.cells #[.int .i64 (L : Int), .nilFunc] 53)).cell? ⟨w1.heap.size, 1, none⟩ = some (.nilFunc) := by simp [go_sem]
  generalize (w1.alloc (.cells #[.int .i64 (L : Int), .nilFunc] 53)) = V at *
  have HC : Hid (Calls Tryd.prog 39 #[.agg #[.int .i64 (L : Int), .nilFunc], .slice a C.length c] V fun e w' => e = .returned (.bool true) ∧ Below V.heap.size V w') := by
    have := takes_any (w := V) (f := .nilFunc) (c := c) (HS.out.to HV.out) hL hl
    rw [HTk.out] at this
    exact this
  clear hb1
  refine HC.out.mono ?_
  rintro e w2 ⟨rfl, hb2⟩
  have x0 : w2.cell? ⟨w1.heap.size, 0, none⟩ = some (.int .i64 (L : Int)) := by rw [newCell hb2 _ _ HG.out]; exact v0
  have x1 : w2.cell? ⟨w1.heap.size, 1, none⟩ = some (.nilFunc) := by rw [newCell hb2 _ _ HG.out]; exact v1
  have HD : Hid (Calls Tryd.prog 40 #[.agg #[.int .i64 (L : Int), .nilFunc], .slice a C.length c] w2 fun e w' => N1 w2 w' e (whtI (C.getD 0 0) (C.getD 1 0) (C.getD 2 0) (C.getD 3 0))) := minv_nil (HS.out.to (below_to HV.out hb2)) HN.out HM.out
  have HB2 : Hid (Below w.heap.size w w2) := below_to HV.out hb2
  clear hb2
  go_wp2_with (go_at_call 40; refine HD.out.mono ?_; rintro e w3 ⟨g, rfl, hg, hr, hb3⟩)
  refine bodyPost_ret (v := .tuple #[.slice (some ⟨g, 0, none⟩) (whtI (C.getD 0 0) (C.getD 1 0) (C.getD 2 0) (C.getD 3 0)).length (whtI (C.getD 0 0) (C.getD 1 0) (C.getD 2 0) (C.getD 3 0)).length, .int .i64 0]) (by simp [results, Tryd.results35, go_sem]) rfl ?_
  exact ⟨g, rfl, Nat.le_trans HB2.out.size hg, hr, below_to HB2.out hb3⟩

set_option maxRecDepth 100000 in
set_option maxHeartbeats 400000 in
theorem inv_nil_no {w : World} {a : Option Addr} {c L : Nat} {k : Int} {C : List Int}  (hs : Si w a C) (hl : C.length ≤ 140737488355328) (hL : L ≤ 64) (hm : tkB L C = false)
    (ht : Calls Tryd.prog 38 #[.int .i64 (C.length : Int), .int .i64 k] w fun e w' => e = .returned (.agg #[.int .i64 (L : Int), .nilFunc]) ∧ Below w.heap.size w w') :
    Calls Tryd.prog 35 #[.int .i64 k, .slice a C.length c] w fun e w' => N0 w w' e := by
  have hst := run_store_func
  have hst2 := run_store_nilFunc
  have HS : Hid (Si w a C) := hs
  have HTk : Hid (tkB L C = false) := hm
  have HT : Hid (Calls Tryd.prog 38 #[.int .i64 (C.length : Int), .int .i64 k] w fun e w' => e = .returned (.agg #[.int .i64 (L : Int), .nilFunc]) ∧ Below w.heap.size w w') := by exact ht
  clear hs hm ht
  go_enter Tryd.func35, Tryd.ntmps35
  go_wp2_with (go_at_call 38; refine HT.out.mono ?_; rintro e w1 ⟨rfl, hb1⟩)
  have HV : Hid (Below w.heap.size w (w1.alloc (.cells #[.int .i64 (L : Int), .nilFunc] 53))) := to_alloc hb1 _
  have HG : Hid (w1.heap.size < (w1.alloc (.cells #[.int .i64 (L : Int), .nilFunc] 53)).heap.size) := by show _ < _; simp
  have v0 : (w1.alloc (.cells #[.int .i64 (L : Int), .nilFunc] 53)).cell? ⟨w1.heap.size, 0, none⟩ = some (.int .i64 (L : Int)) := by simp [go_sem]
  have v1 : (w1.alloc (.cells #[.int .i64 (L : Int), .nilFunc] 53)).cell? ⟨w1.heap.size, 1, none⟩ = some (.nilFunc) := by simp [go_sem]
  generalize (w1.alloc (.cells #[.int .i64 (L : Int), .nilFunc] 53)) = V at *
  have HC : Hid (Calls Tryd.prog 39 #[.agg #[.int .i64 (L : Int), .nilFunc], .slice a C.length c] V fun e w' => e = .returned (.bool false) ∧ Below V.heap.size V w') := by
    have := takes_any (w := V) (f := .nilFunc) (c := c) (HS.out.to HV.out) hL hl
    rw [HTk.out] at this
    exact this
  clear hb1
  refine HC.out.mono ?_
  rintro e w2 ⟨rfl, hb2⟩
  go_wp2_with fail
  refine bodyPost_ret (v := .tuple #[.slice none 0 0, .int .i64 2]) (by simp [results, Tryd.results35, go_sem]) rfl ?_
  exact ⟨rfl, below_to HV.out hb2⟩

set_option maxRecDepth 100000 in
set_option maxHeartbeats 400000 in
theorem fwd_fn_yes {w : World} {a : Option Addr} {c L : Nat} {k : Int} {C : List Int} {K : Nat} {W : Nat → Nat → Int} (hw : Wf w K C.length W) (hs : Si w a C) (hl : C.length ≤ 140737488355328) (hL : L ≤ 64) (hm : tkB L C = true)
    (ht : Calls Tryd.prog 38 #[.int .i64 (C.length : Int), .int .i64 k] w fun e w' => e = .returned (.agg #[.int .i64 (L : Int), .func (.func K) #[.int .i64 (C.length : Int)] #[]]) ∧ Below w.heap.size w w') :
    Calls Tryd.prog 37 #[.int .i64 k, .slice a C.length c] w fun e w' => N2 w w' e (wr (fun i k => W k i) C) := by
  have hst := run_store_func
  have hst2 := run_store_nilFunc
  have HS : Hid (Si w a C) := hs
  obtain ⟨l0, l1, l2, l3⟩ := tkB_yes hm
  have HM : Hid (Mst C 1048576) := l3
  have HW : Hid (Wf w K C.length W) := hw
  clear hw
  clear l3 l2
  have HTk : Hid (tkB L C = true) := hm
  have HT : Hid (Calls Tryd.prog 38 #[.int .i64 (C.length : Int), .int .i64 k] w fun e w' => e = .returned (.agg #[.int .i64 (L : Int), .func (.func K) #[.int .i64 (C.length : Int)] #[]]) ∧ Below w.heap.size w w') := by exact ht
  clear hs hm ht
  go_enter Tryd.func37, Tryd.ntmps37
  go_wp2_with (go_at_call 38; refine HT.out.mono ?_; rintro e w1 ⟨rfl, hb1⟩)
  have HV : Hid (Below w.heap.size w (w1.alloc (.cells #[.int .i64 (L : Int), .func (.func K) #[.int .i64 (C.length : Int)] #[]] 53))) := to_alloc hb1 _
  have HG : Hid (w1.heap.size < (w1.alloc (.cells #[.int .i64 (L : Int), .func (.func K) #[.int .i64 (C.length : Int)] #[]] 53)).heap.size) := by show _ < _; simp
  have v0 : (w1.alloc (.cells #[.int .i64 (L : Int), .func (.func K) #[.int .i64 (C.length : Int)] #[]] 53)).cell? ⟨w1.heap.size, 0, none⟩ = some (.int .i64 (L : Int)) := by simp [go_sem]
  have v1 : (w1.alloc (.cells #[.int .i64 (L : Int), .func (.func K) #[.int .i64 (C.length : Int)] #[]] 53)).cell? ⟨w1.heap.size, 1, none⟩ = some (.func (.func K) #[.int .i64 (C.length : Int)] #[]) := by simp [go_sem]
  generalize (w1.alloc (.cells #[.int .i64 (L : Int), .func (.func K) #[.int .i64 (C.length : Int)] #[]] 53)) = V at *
  have HC : Hid (Calls Tryd.prog 39 #[.agg #[.int .i64 (L : Int), .func (.func K) #[.int .i64 (C.length : Int)] #[]], .slice a C.length c] V fun e w' => e = .returned (.bool true) ∧ Below V.heap.size V w') := by
    have := takes_any (w := V) (f := .func (.func K) #[.int .i64 (C.length : Int)] #[]) (c := c) (HS.out.to HV.out) hL hl
    rw [HTk.out] at this
    exact this
  clear hb1
  refine HC.out.mono ?_
  rintro e w2 ⟨rfl, hb2⟩
  have x0 : w2.cell? ⟨w1.heap.size, 0, none⟩ = some (.int .i64 (L : Int)) := by rw [newCell hb2 _ _ HG.out]; exact v0
  have x1 : w2.cell? ⟨w1.heap.size, 1, none⟩ = some (.func (.func K) #[.int .i64 (C.length : Int)] #[]) := by rw [newCell hb2 _ _ HG.out]; exact v1
  have HD : Hid (Calls Tryd.prog 41 #[.agg #[.int .i64 (L : Int), .func (.func K) #[.int .i64 (C.length : Int)] #[]], .slice a C.length c] w2 fun e w' => N1 w2 w' e (wr (fun i k => W k i) C)) := mfwd_fn (HS.out.to (below_to HV.out hb2)) rfl (by omega) (by omega) HM.out (HW.out.to (below_to HV.out hb2))
  have HB2 : Hid (Below w.heap.size w w2) := below_to HV.out hb2
  clear hb2
  go_wp2_with (go_at_call 41; refine HD.out.mono ?_; rintro e w3 ⟨g, rfl, hg, hr, hb3⟩)
  refine bodyPost_ret (v := .tuple #[.slice (some ⟨g, 0, none⟩) (wr (fun i k => W k i) C).length (wr (fun i k => W k i) C).length, .int .i64 0]) (by simp [results, Tryd.results37, go_sem]) rfl ?_
  exact ⟨g, rfl, Nat.le_trans HB2.out.size hg, hr, below_to HB2.out hb3⟩

set_option maxRecDepth 100000 in
set_option maxHeartbeats 400000 in
theorem fwd_fn_no {w : World} {a : Option Addr} {c L : Nat} {k : Int} {C : List Int} {K : Nat} (hs : Si w a C) (hl : C.length ≤ 140737488355328) (hL : L ≤ 64) (hm : tkB L C = false)
    (ht : Calls Tryd.prog 38 #[.int .i64 (C.length : Int), .int .i64 k] w fun e w' => e = .returned (.agg #[.int .i64 (L : Int), .func (.func K) #[.int .i64 (C.length : Int)] #[]]) ∧ Below w.heap.size w w') :
    Calls Tryd.prog 37 #[.int .i64 k, .slice a C.length c] w fun e w' => N0 w w' e := by
  have hst := run_store_func
  have hst2 := run_store_nilFunc
  have HS : Hid (Si w a C) := hs
  have HTk : Hid (tkB L C = false) := hm
  have HT : Hid (Calls Tryd.prog 38 #[.int .i64 (C.length : Int), .int .i64 k] w fun e w' => e = .returned (.agg #[.int .i64 (L : Int), .func (.func K) #[.int .i64 (C.length : Int)] #[]]) ∧ Below w.heap.size w w') := by exact ht
  clear hs hm ht
  go_enter Tryd.func37, Tryd.ntmps37
  go_wp2_with (go_at_call 38; refine HT.out.mono ?_; rintro e w1 ⟨rfl, hb1⟩)
  have HV : Hid (Below w.heap.size w (w1.alloc (.cells #[.int .i64 (L : Int), .func (.func K) #[.int .i64 (C.length : Int)] #[]] 53))) := to_alloc hb1 _
  have HG : Hid (w1.heap.size < (w1.alloc (.cells #[.int .i64 (L : Int), .func (.func K) #[.int .i64 (C.length : Int)] #[]] 53)).heap.size) := by show _ < _; simp
  have v0 : (w1.alloc (.cells #[.int .i64 (L : Int), .func (.func K) #[.int .i64 (C.length : Int)] #[]] 53)).cell? ⟨w1.heap.size, 0, none⟩ = some (.int .i64 (L : Int)) := by simp [go_sem]
  have v1 : (w1.alloc (.cells #[.int .i64 (L : Int), .func (.func K) #[.int .i64 (C.length : Int)] #[]] 53)).cell? ⟨w1.heap.size, 1, none⟩ = some (.func (.func K) #[.int .i64 (C.length : Int)] #[]) := by simp [go_sem]
  generalize (w1.alloc (.cells #[.int .i64 (L : Int), .func (.func K) #[.int .i64 (C.length : Int)] #[]] 53)) = V at *
  have HC : Hid (Calls Tryd.prog 39 #[.agg #[.int .i64 (L : Int), .func (.func K) #[.int .i64 (C.length : Int)] #[]], .slice a C.length c] V fun e w' => e = .returned (.bool false) ∧ Below V.heap.size V w') := by
    have := takes_any (w := V) (f := .func (.func K) #[.int .i64 (C.length : Int)] #[]) (c := c) (HS.out.to HV.out) hL hl
    rw [HTk.out] at this
    exact this
  clear hb1
  refine HC.out.mono ?_
  rintro e w2 ⟨rfl, hb2⟩
  go_wp2_with fail
  refine bodyPost_ret (v := .tuple #[.slice none 0 0, .int .i64 2]) (by simp [results, Tryd.results37, go_sem]) rfl ?_
  exact ⟨rfl, below_to HV.out hb2⟩

set_option maxRecDepth 100000 in
set_option maxHeartbeats 400000 in
theorem fwd_nil_yes {w : World} {a : Option Addr} {c L : Nat} {k : Int} {C : List Int} (hn : C.length = 4) (hs : Si w a C) (hl : C.length ≤ 140737488355328) (hL : L ≤ 64) (hm : tkB L C = true)
    (ht : Calls Tryd.prog 38 #[.int .i64 (C.length : Int), .int .i64 k] w fun e w' => e = .returned (.agg #[.int .i64 (L : Int), .nilFunc]) ∧ Below w.heap.size w w') :
    Calls Tryd.prog 37 #[.int .i64 k, .slice a C.length c] w fun e w' => N2 w w' e (whtF (C.getD 0 0) (C.getD 1 0) (C.getD 2 0) (C.getD 3 0)) := by
  have hst := run_store_func
  have hst2 := run_store_nilFunc
  have HS : Hid (Si w a C) := hs
  obtain ⟨l0, l1, l2, l3⟩ := tkB_yes hm
  have HM : Hid (Mst C 1048576) := l3
  clear l3 l2
  have HN : Hid (C.length = 4) := hn
  clear hn
  have HTk : Hid (tkB L C = true) := hm
  have HT : Hid (Calls Tryd.prog 38 #[.int .i64 (C.length : Int), .int .i64 k] w fun e w' => e = .returned (.agg #[.int .i64 (L : Int), .nilFunc]) ∧ Below w.heap.size w w') := by exact ht
  clear hs hm ht
  go_enter Tryd.func37, Tryd.ntmps37
  go_wp2_with (go_at_call 38; refine HT.out.mono ?_; rintro e w1 ⟨rfl, hb1⟩)
  have HV : Hid (Below w.heap.size w (w1.alloc (.cells #[.int .i64 (L : Int), .nilFunc] 53))) := to_alloc hb1 _
  have HG : Hid (w1.heap.size < (w1.alloc (.cells #[.int .i64 (L : Int), .nilFunc] 53)).heap.size) := by show _ < _; simp
  have v0 : (w1.alloc (.cells #[.int .i64 (L : Int), .nilFunc] 53)).cell? ⟨w1.heap.size, 0, none⟩ = some (.int .i64 (L : Int)) := by simp [go_sem]
  have v1 : (w1.alloc (.cells #[.int .i64 (L : Int), .nilFunc] 53)).cell? ⟨w1.heap.size, 1, none⟩ = some (.nilFunc) := by simp [go_sem]
  generalize (w1.alloc (.cells #[.int .i64 (L : Int), .nilFunc] 53)) = V at *
  have HC : Hid (Calls Tryd.prog 39 #[.agg #[.int .i64 (L : Int), .nilFunc], .slice a C.length c] V fun e w' => e = .returned (.bool true) ∧ Below V.heap.size V w') := by
    have := takes_any (w := V) (f := .nilFunc) (c := c) (HS.out.to HV.out) hL hl
    rw [HTk.out] at this
    exact this
  clear hb1
  refine HC.out.mono ?_
  rintro e w2 ⟨rfl, hb2⟩
  have x0 : w2.cell? ⟨w1.heap.size, 0, none⟩ = some (.int .i64 (L : Int)) := by rw [newCell hb2 _ _ HG.out]; exact v0
  have x1 : w2.cell? ⟨w1.heap.size, 1, none⟩ = some (.nilFunc) := by rw [newCell hb2 _ _ HG.out]; exact v1
  have HD : Hid (Calls Tryd.prog 41 #[.agg #[.int .i64 (L : Int), .nilFunc], .slice a C.length c] w2 fun e w' => N1 w2 w' e (whtF (C.getD 0 0) (C.getD 1 0) (C.getD 2 0) (C.getD 3 0))) := mfwd_nil (HS.out.to (below_to HV.out hb2)) HN.out HM.out
  have HB2 : Hid (Below w.heap.size w w2) := below_to HV.out hb2
  clear hb2
  go_wp2_with (go_at_call 41; refine HD.out.mono ?_; rintro e w3 ⟨g, rfl, hg, hr, hb3⟩)
  refine bodyPost_ret (v := .tuple #[.slice (some ⟨g, 0, none⟩) (whtF (C.getD 0 0) (C.getD 1 0) (C.getD 2 0) (C.getD 3 0)).length (whtF (C.getD 0 0) (C.getD 1 0) (C.getD 2 0) (C.getD 3 0)).length, .int .i64 0]) (by simp [results, Tryd.results37, go_sem]) rfl ?_
  exact ⟨g, rfl, Nat.le_trans HB2.out.size hg, hr, below_to HB2.out hb3⟩

set_option maxRecDepth 100000 in
set_option maxHeartbeats 400000 in
theorem fwd_nil_no {w : World} {a : Option Addr} {c L : Nat} {k : Int} {C : List Int}  (hs : Si w a C) (hl : C.length ≤ 140737488355328) (hL : L ≤ 64) (hm : tkB L C = false)
    (ht : Calls Tryd.prog 38 #[.int .i64 (C.length : Int), .int .i64 k] w fun e w' => e = .returned (.agg #[.int .i64 (L : Int), .nilFunc]) ∧ Below w.heap.size w w') :
    Calls Tryd.prog 37 #[.int .i64 k, .slice a C.length c] w fun e w' => N0 w w' e := by
  have hst := run_store_func
  have hst2 := run_store_nilFunc
  have HS : Hid (Si w a C) := hs
  have HTk : Hid (tkB L C = false) := hm
  have HT : Hid (Calls Tryd.prog 38 #[.int .i64 (C.length : Int), .int .i64 k] w fun e w' => e = .returned (.agg #[.int .i64 (L : Int), .nilFunc]) ∧ Below w.heap.size w w') := by exact ht
  clear hs hm ht
  go_enter Tryd.func37, Tryd.ntmps37
  go_wp2_with (go_at_call 38; refine HT.out.mono ?_; rintro e w1 ⟨rfl, hb1⟩)
  have HV : Hid (Below w.heap.size w (w1.alloc (.cells #[.int .i64 (L : Int), .nilFunc] 53))) := to_alloc hb1 _
  have HG : Hid (w1.heap.size < (w1.alloc (.cells #[.int .i64 (L : Int), .nilFunc] 53)).heap.size) := by show _ < _; simp
  have v0 : (w1.alloc (.cells #[.int .i64 (L : Int), .nilFunc] 53)).cell? ⟨w1.heap.size, 0, none⟩ = some (.int .i64 (L : Int)) := by simp [go_sem]
  have v1 : (w1.alloc (.cells #[.int .i64 (L : Int), .nilFunc] 53)).cell? ⟨w1.heap.size, 1, none⟩ = some (.nilFunc) := by simp [go_sem]
  generalize (w1.alloc (.cells #[.int .i64 (L : Int), .nilFunc] 53)) = V at *
  have HC : Hid (Calls Tryd.prog 39 #[.agg #[.int .i64 (L : Int), .nilFunc], .slice a C.length c] V fun e w' => e = .returned (.bool false) ∧ Below V.heap.size V w') := by
    have := takes_any (w := V) (f := .nilFunc) (c := c) (HS.out.to HV.out) hL hl
    rw [HTk.out] at this
    exact this
  clear hb1
  refine HC.out.mono ?_
  rintro e w2 ⟨rfl, hb2⟩
  go_wp2_with fail
  refine bodyPost_ret (v := .tuple #[.slice none 0 0, .int .i64 2]) (by simp [results, Tryd.results37, go_sem]) rfl ?_
  exact ⟨rfl, below_to HV.out hb2⟩

end Go.Proofs.YtddnnlofdicgkabDoor
