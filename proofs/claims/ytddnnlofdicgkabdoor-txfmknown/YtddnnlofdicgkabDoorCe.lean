/- DERIVED. The walks of the methods inverse and forward. -/
import Derived.Test.YtddnnlofdicgkabDoorCb2
import Derived.Test.YtddnnlofdicgkabDoorCc
import Derived.Test.YtddnnlofdicgkabDoorCd
namespace Go.Proofs.YtddnnlofdicgkabDoor
open Go.RowKit

set_option maxRecDepth 100000 in
set_option maxHeartbeats 400000 in
theorem rev_any {u : World} {x n K k i : Nat} {W : Nat → Nat → Int} (hx : u.cell? ⟨x, 1, none⟩ = some (.func (.func K) #[.int .i64 (n : Int)] #[]))
    (hK : ∀ (xs : Array Value) (u : World), (callFunc K xs).run Tryd.prog u = .ok (.enter K xs) u)
    (hf : Calls Tryd.prog K #[.int .i64 (n : Int), .int .i64 (k : Int), .int .i64 (i : Int)] u fun e w' => e = .returned (.int .i64 (W k i)) ∧ w' = u) :
    Calls Tryd.prog 48 #[.int .i64 (i : Int), .int .i64 (k : Int), .pointer (some ⟨x, 0, none⟩)] u fun e w' => e = .returned (.int .i64 (W k i)) ∧ w' = u := by
  go_enter Tryd.func48, Tryd.ntmps48
  go_wp2_with (refine hf.mono ?_; rintro e w' ⟨rfl, rfl⟩)
  go_ret
  exact ⟨rfl, rfl⟩

theorem und34 : ∃ a b c, Tryd.prog.underlying 24 = some (.func a b c) := ⟨#[3, 3], #[3], false, by kernel_rfl⟩
theorem eqi_func (w : World) (d : Nat) (f : Fn) (x y : Array Value) : (Op.equalIn (d + 1) 24 (.func f x y) .nilFunc).run Tryd.prog w = .ok false w := by
  obtain ⟨a, b, c, h⟩ := und34
  simp [Op.equalIn, run_underlying h]
theorem eqi_nil (w : World) (d : Nat) : (Op.equalIn (d + 1) 24 .nilFunc .nilFunc).run Tryd.prog w = .ok true w := by
  obtain ⟨a, b, c, h⟩ := und34
  simp [Op.equalIn, run_underlying h]
theorem eqn_func (w : World) (f : Fn) (x y : Array Value) : (binOp .eql 24 (.func f x y) .nilFunc).run Tryd.prog w = .ok (.bool false) w := by
  simp only [binOp]
  simp [Op.equal, Op.maxDepth, eqi_func w 9999 f x y]
theorem eqn_nil (w : World) : (binOp .eql 24 .nilFunc .nilFunc).run Tryd.prog w = .ok (.bool true) w := by
  simp only [binOp]
  simp [Op.equal, Op.maxDepth, eqi_nil w 9999]

/-- a function that weighs -/
structure Wf (w : World) (K n : Nat) (W : Nat → Nat → Int) : Prop where
  enter : ∀ (xs : Array Value) (u : World), (callFunc K xs).run Tryd.prog u = .ok (.enter K xs) u
  low : ∀ k i, -16384 ≤ W k i ∧ W k i ≤ 16384
  call : ∀ u, Below w.heap.size w u → ∀ k i : Nat, k < n → i < n → Calls Tryd.prog K #[.int .i64 (n : Int), .int .i64 (k : Int), .int .i64 (i : Int)] u fun e w' => e = .returned (.int .i64 (W k i)) ∧ w' = u
theorem Wf.to {w w' : World} {K n : Nat} {W : Nat → Nat → Int} (h : Wf w K n W) (hb : Below w.heap.size w w') : Wf w' K n W :=
  ⟨h.enter, h.low, fun u hu => h.call u (below_to hb hu)⟩
theorem enter_go {K : Nat} {fn : Func} (hf : Tryd.prog.funcs[K]? = some fn) (h1 : (fn.name == "runtime.NumGoroutine") = false) (h2 : fn.body.isNone = false) (xs : Array Value) (u : World) : (callFunc K xs).run Tryd.prog u = .ok (.enter K xs) u := by
  have h1' : ¬ fn.name = "runtime.NumGoroutine" := by simpa using h1
  have h2' : ¬ fn.body = none := by intro e; rw [e] at h2; cases h2
  simp [callFunc, go_sem, hf, h1', h2']
theorem enter33 (xs : Array Value) (u : World) : (callFunc 42 xs).run Tryd.prog u = .ok (.enter 42 xs) u := enter_go Tryd.func42 (by kernel_rfl) (by kernel_rfl) xs u
theorem enter34 (xs : Array Value) (u : World) : (callFunc 43 xs).run Tryd.prog u = .ok (.enter 43 xs) u := enter_go Tryd.func43 (by kernel_rfl) (by kernel_rfl) xs u
theorem enter35 (xs : Array Value) (u : World) : (callFunc 44 xs).run Tryd.prog u = .ok (.enter 44 xs) u := enter_go Tryd.func44 (by kernel_rfl) (by kernel_rfl) xs u
theorem enter38 (xs : Array Value) (u : World) : (callFunc 48 xs).run Tryd.prog u = .ok (.enter 48 xs) u := enter_go Tryd.func48 (by kernel_rfl) (by kernel_rfl) xs u
theorem wf_dct {w : World} {n : Nat} (h : Qt w) (h0 : 0 < n) (hn : n ≤ 64) : Wf w 42 n (dctW n) :=
  ⟨enter33, fun k i => by have := dctW_le n k i; omega, fun u hu k i hk hi => dct_any (h.to hu) h0 hn hk hi⟩
theorem wf_adst {w : World} {n : Nat} (h : Qt w) (h0 : 0 < n) (hn : n ≤ 64) : Wf w 43 n (adstW n) :=
  ⟨enter34, fun k i => by have := adstW_le n k i; omega, fun u hu k i hk hi => adst_any (h.to hu) h0 hn hk hi⟩
theorem wf_ident {w : World} {n : Nat} : Wf w 44 n (idW n) :=
  ⟨enter35, fun k i => idW_le n k i, fun _ _ _ _ _ _ => ident_any⟩

set_option maxRecDepth 100000 in
set_option maxHeartbeats 400000 in
theorem minv_fn {w : World} {a : Option Addr} {c n K : Nat} {L : Int} {C : List Int} {W : Nat → Nat → Int} (hs : Si w a C) (hn : C.length = n) (h0 : 0 < n) (h1 : n ≤ 64) (hC : Mst C 1048576) (hw : Wf w K n W) :
    Calls Tryd.prog 40 #[.agg #[.int .i64 L, .func (.func K) #[.int .i64 (n : Int)] #[]], .slice a C.length c] w fun e w' => N1 w w' e (wr W C) := by
  have HB : Hid (Below w.heap.size w (w.alloc (.cells #[.int .i64 L, .func (.func K) #[.int .i64 (n : Int)] #[]] 53))) := from_alloc _ _
  have HS : Hid (Calls Tryd.prog 46 #[.slice a C.length c, .func (.func K) #[.int .i64 (n : Int)] #[]] (w.alloc (.cells #[.int .i64 L, .func (.func K) #[.int .i64 (n : Int)] #[]] 53)) fun e w' => N1 (w.alloc (.cells #[.int .i64 L, .func (.func K) #[.int .i64 (n : Int)] #[]] 53)) w' e (wr W C)) :=
    sums_dir (hs.to HB.out) hn h0 h1 hC hw.low hw.enter ((hw.to HB.out).call)
  clear hs hn h0 h1 hC hw
  have hq1 := eqn_func
  have hq2 := eqn_nil
  go_enter Tryd.func40, Tryd.ntmps40
  go_wp2_with (go_at_call 46; refine HS.out.mono ?_; rintro e w' ⟨g, rfl, hg, hr, hb⟩)
  go_ret
  exact ⟨g, rfl, Nat.le_trans (by simp) hg, hr, below_to HB.out hb⟩

set_option maxRecDepth 100000 in
set_option maxHeartbeats 400000 in
theorem minv_nil {w : World} {a : Option Addr} {c : Nat} {L : Int} {C : List Int} (hs : Si w a C) (hn : C.length = 4) (hC : Mst C 1048576) :
    Calls Tryd.prog 40 #[.agg #[.int .i64 L, .nilFunc], .slice a C.length c] w fun e w' => N1 w w' e (whtI (C.getD 0 0) (C.getD 1 0) (C.getD 2 0) (C.getD 3 0)) := by
  have HB : Hid (Below w.heap.size w (w.alloc (.cells #[.int .i64 L, .nilFunc] 53))) := from_alloc _ _
  have HS : Hid (Calls Tryd.prog 45 #[.slice a C.length c] (w.alloc (.cells #[.int .i64 L, .nilFunc] 53)) fun e w' => N1 (w.alloc (.cells #[.int .i64 L, .nilFunc] 53)) w' e (whtI (C.getD 0 0) (C.getD 1 0) (C.getD 2 0) (C.getD 3 0))) :=
    iwht_any (hs.to HB.out) hn hC
  clear hs hn hC
  have hq1 := eqn_func
  have hq2 := eqn_nil
  go_enter Tryd.func40, Tryd.ntmps40
  go_wp2_with (go_at_call 45; refine HS.out.mono ?_; rintro e w' ⟨g, rfl, hg, hr, hb⟩)
  go_ret
  exact ⟨g, rfl, Nat.le_trans (by simp) hg, hr, below_to HB.out hb⟩

set_option maxRecDepth 100000 in
set_option maxHeartbeats 400000 in
theorem mfwd_fn {w : World} {a : Option Addr} {c n K : Nat} {L : Int} {C : List Int} {W : Nat → Nat → Int} (hs : Si w a C) (hn : C.length = n) (h0 : 0 < n) (h1 : n ≤ 64) (hC : Mst C 1048576) (hw : Wf w K n W) :
    Calls Tryd.prog 41 #[.agg #[.int .i64 L, .func (.func K) #[.int .i64 (n : Int)] #[]], .slice a C.length c] w fun e w' => N1 w w' e (wr (fun i k => W k i) C) := by
  have HB : Hid (Below w.heap.size w (w.alloc (.cells #[.int .i64 L, .func (.func K) #[.int .i64 (n : Int)] #[]] 53))) := from_alloc _ _
  have HX : Hid ((w.alloc (.cells #[.int .i64 L, .func (.func K) #[.int .i64 (n : Int)] #[]] 53)).cell? ⟨w.heap.size, 1, none⟩ = some (.func (.func K) #[.int .i64 (n : Int)] #[])) := by show _ = _; simp
  have HZ : Hid ((w.alloc (.cells #[.int .i64 L, .func (.func K) #[.int .i64 (n : Int)] #[]] 53)).heap.size = w.heap.size + 1) := by show _ = _; simp
  have HS : Hid (Calls Tryd.prog 46 #[.slice a C.length c, .func (.func 48) #[] #[.pointer (some ⟨w.heap.size, 0, none⟩)]] (w.alloc (.cells #[.int .i64 L, .func (.func K) #[.int .i64 (n : Int)] #[]] 53)) fun e w' => N1 (w.alloc (.cells #[.int .i64 L, .func (.func K) #[.int .i64 (n : Int)] #[]] 53)) w' e (wr (fun i k => W k i) C)) :=
    sums_rev (W := fun i k => W k i) (hs.to HB.out) hn h0 h1 hC (fun k i => hw.low i k) enter38 (fun u hu k i hk hi => rev_any (by rw [newCell hu _ _ (by rw [HZ.out]; omega)]; exact HX.out) hw.enter ((hw.to HB.out).call u hu i k hi hk))
  clear hs hn h0 h1 hC hw HX HZ
  have hq1 := eqn_func
  have hq2 := eqn_nil
  go_enter Tryd.func41, Tryd.ntmps41
  go_wp2_with (go_at_call 46; refine HS.out.mono ?_; rintro e w' ⟨g, rfl, hg, hr, hb⟩)
  go_ret
  exact ⟨g, rfl, Nat.le_trans (by simp) hg, hr, below_to HB.out hb⟩

set_option maxRecDepth 100000 in
set_option maxHeartbeats 400000 in
theorem mfwd_nil {w : World} {a : Option Addr} {c : Nat} {L : Int} {C : List Int} (hs : Si w a C) (hn : C.length = 4) (hC : Mst C 1048576) :
    Calls Tryd.prog 41 #[.agg #[.int .i64 L, .nilFunc], .slice a C.length c] w fun e w' => N1 w w' e (whtF (C.getD 0 0) (C.getD 1 0) (C.getD 2 0) (C.getD 3 0)) := by
  have HB : Hid (Below w.heap.size w (w.alloc (.cells #[.int .i64 L, .nilFunc] 53))) := from_alloc _ _
  have HS : Hid (Calls Tryd.prog 47 #[.slice a C.length c] (w.alloc (.cells #[.int .i64 L, .nilFunc] 53)) fun e w' => N1 (w.alloc (.cells #[.int .i64 L, .nilFunc] 53)) w' e (whtF (C.getD 0 0) (C.getD 1 0) (C.getD 2 0) (C.getD 3 0))) :=
    fwht_any (hs.to HB.out) hn hC
  clear hs hn hC
  have hq1 := eqn_func
  have hq2 := eqn_nil
  go_enter Tryd.func41, Tryd.ntmps41
  go_wp2_with (go_at_call 47; refine HS.out.mono ?_; rintro e w' ⟨g, rfl, hg, hr, hb⟩)
  go_ret
  exact ⟨g, rfl, Nat.le_trans (by simp) hg, hr, below_to HB.out hb⟩

end Go.Proofs.YtddnnlofdicgkabDoor
