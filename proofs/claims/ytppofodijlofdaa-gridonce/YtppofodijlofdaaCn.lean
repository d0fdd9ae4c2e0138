/- DERIVED. both, Skip, Inter. -/
import Derived.Test.YtppofodijlofdaaCm
namespace Go.Proofs.Ytppofodijlofdaa
open Go.RowKit

theorem enter_go {K : Nat} {fn : Func} (hf : Try.prog.funcs[K]? = some fn) (h1 : (fn.name == "runtime.NumGoroutine") = false) (h2 : fn.body.isNone = false) (xs : Array Value) (u : World) : (callFunc K xs).run Try.prog u = .ok (.enter K xs) u := by
  have h1' : ¬ fn.name = "runtime.NumGoroutine" := by simpa using h1
  have h2' : ¬ fn.body = none := by intro e; rw [e] at h2; cases h2
  simp [callFunc, go_sem, hf, h1', h2']
theorem ask_in {T : Rc} {X Y s : Int} (ht : TOk T) (h : ask T X Y s = true) : 0 ≤ X ∧ X ≤ 256 ∧ 0 ≤ Y ∧ Y ≤ 256 ∧ X % s = 0 ∧ Y % s = 0 := by
  unfold ask at h
  simp only [Bool.and_eq_true, decide_eq_true_eq] at h
  have h1 := has_of h.2.2
  have h2 := tile_b ht
  omega
set_option maxRecDepth 100000 in
theorem fSkip_any {w : World} {b : Bl} : Calls Try.prog 40 #[.agg b.cs.toArray] w fun e w' => e = .returned (.bool b.sk) ∧ Below w.heap.size w w' := by
  have HB : Hid (Below w.heap.size w (w.alloc (.cells b.cs.toArray 40))) := from_alloc _ _
  have c4 : (w.alloc (.cells b.cs.toArray 40)).cell? ⟨w.heap.size, 4, none⟩ = some (.bool b.sk) := by
    have := (Bc.box w b).at 4 _ rfl
    rwa [Nat.zero_add] at this
  go_enter Try.func40, Try.ntmps40
  go_wp2_with fail
  go_ret
  exact ⟨rfl, HB.out⟩
set_option maxRecDepth 100000 in
theorem fInter_any {w : World} {b : Bl} : Calls Try.prog 41 #[.agg b.cs.toArray] w fun e w' => e = .returned (.bool b.it) ∧ Below w.heap.size w w' := by
  have HB : Hid (Below w.heap.size w (w.alloc (.cells b.cs.toArray 40))) := from_alloc _ _
  have c4 : (w.alloc (.cells b.cs.toArray 40)).cell? ⟨w.heap.size, 5, none⟩ = some (.bool b.it) := by
    have := (Bc.box w b).at 5 _ rfl
    rwa [Nat.zero_add] at this
  go_enter Try.func41, Try.ntmps41
  go_wp2_with fail
  go_ret
  exact ⟨rfl, HB.out⟩
set_option maxRecDepth 100000 in
set_option maxHeartbeats 2000000 in
theorem both_ok {w : World} {p m K : Nat} {T : Rc} {v : Value} {L : List Bl} {X Y : Int} {q : Bl → Bool} (hg : Gd w p m T v L) (ha : ask T X Y 8 = true) (hL : L.length ≤ 1000000)
    (hK : ∀ (xs : Array Value) (u : World), (callFunc K xs).run Try.prog u = .ok (.enter K xs) u)
    (hf : ∀ u b, Calls Try.prog K #[.agg b.cs.toArray] u fun e w' => e = .returned (.bool (q b)) ∧ Below u.heap.size u w') :
    Calls Try.prog 39 #[.pointer (some ⟨p, 0, none⟩), .int .i64 X, .int .i64 Y, .func (.func K) #[] #[]] w fun e w' => e = .returned (.tuple #[.int .i64 ((cn q L X (Y - 1) : Nat) + (cn q L (X - 1) Y : Nat) : Int), .int .i64 0]) ∧ Below w.heap.size w w' := by
  obtain ⟨x0, x1, y0, y1, -, -⟩ := ask_in hg.tok ha
  have HN : Hid (Calls Try.prog 24 #[.pointer (some ⟨p, 0, none⟩)] w fun e w' => e = .returned (.bool false) ∧ w = w') := isNone_map hg.c5
  have HA : Hid (Calls Try.prog 36 #[.pointer (some ⟨p, 0, none⟩), .int .i64 X, .int .i64 Y, .int .i64 8] w fun e w' => e = .returned (.bool true) ∧ Below w.heap.size w w') := by rw [← ha]; exact mayAsk_any hg.cl hg.tok (by omega)
  have HC : Hid (∀ u X Y, Below w.heap.size w u → I64 X → I64 Y → Calls Try.prog 42 #[.pointer (some ⟨p, 0, none⟩), .int .i64 X, .int .i64 Y, .func (.func K) #[] #[]] u fun e w' => e = .returned (.int .i64 (cn q L X Y : Nat)) ∧ Below u.heap.size u w') := fun u X Y hb hx hy => count_0 (hg.to hb) hx hy hL hK (fun u b _ => hf u b)
  have HI : Hid (I64 X ∧ I64 Y ∧ I64 (X - 1) ∧ I64 (Y - 1)) := by unfold I64; show _ ∧ _; omega
  have h1 := cn_le q L X (Y - 1)
  have h2 := cn_le q L (X - 1) Y
  have b1 : ((cn q L X (Y - 1) : Nat) : Int) ≤ 1 := by omega
  have b2 : ((cn q L (X - 1) Y : Nat) : Int) ≤ 1 := by omega
  have b3 : (0 : Int) ≤ ((cn q L X (Y - 1) : Nat) : Int) := by omega
  have b4 : (0 : Int) ≤ ((cn q L (X - 1) Y : Nat) : Int) := by omega
  have HC1 : Hid (∀ u, Below w.heap.size w u → Calls Try.prog 42 #[.pointer (some ⟨p, 0, none⟩), .int .i64 X, .int .i64 (Y - 1), .func (.func K) #[] #[]] u fun e w' => e = .returned (.int .i64 (cn q L X (Y - 1) : Nat)) ∧ Below u.heap.size u w') := fun u hb => HC.out u _ _ hb HI.out.1 HI.out.2.2.2
  have HC2 : Hid (∀ u, Below w.heap.size w u → Calls Try.prog 42 #[.pointer (some ⟨p, 0, none⟩), .int .i64 (X - 1), .int .i64 Y, .func (.func K) #[] #[]] u fun e w' => e = .returned (.int .i64 (cn q L (X - 1) Y : Nat)) ∧ Below u.heap.size u w') := fun u hb => HC.out u _ _ hb HI.out.2.2.1 HI.out.2.1
  clear HC hg ha hK hf h1 h2 HI
  generalize ((cn q L X (Y - 1) : Nat) : Int) = n1 at *
  generalize ((cn q L (X - 1) Y : Nat) : Int) = n2 at *
  go_enter Try.func39, Try.ntmps39
  go_wp2_with ((with_reducible refine HN.out.mono ?_); rintro e w5 ⟨rfl, rfl⟩)
  refine HA.out.mono ?_
  rintro e w1 ⟨rfl, hb⟩
  have HB1 : Hid (Below w.heap.size w w1) := hb
  clear hb HA HN
  go_wp2_with fail
  refine (HC1.out _ HB1.out).mono ?_
  rintro e w2 ⟨rfl, hb⟩
  have HB2 : Hid (Below w.heap.size w w2) := below_to HB1.out hb
  clear hb
  go_wp2_with fail
  refine (HC2.out _ HB2.out).mono ?_
  rintro e w3 ⟨rfl, hb⟩
  have HB3 : Hid (Below w.heap.size w w3) := below_to HB2.out hb
  clear hb
  go_wp2_with fail
  go_ret2
  exact ⟨rfl, HB3.out⟩
set_option maxRecDepth 100000 in
set_option maxHeartbeats 2000000 in
theorem both_no {w : World} {p m : Nat} {T : Rc} {v fv : Value} {L : List Bl} {X Y : Int} (hg : Gd w p m T v L) (ha : ask T X Y 8 = false) :
    Calls Try.prog 39 #[.pointer (some ⟨p, 0, none⟩), .int .i64 X, .int .i64 Y, fv] w fun e w' => e = .returned (.tuple #[.int .i64 0, .int .i64 2]) ∧ Below w.heap.size w w' := by
  have HN : Hid (Calls Try.prog 24 #[.pointer (some ⟨p, 0, none⟩)] w fun e w' => e = .returned (.bool false) ∧ w = w') := isNone_map hg.c5
  have HA : Hid (Calls Try.prog 36 #[.pointer (some ⟨p, 0, none⟩), .int .i64 X, .int .i64 Y, .int .i64 8] w fun e w' => e = .returned (.bool false) ∧ Below w.heap.size w w') := by rw [← ha]; exact mayAsk_any hg.cl hg.tok (by omega)
  clear hg ha
  go_enter Try.func39, Try.ntmps39
  go_wp2_with ((with_reducible refine HN.out.mono ?_); rintro e w5 ⟨rfl, rfl⟩)
  refine HA.out.mono ?_
  rintro e w1 ⟨rfl, hb⟩
  have HB1 : Hid (Below w.heap.size w w1) := hb
  clear hb HA HN
  go_wp2_with fail
  go_ret2
  exact ⟨rfl, HB1.out⟩
set_option maxRecDepth 100000 in
theorem both_non {w : World} {v fv : Value} {X Y : Int} (h : Non w v) : Calls Try.prog 39 #[v, .int .i64 X, .int .i64 Y, fv] w fun e w' => e = .returned (.tuple #[.int .i64 0, .int .i64 1]) ∧ w = w' := by
  have HN : Hid (Calls Try.prog 24 #[v] w fun e w' => e = .returned (.bool true) ∧ w = w') := isNone_non h
  clear h
  go_enter Try.func39, Try.ntmps39
  go_wp2_with ((with_reducible refine HN.out.mono ?_); rintro e w5 ⟨rfl, rfl⟩)
  go_ret2
  exact ⟨rfl, rfl⟩
set_option maxRecDepth 100000 in
theorem skip_ok {w : World} {p m : Nat} {T : Rc} {v : Value} {L : List Bl} {X Y : Int} (hg : Gd w p m T v L) (ha : ask T X Y 8 = true) (hL : L.length ≤ 1000000) : Calls Try.prog 19 #[.pointer (some ⟨p, 0, none⟩), .int .i64 X, .int .i64 Y] w fun e w' => e = .returned (.tuple #[.int .i64 ((cn (fun b => b.sk) L X (Y - 1) : Nat) + (cn (fun b => b.sk) L (X - 1) Y : Nat) : Int), .int .i64 0]) ∧ Below w.heap.size w w' := by
  have HB : Hid (Calls Try.prog 39 #[.pointer (some ⟨p, 0, none⟩), .int .i64 X, .int .i64 Y, .func (.func 40) #[] #[]] w fun e w' => e = .returned (.tuple #[.int .i64 ((cn (fun b => b.sk) L X (Y - 1) : Nat) + (cn (fun b => b.sk) L (X - 1) Y : Nat) : Int), .int .i64 0]) ∧ Below w.heap.size w w') := both_ok hg ha hL (enter_go Try.func40 (by kernel_rfl) (by kernel_rfl)) (fun u b => fSkip_any)
  clear hg ha hL
  generalize ((cn (fun b => b.sk) L X (Y - 1) : Nat) + (cn (fun b => b.sk) L (X - 1) Y : Nat) : Int) = n at *
  go_enter Try.func19, Try.ntmps19
  go_wp2_with fail
  refine HB.out.mono ?_
  rintro e w1 ⟨rfl, hb⟩
  have HB1 : Hid (Below w.heap.size w w1) := hb
  clear hb HB
  go_wp2_with fail
  go_ret2
  exact ⟨rfl, HB1.out⟩
set_option maxRecDepth 100000 in
theorem skip_no {w : World} {p m : Nat} {T : Rc} {v : Value} {L : List Bl} {X Y : Int} (hg : Gd w p m T v L) (ha : ask T X Y 8 = false) : Calls Try.prog 19 #[.pointer (some ⟨p, 0, none⟩), .int .i64 X, .int .i64 Y] w fun e w' => e = .returned (.tuple #[.int .i64 0, .int .i64 2]) ∧ Below w.heap.size w w' := by
  have HB : Hid (Calls Try.prog 39 #[.pointer (some ⟨p, 0, none⟩), .int .i64 X, .int .i64 Y, .func (.func 40) #[] #[]] w fun e w' => e = .returned (.tuple #[.int .i64 0, .int .i64 2]) ∧ Below w.heap.size w w') := both_no hg ha
  clear hg ha
  go_enter Try.func19, Try.ntmps19
  go_wp2_with fail
  refine HB.out.mono ?_
  rintro e w1 ⟨rfl, hb⟩
  have HB1 : Hid (Below w.heap.size w w1) := hb
  clear hb HB
  go_wp2_with fail
  go_ret2
  exact ⟨rfl, HB1.out⟩
set_option maxRecDepth 100000 in
theorem skip_non {w : World} {v : Value} {X Y : Int} (h : Non w v) : Calls Try.prog 19 #[v, .int .i64 X, .int .i64 Y] w fun e w' => e = .returned (.tuple #[.int .i64 0, .int .i64 1]) ∧ w = w' := by
  have HB : Hid (Calls Try.prog 39 #[v, .int .i64 X, .int .i64 Y, .func (.func 40) #[] #[]] w fun e w' => e = .returned (.tuple #[.int .i64 0, .int .i64 1]) ∧ w = w') := both_non h
  clear h
  go_enter Try.func19, Try.ntmps19
  go_wp2_with fail
  refine HB.out.mono ?_
  rintro e w1 ⟨rfl, hb⟩
  have HB1 : Hid (w = w1) := hb
  clear hb HB
  go_wp2_with fail
  go_ret2
  exact ⟨rfl, HB1.out⟩
set_option maxRecDepth 100000 in
theorem inter_ok {w : World} {p m : Nat} {T : Rc} {v : Value} {L : List Bl} {X Y : Int} (hg : Gd w p m T v L) (ha : ask T X Y 8 = true) (hL : L.length ≤ 1000000) : Calls Try.prog 20 #[.pointer (some ⟨p, 0, none⟩), .int .i64 X, .int .i64 Y] w fun e w' => e = .returned (.tuple #[.int .i64 ((cn (fun b => b.it) L X (Y - 1) : Nat) + (cn (fun b => b.it) L (X - 1) Y : Nat) : Int), .int .i64 0]) ∧ Below w.heap.size w w' := by
  have HB : Hid (Calls Try.prog 39 #[.pointer (some ⟨p, 0, none⟩), .int .i64 X, .int .i64 Y, .func (.func 41) #[] #[]] w fun e w' => e = .returned (.tuple #[.int .i64 ((cn (fun b => b.it) L X (Y - 1) : Nat) + (cn (fun b => b.it) L (X - 1) Y : Nat) : Int), .int .i64 0]) ∧ Below w.heap.size w w') := both_ok hg ha hL (enter_go Try.func41 (by kernel_rfl) (by kernel_rfl)) (fun u b => fInter_any)
  clear hg ha hL
  generalize ((cn (fun b => b.it) L X (Y - 1) : Nat) + (cn (fun b => b.it) L (X - 1) Y : Nat) : Int) = n at *
  go_enter Try.func20, Try.ntmps20
  go_wp2_with fail
  refine HB.out.mono ?_
  rintro e w1 ⟨rfl, hb⟩
  have HB1 : Hid (Below w.heap.size w w1) := hb
  clear hb HB
  go_wp2_with fail
  go_ret2
  exact ⟨rfl, HB1.out⟩
set_option maxRecDepth 100000 in
theorem inter_no {w : World} {p m : Nat} {T : Rc} {v : Value} {L : List Bl} {X Y : Int} (hg : Gd w p m T v L) (ha : ask T X Y 8 = false) : Calls Try.prog 20 #[.pointer (some ⟨p, 0, none⟩), .int .i64 X, .int .i64 Y] w fun e w' => e = .returned (.tuple #[.int .i64 0, .int .i64 2]) ∧ Below w.heap.size w w' := by
  have HB : Hid (Calls Try.prog 39 #[.pointer (some ⟨p, 0, none⟩), .int .i64 X, .int .i64 Y, .func (.func 41) #[] #[]] w fun e w' => e = .returned (.tuple #[.int .i64 0, .int .i64 2]) ∧ Below w.heap.size w w') := both_no hg ha
  clear hg ha
  go_enter Try.func20, Try.ntmps20
  go_wp2_with fail
  refine HB.out.mono ?_
  rintro e w1 ⟨rfl, hb⟩
  have HB1 : Hid (Below w.heap.size w w1) := hb
  clear hb HB
  go_wp2_with fail
  go_ret2
  exact ⟨rfl, HB1.out⟩
set_option maxRecDepth 100000 in
theorem inter_non {w : World} {v : Value} {X Y : Int} (h : Non w v) : Calls Try.prog 20 #[v, .int .i64 X, .int .i64 Y] w fun e w' => e = .returned (.tuple #[.int .i64 0, .int .i64 1]) ∧ w = w' := by
  have HB : Hid (Calls Try.prog 39 #[v, .int .i64 X, .int .i64 Y, .func (.func 41) #[] #[]] w fun e w' => e = .returned (.tuple #[.int .i64 0, .int .i64 1]) ∧ w = w') := both_non h
  clear h
  go_enter Try.func20, Try.ntmps20
  go_wp2_with fail
  refine HB.out.mono ?_
  rintro e w1 ⟨rfl, hb⟩
  have HB1 : Hid (w = w1) := hb
  clear hb HB
  go_wp2_with fail
  go_ret2
  exact ⟨rfl, HB1.out⟩
end Go.Proofs.Ytppofodijlofdaa
