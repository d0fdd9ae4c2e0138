/- DERIVED. mayAsk, count, both, Skip, Inter. -/
import Derived.Test.YtppofodijlofdaaCl
namespace Go.Proofs.Ytppofodijlofdaa
open Go.RowKit

set_option maxRecDepth 100000 in
set_option maxHeartbeats 1000000 in
theorem mayAsk_any {w : World} {p : Nat} {T : Rc} {X Y s : Int} (hc : Cl4 w p T) (ht : TOk T) (hs : s ≠ 0) : Calls Try.prog 36 #[.pointer (some ⟨p, 0, none⟩), .int .i64 X, .int .i64 Y, .int .i64 s] w fun e w' => e = .returned (.bool (ask T X Y s)) ∧ Below w.heap.size w w' := by
  have HH : Hid (Calls Try.prog 46 #[.pointer (some ⟨p, 0, none⟩), .int .i64 X, .int .i64 Y] w fun e w' => e = .returned (.bool (hasT T X Y)) ∧ Below w.heap.size w w') := has_any hc ht
  unfold ask
  generalize hasT T X Y = q at *
  clear hc ht
  by_cases h1 : X % s = 0
  · rw [decide_eq_true h1]
    have g1 := tmod_yes h1
    by_cases h2 : Y % s = 0
    · rw [decide_eq_true h2]
      have g2 := tmod_yes h2
      clear h1 h2
      go_enter Try.func36, Try.ntmps36
      go_wp2_with fail
      refine HH.out.mono ?_
      rintro e w1 ⟨rfl, hb⟩
      have HB : Hid _ := hb
      clear hb
      go_wp2_with fail
      go_ret
      exact ⟨rfl, HB.out⟩
    · rw [decide_eq_false h2]
      have g2 := tmod_no h2
      clear h1 h2
      go_enter Try.func36, Try.ntmps36
      go_wp2_with fail
      go_ret
      exact ⟨rfl, Below.refl _ _⟩
  · rw [decide_eq_false h1]
    have g1 := tmod_no h1
    clear h1
    go_enter Try.func36, Try.ntmps36
    go_wp2_with fail
    go_ret
    exact ⟨rfl, Below.refl _ _⟩
set_option maxRecDepth 100000 in
set_option maxHeartbeats 2000000 in
theorem count_0 {w : World} {p m K : Nat} {T : Rc} {v : Value} {L : List Bl} {X Y : Int} {q : Bl → Bool} (hg : Gd w p m T v L) (hX : I64 X) (hY : I64 Y) (hL : L.length ≤ 1000000)
    (hK : ∀ (xs : Array Value) (u : World), (callFunc K xs).run Try.prog u = .ok (.enter K xs) u)
    (hf : ∀ u b, Below w.heap.size w u → Calls Try.prog K #[.agg b.cs.toArray] u fun e w' => e = .returned (.bool (q b)) ∧ Below u.heap.size u w') :
    Calls Try.prog 42 #[.pointer (some ⟨p, 0, none⟩), .int .i64 X, .int .i64 Y, .func (.func K) #[] #[]] w fun e w' => e = .returned (.int .i64 (cn q L X Y : Nat)) ∧ Below w.heap.size w w' := by
  have HA : Hid (Calls Try.prog 17 #[.pointer (some ⟨p, 0, none⟩), .int .i64 X, .int .i64 Y] w fun e w' => Aq w w' e (atB L X Y) (atK L X Y)) := at_any hg hX hY hL
  have HF : Hid (∀ u b r, Below w.heap.size w u → q b = r → Calls Try.prog K #[.agg b.cs.toArray] u fun e w' => e = .returned (.bool r) ∧ Below u.heap.size u w') := fun u b r hb h => by rw [← h]; exact hf u b hb
  have HC : Hid (cn q L X Y = if atK L X Y = true ∧ q (atB L X Y) = true then 1 else 0) := rfl
  clear hg hX hY hL hf
  generalize atB L X Y = b at *
  generalize atK L X Y = k at *
  generalize cn q L X Y = c at *
  go_enter Try.func42, Try.ntmps42
  go_wp2_with fail
  refine HA.out.mono ?_
  rintro e w1 ⟨rfl, hb⟩
  have HB1 : Hid (Below w.heap.size w w1) := hb
  have HB1' : Hid (∀ o, Below w.heap.size w (w1.alloc o)) := fun o => below_alloc hb (Nat.le_refl _) o
  have HSz : Hid (w.heap.size ≤ w1.heap.size) := hb.size
  clear hb HA
  have HO1 : Hid (Ob (w1.alloc (.cells bz.cs.toArray 40)) w1.heap.size bz) := Ob.new w1 bz rfl
  cases k
  · have HC0 : Hid (c = 0) := by show _ = _; rw [HC.out]; simp
    clear HC
    go_wp2_with (refine wpList_store_block (by rfl) _ _ (by rfl) w1.heap.size bz b HO1.out (by rfl) (by rfl) ?_; intro w2 hob hsw; have HW2 : Hid (Sw w1.heap.size _ w2) := hsw; clear hob hsw)
    go_ret
    exact ⟨by rw [HC0.out]; rfl, HW2.out.below (HB1'.out _) HSz.out⟩
  · cases hq : q b
    · have HFq : Hid (q b = false) := hq
      have HC0 : Hid (c = 0) := by show _ = _; rw [HC.out]; simp [hq]
      clear hq HC
      go_upto_region 2 with (refine wpList_store_block (by rfl) _ _ (by rfl) w1.heap.size bz b HO1.out (by rfl) (by rfl) ?_; intro w2 hob hsw; have HO2 : Hid (Ob w2 w1.heap.size b) := hob; have HB2 : Hid (Below w.heap.size w w2) := hsw.below (HB1'.out _) HSz.out; clear hob hsw)
      go_wp2_with (refine wpList_load_block (by rfl) _ (by rfl) w1.heap.size 0 (by rfl) b HO2.out.bc ?_)
      refine (HF.out _ _ _ HB2.out HFq.out).mono ?_
      rintro e w3 ⟨rfl, hb⟩
      have HB3 : Hid (Below w.heap.size w w3) := below_to HB2.out hb
      clear hb
      go_wp2_with fail
      go_ret
      exact ⟨by rw [HC0.out]; rfl, HB3.out⟩
    · have HFq : Hid (q b = true) := hq
      have HC0 : Hid (c = 1) := by show _ = _; rw [HC.out]; simp [hq]
      clear hq HC
      go_upto_region 2 with (refine wpList_store_block (by rfl) _ _ (by rfl) w1.heap.size bz b HO1.out (by rfl) (by rfl) ?_; intro w2 hob hsw; have HO2 : Hid (Ob w2 w1.heap.size b) := hob; have HB2 : Hid (Below w.heap.size w w2) := hsw.below (HB1'.out _) HSz.out; clear hob hsw)
      go_wp2_with (refine wpList_load_block (by rfl) _ (by rfl) w1.heap.size 0 (by rfl) b HO2.out.bc ?_)
      refine (HF.out _ _ _ HB2.out HFq.out).mono ?_
      rintro e w3 ⟨rfl, hb⟩
      have HB3 : Hid (Below w.heap.size w w3) := below_to HB2.out hb
      clear hb
      go_wp2_with fail
      go_ret
      exact ⟨by rw [HC0.out]; rfl, HB3.out⟩
end Go.Proofs.Ytppofodijlofdaa
