/- DERIVED. isKnown, IndexFunc, ContainsFunc. -/
import Derived.Test.YtppofodijlofdaaCd
namespace Go.Proofs.Ytppofodijlofdaa
open Go.RowKit

set_option maxRecDepth 100000 in
set_option maxHeartbeats 1000000 in
theorem isKnown_any {w : World} {p m n : Nat} {f : Int → Int → Option Nat} {x y : Int} (c5 : w.cell? ⟨p, 5, none⟩ = some (.map (some m))) (hm : Mp w m n f) (hx : I64 x) (hy : I64 y) :
    Calls Try.prog 48 #[.pointer (some ⟨p, 0, none⟩), .agg #[.int .i64 x, .int .i64 y]] w fun e w' => e = .returned (.bool (f x y).isSome) ∧ Below w.heap.size w w' := by
  have HB : Hid (Below w.heap.size w (w.alloc (.cells #[.int .i64 x, .int .i64 y] 74))) := from_alloc _ _
  have hlt := World.block_lt_of_cell? w _ c5
  have d5 : (w.alloc (.cells #[.int .i64 x, .int .i64 y] 74)).cell? ⟨p, 5, none⟩ = some (.map (some m)) := by rw [newCell HB.out _ _ hlt]; exact c5
  have e0 : (w.alloc (.cells #[.int .i64 x, .int .i64 y] 74)).cell? ⟨w.heap.size, 0, none⟩ = some (.int .i64 x) := by simp [go_sem]
  have e1 : (w.alloc (.cells #[.int .i64 x, .int .i64 y] 74)).cell? ⟨w.heap.size, 1, none⟩ = some (.int .i64 y) := by simp [go_sem]
  have hl := fun k : Nat => ((hm.carry (HB.out.block m hm.lt)).carry (w' := (w.alloc (.cells #[.int .i64 x, .int .i64 y] 74)).drewN k) rfl).look hx hy
  unfold cl at hl
  generalize (((f x y).getD 0 : Nat) : Int) = k at hl
  generalize (f x y).isSome = q at *
  clear c5 hm hlt
  go_enter Try.func48, Try.ntmps48
  go_upto_region 1 with fail
  generalize hV : (w.alloc (.cells #[.int .i64 x, .int .i64 y] 74)) = V at *
  generalize hP : w.heap.size = z at *
  clear hV
  go_quiet (fail)
  go_wp2_with fail
  go_ret
  exact ⟨rfl, by rw [hP]; exact below_drewN HB.out _⟩
/-- the closure that asks whether a cell is known -/
def knF (p : Nat) : Value := .func (.func 48) #[.pointer (some ⟨p, 0, none⟩)] #[]
/-- whatever stands behind what a map and its grid are read from -/
theorem getD_mem2 {L : List (Int × Int)} {k : Nat} (h : k < L.length) : L.getD k (0, 0) ∈ L := by
  rw [List.getD_eq_getElem?_getD, List.getElem?_eq_getElem h]; exact List.getElem_mem h
set_option maxRecDepth 100000 in
set_option maxHeartbeats 2000000 in
theorem indexFunc_any {w : World} {p m n N c : Nat} {a : Option Addr} {f : Int → Int → Option Nat} {C : List (Int × Int)} (c5 : w.cell? ⟨p, 5, none⟩ = some (.map (some m))) (hm : Mp w m n f) (hs : Sc w a C) (hN : C.length = N) (hl : N ≤ 1000) (hC : ∀ q ∈ C, I64 q.1 ∧ I64 q.2) :
    Calls Try.prog 50 #[.slice a N c, knF p] w fun e w' => ∃ r : Int, e = .returned (.int .i64 r) ∧ decide (0 ≤ r) = C.any (fun q => (f q.1 q.2).isSome) ∧ Below w.heap.size w w' := by
  have HK : Hid (∀ u, Below w.heap.size w u → ∀ x y q, I64 x → I64 y → (f x y).isSome = q → Calls Try.prog 48 #[.pointer (some ⟨p, 0, none⟩), .agg #[.int .i64 x, .int .i64 y]] u fun e w' => e = .returned (.bool q) ∧ Below u.heap.size u w') := fun u hb x y q hx hy hq => by
    rw [← hq]
    exact isKnown_any (by rw [newCell hb _ _ (World.block_lt_of_cell? w _ c5)]; exact c5) (hm.carry (hb.block m hm.lt)) hx hy
  have HC : Hid (∀ q ∈ C, I64 q.1 ∧ I64 q.2) := hC
  have HS : Hid (Sc w a C) := hs
  have HN : Hid (C.length = N) := hN
  have nb : (N : Int) ≤ 1000 := by omega
  clear hC hs hm c5 hN
  unfold knF
  go_enter Try.func50, Try.ntmps50
  go_wp2_with fail
  go_loopw [8] (fun i wr => ∃ k : Nat, k ≤ N ∧ i = .int .i64 (k : Int) ∧ Below w.heap.size w wr ∧ Hid (∀ j, j < k → (f (C.getD j (0, 0)).1 (C.getD j (0, 0)).2).isSome = false)) (fun i _ => N - (intOf i).toNat)
  case atStart => exact ⟨0, by omega, by simp, Below.refl _ _, fun j hj => by omega⟩
  case round =>
    obtain ⟨k, hk, rfl, hb, HJ⟩ := hrel
    have HBr : Hid _ := hb
    by_cases hlt : k < N
    · obtain ⟨b, o, rfl, hbl, hcl⟩ : ∃ b o, a = some ⟨b, o, none⟩ ∧ b < w.heap.size ∧ _ := by
        rcases HS.out with h | h
        · have := HN.out; rw [h] at this; simp at this; omega
        · exact h
      obtain ⟨q0, q1⟩ := hcl k (by rw [HN.out]; exact hlt)
      rw [← newCell hb _ _ hbl] at q0 q1
      have hq := HC.out _ (getD_mem2 (L := C) (k := k) (by rw [HN.out]; exact hlt))
      have HM : Hid (C.getD k (0, 0) ∈ C) := getD_mem2 (by rw [HN.out]; exact hlt)
      generalize hp : C.getD k (0, 0) = q at *
      have HP : Hid (C.getD k (0, 0) = q) := hp
      obtain ⟨x, y⟩ := q
      simp only at q0 q1 hq
      obtain ⟨hx, hy⟩ := hq
      have HX : Hid (I64 x ∧ I64 y) := ⟨hx, hy⟩
      have k0 : (0 : Int) ≤ (k : Int) := by omega
      have k1 : (k : Int) < (N : Int) := by omega
      have HL : Hid (k < N) := hlt
      clear hx hy hp hcl hb hlt
      cases hf : (f x y).isSome
      · have HF : Hid ((f x y).isSome = false) := hf
        clear hf
        go_wp2_with fail
        refine (HK.out _ HBr.out x y _ HX.out.1 HX.out.2 HF.out).mono ?_
        rintro e w1 ⟨rfl, hb1⟩
        have HB1 : Hid (Below w.heap.size w w1) := below_to HBr.out hb1
        clear hb1
        go_wp2_with fail
        go_roundw
        case rel => exact ⟨k + 1, by have := HL.out; omega, by go_num, HB1.out, fun j hj => by
          by_cases e : j = k
          · rw [e, HP.out]; exact HF.out
          · exact HJ.out j (by omega)⟩
        case measure => have := HL.out; simp [intOf]; omega
      · have HF : Hid ((f x y).isSome = true) := hf
        clear hf
        go_wp2_with fail
        refine (HK.out _ HBr.out x y _ HX.out.1 HX.out.2 HF.out).mono ?_
        rintro e w1 ⟨rfl, hb1⟩
        have HB1 : Hid (Below w.heap.size w w1) := below_to HBr.out hb1
        clear hb1
        go_wp2_with fail
        go_ret
        refine ⟨(k : Int), rfl, ?_, HB1.out⟩
        rw [decide_eq_true (by omega), eq_comm, List.any_eq_true]
        exact ⟨_, HM.out, HF.out⟩
    · obtain rfl : k = N := by omega
      clear hlt hb
      go_wp2_with fail
      go_ret
      refine ⟨-1, rfl, ?_, HBr.out⟩
      rw [decide_eq_false (by omega), eq_comm, List.any_eq_false]
      intro q hq
      obtain ⟨j, hj, rfl⟩ := List.mem_iff_getElem.1 hq
      have := HJ.out j (by rw [← HN.out]; exact hj)
      rw [List.getD_eq_getElem?_getD, List.getElem?_eq_getElem hj] at this
      simpa using this
set_option maxRecDepth 100000 in
set_option maxHeartbeats 2000000 in
theorem containsFunc_any {w : World} {p m n N c : Nat} {a : Option Addr} {f : Int → Int → Option Nat} {C : List (Int × Int)} (c5 : w.cell? ⟨p, 5, none⟩ = some (.map (some m))) (hm : Mp w m n f) (hs : Sc w a C) (hN : C.length = N) (hl : N ≤ 1000) (hC : ∀ q ∈ C, I64 q.1 ∧ I64 q.2) :
    Calls Try.prog 47 #[.slice a N c, knF p] w fun e w' => e = .returned (.bool (C.any (fun q => (f q.1 q.2).isSome))) ∧ Below w.heap.size w w' := by
  have HK : Hid (Calls Try.prog 50 #[.slice a N c, knF p] w fun e w' => ∃ r : Int, e = .returned (.int .i64 r) ∧ decide (0 ≤ r) = C.any (fun q => (f q.1 q.2).isSome) ∧ Below w.heap.size w w') := indexFunc_any c5 hm hs hN hl hC
  generalize C.any (fun q => (f q.1 q.2).isSome) = q at *
  generalize knF p = fv at *
  clear c5 hm hs hN hC hl
  go_enter Try.func47, Try.ntmps47
  go_wp2_with fail
  refine HK.out.mono ?_
  rintro e w1 ⟨r, rfl, hr, hb⟩
  have HB : Hid _ := hb
  have HR : Hid _ := hr
  clear hb hr
  go_wp2_with fail
  go_ret
  exact ⟨by rw [← HR.out]; rfl, HB.out⟩
end Go.Proofs.Ytppofodijlofdaa
