/- DERIVED. The walks of Check, the program's and the document's. -/
import Derived.Test.YtkmnpechhdendaaDoorRows
import Derived.Test.YtkmnpechhdendaaDoorL3Ga
namespace Go.Proofs.YtkmnpechhdendaaDoor.L3
open Go.RowKit

/-- what Check answers -/
noncomputable def ck (C : List Nat) (n : Int) : Int := open Classical in if TOk C n then 0 else 2
theorem ck_ok {C : List Nat} {n : Int} (h : TOk C n) : ck C n = 0 := by unfold ck; rw [if_pos h]
theorem ck_no {C : List Nat} {n : Int} (h : ¬ TOk C n) : ck C n = 2 := by unfold ck; rw [if_neg h]

set_option maxRecDepth 100000 in
set_option maxHeartbeats 1000000 in
theorem check_any {w : World} {a : Option Addr} {c : Nat} {C : List Nat} {n : Int} (h : Sl w .u16 a C) (hl : C.length ≤ 140737488355328) :
    Calls Tryd.prog 32 #[.agg #[.slice a C.length c, .int .i64 n]] w fun e w' => e = .returned (.int .i64 (ck C n)) ∧ Below w.heap.size w w' := by
  have HS : Hid (Sl w .u16 a C) := h
  clear h
  by_cases h0 : C.length < 2
  · have hc : ck C n = 2 := ck_no (fun k => by have := k.lo; omega)
    rw [hc]
    have h0' : (C.length : Int) < 2 := by omega
    go_enter Tryd.func32, Tryd.ntmps32
    go_wp2
    go_ret
    exact ⟨rfl, (Below.refl _ _).alloc (Nat.le_refl _) _⟩
  by_cases h1 : 16 < C.length
  · have hc : ck C n = 2 := ck_no (fun k => by have := k.hi; omega)
    rw [hc]
    have h1' : (16 : Int) < (C.length : Int) := by omega
    have h0' : ¬ (C.length : Int) < 2 := by omega
    go_enter Tryd.func32, Tryd.ntmps32
    go_wp2
    go_ret
    exact ⟨rfl, (Below.refl _ _).alloc (Nat.le_refl _) _⟩
  have i0 : ¬ (C.length : Int) < 2 := by omega
  have i1 : ¬ (16 : Int) < (C.length : Int) := by omega
  obtain ⟨b, o, rfl, hbl, hcell⟩ := HS.out.form (by omega)
  have q0 : (w.alloc (.cells #[.slice (some ⟨b, o, none⟩) C.length c, .int .i64 n] 59)).cell? ⟨b, o + (C.length - 1), none⟩ = some (.int .u16 (C.getD (C.length - 1) 0 : Nat)) := by
    rw [newCell ((Below.refl w.heap.size w).alloc (Nat.le_refl _) _) b _ hbl]; exact hcell _ (by omega)
  have l1 : 0 ≤ (C.length : Int) - 1 := by omega
  have l2 : (C.length : Int) - 1 < (C.length : Int) := by omega
  have l3 : ((C.length : Int) - 1).toNat = C.length - 1 := by omega
  generalize hp : C.getD (C.length - 1) 0 = p at q0
  have HP : Hid (C.getD (C.length - 1) 0 = p) := hp
  clear hp
  by_cases h2 : p ≠ 32768
  · have hc : ck C n = 2 := ck_no (fun k => h2 (HP.out.symm.trans k.last))
    rw [hc]
    have h2' : ((p : Int) != 32768) = true := by rw [bne_iff_ne]; omega
    rcases (show n < 0 ∨ (0 ≤ n ∧ n ≤ 32) ∨ (0 ≤ n ∧ 32 < n) by omega) with hn | ⟨hn, hn1⟩ | ⟨hn, hn1⟩
    all_goals (
    go_enter Tryd.func32, Tryd.ntmps32
    go_wp2
    go_ret
    exact ⟨rfl, (Below.refl _ _).alloc (Nat.le_refl _) _⟩)
  have h2e : p = 32768 := by omega
  have h2' : ((p : Int) != 32768) = false := by simp [h2e]
  have HP2 : Hid (p = 32768) := h2e
  clear h2e
  clear h2
  by_cases h3 : n < 0
  · have hc : ck C n = 2 := ck_no (fun k => by have := k.n0; omega)
    rw [hc]
    go_enter Tryd.func32, Tryd.ntmps32
    go_wp2
    go_ret
    exact ⟨rfl, (Below.refl _ _).alloc (Nat.le_refl _) _⟩
  by_cases h4 : 32 < n
  · have hc : ck C n = 2 := ck_no (fun k => by have := k.n1; omega)
    rw [hc]
    go_enter Tryd.func32, Tryd.ntmps32
    go_wp2
    go_ret
    exact ⟨rfl, (Below.refl _ _).alloc (Nat.le_refl _) _⟩
  clear h0 h1
  go_enter Tryd.func32, Tryd.ntmps32
  go_wp2
  have q1 : ∀ m, ((w.alloc (.cells #[.slice (some ⟨b, o, none⟩) C.length c, .int .i64 n] 59)).drewN m).cell? ⟨w.heap.size, 0, none⟩ = some (.slice (some ⟨b, o, none⟩) C.length c) := fun m => by simp
  have q2 : ∀ m j, j < C.length → ((w.alloc (.cells #[.slice (some ⟨b, o, none⟩) C.length c, .int .i64 n] 59)).drewN m).cell? ⟨b, o + j, none⟩ = some (.int .u16 (C.getD j 0 : Nat)) := fun m j hj => by
    show (w.alloc _).cell? _ = _
    rw [newCell ((Below.refl w.heap.size w).alloc (Nat.le_refl _) _) b _ hbl]; exact hcell _ hj
  have HB : Hid (∀ m, Below w.heap.size w ((w.alloc (.cells #[.slice (some ⟨b, o, none⟩) C.length c, .int .i64 n] 59)).drewN m)) := fun m => below_drewN ((Below.refl _ _).alloc (Nat.le_refl _) _) m
  have Q1 : Hid _ := q1
  have Q2 : Hid _ := q2
  clear q1 q2 q0 l1 l2 l3
  generalize w.alloc (.cells #[.slice (some ⟨b, o, none⟩) C.length c, .int .i64 n] 59) = W at *
  go_loopw [4] (fun i wr => ∃ k m : Nat, 1 ≤ k ∧ k ≤ C.length ∧ i = .int .i64 k ∧ wr = W.drewN m ∧ Hid (∀ j, 1 ≤ j → j < k → C.getD (j - 1) 0 ≤ C.getD j 0)) (fun i _ => C.length - (intOf i).toNat)
  case atStart => exact ⟨1, 0, by omega, by omega, rfl, rfl, fun j h1 h2 => by omega⟩
  case round =>
    obtain ⟨k, m, hk0, hk, rfl, rfl, HK⟩ := hrel
    by_cases hlt : k < C.length
    · have r0 := Q1.out m
      have r1 := Q2.out m k hlt
      have r2 := Q2.out m (k - 1) (by omega)
      have b0 : 0 ≤ (k : Int) := by omega
      have b1 : (k : Int) < (C.length : Int) := by omega
      have b2 : 0 ≤ (k : Int) - 1 := by omega
      have b3 : (k : Int) - 1 < (C.length : Int) := by omega
      have b4 : ((k : Int) - 1).toNat = k - 1 := by omega
      generalize he1 : C.getD k 0 = p1 at r1
      generalize he2 : C.getD (k - 1) 0 = p2 at r2
      have HE1 : Hid (C.getD k 0 = p1) := he1
      have HE2 : Hid (C.getD (k - 1) 0 = p2) := he2
      clear he1 he2
      generalize hW : W.drewN m = u at *
      have HW : Hid (W.drewN m = u) := hW
      clear hW
      by_cases hne : p1 < p2
      · have hne' : (p1 : Int) < (p2 : Int) := by omega
        have hc : ck C n = 2 := ck_no (fun q => by have := q.rise k hk0 hlt; rw [HE1.out, HE2.out] at this; omega)
        have HC : Hid (ck C n = 2) := hc
        clear hc
        go_wp2
        go_quiet (fail)
        go_wp2
        go_ret
        exact ⟨ret_int HC.out.symm, by rw [← HW.out]; exact below_drewN (HB.out m) nq⟩
      · have hne' : ¬ (p1 : Int) < (p2 : Int) := by omega
        go_wp2
        go_quiet (fail)
        go_wp2
        go_roundw
        case rel => exact ⟨k + 1, m + nq, by omega, by omega, by go_num, by rw [← HW.out]; exact drewN_drewN _ _ _, fun j g1 g2 => by
          by_cases e : j = k
          · rw [e, HE1.out, HE2.out]; omega
          · exact HK.out j g1 (by omega)⟩
        case measure => simp [intOf]; omega
    · go_wp2
      go_ret
      have hc : ck C n = 0 := ck_ok ⟨by omega, by omega, by rw [HP.out]; exact HP2.out, by omega, by omega, fun j g1 g2 => HK.out j g1 (by omega)⟩
      exact ⟨ret_int hc.symm, HB.out m⟩


end Go.Proofs.YtkmnpechhdendaaDoor.L3
