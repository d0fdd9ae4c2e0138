/- DERIVED. Several texts in one: The walks of Check, the program's and the document's. The walks of checkValue and of the ends of parts. The walks of Find. The walks of filled, Flat and Steep. -/
import Derived.Test.YtppanogpeengnaaDoorRows
import Derived.Test.YtppanogpeengnaaDoorL3Ga
namespace Go.Proofs.YtppanogpeengnaaDoor.L3
open Go.RowKit

/-- what Check answers -/
noncomputable def ck (C : List Nat) (n : Int) : Int := open Classical in if TOk C n then 0 else 2
theorem ck_ok {C : List Nat} {n : Int} (h : TOk C n) : ck C n = 0 := by unfold ck; rw [if_pos h]
theorem ck_no {C : List Nat} {n : Int} (h : ¬ TOk C n) : ck C n = 2 := by unfold ck; rw [if_neg h]

set_option maxRecDepth 100000 in
set_option maxHeartbeats 1000000 in
theorem check_any {w : World} {a : Option Addr} {c : Nat} {C : List Nat} {n : Int} (h : Sl w .u16 a C) (hl : C.length ≤ 140737488355328) :
    Calls Tryd.prog 52 #[.agg #[.slice a C.length c, .int .i64 n]] w fun e w' => e = .returned (.int .i64 (ck C n)) ∧ Below w.heap.size w w' := by
  have HS : Hid (Sl w .u16 a C) := h
  clear h
  by_cases h0 : C.length < 2
  · have hc : ck C n = 2 := ck_no (fun k => by have := k.lo; omega)
    rw [hc]
    have h0' : (C.length : Int) < 2 := by omega
    go_enter Tryd.func52, Tryd.ntmps52
    go_wp2
    go_ret
    exact ⟨rfl, (Below.refl _ _).alloc (Nat.le_refl _) _⟩
  by_cases h1 : 16 < C.length
  · have hc : ck C n = 2 := ck_no (fun k => by have := k.hi; omega)
    rw [hc]
    have h1' : (16 : Int) < (C.length : Int) := by omega
    have h0' : ¬ (C.length : Int) < 2 := by omega
    go_enter Tryd.func52, Tryd.ntmps52
    go_wp2
    go_ret
    exact ⟨rfl, (Below.refl _ _).alloc (Nat.le_refl _) _⟩
  have i0 : ¬ (C.length : Int) < 2 := by omega
  have i1 : ¬ (16 : Int) < (C.length : Int) := by omega
  obtain ⟨b, o, rfl, hbl, hcell⟩ := HS.out.form (by omega)
  have q0 : (w.alloc (.cells #[.slice (some ⟨b, o, none⟩) C.length c, .int .i64 n] 63)).cell? ⟨b, o + (C.length - 1), none⟩ = some (.int .u16 (C.getD (C.length - 1) 0 : Nat)) := by
    rw [newCell ((Below.refl w.heap.size w).alloc (Nat.le_refl _) _) b _ hbl]; exact hcell _ (by omega)
  have l1 : 0 ≤ (C.length : Int) - 1 := by omega
  have l2 : (C.length : Int) - 1 < (C.length : Int) := by omega
  have l3 : ((C.length : Int) - 1).toNat = C.length - 1 := by omega
  generalize hp : C.getD (C.length - 1) 0 = p at q0
  have HP : Hid (C.getD (C.length - 1) 0 = p) := hp
  clear hp
  by_cases h2 : p ≠ 32768
  · have hc : ck C n = 2 := ck_no (fun k => h2 (HP.out.symm.trans k.last))
    rw [hc]
    have h2' : ((p : Int) != 32768) = true := by rw [bne_iff_ne]; omega
    rcases (show n < 0 ∨ (0 ≤ n ∧ n ≤ 32) ∨ (0 ≤ n ∧ 32 < n) by omega) with hn | ⟨hn, hn1⟩ | ⟨hn, hn1⟩
    all_goals (
    go_enter Tryd.func52, Tryd.ntmps52
    go_wp2
    go_ret
    exact ⟨rfl, (Below.refl _ _).alloc (Nat.le_refl _) _⟩)
  have h2e : p = 32768 := by omega
  have h2' : ((p : Int) != 32768) = false := by simp [h2e]
  have HP2 : Hid (p = 32768) := h2e
  clear h2e
  clear h2
  by_cases h3 : n < 0
  · have hc : ck C n = 2 := ck_no (fun k => by have := k.n0; omega)
    rw [hc]
    go_enter Tryd.func52, Tryd.ntmps52
    go_wp2
    go_ret
    exact ⟨rfl, (Below.refl _ _).alloc (Nat.le_refl _) _⟩
  by_cases h4 : 32 < n
  · have hc : ck C n = 2 := ck_no (fun k => by have := k.n1; omega)
    rw [hc]
    go_enter Tryd.func52, Tryd.ntmps52
    go_wp2
    go_ret
    exact ⟨rfl, (Below.refl _ _).alloc (Nat.le_refl _) _⟩
  clear h0 h1
  go_enter Tryd.func52, Tryd.ntmps52
  go_wp2
  have q1 : ∀ m, ((w.alloc (.cells #[.slice (some ⟨b, o, none⟩) C.length c, .int .i64 n] 63)).drewN m).cell? ⟨w.heap.size, 0, none⟩ = some (.slice (some ⟨b, o, none⟩) C.length c) := fun m => by simp
  have q2 : ∀ m j, j < C.length → ((w.alloc (.cells #[.slice (some ⟨b, o, none⟩) C.length c, .int .i64 n] 63)).drewN m).cell? ⟨b, o + j, none⟩ = some (.int .u16 (C.getD j 0 : Nat)) := fun m j hj => by
    show (w.alloc _).cell? _ = _
    rw [newCell ((Below.refl w.heap.size w).alloc (Nat.le_refl _) _) b _ hbl]; exact hcell _ hj
  have HB : Hid (∀ m, Below w.heap.size w ((w.alloc (.cells #[.slice (some ⟨b, o, none⟩) C.length c, .int .i64 n] 63)).drewN m)) := fun m => below_drewN ((Below.refl _ _).alloc (Nat.le_refl _) _) m
  have Q1 : Hid _ := q1
  have Q2 : Hid _ := q2
  clear q1 q2 q0 l1 l2 l3
  generalize w.alloc (.cells #[.slice (some ⟨b, o, none⟩) C.length c, .int .i64 n] 63) = W at *
  go_loopw [4] (fun i wr => ∃ k m : Nat, 1 ≤ k ∧ k ≤ C.length ∧ i = .int .i64 k ∧ wr = W.drewN m ∧ Hid (∀ j, 1 ≤ j → j < k → C.getD (j - 1) 0 ≤ C.getD j 0)) (fun i _ => C.length - (intOf i).toNat)
  case atStart => exact ⟨1, 0, by omega, by omega, rfl, rfl, fun j h1 h2 => by omega⟩
  case round =>
    obtain ⟨k, m, hk0, hk, rfl, rfl, HK⟩ := hrel
    by_cases hlt : k < C.length
    · have r0 := Q1.out m
      have r1 := Q2.out m k hlt
      have r2 := Q2.out m (k - 1) (by omega)
      have b0 : 0 ≤ (k : Int) := by omega
      have b1 : (k : Int) < (C.length : Int) := by omega
      have b2 : 0 ≤ (k : Int) - 1 := by omega
      have b3 : (k : Int) - 1 < (C.length : Int) := by omega
      have b4 : ((k : Int) - 1).toNat = k - 1 := by omega
      generalize he1 : C.getD k 0 = p1 at r1
      generalize he2 : C.getD (k - 1) 0 = p2 at r2
      have HE1 : Hid (C.getD k 0 = p1) := he1
      have HE2 : Hid (C.getD (k - 1) 0 = p2) := he2
      clear he1 he2
      generalize hW : W.drewN m = u at *
      have HW : Hid (W.drewN m = u) := hW
      clear hW
      by_cases hne : p1 < p2
      · have hne' : (p1 : Int) < (p2 : Int) := by omega
        have hc : ck C n = 2 := ck_no (fun q => by have := q.rise k hk0 hlt; rw [HE1.out, HE2.out] at this; omega)
        have HC : Hid (ck C n = 2) := hc
        clear hc
        go_wp2
        go_quiet (fail)
        go_wp2
        go_ret
        exact ⟨ret_int HC.out.symm, by rw [← HW.out]; exact below_drewN (HB.out m) nq⟩
      · have hne' : ¬ (p1 : Int) < (p2 : Int) := by omega
        go_wp2
        go_quiet (fail)
        go_wp2
        go_roundw
        case rel => exact ⟨k + 1, m + nq, by omega, by omega, by go_num, by rw [← HW.out]; exact drewN_drewN _ _ _, fun j g1 g2 => by
          by_cases e : j = k
          · rw [e, HE1.out, HE2.out]; omega
          · exact HK.out j g1 (by omega)⟩
        case measure => simp [intOf]; omega
    · go_wp2
      go_ret
      have hc : ck C n = 0 := ck_ok ⟨by omega, by omega, by rw [HP.out]; exact HP2.out, by omega, by omega, fun j g1 g2 => HK.out j g1 (by omega)⟩
      exact ⟨ret_int hc.symm, HB.out m⟩

set_option maxRecDepth 100000 in
set_option maxHeartbeats 1000000 in
theorem rcheck_any {w : World} {a : Option Addr} {c : Nat} {C : List Nat} {n : Int} (h : Sl w .u16 a C) (hl : C.length ≤ 140737488355328) :
    Calls Tryd.prog 53 #[.agg #[.slice a C.length c, .int .i64 n]] w fun e w' => e = .returned (.int .i64 (ck C n)) ∧ Below w.heap.size w w' := by
  have HS : Hid (Sl w .u16 a C) := h
  clear h
  by_cases h0 : C.length < 2
  · have hc : ck C n = 2 := ck_no (fun k => by have := k.lo; omega)
    rw [hc]
    have h0' : (C.length : Int) < 2 := by omega
    go_enter Tryd.func53, Tryd.ntmps53
    go_wp2
    go_ret
    exact ⟨rfl, (Below.refl _ _).alloc (Nat.le_refl _) _⟩
  by_cases h1 : 16 < C.length
  · have hc : ck C n = 2 := ck_no (fun k => by have := k.hi; omega)
    rw [hc]
    have h1' : (16 : Int) < (C.length : Int) := by omega
    have h0' : ¬ (C.length : Int) < 2 := by omega
    go_enter Tryd.func53, Tryd.ntmps53
    go_wp2
    go_ret
    exact ⟨rfl, (Below.refl _ _).alloc (Nat.le_refl _) _⟩
  have i0 : ¬ (C.length : Int) < 2 := by omega
  have i1 : ¬ (16 : Int) < (C.length : Int) := by omega
  obtain ⟨b, o, rfl, hbl, hcell⟩ := HS.out.form (by omega)
  have q0 : (w.alloc (.cells #[.slice (some ⟨b, o, none⟩) C.length c, .int .i64 n] 63)).cell? ⟨b, o + (C.length - 1), none⟩ = some (.int .u16 (C.getD (C.length - 1) 0 : Nat)) := by
    rw [newCell ((Below.refl w.heap.size w).alloc (Nat.le_refl _) _) b _ hbl]; exact hcell _ (by omega)
  have l1 : 0 ≤ (C.length : Int) - 1 := by omega
  have l2 : (C.length : Int) - 1 < (C.length : Int) := by omega
  have l3 : ((C.length : Int) - 1).toNat = C.length - 1 := by omega
  generalize hp : C.getD (C.length - 1) 0 = p at q0
  have HP : Hid (C.getD (C.length - 1) 0 = p) := hp
  clear hp
  by_cases h2 : p ≠ 32768
  · have hc : ck C n = 2 := ck_no (fun k => h2 (HP.out.symm.trans k.last))
    rw [hc]
    have h2' : ((p : Int) != 32768) = true := by rw [bne_iff_ne]; omega
    rcases (show n < 0 ∨ (0 ≤ n ∧ n ≤ 32) ∨ (0 ≤ n ∧ 32 < n) by omega) with hn | ⟨hn, hn1⟩ | ⟨hn, hn1⟩
    all_goals (
    go_enter Tryd.func53, Tryd.ntmps53
    go_wp2
    go_ret
    exact ⟨rfl, (Below.refl _ _).alloc (Nat.le_refl _) _⟩)
  have h2e : p = 32768 := by omega
  have h2' : ((p : Int) != 32768) = false := by simp [h2e]
  have HP2 : Hid (p = 32768) := h2e
  clear h2e
  clear h2
  by_cases h3 : n < 0
  · have hc : ck C n = 2 := ck_no (fun k => by have := k.n0; omega)
    rw [hc]
    go_enter Tryd.func53, Tryd.ntmps53
    go_wp2
    go_ret
    exact ⟨rfl, (Below.refl _ _).alloc (Nat.le_refl _) _⟩
  by_cases h4 : 32 < n
  · have hc : ck C n = 2 := ck_no (fun k => by have := k.n1; omega)
    rw [hc]
    go_enter Tryd.func53, Tryd.ntmps53
    go_wp2
    go_ret
    exact ⟨rfl, (Below.refl _ _).alloc (Nat.le_refl _) _⟩
  clear h0 h1
  go_enter Tryd.func53, Tryd.ntmps53
  go_wp2
  have q1 : ∀ m, ((w.alloc (.cells #[.slice (some ⟨b, o, none⟩) C.length c, .int .i64 n] 63)).drewN m).cell? ⟨w.heap.size, 0, none⟩ = some (.slice (some ⟨b, o, none⟩) C.length c) := fun m => by simp
  have q2 : ∀ m j, j < C.length → ((w.alloc (.cells #[.slice (some ⟨b, o, none⟩) C.length c, .int .i64 n] 63)).drewN m).cell? ⟨b, o + j, none⟩ = some (.int .u16 (C.getD j 0 : Nat)) := fun m j hj => by
    show (w.alloc _).cell? _ = _
    rw [newCell ((Below.refl w.heap.size w).alloc (Nat.le_refl _) _) b _ hbl]; exact hcell _ hj
  have HB : Hid (∀ m, Below w.heap.size w ((w.alloc (.cells #[.slice (some ⟨b, o, none⟩) C.length c, .int .i64 n] 63)).drewN m)) := fun m => below_drewN ((Below.refl _ _).alloc (Nat.le_refl _) _) m
  have Q1 : Hid _ := q1
  have Q2 : Hid _ := q2
  clear q1 q2 q0 l1 l2 l3
  generalize w.alloc (.cells #[.slice (some ⟨b, o, none⟩) C.length c, .int .i64 n] 63) = W at *
  go_loopw [4] (fun i wr => ∃ k m : Nat, 1 ≤ k ∧ k ≤ C.length ∧ i = .int .i64 k ∧ wr = W.drewN m ∧ Hid (∀ j, 1 ≤ j → j < k → C.getD (j - 1) 0 ≤ C.getD j 0)) (fun i _ => C.length - (intOf i).toNat)
  case atStart => exact ⟨1, 0, by omega, by omega, rfl, rfl, fun j h1 h2 => by omega⟩
  case round =>
    obtain ⟨k, m, hk0, hk, rfl, rfl, HK⟩ := hrel
    by_cases hlt : k < C.length
    · have r0 := Q1.out m
      have r1 := Q2.out m k hlt
      have r2 := Q2.out m (k - 1) (by omega)
      have b0 : 0 ≤ (k : Int) := by omega
      have b1 : (k : Int) < (C.length : Int) := by omega
      have b2 : 0 ≤ (k : Int) - 1 := by omega
      have b3 : (k : Int) - 1 < (C.length : Int) := by omega
      have b4 : ((k : Int) - 1).toNat = k - 1 := by omega
      generalize he1 : C.getD k 0 = p1 at r1
      generalize he2 : C.getD (k - 1) 0 = p2 at r2
      have HE1 : Hid (C.getD k 0 = p1) := he1
      have HE2 : Hid (C.getD (k - 1) 0 = p2) := he2
      clear he1 he2
      generalize hW : W.drewN m = u at *
      have HW : Hid (W.drewN m = u) := hW
      clear hW
      by_cases hne : p1 < p2
      · have hne' : (p1 : Int) < (p2 : Int) := by omega
        have hc : ck C n = 2 := ck_no (fun q => by have := q.rise k hk0 hlt; rw [HE1.out, HE2.out] at this; omega)
        have HC : Hid (ck C n = 2) := hc
        clear hc
        go_wp2
        go_quiet (fail)
        go_wp2
        go_ret
        exact ⟨ret_int HC.out.symm, by rw [← HW.out]; exact below_drewN (HB.out m) nq⟩
      · have hne' : ¬ (p1 : Int) < (p2 : Int) := by omega
        go_wp2
        go_quiet (fail)
        go_wp2
        go_roundw
        case rel => exact ⟨k + 1, m + nq, by omega, by omega, by go_num, by rw [← HW.out]; exact drewN_drewN _ _ _, fun j g1 g2 => by
          by_cases e : j = k
          · rw [e, HE1.out, HE2.out]; omega
          · exact HK.out j g1 (by omega)⟩
        case measure => simp [intOf]; omega
    · go_wp2
      go_ret
      have hc : ck C n = 0 := ck_ok ⟨by omega, by omega, by rw [HP.out]; exact HP2.out, by omega, by omega, fun j g1 g2 => HK.out j g1 (by omega)⟩
      exact ⟨ret_int hc.symm, HB.out m⟩

end Go.Proofs.YtppanogpeengnaaDoor.L3

namespace Go.Proofs.YtppanogpeengnaaDoor.L3
open Go.RowKit

/-- what checkValue answers -/
noncomputable def cv (C : List Nat) (n s : Int) : Int := open Classical in if TOk C n ∧ 0 ≤ s ∧ s < C.length then 0 else 2
theorem cv_ok {C : List Nat} {n s : Int} (h : TOk C n) (h0 : 0 ≤ s) (h1 : s < C.length) : cv C n s = 0 := by unfold cv; rw [if_pos ⟨h, h0, h1⟩]
theorem cv_no {C : List Nat} {n s : Int} (h : ¬ (TOk C n ∧ 0 ≤ s ∧ s < C.length)) : cv C n s = 2 := by unfold cv; rw [if_neg h]

set_option maxRecDepth 100000 in
set_option maxHeartbeats 1000000 in
theorem checkValue_any {w : World} {a : Option Addr} {c : Nat} {C : List Nat} {n s : Int} (h : Sl w .u16 a C) (hl : C.length ≤ 140737488355328) :
    Calls Tryd.prog 63 #[.agg #[.slice a C.length c, .int .i64 n], .int .i64 s] w fun e w' => e = .returned (.int .i64 (cv C n s)) ∧ Below w.heap.size w w' := by
  have HS : Hid (Sl w .u16 a C) := h
  clear h
  by_cases ht : TOk C n
  · have HT : Hid (TOk C n) := ht
    have hk : ck C n = 0 := ck_ok ht
    have HK : Hid (ck C n = 0) := hk
    clear ht hk
    go_enter Tryd.func63, Tryd.ntmps63
    go_wp2_with fail
    refine (check_any (HS.out.alloc _) hl).mono ?_
    rintro e w1 ⟨rfl, hb⟩
    rw [HK.out]
    have q0 : w1.cell? ⟨w.heap.size, 0, none⟩ = some (.slice a C.length c) := by rw [newCell hb _ _ (by simp)]; simp
    have HB : Hid (Below w.heap.size w w1) := ((Below.refl w.heap.size w).alloc (Nat.le_refl _) _).trans (hb.mono (by simp))
    clear hb
    by_cases h0 : s < 0
    · have hc : cv C n s = 2 := cv_no (fun k => by omega)
      have HC : Hid _ := hc
      clear hc
      go_wp2
      go_ret
      exact ⟨ret_int HC.out.symm, HB.out⟩
    · by_cases h1 : (C.length : Int) ≤ s
      · have hc : cv C n s = 2 := cv_no (fun k => by omega)
        have HC : Hid _ := hc
        clear hc
        go_wp2
        go_ret
        exact ⟨ret_int HC.out.symm, HB.out⟩
      · have hc : cv C n s = 0 := cv_ok HT.out (by omega) (by omega)
        have HC : Hid _ := hc
        clear hc
        go_wp2
        go_ret
        exact ⟨ret_int HC.out.symm, HB.out⟩
  · have hk : ck C n = 2 := ck_no ht
    have hc : cv C n s = 2 := cv_no (fun k => ht k.1)
    have HK : Hid _ := hk
    have HC : Hid _ := hc
    clear ht hk hc
    go_enter Tryd.func63, Tryd.ntmps63
    go_wp2_with fail
    refine (check_any (HS.out.alloc _) hl).mono ?_
    rintro e w1 ⟨rfl, hb⟩
    rw [HK.out]
    have HB : Hid (Below w.heap.size w w1) := ((Below.refl w.heap.size w).alloc (Nat.le_refl _) _).trans (hb.mono (by simp))
    clear hb
    go_wp2
    go_ret
    exact ⟨ret_int HC.out.symm, HB.out⟩

theorem end_num {p m i : Nat} (hp : p ≤ 32768) : (p : Int) * (32768 - 4 * (m : Int)) % 4294967296 / 32768 + 4 * ((i : Int) + 1) = ((p * (32768 - 4 * m) / 32768 + 4 * (i + 1) : Nat) : Int) ∨ 16 < m := by
  by_cases hm : 16 < m
  · exact Or.inr hm
  · left
    have h1 : p * (32768 - 4 * m) ≤ 32768 * 32768 := Nat.mul_le_mul hp (by omega)
    have e1 : (32768 - 4 * (m : Int)) = ((32768 - 4 * m : Nat) : Int) := by omega
    rw [e1, ← Int.natCast_mul]
    generalize p * (32768 - 4 * m) = q at *
    omega
theorem end_num2 {p m i : Nat} (_hp : p ≤ 32768) : (p : Int) * (32768 - 4 * (m : Int)) / 32768 + 4 * ((i : Int) + 1) = ((p * (32768 - 4 * m) / 32768 + 4 * (i + 1) : Nat) : Int) ∨ 16 < m := by
  by_cases hm : 16 < m
  · exact Or.inr hm
  · left
    have e1 : (32768 - 4 * (m : Int)) = ((32768 - 4 * m : Nat) : Int) := by omega
    rw [e1, ← Int.natCast_mul]
    generalize p * (32768 - 4 * m) = q at *
    omega
theorem end_prod {p m : Nat} (hp : p ≤ 32768) (hm : m ≤ 16) : 0 ≤ (p : Int) * (32768 - 4 * (m : Int)) ∧ (p : Int) * (32768 - 4 * (m : Int)) ≤ 1073741824 := by
  have h1 : p * (32768 - 4 * m) ≤ 32768 * 32768 := Nat.mul_le_mul hp (by omega)
  have e1 : (32768 - 4 * (m : Int)) = ((32768 - 4 * m : Nat) : Int) := by omega
  rw [e1, ← Int.natCast_mul]
  generalize p * (32768 - 4 * m) = q at *
  omega

set_option maxRecDepth 100000 in
set_option maxHeartbeats 1000000 in
theorem end_any {w : World} {a : Option Addr} {c : Nat} {C : List Nat} {n : Int} {i : Nat} (h : Sl w .u16 a C) (ht : TOk C n) (hi : i < C.length) :
    Calls Tryd.prog 103 #[.slice a C.length c, .int .i64 i] w fun e w' => e = .returned (.int .u32 (ee C i : Nat)) ∧ w' = w := by
  obtain ⟨b, o, rfl, hbl, hcell⟩ := h.form (by omega)
  have q0 := hcell i hi
  have hp := ht.le i
  have hm := ht.hi
  have HN : Hid _ := end_num (m := C.length) (i := i) hp
  have HE : Hid (ee C i = C.getD i 0 * (32768 - 4 * C.length) / 32768 + 4 * (i + 1)) := rfl
  generalize C.getD i 0 = p at *
  have b0 : (0 : Int) ≤ (i : Int) := by omega
  have b1 : (i : Int) < (C.length : Int) := by omega
  have b2 : (C.length : Int) ≤ 16 := by omega
  have b3 : (p : Int) ≤ 32768 := by omega
  clear hcell ht hp hm h
  go_enter Tryd.func103, Tryd.ntmps103
  go_wp2
  go_ret
  refine ⟨ret_int ?_, rfl⟩
  rw [HE.out]
  rcases HN.out with e | e
  · exact e
  · omega

set_option maxRecDepth 100000 in
set_option maxHeartbeats 1000000 in
theorem rend_neg {w : World} {a : Option Addr} {c : Nat} {C : List Nat} {n s : Int} (hs : s < 0) :
    Calls Tryd.prog 87 #[.agg #[.slice a C.length c, .int .i64 n], .int .i64 s] w fun e w' => e = .returned (.int .i64 0) ∧ Below w.heap.size w w' := by
  go_enter Tryd.func87, Tryd.ntmps87
  go_wp2
  go_ret
  exact ⟨rfl, (Below.refl _ _).alloc (Nat.le_refl _) _⟩

set_option maxRecDepth 100000 in
set_option maxHeartbeats 1000000 in
theorem rend_any {w : World} {a : Option Addr} {c : Nat} {C : List Nat} {n : Int} {i : Nat} (h : Sl w .u16 a C) (ht : TOk C n) (hi : i < C.length) :
    Calls Tryd.prog 87 #[.agg #[.slice a C.length c, .int .i64 n], .int .i64 i] w fun e w' => e = .returned (.int .i64 (ee C i : Nat)) ∧ Below w.heap.size w w' := by
  obtain ⟨b, o, rfl, hbl, hcell⟩ := h.form (by omega)
  have q0 : (w.alloc (.cells #[.slice (some ⟨b, o, none⟩) C.length c, .int .i64 n] 63)).cell? ⟨b, o + i, none⟩ = some (.int .u16 (C.getD i 0 : Nat)) := by
    rw [newCell ((Below.refl w.heap.size w).alloc (Nat.le_refl _) _) b _ hbl]; exact hcell _ hi
  have hp := ht.le i
  have hm := ht.hi
  have HN : Hid _ := end_num2 (m := C.length) (i := i) hp
  have hpr := end_prod hp hm
  have p0 := hpr.1
  have p1 := hpr.2
  have HE : Hid (ee C i = C.getD i 0 * (32768 - 4 * C.length) / 32768 + 4 * (i + 1)) := rfl
  generalize C.getD i 0 = p at *
  have b0 : (0 : Int) ≤ (i : Int) := by omega
  have b1 : (i : Int) < (C.length : Int) := by omega
  have b2 : (C.length : Int) ≤ 16 := by omega
  have b3 : (p : Int) ≤ 32768 := by omega
  clear hcell ht hp hm h hpr
  go_enter Tryd.func87, Tryd.ntmps87
  go_wp2
  go_quiet (fail)
  go_wp2
  go_ret
  refine ⟨ret_int ?_, below_drewN ((Below.refl _ _).alloc (Nat.le_refl _) _) _⟩
  rw [HE.out]
  rcases HN.out with e | e
  · exact e
  · omega

/-- what Bounds answers -/
noncomputable def bd (C : List Nat) (n s : Int) : Value := open Classical in
  if TOk C n ∧ 0 ≤ s ∧ s < C.length then .tuple #[.int .u32 (eb C s.toNat : Nat), .int .u32 (ee C s.toNat : Nat), .int .i64 0] else .tuple #[.int .u32 0, .int .u32 0, .int .i64 2]

set_option maxRecDepth 100000 in
set_option maxHeartbeats 1000000 in
theorem bounds_ok {w : World} {a : Option Addr} {c : Nat} {C : List Nat} {n : Int} {i : Nat} (h : Sl w .u16 a C) (ht : TOk C n) (hi : i < C.length) :
    Calls Tryd.prog 85 #[.agg #[.slice a C.length c, .int .i64 n], .int .i64 i] w fun e w' => e = .returned (.tuple #[.int .u32 (eb C i : Nat), .int .u32 (ee C i : Nat), .int .i64 0]) ∧ Below w.heap.size w w' := by
  have HS : Hid (Sl w .u16 a C) := h
  have HT : Hid (TOk C n) := ht
  have HC : Hid (cv C n i = 0) := cv_ok ht (by omega) (by omega)
  have hhi := ht.hi
  clear h ht
  by_cases h0 : i = 0
  · subst h0
    go_enter Tryd.func85, Tryd.ntmps85
    go_wp2_with fail
    refine (checkValue_any (HS.out.alloc _) (by omega)).mono ?_
    rintro e w1 ⟨rfl, hb⟩
    have HC' : cv C n 0 = 0 := HC.out
    rw [HC']
    have q0 : w1.cell? ⟨w.heap.size, 0, none⟩ = some (.slice a C.length c) := by rw [newCell hb _ _ (by simp)]; simp
    have HB : Hid (Below w.heap.size w w1) := ((Below.refl w.heap.size w).alloc (Nat.le_refl _) _).trans (hb.mono (by simp))
    clear hb HC'
    go_wp2_with fail
    refine (end_any (i := 0) (HS.out.to HB.out) HT.out hi).mono ?_
    rintro e w2 ⟨rfl, rfl⟩
    go_wp2_with fail
    exact bodyPost_ret (v := .tuple #[.int .u32 (eb C 0 : Nat), .int .u32 (ee C 0 : Nat), .int .i64 0]) (by simp [results, Tryd.results85, go_sem, eb]) rfl ⟨rfl, HB.out⟩
  · have h0' : (0 : Int) < (i : Int) := by omega
    have hm1 : (i : Int) - 1 = ((i - 1 : Nat) : Int) := by omega
    have HM : Hid _ := hm1
    clear hm1
    go_enter Tryd.func85, Tryd.ntmps85
    go_wp2_with fail
    refine (checkValue_any (HS.out.alloc _) (by omega)).mono ?_
    rintro e w1 ⟨rfl, hb⟩
    rw [HC.out]
    have q0 : w1.cell? ⟨w.heap.size, 0, none⟩ = some (.slice a C.length c) := by rw [newCell hb _ _ (by simp)]; simp
    have HB : Hid (Below w.heap.size w w1) := ((Below.refl w.heap.size w).alloc (Nat.le_refl _) _).trans (hb.mono (by simp))
    clear hb
    go_wp2_with fail
    rw [HM.out]
    refine (end_any (i := i - 1) (HS.out.to HB.out) HT.out (by omega)).mono ?_
    rintro e w2 ⟨rfl, rfl⟩
    go_wp2_with fail
    refine (end_any (i := i) (HS.out.to HB.out) HT.out hi).mono ?_
    rintro e w3 ⟨rfl, rfl⟩
    go_wp2_with fail
    exact bodyPost_ret (v := .tuple #[.int .u32 (eb C i : Nat), .int .u32 (ee C i : Nat), .int .i64 0]) (by simp [results, Tryd.results85, go_sem, eb, h0]) rfl ⟨rfl, HB.out⟩

set_option maxRecDepth 100000 in
set_option maxHeartbeats 1000000 in
theorem bounds_no {w : World} {a : Option Addr} {c : Nat} {C : List Nat} {n s : Int} (h : Sl w .u16 a C) (hl : C.length ≤ 140737488355328) (ht : ¬ (TOk C n ∧ 0 ≤ s ∧ s < C.length)) :
    Calls Tryd.prog 85 #[.agg #[.slice a C.length c, .int .i64 n], .int .i64 s] w fun e w' => e = .returned (.tuple #[.int .u32 0, .int .u32 0, .int .i64 2]) ∧ Below w.heap.size w w' := by
  have HS : Hid (Sl w .u16 a C) := h
  have HC : Hid (cv C n s = 2) := cv_no ht
  clear h ht
  go_enter Tryd.func85, Tryd.ntmps85
  go_wp2_with fail
  refine (checkValue_any (HS.out.alloc _) (by omega)).mono ?_
  rintro e w1 ⟨rfl, hb⟩
  rw [HC.out]
  have HB : Hid (Below w.heap.size w w1) := ((Below.refl w.heap.size w).alloc (Nat.le_refl _) _).trans (hb.mono (by simp))
  clear hb
  go_wp2_with fail
  exact bodyPost_ret (v := .tuple #[.int .u32 0, .int .u32 0, .int .i64 2]) (by simp [results, Tryd.results85, go_sem]) rfl ⟨rfl, HB.out⟩

end Go.Proofs.YtppanogpeengnaaDoor.L3

namespace Go.Proofs.YtppanogpeengnaaDoor.L3
open Go.RowKit

/-- the value in whose part a place is -/
def Fd (C : List Nat) (p s : Nat) : Prop := s < C.length ∧ eb C s ≤ p ∧ p < ee C s

set_option maxRecDepth 100000 in
set_option maxHeartbeats 1000000 in
theorem find_ok {w : World} {a : Option Addr} {c : Nat} {C : List Nat} {n : Int} {p : Nat} (h : Sl w .u16 a C) (ht : TOk C n) (hp : p < 32768) :
    Calls Tryd.prog 84 #[.agg #[.slice a C.length c, .int .i64 n], .int .u32 p] w fun e w' => ∃ s, e = .returned (.tuple #[.int .i64 (s : Nat), .int .i64 0]) ∧ Fd C p s ∧ Below w.heap.size w w' := by
  have HS : Hid (Sl w .u16 a C) := h
  have HT : Hid (TOk C n) := ht
  have HC : Hid (ck C n = 0) := ck_ok ht
  have hhi := ht.hi
  have hlo := ht.lo
  have HP : Bx (p < 32768) := ⟨hp⟩
  have hp' : decide ((32768 : Int) ≤ (p : Int)) = false := by simp; omega
  clear h ht hp
  go_enter Tryd.func84, Tryd.ntmps84
  go_wp2_with fail
  refine (check_any (HS.out.alloc _) (by omega)).mono ?_
  rintro e w1 ⟨rfl, hb⟩
  rw [HC.out]
  have q0 : w1.cell? ⟨w.heap.size, 0, none⟩ = some (.slice a C.length c) := by rw [newCell hb _ _ (by simp)]; simp
  have HB : Hid (Below w.heap.size w w1) := ((Below.refl w.heap.size w).alloc (Nat.le_refl _) _).trans (hb.mono (by simp))
  clear hb
  go_wp2_with fail
  clear hp'
  go_loop [7] (fun i => ∃ k : Nat, k < C.length ∧ i = .int .i64 k ∧ eb C k ≤ p) (fun i => C.length - (intOf i).toNat)
  case atStart => exact ⟨0, by omega, rfl, by simp [eb]⟩
  case round =>
    obtain ⟨k, hk, rfl, he⟩ := hrel
    have HE : Hid (eb C k ≤ p) := he
    clear he
    have hle := ee_le HT.out hk
    have hp := HP.out
    by_cases hlt : ee C k ≤ p
    · have hk1 : k + 1 < C.length := by
        by_cases e : k + 1 < C.length
        · exact e
        · have := ee_last HT.out
          rw [show C.length - 1 = k from by omega] at this
          omega
      have hlt' : (ee C k : Int) ≤ (p : Int) := by omega
      have HL : Hid (ee C k ≤ p) := hlt
      clear hlt hle hp
      go_wp2_with fail
      refine (end_any (i := k) (HS.out.to HB.out) HT.out hk).mono ?_
      rintro e w2 ⟨rfl, rfl⟩
      go_wp2_with fail
      go_round
      case rel => exact ⟨k + 1, hk1, by go_num, by rw [eb_succ]; exact HL.out⟩
      case measure => simp [intOf]; omega
    · have hlt' : ¬ (ee C k : Int) ≤ (p : Int) := by omega
      have HL : Hid (¬ ee C k ≤ p) := hlt
      clear hlt hle hp
      go_wp2_with fail
      refine (end_any (i := k) (HS.out.to HB.out) HT.out hk).mono ?_
      rintro e w2 ⟨rfl, rfl⟩
      go_wp2_with fail
      go_ret2
      exact ⟨k, rfl, ⟨hk, HE.out, by have := HL.out; omega⟩, HB.out⟩

set_option maxRecDepth 100000 in
set_option maxHeartbeats 1000000 in
theorem find_no {w : World} {a : Option Addr} {c : Nat} {C : List Nat} {n : Int} {p : Nat} (h : Sl w .u16 a C) (hl : C.length ≤ 140737488355328) (ht : ¬ TOk C n ∨ 32768 ≤ p) :
    Calls Tryd.prog 84 #[.agg #[.slice a C.length c, .int .i64 n], .int .u32 p] w fun e w' => e = .returned (.tuple #[.int .i64 0, .int .i64 2]) ∧ Below w.heap.size w w' := by
  have HS : Hid (Sl w .u16 a C) := h
  clear h
  by_cases hk : TOk C n
  · have hp' : (32768 : Int) ≤ (p : Int) := by rcases ht with e | e; exact absurd hk e; omega
    have HC : Hid (ck C n = 0) := ck_ok hk
    clear ht hk
    go_enter Tryd.func84, Tryd.ntmps84
    go_wp2_with fail
    refine (check_any (HS.out.alloc _) (by omega)).mono ?_
    rintro e w1 ⟨rfl, hb⟩
    rw [HC.out]
    have HB : Hid (Below w.heap.size w w1) := ((Below.refl w.heap.size w).alloc (Nat.le_refl _) _).trans (hb.mono (by simp))
    clear hb
    go_wp2_with fail
    go_ret2
    exact ⟨rfl, HB.out⟩
  · have HC : Hid (ck C n = 2) := ck_no hk
    clear ht hk
    go_enter Tryd.func84, Tryd.ntmps84
    go_wp2_with fail
    refine (check_any (HS.out.alloc _) (by omega)).mono ?_
    rintro e w1 ⟨rfl, hb⟩
    rw [HC.out]
    have HB : Hid (Below w.heap.size w w1) := ((Below.refl w.heap.size w).alloc (Nat.le_refl _) _).trans (hb.mono (by simp))
    clear hb
    go_wp2_with fail
    go_ret2
    exact ⟨rfl, HB.out⟩

end Go.Proofs.YtppanogpeengnaaDoor.L3

namespace Go.Proofs.YtppanogpeengnaaDoor.L3
open Go.RowKit

theorem Tryd.info38 : (Tryd.prog.info? 38).map (fun i => (i.zero, i.size, i.bytes)) = some (some (.int .u16 0), 1, 2) := by kernel_rfl

/-- a table whose first k elements are set -/
def part (f : Nat → Nat) (n k : Nat) : List Nat := (List.range n).map fun j => if j < k then f j else 0
theorem part_len (f : Nat → Nat) (n k : Nat) : (part f n k).length = n := by simp [part]
theorem part_get (f : Nat → Nat) (n k j : Nat) (h : j < n) : (part f n k).getD j 0 = if j < k then f j else 0 := range_getD _ h
theorem part_set (f : Nat → Nat) (n k : Nat) (h : k < n) : (part f n k).set k (f k) = part f n (k + 1) := by
  refine list_eq_of_getD (by simp [part]) fun j hj => ?_
  rw [List.length_set, part_len] at hj
  rw [part_get _ _ _ _ hj, List.getD_eq_getElem?_getD, List.getElem?_set]
  by_cases e : k = j
  · subst e; rw [if_pos rfl, if_pos (by rw [part_len]; exact h)]; simp
  · rw [if_neg e, ← List.getD_eq_getElem?_getD, part_get _ _ _ _ hj]
    by_cases g : j < k
    · rw [if_pos g, if_pos (by omega)]
    · rw [if_neg g, if_neg (by omega)]
theorem part_zero (f : Nat → Nat) (n : Nat) : ns .u16 (part f n 0) = (madeCells (Value.int .u16 0).cells (n * 1)).toList := by
  refine List.ext_getElem (by simp [part, ns, madeCells]) fun j h1 h2 => ?_
  simp [part, ns, madeCells, Value.cells, Nat.mod_one]

/-- a row of 16-bit numbers that the call itself made -/
structure Ow (w : World) (B g n c : Nat) (C : List Nat) : Prop where
  own : w.ownsRow B 38 1 (.slice (some ⟨g, 0, none⟩) n c) n (ns .u16 C)
theorem Ow.set {w : World} {B g n c : Nat} {C : List Nat} (h : Ow w B g n c C) (k x : Nat) : Ow (w.setCell ⟨g, k, none⟩ (.int .u16 (x : Int))) B g n c (C.set k x) := by
  refine ⟨?_⟩; rw [ns_set]; exact (World.ownsRow.stored h.own k (.int .u16 (x : Int))).1
theorem Ow.far {w : World} {B g n c : Nat} {C : List Nat} (h : Ow w B g n c C) {a : Addr} (ha : g ≠ a.block) (u : Value) : Ow (w.setCell a u) B g n c C := ⟨own_set_far h.own (by simp [Value.ownBlock]; exact ha) u⟩
theorem Ow.len {w : World} {B g n c : Nat} {C : List Nat} (h : Ow w B g n c C) : C.length = n := by have := h.own.1; rw [ns_length] at this; omega
theorem Ow.cell {w : World} {B g n c : Nat} {C : List Nat} (h : Ow w B g n c C) (j : Nat) (hj : j < n) : w.cell? ⟨g, j, none⟩ = some (.int .u16 (C.getD j 0 : Nat)) := by
  have hl := h.len
  rw [h.own.cellAt j (by omega)]; exact ns_get _ _ _ (by omega)
theorem Ow.thaw {w : World} {B g n c : Nat} {C : List Nat} (h : Ow w B g n c C) (j : Nat) : w.frozen? ⟨g, j, none⟩ = false := own_thaw h.own j
theorem Ow.lies {w : World} {B g n c : Nat} {C : List Nat} (h : Ow w B g n c C) : B ≤ g ∧ g < w.heap.size := h.own.lt g rfl
theorem Ow.cap {w : World} {B g n c : Nat} {C : List Nat} (h : Ow w B g n c C) : n ≤ c := own_cap h.own
theorem Ow.to {w w' : World} {B g n c : Nat} {C : List Nat} (h : Ow w B g n c C) (hb : Below w.heap.size w w') : Ow w' B g n c C := ⟨own_below h.own hb⟩
theorem Ow.carry {w w' : World} {B g n c : Nat} {C : List Nat} (h : Ow w B g n c C) (hb : w'.heap[g]? = w.heap[g]?) : Ow w' B g n c C := ⟨own_carry h.own fun k hk => by simp [Value.ownBlock] at hk; subst hk; exact hb⟩
theorem Ow.mono {w : World} {B B' g n c : Nat} {C : List Nat} (h : Ow w B g n c C) (hb : B' ≤ B) : Ow w B' g n c C := by
  refine ⟨h.own.1, ?_⟩
  rcases h.own.2 with h1 | ⟨g', cap, cur, h1, h2, h3⟩
  · exact Or.inl h1
  · exact Or.inr ⟨g', cap, cur, h1, Nat.le_trans hb h2, h3⟩
theorem Ow.sl {w : World} {B g n c : Nat} {C : List Nat} (h : Ow w B g n c C) : Sl w .u16 (some ⟨g, 0, none⟩) C := by
  refine Or.inr ⟨g, 0, rfl, h.lies.2, fun j hj => ?_⟩
  rw [Nat.zero_add]; exact h.cell j (by rw [← h.len]; exact hj)

/-- a table of the list C with Count n, in new memory -/
def Tn (w w' : World) (e : Ending) (C : List Nat) (n : Int) : Prop := ∃ g c, e = .returned (.tuple #[.agg #[.slice (some ⟨g, 0, none⟩) C.length c, .int .i64 n], .int .i64 0]) ∧ Ow w' w.heap.size g C.length c C ∧ Below w.heap.size w w'

def FiInv (w : World) (B : Nat) (f : Nat → Nat) (n g : Nat) (i : Value) (wr : World) : Prop :=
  ∃ k : Nat, k + 1 ≤ n ∧ i = .int .i64 k ∧ Ow wr B g n n (part f n k) ∧ Below B w wr

/-- Flat's elements -/
def fl (n j : Nat) : Nat := 32768 * (j + 1) / n
theorem fl_le {n j : Nat} (h : j < n) : fl n j ≤ 32768 := by
  unfold fl
  exact Nat.div_le_of_le_mul (by rw [Nat.mul_comm n]; exact Nat.mul_le_mul_left _ (by omega))
theorem fl_last {n j : Nat} (h : j + 1 = n) : fl n j = 32768 := by
  unfold fl; rw [h]; exact Nat.mul_div_cancel _ (by omega)
theorem fl_val {n k : Nat} (h : k < n) : IntKind.u16.wrap (32768 * ((k : Int) + 1) / (n : Int)) = ((fl n k : Nat) : Int) := by
  have := fl_le h
  have e : 32768 * ((k : Int) + 1) / (n : Int) = ((fl n k : Nat) : Int) := by unfold fl; rw [Int.natCast_ediv, Int.natCast_mul, Int.natCast_add]; rfl
  rw [e, IntKind.wrap_u16]
  generalize fl n k = q at *
  omega
/-- Steep's elements -/
def st (n j : Nat) : Nat := if j + 1 = n then 32768 else 32768 - 32768 / 2 ^ (j + 1)
theorem st_le {n j : Nat} : st n j ≤ 32768 := by unfold st; split; exact Nat.le_refl _; exact Nat.sub_le _ _
theorem st_last {n j : Nat} (h : j + 1 = n) : st n j = 32768 := by unfold st; rw [if_pos h]

theorem st_all : ∀ k : Nat, k < 15 → IntKind.u16.wrap (wrap64 (32768 - (32768 : Int) / 2 ^ (k + 1))) = ((32768 - 32768 / 2 ^ (k + 1) : Nat) : Int) := by decide +kernel
theorem st_val {n k : Nat} (h : k + 1 < n) (hn : n ≤ 16) : IntKind.u16.wrap (wrap64 (32768 - (32768 : Int) / 2 ^ (k + 1))) = ((st n k : Nat) : Int) := by
  rw [st_all k (by omega)]; unfold st; rw [if_neg (by omega)]

set_option maxRecDepth 100000 in
set_option maxHeartbeats 1000000 in
theorem filled_flat {w : World} {n x : Nat} (h0 : 2 ≤ n) (h1 : n ≤ 16) (hx : x < w.heap.size) (hc : w.cell? ⟨x, 0, none⟩ = some (.int .i64 n)) :
    Calls Tryd.prog 96 #[.int .i64 n, .func (.func 97) #[] #[.pointer (some ⟨x, 0, none⟩)]] w fun e w' => Tn w w' e (part (fl n) n n) 0 := by
  obtain ⟨i, hi, hz0, hz1, hz2⟩ := info_parts Tryd.info38
  have i0 : ¬ (n : Int) < 2 := by omega
  have i1 : ¬ (16 : Int) < (n : Int) := by omega
  go_enter Tryd.func96, Tryd.ntmps96
  go_wp2_with (at_make; refine wpList_make_full _ (by rfl) _ _ _ (by rfl) (w.heap.size + 1) 38 i (.int .u16 0) 1 Tryd.underlying61 hi hz0 hz1 .i64 .i64 _ _ n (by rfl) (by rfl) rfl rfl (by rw [hz2]; omega) (by unfold maxLen; omega) (by simp) ?_; intro w1 hown hgrow)
  rw [← part_zero (fl n), show (w.alloc (.cells #[.slice none 0 0, .int .i64 0] 63)).heap.size = w.heap.size + 1 from by simp] at hown
  have hB : Below (w.heap.size + 1) (w.alloc (.cells #[.slice none 0 0, .int .i64 0] 63)) w1 := (Below.refl _ _).grown hgrow (by simp) (fun k hk => by cases hk)
  clear hgrow
  go_wp2_with fail
  go_loopw [19] (fun i wr => FiInv (w.alloc (.cells #[.slice none 0 0, .int .i64 0] 63)) (w.heap.size + 1) (fl n) n (w.heap.size + 1) i wr) (fun i _ => n - (intOf i).toNat)
  case atStart => exact ⟨0, by omega, rfl, ⟨hown⟩, hB⟩
  case round =>
    obtain ⟨k, hk, rfl, ho, hb⟩ := hrel
    clear hown hB
    have c1 : wr.cell? ⟨w.heap.size + 1, k, none⟩ = some (.int .u16 0) := by
      rw [ho.cell k (by omega), part_get _ _ _ _ (by omega), if_neg (by omega)]; rfl
    have c2 := ho.thaw k
    have HO : Hid _ := ho
    have HB : Hid _ := hb
    have b0 : 0 ≤ (k : Int) := by omega
    have b2 : (0 : Int) < (n : Int) := by omega
    have b3 : (n : Int) ≤ 16 := by omega
    have HPT := part_set (fl n) n k (by omega)
    by_cases hlt : k + 1 < n
    · have b1 : (k : Int) < (n : Int) - 1 := by omega
      have c0 : wr.cell? ⟨x, 0, none⟩ = some (.int .i64 n) := by
        rw [newCell hb _ _ (by omega), World.cell?_alloc_lt _ _ _ hx]; exact hc
      have HPT' : Hid _ := HPT
      clear ho hb HPT
      go_wp2
      go_roundw
      case rel =>
        refine ⟨k + 1, by omega, by go_num, ?_, below_set HB.out (by simp) _⟩
        rw [fl_val (by omega), ← HPT'.out]
        exact HO.out.set k (fl n k)
      case measure => simp [intOf]; omega
    · have b1 : ¬ (k : Int) < (n : Int) - 1 := by omega
      have b4 : ((n : Int) - 1).toNat = k := by omega
      have b5 : (0 : Int) ≤ (n : Int) - 1 := by omega
      have b6 : (n : Int) - 1 < (n : Int) := by omega
      have d0 : wr.cell? ⟨w.heap.size, 0, none⟩ = some (.slice none 0 0) := by rw [newCell hb _ _ (by omega)]; simp
      have d1 : wr.cell? ⟨w.heap.size, 1, none⟩ = some (.int .i64 0) := by rw [newCell hb _ _ (by omega)]; simp
      have f0 : wr.frozen? ⟨w.heap.size, 0, none⟩ = false := by rw [newFrozen hb _ _ (by omega)]; simp
      have f1 : wr.frozen? ⟨w.heap.size, 1, none⟩ = false := by rw [newFrozen hb _ _ (by omega)]; simp
      rw [show fl n k = 32768 from fl_last (by omega), show k + 1 = n from by omega] at HPT
      have HPT' : Hid _ := HPT
      clear ho hb HPT
      go_wp2
      refine bodyPost_ret (v := .tuple #[.agg #[.slice (some ⟨w.heap.size + 1, 0, none⟩) n n, .int .i64 0], .int .i64 0]) (by simp [results, Tryd.results96, go_sem, d0, d1]) rfl ?_
      have ho2 := HO.out.set k 32768
      rw [HPT'.out] at ho2
      refine ⟨w.heap.size + 1, n, by rw [part_len], ?_, ?_⟩
      · rw [part_len]
        exact ((ho2.far (by simp) _).far (by simp) _).mono (by omega)
      · exact below_set (below_set (below_set (((Below.refl _ _).alloc (Nat.le_refl _) _).trans (HB.out.mono (by omega))) (by simp) _) (by simp) _) (by simp) _

set_option maxRecDepth 100000 in
set_option maxHeartbeats 1000000 in
theorem filled_steep {w : World} {n : Nat} (h0 : 2 ≤ n) (h1 : n ≤ 16) :
    Calls Tryd.prog 96 #[.int .i64 n, .func (.func 98) #[] #[]] w fun e w' => Tn w w' e (part (st n) n n) 0 := by
  obtain ⟨i, hi, hz0, hz1, hz2⟩ := info_parts Tryd.info38
  have i0 : ¬ (n : Int) < 2 := by omega
  have i1 : ¬ (16 : Int) < (n : Int) := by omega
  go_enter Tryd.func96, Tryd.ntmps96
  go_wp2_with (at_make; refine wpList_make_full _ (by rfl) _ _ _ (by rfl) (w.heap.size + 1) 38 i (.int .u16 0) 1 Tryd.underlying61 hi hz0 hz1 .i64 .i64 _ _ n (by rfl) (by rfl) rfl rfl (by rw [hz2]; omega) (by unfold maxLen; omega) (by simp) ?_; intro w1 hown hgrow)
  rw [← part_zero (st n), show (w.alloc (.cells #[.slice none 0 0, .int .i64 0] 63)).heap.size = w.heap.size + 1 from by simp] at hown
  have hB : Below (w.heap.size + 1) (w.alloc (.cells #[.slice none 0 0, .int .i64 0] 63)) w1 := (Below.refl _ _).grown hgrow (by simp) (fun k hk => by cases hk)
  clear hgrow
  go_wp2_with fail
  go_loopw [19] (fun i wr => FiInv (w.alloc (.cells #[.slice none 0 0, .int .i64 0] 63)) (w.heap.size + 1) (st n) n (w.heap.size + 1) i wr) (fun i _ => n - (intOf i).toNat)
  case atStart => exact ⟨0, by omega, rfl, ⟨hown⟩, hB⟩
  case round =>
    obtain ⟨k, hk, rfl, ho, hb⟩ := hrel
    clear hown hB
    have c1 : wr.cell? ⟨w.heap.size + 1, k, none⟩ = some (.int .u16 0) := by
      rw [ho.cell k (by omega), part_get _ _ _ _ (by omega), if_neg (by omega)]; rfl
    have c2 := ho.thaw k
    have HO : Hid _ := ho
    have HB : Hid _ := hb
    have b0 : 0 ≤ (k : Int) := by omega
    have b2 : (0 : Int) < (n : Int) := by omega
    have b3 : (n : Int) ≤ 16 := by omega
    have HPT := part_set (st n) n k (by omega)
    by_cases hlt : k + 1 < n
    · have b1 : (k : Int) < (n : Int) - 1 := by omega
      have HPT' : Hid _ := HPT
      clear ho hb HPT
      go_wp2
      go_roundw
      case rel =>
        refine ⟨k + 1, by omega, by go_num, ?_, below_set HB.out (by simp) _⟩
        rw [st_val hlt h1, ← HPT'.out]
        exact HO.out.set k (st n k)
      case measure => simp [intOf]; omega
    · have b1 : ¬ (k : Int) < (n : Int) - 1 := by omega
      have b4 : ((n : Int) - 1).toNat = k := by omega
      have b5 : (0 : Int) ≤ (n : Int) - 1 := by omega
      have b6 : (n : Int) - 1 < (n : Int) := by omega
      have d0 : wr.cell? ⟨w.heap.size, 0, none⟩ = some (.slice none 0 0) := by rw [newCell hb _ _ (by omega)]; simp
      have d1 : wr.cell? ⟨w.heap.size, 1, none⟩ = some (.int .i64 0) := by rw [newCell hb _ _ (by omega)]; simp
      have f0 : wr.frozen? ⟨w.heap.size, 0, none⟩ = false := by rw [newFrozen hb _ _ (by omega)]; simp
      have f1 : wr.frozen? ⟨w.heap.size, 1, none⟩ = false := by rw [newFrozen hb _ _ (by omega)]; simp
      rw [show st n k = 32768 from st_last (by omega), show k + 1 = n from by omega] at HPT
      have HPT' : Hid _ := HPT
      clear ho hb HPT
      go_wp2
      refine bodyPost_ret (v := .tuple #[.agg #[.slice (some ⟨w.heap.size + 1, 0, none⟩) n n, .int .i64 0], .int .i64 0]) (by simp [results, Tryd.results96, go_sem, d0, d1]) rfl ?_
      have ho2 := HO.out.set k 32768
      rw [HPT'.out] at ho2
      refine ⟨w.heap.size + 1, n, by rw [part_len], ?_, ?_⟩
      · rw [part_len]
        exact ((ho2.far (by simp) _).far (by simp) _).mono (by omega)
      · exact below_set (below_set (below_set (((Below.refl _ _).alloc (Nat.le_refl _) _).trans (HB.out.mono (by omega))) (by simp) _) (by simp) _) (by simp) _

set_option maxHeartbeats 400000 in
theorem filled_no {w : World} {n : Int} {f : Value} (h : n < 2 ∨ 16 < n) :
    Calls Tryd.prog 96 #[.int .i64 n, f] w fun e w' => e = .returned (.tuple #[.agg #[.slice none 0 0, .int .i64 0], .int .i64 2]) ∧ Below w.heap.size w w' := by
  rcases h with h | h
  · go_enter Tryd.func96, Tryd.ntmps96
    go_wp2_with fail
    exact bodyPost_ret (v := .tuple #[.agg #[.slice none 0 0, .int .i64 0], .int .i64 2]) (by simp [results, Tryd.results96, go_sem]) rfl ⟨rfl, by go_grown⟩
  · have h' : ¬ n < 2 := by omega
    go_enter Tryd.func96, Tryd.ntmps96
    go_wp2_with fail
    exact bodyPost_ret (v := .tuple #[.agg #[.slice none 0 0, .int .i64 0], .int .i64 2]) (by simp [results, Tryd.results96, go_sem]) rfl ⟨rfl, by go_grown⟩

def flC (n : Nat) : List Nat := part (fl n) n n
def stC (n : Nat) : List Nat := part (st n) n n
theorem flC_len (n : Nat) : (flC n).length = n := part_len _ _ _
theorem stC_len (n : Nat) : (stC n).length = n := part_len _ _ _
theorem flC_get (n j : Nat) (h : j < n) : (flC n).getD j 0 = fl n j := by unfold flC; rw [part_get _ _ _ _ h, if_pos h]
theorem stC_get (n j : Nat) (h : j < n) : (stC n).getD j 0 = st n j := by unfold stC; rw [part_get _ _ _ _ h, if_pos h]

set_option maxRecDepth 100000 in
set_option maxHeartbeats 400000 in
theorem flat_ok {w : World} {n : Nat} (h0 : 2 ≤ n) (h1 : n ≤ 16) :
    Calls Tryd.prog 80 #[.int .i64 n] w fun e w' => Tn w w' e (flC n) 0 := by
  go_enter Tryd.func80, Tryd.ntmps80
  go_wp2_with fail
  refine (filled_flat (x := w.heap.size) h0 h1 (by simp; omega) (by simp)).mono ?_
  rintro e w1 ⟨g, c, rfl, ho, hb⟩
  have d0 : w1.cell? ⟨w.heap.size + 1, 0, none⟩ = some (.slice none 0 0) := by rw [newCell hb _ _ (by simp)]; simp
  have d1 : w1.cell? ⟨w.heap.size + 1, 1, none⟩ = some (.int .i64 0) := by rw [newCell hb _ _ (by simp)]; simp
  have f0 : w1.frozen? ⟨w.heap.size + 1, 0, none⟩ = false := by rw [newFrozen hb _ _ (by simp)]; simp
  have f1 : w1.frozen? ⟨w.heap.size + 1, 1, none⟩ = false := by rw [newFrozen hb _ _ (by simp)]; simp
  have hgl := ho.lies.1
  rw [show ((w.alloc (.cells #[.int .i64 n] 3)).alloc (.cells #[.slice none 0 0, .int .i64 0] 63)).heap.size = w.heap.size + 1 + 1 from by simp] at hgl
  have HO : Hid _ := ho
  have HB : Hid _ := hb
  clear ho hb
  go_wp2_with fail
  refine bodyPost_ret (v := .tuple #[.agg #[.slice (some ⟨g, 0, none⟩) (flC n).length c, .int .i64 0], .int .i64 0]) (by simp [results, Tryd.results80, go_sem, d0, d1, flC]) rfl ?_
  refine ⟨g, c, rfl, ?_, ?_⟩
  · exact ((HO.out.far (by simp; omega) _).far (by simp; omega) _).mono (by simp; try omega)
  · exact below_set (below_set ((below_alloc ((Below.refl _ _).alloc (Nat.le_refl _) _) (Nat.le_refl _) _).trans (HB.out.mono (by simp; try omega))) (by simp) _) (by simp) _

set_option maxRecDepth 100000 in
set_option maxHeartbeats 400000 in
theorem flat_no {w : World} {n : Int} (h : n < 2 ∨ 16 < n) :
    Calls Tryd.prog 80 #[.int .i64 n] w fun e w' => e = .returned (.tuple #[.agg #[.slice none 0 0, .int .i64 0], .int .i64 2]) ∧ Below w.heap.size w w' := by
  have HH : Hid _ := h
  clear h
  go_enter Tryd.func80, Tryd.ntmps80
  go_wp2_with fail
  refine (filled_no HH.out).mono ?_
  rintro e w1 ⟨rfl, hb⟩
  have d0 : w1.cell? ⟨w.heap.size + 1, 0, none⟩ = some (.slice none 0 0) := by rw [newCell hb _ _ (by simp)]; simp
  have d1 : w1.cell? ⟨w.heap.size + 1, 1, none⟩ = some (.int .i64 0) := by rw [newCell hb _ _ (by simp)]; simp
  have f0 : w1.frozen? ⟨w.heap.size + 1, 0, none⟩ = false := by rw [newFrozen hb _ _ (by simp)]; simp
  have f1 : w1.frozen? ⟨w.heap.size + 1, 1, none⟩ = false := by rw [newFrozen hb _ _ (by simp)]; simp
  have HB : Hid _ := hb
  clear hb
  go_wp2_with fail
  refine bodyPost_ret (v := .tuple #[.agg #[.slice none 0 0, .int .i64 0], .int .i64 2]) (by simp [results, Tryd.results80, go_sem, d0, d1]) rfl ⟨rfl, ?_⟩
  exact below_set (below_set ((below_alloc ((Below.refl _ _).alloc (Nat.le_refl _) _) (Nat.le_refl _) _).trans (HB.out.mono (by simp; try omega))) (by simp) _) (by simp) _

set_option maxRecDepth 100000 in
set_option maxHeartbeats 400000 in
theorem steep_ok {w : World} {n : Nat} (h0 : 2 ≤ n) (h1 : n ≤ 16) :
    Calls Tryd.prog 81 #[.int .i64 n] w fun e w' => Tn w w' e (stC n) 0 := by
  go_enter Tryd.func81, Tryd.ntmps81
  go_wp2_with fail
  refine (filled_steep h0 h1).mono ?_
  rintro e w1 ⟨g, c, rfl, ho, hb⟩
  have d0 : w1.cell? ⟨w.heap.size, 0, none⟩ = some (.slice none 0 0) := by rw [newCell hb _ _ (by simp)]; simp
  have d1 : w1.cell? ⟨w.heap.size, 1, none⟩ = some (.int .i64 0) := by rw [newCell hb _ _ (by simp)]; simp
  have f0 : w1.frozen? ⟨w.heap.size, 0, none⟩ = false := by rw [newFrozen hb _ _ (by simp)]; simp
  have f1 : w1.frozen? ⟨w.heap.size, 1, none⟩ = false := by rw [newFrozen hb _ _ (by simp)]; simp
  have hgl := ho.lies.1
  rw [show (w.alloc (.cells #[.slice none 0 0, .int .i64 0] 63)).heap.size = w.heap.size + 1 from by simp] at hgl
  have HO : Hid _ := ho
  have HB : Hid _ := hb
  clear ho hb
  go_wp2_with fail
  refine bodyPost_ret (v := .tuple #[.agg #[.slice (some ⟨g, 0, none⟩) (stC n).length c, .int .i64 0], .int .i64 0]) (by simp [results, Tryd.results81, go_sem, d0, d1, stC]) rfl ?_
  refine ⟨g, c, rfl, ?_, ?_⟩
  · exact ((HO.out.far (by simp; omega) _).far (by simp; omega) _).mono (by simp; try omega)
  · exact below_set (below_set ((((Below.refl _ _).alloc (Nat.le_refl _) _)).trans (HB.out.mono (by simp; try omega))) (by simp) _) (by simp) _

set_option maxRecDepth 100000 in
set_option maxHeartbeats 400000 in
theorem steep_no {w : World} {n : Int} (h : n < 2 ∨ 16 < n) :
    Calls Tryd.prog 81 #[.int .i64 n] w fun e w' => e = .returned (.tuple #[.agg #[.slice none 0 0, .int .i64 0], .int .i64 2]) ∧ Below w.heap.size w w' := by
  have HH : Hid _ := h
  clear h
  go_enter Tryd.func81, Tryd.ntmps81
  go_wp2_with fail
  refine (filled_no HH.out).mono ?_
  rintro e w1 ⟨rfl, hb⟩
  have d0 : w1.cell? ⟨w.heap.size, 0, none⟩ = some (.slice none 0 0) := by rw [newCell hb _ _ (by simp)]; simp
  have d1 : w1.cell? ⟨w.heap.size, 1, none⟩ = some (.int .i64 0) := by rw [newCell hb _ _ (by simp)]; simp
  have f0 : w1.frozen? ⟨w.heap.size, 0, none⟩ = false := by rw [newFrozen hb _ _ (by simp)]; simp
  have f1 : w1.frozen? ⟨w.heap.size, 1, none⟩ = false := by rw [newFrozen hb _ _ (by simp)]; simp
  have HB : Hid _ := hb
  clear hb
  go_wp2_with fail
  refine bodyPost_ret (v := .tuple #[.agg #[.slice none 0 0, .int .i64 0], .int .i64 2]) (by simp [results, Tryd.results81, go_sem, d0, d1]) rfl ⟨rfl, ?_⟩
  exact below_set (below_set ((((Below.refl _ _).alloc (Nat.le_refl _) _)).trans (HB.out.mono (by simp; try omega))) (by simp) _) (by simp) _

end Go.Proofs.YtppanogpeengnaaDoor.L3
