/- DERIVED. Adapt's answers, the program's and the document's, in one form. -/
import Derived.Test.YtpijgdfhkmailaaMh
import Derived.Test.YtpijgdfhkmailaaMg
namespace Go.Proofs.Ytpijgdfhkmailaa
open Go.RowKit

set_option maxRecDepth 100000 in
set_option maxHeartbeats 1000000 in
theorem radapt_no {w : World} {a : Option Addr} {c : Nat} {C : List Nat} {n s : Int} (h : Sl w .u16 a C) (hl : C.length ≤ 140737488355328) (ht : ¬ (TOk C n ∧ 0 ≤ s ∧ s < C.length)) :
    Calls Try.prog 24 #[.agg #[.slice a C.length c, .int .i64 n], .int .i64 s] w fun e w' => e = .returned (.tuple #[.agg #[.slice none 0 0, .int .i64 0], .int .i64 2]) ∧ Below w.heap.size w w' := by
  have HS : Hid (Sl w .u16 a C) := h
  have HNO : Hid (¬ (TOk C n ∧ 0 ≤ s ∧ s < C.length)) := ht
  clear h ht
  go_enter Try.func24, Try.ntmps24
  go_wp2_with fail
  refine (rcheck_any ((HS.out.alloc _).alloc _) hl).mono ?_
  rintro e w1 ⟨rfl, hb1⟩
  have q0 : w1.cell? ⟨w.heap.size, 0, none⟩ = some (.slice a C.length c) := by
    rw [newCell hb1 _ _ (by simp; omega), World.cell?_alloc_lt _ _ _ (by simp)]; simp
  have d0 : w1.cell? ⟨w.heap.size + 1, 0, none⟩ = some (.slice none 0 0) := by rw [newCell hb1 _ _ (by simp)]; simp
  have d1 : w1.cell? ⟨w.heap.size + 1, 1, none⟩ = some (.int .i64 0) := by rw [newCell hb1 _ _ (by simp)]; simp
  have f0 : w1.frozen? ⟨w.heap.size + 1, 0, none⟩ = false := by rw [newFrozen hb1 _ _ (by simp)]; simp
  have f1 : w1.frozen? ⟨w.heap.size + 1, 1, none⟩ = false := by rw [newFrozen hb1 _ _ (by simp)]; simp
  have HB1 : Hid (Below w.heap.size w w1) := (below_alloc ((Below.refl _ _).alloc (Nat.le_refl _) _) (Nat.le_refl _) _).trans (hb1.mono (by simp; omega))
  clear hb1
  by_cases ht : TOk C n
  · rw [show ck C n = 0 from ck_ok ht]
    by_cases h0 : s < 0
    · go_wp2_with fail
      exact bodyPost_ret (v := .tuple #[.agg #[.slice none 0 0, .int .i64 0], .int .i64 2]) (by simp [results, Try.results24, go_sem, d0, d1]) rfl ⟨rfl, below_set (below_set HB1.out (by simp) _) (by simp) _⟩
    · have h1 : (C.length : Int) ≤ s := by
        have := HNO.out
        by_cases e : s < C.length
        · exact absurd ⟨ht, by omega, e⟩ this
        · omega
      go_wp2_with fail
      exact bodyPost_ret (v := .tuple #[.agg #[.slice none 0 0, .int .i64 0], .int .i64 2]) (by simp [results, Try.results24, go_sem, d0, d1]) rfl ⟨rfl, below_set (below_set HB1.out (by simp) _) (by simp) _⟩
  · rw [show ck C n = 2 from ck_no ht]
    go_wp2_with fail
    exact bodyPost_ret (v := .tuple #[.agg #[.slice none 0 0, .int .i64 0], .int .i64 2]) (by simp [results, Try.results24, go_sem, d0, d1]) rfl ⟨rfl, below_set (below_set HB1.out (by simp) _) (by simp) _⟩

/-- Adapt's answer -/
noncomputable def adA (C : List Nat) (n s : Int) : List Nat × Int × Int := open Classical in if TOk C n ∧ 0 ≤ s ∧ s < C.length then (ad C n s.toNat, adN n, 0) else ([], 0, 2)
theorem adA_len (C : List Nat) (n s : Int) : (adA C n s).1.length ≤ 16 := by
  unfold adA
  split
  · rename_i h; rw [ad_len]; exact h.1.hi
  · simp
theorem adapt_both {w : World} {a : Option Addr} {c : Nat} {C : List Nat} {n s : Int} (h : Sl w .u16 a C) (hl : C.length ≤ 140737488355328) :
    Calls Try.prog 23 #[.agg #[.slice a C.length c, .int .i64 n], .int .i64 s] w fun e w' => Tm w w' e (adA C n s).1 (adA C n s).2.1 (adA C n s).2.2 := by
  by_cases hk : TOk C n ∧ 0 ≤ s ∧ s < C.length
  · unfold adA; rw [if_pos hk]
    obtain ⟨m, rfl⟩ : ∃ m : Nat, s = (m : Int) := ⟨s.toNat, by omega⟩
    rw [Int.toNat_natCast]
    exact (adapt_ok h hk.1 (by omega)).mono fun e w' h => Tm.ofTn h
  · unfold adA; rw [if_neg hk]
    exact (adapt_no h hl hk).mono fun e w' h => Tm.ofNo h
theorem radapt_both {w : World} {a : Option Addr} {c : Nat} {C : List Nat} {n s : Int} (h : Sl w .u16 a C) (hl : C.length ≤ 140737488355328) :
    Calls Try.prog 24 #[.agg #[.slice a C.length c, .int .i64 n], .int .i64 s] w fun e w' => Tm w w' e (adA C n s).1 (adA C n s).2.1 (adA C n s).2.2 := by
  by_cases hk : TOk C n ∧ 0 ≤ s ∧ s < C.length
  · unfold adA; rw [if_pos hk]
    obtain ⟨m, rfl⟩ : ∃ m : Nat, s = (m : Int) := ⟨s.toNat, by omega⟩
    rw [Int.toNat_natCast]
    exact (radapt_ok h hk.1 (by omega)).mono fun e w' h => Tm.ofTn h
  · unfold adA; rw [if_neg hk]
    exact (radapt_no h hl hk).mono fun e w' h => Tm.ofNo h

end Go.Proofs.Ytpijgdfhkmailaa
