/- DERIVED. The walks of Find. -/
import Derived.Test.YtkmnpechhdendaaDoorL3Tb
namespace Go.Proofs.YtkmnpechhdendaaDoor.L3
open Go.RowKit

/-- the value in whose part a place is -/
def Fd (C : List Nat) (p s : Nat) : Prop := s < C.length ∧ eb C s ≤ p ∧ p < ee C s

set_option maxRecDepth 100000 in
set_option maxHeartbeats 1000000 in
theorem find_ok {w : World} {a : Option Addr} {c : Nat} {C : List Nat} {n : Int} {p : Nat} (h : Sl w .u16 a C) (ht : TOk C n) (hp : p < 32768) :
    Calls Tryd.prog 78 #[.agg #[.slice a C.length c, .int .i64 n], .int .u32 p] w fun e w' => ∃ s, e = .returned (.tuple #[.int .i64 (s : Nat), .int .i64 0]) ∧ Fd C p s ∧ Below w.heap.size w w' := by
  have HS : Hid (Sl w .u16 a C) := h
  have HT : Hid (TOk C n) := ht
  have HC : Hid (ck C n = 0) := ck_ok ht
  have hhi := ht.hi
  have hlo := ht.lo
  have HP : Bx (p < 32768) := ⟨hp⟩
  have hp' : decide ((32768 : Int) ≤ (p : Int)) = false := by simp; omega
  clear h ht hp
  go_enter Tryd.func78, Tryd.ntmps78
  go_wp2_with fail
  refine (check_any (HS.out.alloc _) (by omega)).mono ?_
  rintro e w1 ⟨rfl, hb⟩
  rw [HC.out]
  have q0 : w1.cell? ⟨w.heap.size, 0, none⟩ = some (.slice a C.length c) := by rw [newCell hb _ _ (by simp)]; simp
  have HB : Hid (Below w.heap.size w w1) := ((Below.refl w.heap.size w).alloc (Nat.le_refl _) _).trans (hb.mono (by simp))
  clear hb
  go_wp2_with fail
  clear hp'
  go_loop [7] (fun i => ∃ k : Nat, k < C.length ∧ i = .int .i64 k ∧ eb C k ≤ p) (fun i => C.length - (intOf i).toNat)
  case atStart => exact ⟨0, by omega, rfl, by simp [eb]⟩
  case round =>
    obtain ⟨k, hk, rfl, he⟩ := hrel
    have HE : Hid (eb C k ≤ p) := he
    clear he
    have hle := ee_le HT.out hk
    have hp := HP.out
    by_cases hlt : ee C k ≤ p
    · have hk1 : k + 1 < C.length := by
        by_cases e : k + 1 < C.length
        · exact e
        · have := ee_last HT.out
          rw [show C.length - 1 = k from by omega] at this
          omega
      have hlt' : (ee C k : Int) ≤ (p : Int) := by omega
      have HL : Hid (ee C k ≤ p) := hlt
      clear hlt hle hp
      go_wp2_with fail
      refine (end_any (i := k) (HS.out.to HB.out) HT.out hk).mono ?_
      rintro e w2 ⟨rfl, rfl⟩
      go_wp2_with fail
      go_round
      case rel => exact ⟨k + 1, hk1, by go_num, by rw [eb_succ]; exact HL.out⟩
      case measure => simp [intOf]; omega
    · have hlt' : ¬ (ee C k : Int) ≤ (p : Int) := by omega
      have HL : Hid (¬ ee C k ≤ p) := hlt
      clear hlt hle hp
      go_wp2_with fail
      refine (end_any (i := k) (HS.out.to HB.out) HT.out hk).mono ?_
      rintro e w2 ⟨rfl, rfl⟩
      go_wp2_with fail
      go_ret2
      exact ⟨k, rfl, ⟨hk, HE.out, by have := HL.out; omega⟩, HB.out⟩

set_option maxRecDepth 100000 in
set_option maxHeartbeats 1000000 in
theorem find_no {w : World} {a : Option Addr} {c : Nat} {C : List Nat} {n : Int} {p : Nat} (h : Sl w .u16 a C) (hl : C.length ≤ 140737488355328) (ht : ¬ TOk C n ∨ 32768 ≤ p) :
    Calls Tryd.prog 78 #[.agg #[.slice a C.length c, .int .i64 n], .int .u32 p] w fun e w' => e = .returned (.tuple #[.int .i64 0, .int .i64 2]) ∧ Below w.heap.size w w' := by
  have HS : Hid (Sl w .u16 a C) := h
  clear h
  by_cases hk : TOk C n
  · have hp' : (32768 : Int) ≤ (p : Int) := by rcases ht with e | e; exact absurd hk e; omega
    have HC : Hid (ck C n = 0) := ck_ok hk
    clear ht hk
    go_enter Tryd.func78, Tryd.ntmps78
    go_wp2_with fail
    refine (check_any (HS.out.alloc _) (by omega)).mono ?_
    rintro e w1 ⟨rfl, hb⟩
    rw [HC.out]
    have HB : Hid (Below w.heap.size w w1) := ((Below.refl w.heap.size w).alloc (Nat.le_refl _) _).trans (hb.mono (by simp))
    clear hb
    go_wp2_with fail
    go_ret2
    exact ⟨rfl, HB.out⟩
  · have HC : Hid (ck C n = 2) := ck_no hk
    clear ht hk
    go_enter Tryd.func78, Tryd.ntmps78
    go_wp2_with fail
    refine (check_any (HS.out.alloc _) (by omega)).mono ?_
    rintro e w1 ⟨rfl, hb⟩
    rw [HC.out]
    have HB : Hid (Below w.heap.size w w1) := ((Below.refl w.heap.size w).alloc (Nat.le_refl _) _).trans (hb.mono (by simp))
    clear hb
    go_wp2_with fail
    go_ret2
    exact ⟨rfl, HB.out⟩

end Go.Proofs.YtkmnpechhdendaaDoor.L3
