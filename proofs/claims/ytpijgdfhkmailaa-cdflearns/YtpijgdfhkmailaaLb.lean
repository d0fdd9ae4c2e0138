/- DERIVED. The walks of Bring and of share, and a list of whole numbers in memory. -/
import Derived.Test.YtpijgdfhkmailaaLa
namespace Go.Proofs.Ytpijgdfhkmailaa
open Go.RowKit

/-- a number brought into 0 .. m - 1 -/
def brg (i : Int) (m : Nat) : Nat := (i % (m : Int)).toNat
theorem brg_lt (i : Int) {m : Nat} (h : 0 < m) : brg i m < m := by
  unfold brg
  have := Int.emod_lt_of_pos i (show (0 : Int) < m by omega)
  have := Int.emod_nonneg i (show (m : Int) ≠ 0 by omega)
  omega
theorem tmod_brg (i : Int) {m : Nat} (h : 0 < m) : (0 ≤ i.tmod m → i.tmod m = (brg i m : Int)) ∧ (i.tmod m < 0 → i.tmod m + m = (brg i m : Int)) ∧ -(m : Int) < i.tmod m ∧ i.tmod m < (m : Int) := by
  have e1 := Int.emod_lt_of_pos i (show (0 : Int) < m by omega)
  have e2 := Int.emod_nonneg i (show (m : Int) ≠ 0 by omega)
  have hb : (brg i m : Int) = i % (m : Int) := by unfold brg; omega
  rw [hb]
  rcases Int.le_total 0 i with h0 | h0
  · rw [Int.tmod_eq_emod_of_nonneg h0]
    omega
  · obtain ⟨j, rfl⟩ : ∃ j : Nat, i = -(j : Int) := ⟨(-i).toNat, by omega⟩
    rw [Int.neg_tmod, Int.tmod_eq_emod_of_nonneg (by omega)]
    have f1 := Int.emod_lt_of_pos (j : Int) (show (0 : Int) < m by omega)
    have f2 := Int.emod_nonneg (j : Int) (show (m : Int) ≠ 0 by omega)
    have f3 : (-(j : Int)) % (m : Int) = if (j : Int) % (m : Int) = 0 then 0 else (m : Int) - (j : Int) % (m : Int) := by
      split
      · rename_i hz
        exact Int.emod_eq_zero_of_dvd ((Int.dvd_neg).2 (Int.dvd_of_emod_eq_zero hz))
      · rename_i hz
        have hd := Int.emod_add_mul_ediv (j : Int) (m : Int)
        rw [show (-(j : Int)) = ((m : Int) - (j : Int) % (m : Int)) + (m : Int) * (-((j : Int) / (m : Int)) - 1) from by rw [Int.mul_sub, Int.mul_neg]; omega, Int.add_mul_emod_self_left]
        exact Int.emod_eq_of_lt (by omega) (by omega)
    rw [f3]
    split <;> omega

set_option maxHeartbeats 400000 in
theorem bring_any (i : Int) (m : Nat) (w : World) (h : 0 < m) (hm : m ≤ 1000) : Calls Try.prog 28 #[.int .i64 i, .int .i64 m] w fun e w' => e = .returned (.int .i64 (brg i m)) ∧ w' = w := by
  have HT : Hid _ := tmod_brg i h
  have h' : ¬ (m : Int) ≤ 0 := by omega
  have h2 : (m : Int) ≠ 0 := by omega
  have h3 : (0 : Int) < m := by omega
  have t1 := (tmod_brg i h).2.2.1
  have t2 := (tmod_brg i h).2.2.2
  by_cases hs : i.tmod (m : Int) < 0
  · have HE : Hid _ := HT.out.2.1 hs
    generalize hT : i.tmod (m : Int) = T at *
    go_enter Try.func28, Try.ntmps28
    go_wp2
    go_ret
    exact ⟨ret_int HE.out, rfl⟩
  · have HE : Hid _ := HT.out.1 (by omega)
    generalize hT : i.tmod (m : Int) = T at *
    go_enter Try.func28, Try.ntmps28
    go_wp2
    go_ret
    exact ⟨ret_int HE.out, rfl⟩

set_option maxRecDepth 100000 in
set_option maxHeartbeats 1000000 in
theorem share_any {w : World} {a : Option Addr} {c : Nat} {C : List Nat} {n : Int} {k : Nat} (h : Sl w .u16 a C) (hu : ∀ i, C.getD i 0 < 65536) (hl : C.length ≤ 140737488355328) (hk : k < C.length) :
    Calls Try.prog 29 #[.agg #[.slice a C.length c, .int .i64 n], .int .i64 k] w fun e w' => e = .returned (.int .i64 (sh C k)) ∧ Below w.heap.size w w' := by
  obtain ⟨b, o, rfl, hbl, hcell⟩ := h.form (by omega)
  have HB : Hid (∀ m, Below w.heap.size w ((w.alloc (.cells #[.slice (some ⟨b, o, none⟩) C.length c, .int .i64 n] 24)).drewN m)) := fun m => below_drewN ((Below.refl _ _).alloc (Nat.le_refl _) _) m
  have qq : ∀ j, j < C.length → (w.alloc (.cells #[.slice (some ⟨b, o, none⟩) C.length c, .int .i64 n] 24)).cell? ⟨b, o + j, none⟩ = some (.int .u16 (C.getD j 0 : Nat)) := fun j hj => by
    rw [newCell ((Below.refl w.heap.size w).alloc (Nat.le_refl _) _) b _ hbl]; exact hcell _ hj
  by_cases h0 : k = 0
  · subst h0
    have q0 := qq 0 hk
    rw [Nat.add_zero] at q0
    have HE : Hid (sh C 0 = (C.getD 0 0 : Int)) := by unfold sh Hid; rw [if_pos rfl]
    have b1 : (0 : Int) < (C.length : Int) := by omega
    have hu0 := hu 0
    generalize C.getD 0 0 = x at *
    clear qq hcell hu h
    go_enter Try.func29, Try.ntmps29
    go_wp2
    go_ret
    exact ⟨ret_int HE.out.symm, HB.out 0⟩
  · have q0 := qq k hk
    have q1 := qq (k - 1) (by omega)
    have HE : Hid (sh C k = (C.getD k 0 : Int) - (C.getD (k - 1) 0 : Int)) := by unfold sh Hid; rw [if_neg h0]
    have b0 : ((k : Int) == 0) = false := by rw [beq_eq_false_iff_ne]; omega
    have b1 : (k : Int) < (C.length : Int) := by omega
    have b2 : 0 ≤ (k : Int) := by omega
    have b3 : 0 ≤ (k : Int) - 1 := by omega
    have b4 : (k : Int) - 1 < (C.length : Int) := by omega
    have b5 : ((k : Int) - 1).toNat = k - 1 := by omega
    have hu0 := hu k
    have hu1 := hu (k - 1)
    generalize C.getD k 0 = x at *
    generalize C.getD (k - 1) 0 = y at *
    clear qq hcell hu h
    go_enter Try.func29, Try.ntmps29
    go_wp2
    go_quiet (fail)
    go_wp2
    go_ret
    exact ⟨ret_int HE.out.symm, HB.out _⟩

/-- whole numbers in memory -/
def Ns (w : World) (a : Option Addr) (l : List Int) : Prop :=
  l = [] ∨ ∃ b o, a = some ⟨b, o, none⟩ ∧ b < w.heap.size ∧ ∀ j, j < l.length → w.cell? ⟨b, o + j, none⟩ = some (.int .i64 (l.getD j 0))

end Go.Proofs.Ytpijgdfhkmailaa
