/- DERIVED. The walks of checkValue and of the ends of parts. -/
import Derived.Test.YtkmnpechhdendaaDoorL3Ta
namespace Go.Proofs.YtkmnpechhdendaaDoor.L3
open Go.RowKit

/-- what checkValue answers -/
noncomputable def cv (C : List Nat) (n s : Int) : Int := open Classical in if TOk C n ∧ 0 ≤ s ∧ s < C.length then 0 else 2
theorem cv_ok {C : List Nat} {n s : Int} (h : TOk C n) (h0 : 0 ≤ s) (h1 : s < C.length) : cv C n s = 0 := by unfold cv; rw [if_pos ⟨h, h0, h1⟩]
theorem cv_no {C : List Nat} {n s : Int} (h : ¬ (TOk C n ∧ 0 ≤ s ∧ s < C.length)) : cv C n s = 2 := by unfold cv; rw [if_neg h]

set_option maxRecDepth 100000 in
set_option maxHeartbeats 1000000 in
theorem checkValue_any {w : World} {a : Option Addr} {c : Nat} {C : List Nat} {n s : Int} (h : Sl w .u16 a C) (hl : C.length ≤ 140737488355328) :
    Calls Tryd.prog 85 #[.agg #[.slice a C.length c, .int .i64 n], .int .i64 s] w fun e w' => e = .returned (.int .i64 (cv C n s)) ∧ Below w.heap.size w w' := by
  have HS : Hid (Sl w .u16 a C) := h
  clear h
  by_cases ht : TOk C n
  · have HT : Hid (TOk C n) := ht
    have hk : ck C n = 0 := ck_ok ht
    have HK : Hid (ck C n = 0) := hk
    clear ht hk
    go_enter Tryd.func85, Tryd.ntmps85
    go_wp2_with fail
    refine (check_any (HS.out.alloc _) hl).mono ?_
    rintro e w1 ⟨rfl, hb⟩
    rw [HK.out]
    have q0 : w1.cell? ⟨w.heap.size, 0, none⟩ = some (.slice a C.length c) := by rw [newCell hb _ _ (by simp)]; simp
    have HB : Hid (Below w.heap.size w w1) := ((Below.refl w.heap.size w).alloc (Nat.le_refl _) _).trans (hb.mono (by simp))
    clear hb
    by_cases h0 : s < 0
    · have hc : cv C n s = 2 := cv_no (fun k => by omega)
      have HC : Hid _ := hc
      clear hc
      go_wp2
      go_ret
      exact ⟨ret_int HC.out.symm, HB.out⟩
    · by_cases h1 : (C.length : Int) ≤ s
      · have hc : cv C n s = 2 := cv_no (fun k => by omega)
        have HC : Hid _ := hc
        clear hc
        go_wp2
        go_ret
        exact ⟨ret_int HC.out.symm, HB.out⟩
      · have hc : cv C n s = 0 := cv_ok HT.out (by omega) (by omega)
        have HC : Hid _ := hc
        clear hc
        go_wp2
        go_ret
        exact ⟨ret_int HC.out.symm, HB.out⟩
  · have hk : ck C n = 2 := ck_no ht
    have hc : cv C n s = 2 := cv_no (fun k => ht k.1)
    have HK : Hid _ := hk
    have HC : Hid _ := hc
    clear ht hk hc
    go_enter Tryd.func85, Tryd.ntmps85
    go_wp2_with fail
    refine (check_any (HS.out.alloc _) hl).mono ?_
    rintro e w1 ⟨rfl, hb⟩
    rw [HK.out]
    have HB : Hid (Below w.heap.size w w1) := ((Below.refl w.heap.size w).alloc (Nat.le_refl _) _).trans (hb.mono (by simp))
    clear hb
    go_wp2
    go_ret
    exact ⟨ret_int HC.out.symm, HB.out⟩

theorem end_num {p m i : Nat} (hp : p ≤ 32768) : (p : Int) * (32768 - 4 * (m : Int)) % 4294967296 / 32768 + 4 * ((i : Int) + 1) = ((p * (32768 - 4 * m) / 32768 + 4 * (i + 1) : Nat) : Int) ∨ 16 < m := by
  by_cases hm : 16 < m
  · exact Or.inr hm
  · left
    have h1 : p * (32768 - 4 * m) ≤ 32768 * 32768 := Nat.mul_le_mul hp (by omega)
    have e1 : (32768 - 4 * (m : Int)) = ((32768 - 4 * m : Nat) : Int) := by omega
    rw [e1, ← Int.natCast_mul]
    generalize p * (32768 - 4 * m) = q at *
    omega
theorem end_num2 {p m i : Nat} (_hp : p ≤ 32768) : (p : Int) * (32768 - 4 * (m : Int)) / 32768 + 4 * ((i : Int) + 1) = ((p * (32768 - 4 * m) / 32768 + 4 * (i + 1) : Nat) : Int) ∨ 16 < m := by
  by_cases hm : 16 < m
  · exact Or.inr hm
  · left
    have e1 : (32768 - 4 * (m : Int)) = ((32768 - 4 * m : Nat) : Int) := by omega
    rw [e1, ← Int.natCast_mul]
    generalize p * (32768 - 4 * m) = q at *
    omega
theorem end_prod {p m : Nat} (hp : p ≤ 32768) (hm : m ≤ 16) : 0 ≤ (p : Int) * (32768 - 4 * (m : Int)) ∧ (p : Int) * (32768 - 4 * (m : Int)) ≤ 1073741824 := by
  have h1 : p * (32768 - 4 * m) ≤ 32768 * 32768 := Nat.mul_le_mul hp (by omega)
  have e1 : (32768 - 4 * (m : Int)) = ((32768 - 4 * m : Nat) : Int) := by omega
  rw [e1, ← Int.natCast_mul]
  generalize p * (32768 - 4 * m) = q at *
  omega

set_option maxRecDepth 100000 in
set_option maxHeartbeats 1000000 in
theorem end_any {w : World} {a : Option Addr} {c : Nat} {C : List Nat} {n : Int} {i : Nat} (h : Sl w .u16 a C) (ht : TOk C n) (hi : i < C.length) :
    Calls Tryd.prog 84 #[.slice a C.length c, .int .i64 i] w fun e w' => e = .returned (.int .u32 (ee C i : Nat)) ∧ w' = w := by
  obtain ⟨b, o, rfl, hbl, hcell⟩ := h.form (by omega)
  have q0 := hcell i hi
  have hp := ht.le i
  have hm := ht.hi
  have HN : Hid _ := end_num (m := C.length) (i := i) hp
  have HE : Hid (ee C i = C.getD i 0 * (32768 - 4 * C.length) / 32768 + 4 * (i + 1)) := rfl
  generalize C.getD i 0 = p at *
  have b0 : (0 : Int) ≤ (i : Int) := by omega
  have b1 : (i : Int) < (C.length : Int) := by omega
  have b2 : (C.length : Int) ≤ 16 := by omega
  have b3 : (p : Int) ≤ 32768 := by omega
  clear hcell ht hp hm h
  go_enter Tryd.func84, Tryd.ntmps84
  go_wp2
  go_ret
  refine ⟨ret_int ?_, rfl⟩
  rw [HE.out]
  rcases HN.out with e | e
  · exact e
  · omega

set_option maxRecDepth 100000 in
set_option maxHeartbeats 1000000 in
set_option maxRecDepth 100000 in
set_option maxHeartbeats 1000000 in
/-- what Bounds answers -/
noncomputable def bd (C : List Nat) (n s : Int) : Value := open Classical in
  if TOk C n ∧ 0 ≤ s ∧ s < C.length then .tuple #[.int .u32 (eb C s.toNat : Nat), .int .u32 (ee C s.toNat : Nat), .int .i64 0] else .tuple #[.int .u32 0, .int .u32 0, .int .i64 2]

set_option maxRecDepth 100000 in
set_option maxHeartbeats 1000000 in
theorem bounds_ok {w : World} {a : Option Addr} {c : Nat} {C : List Nat} {n : Int} {i : Nat} (h : Sl w .u16 a C) (ht : TOk C n) (hi : i < C.length) :
    Calls Tryd.prog 79 #[.agg #[.slice a C.length c, .int .i64 n], .int .i64 i] w fun e w' => e = .returned (.tuple #[.int .u32 (eb C i : Nat), .int .u32 (ee C i : Nat), .int .i64 0]) ∧ Below w.heap.size w w' := by
  have HS : Hid (Sl w .u16 a C) := h
  have HT : Hid (TOk C n) := ht
  have HC : Hid (cv C n i = 0) := cv_ok ht (by omega) (by omega)
  have hhi := ht.hi
  clear h ht
  by_cases h0 : i = 0
  · subst h0
    go_enter Tryd.func79, Tryd.ntmps79
    go_wp2_with fail
    refine (checkValue_any (HS.out.alloc _) (by omega)).mono ?_
    rintro e w1 ⟨rfl, hb⟩
    have HC' : cv C n 0 = 0 := HC.out
    rw [HC']
    have q0 : w1.cell? ⟨w.heap.size, 0, none⟩ = some (.slice a C.length c) := by rw [newCell hb _ _ (by simp)]; simp
    have HB : Hid (Below w.heap.size w w1) := ((Below.refl w.heap.size w).alloc (Nat.le_refl _) _).trans (hb.mono (by simp))
    clear hb HC'
    go_wp2_with fail
    refine (end_any (i := 0) (HS.out.to HB.out) HT.out hi).mono ?_
    rintro e w2 ⟨rfl, rfl⟩
    go_wp2_with fail
    exact bodyPost_ret (v := .tuple #[.int .u32 (eb C 0 : Nat), .int .u32 (ee C 0 : Nat), .int .i64 0]) (by simp [results, Tryd.results79, go_sem, eb]) rfl ⟨rfl, HB.out⟩
  · have h0' : (0 : Int) < (i : Int) := by omega
    have hm1 : (i : Int) - 1 = ((i - 1 : Nat) : Int) := by omega
    have HM : Hid _ := hm1
    clear hm1
    go_enter Tryd.func79, Tryd.ntmps79
    go_wp2_with fail
    refine (checkValue_any (HS.out.alloc _) (by omega)).mono ?_
    rintro e w1 ⟨rfl, hb⟩
    rw [HC.out]
    have q0 : w1.cell? ⟨w.heap.size, 0, none⟩ = some (.slice a C.length c) := by rw [newCell hb _ _ (by simp)]; simp
    have HB : Hid (Below w.heap.size w w1) := ((Below.refl w.heap.size w).alloc (Nat.le_refl _) _).trans (hb.mono (by simp))
    clear hb
    go_wp2_with fail
    rw [HM.out]
    refine (end_any (i := i - 1) (HS.out.to HB.out) HT.out (by omega)).mono ?_
    rintro e w2 ⟨rfl, rfl⟩
    go_wp2_with fail
    refine (end_any (i := i) (HS.out.to HB.out) HT.out hi).mono ?_
    rintro e w3 ⟨rfl, rfl⟩
    go_wp2_with fail
    exact bodyPost_ret (v := .tuple #[.int .u32 (eb C i : Nat), .int .u32 (ee C i : Nat), .int .i64 0]) (by simp [results, Tryd.results79, go_sem, eb, h0]) rfl ⟨rfl, HB.out⟩

set_option maxRecDepth 100000 in
set_option maxHeartbeats 1000000 in
theorem bounds_no {w : World} {a : Option Addr} {c : Nat} {C : List Nat} {n s : Int} (h : Sl w .u16 a C) (hl : C.length ≤ 140737488355328) (ht : ¬ (TOk C n ∧ 0 ≤ s ∧ s < C.length)) :
    Calls Tryd.prog 79 #[.agg #[.slice a C.length c, .int .i64 n], .int .i64 s] w fun e w' => e = .returned (.tuple #[.int .u32 0, .int .u32 0, .int .i64 2]) ∧ Below w.heap.size w w' := by
  have HS : Hid (Sl w .u16 a C) := h
  have HC : Hid (cv C n s = 2) := cv_no ht
  clear h ht
  go_enter Tryd.func79, Tryd.ntmps79
  go_wp2_with fail
  refine (checkValue_any (HS.out.alloc _) (by omega)).mono ?_
  rintro e w1 ⟨rfl, hb⟩
  rw [HC.out]
  have HB : Hid (Below w.heap.size w w1) := ((Below.refl w.heap.size w).alloc (Nat.le_refl _) _).trans (hb.mono (by simp))
  clear hb
  go_wp2_with fail
  exact bodyPost_ret (v := .tuple #[.int .u32 0, .int .u32 0, .int .i64 2]) (by simp [results, Tryd.results79, go_sem]) rfl ⟨rfl, HB.out⟩

end Go.Proofs.YtkmnpechhdendaaDoor.L3
