/- DERIVED. Pair. -/
import Derived.Test.YtpideemiijhkgabDoorRb
namespace Go.Proofs.YtpideemiijhkgabDoor
open Go.RowKit

/-- the mean of two samples -/
def pr (a b : Nat) : Nat := (a + b + 1) / 2
def prL (C D : List Nat) : List Nat := tab C.length fun i => pr (C.getD i 0) (D.getD i 0)
def prP (C D : List Nat) (k : Nat) : List Nat := tab C.length fun i => if i < k then pr (C.getD i 0) (D.getD i 0) else 0
theorem prL_len (C D : List Nat) : (prL C D).length = C.length := tab_len _ _
theorem prL_get {C D : List Nat} {i : Nat} (h : i < C.length) : (prL C D).getD i 0 = pr (C.getD i 0) (D.getD i 0) := tab_get _ h
theorem prP_len (C D : List Nat) (k : Nat) : (prP C D k).length = C.length := tab_len _ _
theorem prP_zero (C D : List Nat) : prP C D 0 = List.replicate C.length 0 := (tab_zero fun j _ => by rw [if_neg (by omega)]).symm
theorem prP_all (C D : List Nat) : prP C D C.length = prL C D := tab_eq fun j hj => by rw [if_pos hj]
theorem prP_set {C D : List Nat} {k : Nat} (h : k < C.length) : (prP C D k).set k (pr (C.getD k 0) (D.getD k 0)) = prP C D (k + 1) := tab_set h (by rw [if_pos (by omega)]) fun j _ hne => by
  by_cases e : j < k
  · rw [if_pos e, if_pos (by omega)]
  · rw [if_neg e, if_neg (by omega)]
theorem pr_mid (a b : Nat) : min a b ≤ pr a b ∧ pr a b ≤ max a b := by unfold pr; omega
theorem pr_comm (a b : Nat) : pr a b = pr b a := by unfold pr; omega
theorem prL_self (C : List Nat) : prL C C = C := (eq_tab rfl fun j _ => by unfold pr; omega).symm
theorem prL_comm {C D : List Nat} (h : C.length = D.length) : prL C D = prL D C := by unfold prL; rw [h]; exact tab_eq fun j _ => pr_comm _ _

set_option maxRecDepth 100000 in
set_option maxHeartbeats 1000000 in
theorem pair_no {u : World} {a b : Option Addr} {c d : Nat} {C D : List Nat} (hl : C.length ≠ D.length) :
    Calls Tryd.prog 14 #[.slice a C.length c, .slice b D.length d] u fun e w' => e = .returned (.tuple #[.slice none 0 0, .int .i64 2]) ∧ u = w' := by
  have hne : ((C.length : Int) != (D.length : Int)) = true := by rw [bne_iff_ne]; omega
  clear hl
  go_enter Tryd.func14, Tryd.ntmps14
  go_wp2_with fail
  go_ret2
  exact ⟨rfl, rfl⟩

set_option maxRecDepth 100000 in
set_option maxHeartbeats 1000000 in
theorem pair_ok {u : World} {a b : Option Addr} {c d : Nat} {C D : List Nat} (hs : Sl u .u8 a C) (ht : Sl u .u8 b D) (hC : Byt C) (hD : Byt D) (hl : C.length = D.length) (hb : C.length ≤ 140737488355328) :
    Calls Tryd.prog 14 #[.slice a C.length c, .slice b D.length d] u fun e w' => Sq u w' e (prL C D) := by
  rw [← hl]
  have mk := fun v => mk_row (n := C.length) hb v
  have n1 : (C.length : Int) ≤ 140737488355328 := by omega
  have hne : ((C.length : Int) != (C.length : Int)) = false := by simp
  have HR : Hid (Rw (u.alloc (.cells (madeCells #[.int .u8 0] C.length) 5)) u.heap.size (prP C D 0)) := by show Rw _ _ _; rw [prP_zero]; exact Rw.made u _
  have HV : Hid (Below u.heap.size u (u.alloc (.cells (madeCells #[.int .u8 0] C.length) 5))) := from_alloc _ _
  have HA : Hid (prP C D C.length = prL C D) := prP_all C D
  have HLn : Hid ((prL C D).length = C.length) := prL_len C D
  have HLp : Hid (∀ k, (prP C D k).length = C.length) := prP_len C D
  have HSt : Hid (∀ k, k < C.length → (prP C D k).set k (pr (C.getD k 0) (D.getD k 0)) = prP C D (k + 1)) := fun k hk => prP_set hk
  have HBy : Hid (∀ k, C.getD k 0 < 256 ∧ D.getD k 0 < 256) := fun k => ⟨hC k, hD k⟩
  have HS : Hid (∀ k, k < C.length → ∃ b1 o1 b2 o2, a = some ⟨b1, o1, none⟩ ∧ b = some ⟨b2, o2, none⟩ ∧ b1 < u.heap.size ∧ b2 < u.heap.size ∧ u.cell? ⟨b1, o1 + k, none⟩ = some (.int .u8 (C.getD k 0 : Nat)) ∧ u.cell? ⟨b2, o2 + k, none⟩ = some (.int .u8 (D.getD k 0 : Nat))) := fun k hk => by
    obtain ⟨b1, o1, e1, l1, f1⟩ := hs.form (by omega)
    obtain ⟨b2, o2, e2, l2, f2⟩ := ht.form (by omega)
    exact ⟨b1, o1, b2, o2, e1, e2, l1, l2, f1 k hk, f2 k (by omega)⟩
  clear hs ht hC hD hl hb
  generalize C.length = n at *
  go_enter Tryd.func14, Tryd.ntmps14
  go_wp2_with fail
  generalize (u.alloc (.cells (madeCells #[.int .u8 0] n) 5)) = V at *
  clear mk
  go_loopw [18] (fun i wr => ∃ k : Nat, k ≤ n ∧ i = .int .i64 k ∧ Rw wr u.heap.size (prP C D k) ∧ Below u.heap.size u wr) (fun i _ => n - (intOf i).toNat)
  case atStart => exact ⟨0, by omega, rfl, HR.out, HV.out⟩
  case round =>
    clear HR HV
    obtain ⟨k, hk, rfl, hr, hb⟩ := hrel
    by_cases hlt : k < n
    · obtain ⟨b1, o1, b2, o2, rfl, rfl, l1, l2, f1, f2⟩ := HS.out k hlt
      obtain ⟨y1, y2⟩ := HBy.out k
      have HW : Hid (∀ z, z = ((pr (C.getD k 0) (D.getD k 0) : Nat) : Int) → Rw (wr.drew.setCell ⟨u.heap.size, k, none⟩ (.int .u8 z)) u.heap.size (prP C D (k + 1)) ∧ Below u.heap.size u (wr.drew.setCell ⟨u.heap.size, k, none⟩ (.int .u8 z))) := by
        rintro z rfl
        refine ⟨?_, below_set (below_drew hb) (by simp) _⟩
        rw [← HSt.out k hlt]
        exact hr.drew.set _ _
      have z0 := hr.cell k (by rw [HLp.out]; exact hlt)
      have z1 := hr.thaw k
      have z2 : wr.drew.cell? ⟨u.heap.size, k, none⟩ = some (.int .u8 ((prP C D k).getD k 0 : Nat)) := z0
      have z3 : wr.drew.frozen? ⟨u.heap.size, k, none⟩ = false := z1
      have r1 : wr.cell? ⟨b1, o1 + k, none⟩ = some (.int .u8 (C.getD k 0 : Nat)) := by rw [newCell hb _ _ l1]; exact f1
      have r2 : wr.cell? ⟨b2, o2 + k, none⟩ = some (.int .u8 (D.getD k 0 : Nat)) := by rw [newCell hb _ _ l2]; exact f2
      have HP : Hid (pr (C.getD k 0) (D.getD k 0) = (C.getD k 0 + D.getD k 0 + 1) / 2) := rfl
      have HKK : Hid (∀ v, wr.drew.cell? ⟨b1, o1 + k, none⟩ = some (.int .u8 (C.getD k 0 : Nat)) ∧ wr.drew.cell? ⟨b2, o2 + k, none⟩ = some (.int .u8 (D.getD k 0 : Nat)) ∧ (wr.drew.setCell ⟨u.heap.size, k, none⟩ v).cell? ⟨b1, o1 + k, none⟩ = some (.int .u8 (C.getD k 0 : Nat)) ∧ (wr.drew.setCell ⟨u.heap.size, k, none⟩ v).cell? ⟨b2, o2 + k, none⟩ = some (.int .u8 (D.getD k 0 : Nat))) := fun v => ⟨r1, r2, by rw [World.cell?_setCell_other _ _ _ _ (by simp <;> omega)]; exact r1, by rw [World.cell?_setCell_other _ _ _ _ (by simp <;> omega)]; exact r2⟩
      generalize pr (C.getD k 0) (D.getD k 0) = m at *
      generalize (prP C D k).getD k 0 = old at *
      generalize C.getD k 0 = p at *
      generalize D.getD k 0 = q at *
      have k0 : (0 : Int) ≤ (k : Int) := by omega
      have k1 : (k : Int) < (n : Int) := by omega
      have p1 : (p : Int) < 256 := by omega
      have q1 : (q : Int) < 256 := by omega
      clear hr hb f1 f2 r1 r2
      go_wp2_with fail
      go_region_held3 (fun t => t.cell? ⟨b1, o1 + k, none⟩ = some (.int .u8 (p : Int)) ∧ t.cell? ⟨b2, o2 + k, none⟩ = some (.int .u8 (q : Int)))
        ((first | exact ⟨(HKK.out undef).1, (HKK.out undef).2.1⟩ | exact ⟨(HKK.out _).2.2.1, (HKK.out _).2.2.2⟩))
        ((fail))
      go_wp2_with fail
      go_roundw
      case rel => exact ⟨k + 1, by omega, by go_num, (HW.out _ (by rw [HP.out]; omega)).1, (HW.out _ (by rw [HP.out]; omega)).2⟩
      case measure => simp [intOf]; omega
    · obtain rfl : k = n := by omega
      have HR : Hid (Rw wr u.heap.size (prL C D)) := by show Rw _ _ _; rw [← HA.out]; exact hr
      have HB : Hid _ := hb
      clear hr hb
      go_wp2_with fail
      go_ret2
      exact ⟨u.heap.size, ret_sl HLn.out.symm, Nat.le_refl _, HR.out, HB.out⟩

end Go.Proofs.YtpideemiijhkgabDoor
