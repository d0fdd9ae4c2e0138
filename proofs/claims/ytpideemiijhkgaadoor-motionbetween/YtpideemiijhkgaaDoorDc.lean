/- DERIVED. The document's planes: CopyPlane, Check, Same, Clip. -/
import Derived.Test.YtpideemiijhkgaaDoorPm
namespace Go.Proofs.YtpideemiijhkgaaDoor
open Go.RowKit

/-- what Same answers -/
def smB (W H : Int) (C : List Nat) (W' H' : Int) (D : List Nat) : Bool := decide (W = W' ∧ H = H' ∧ C = D)
theorem smB_no {W H : Int} {C : List Nat} {W' H' : Int} {D : List Nat} (h : ¬ (W = W' ∧ H = H' ∧ C = D)) : smB W H C W' H' D = false := by simp only [smB]; exact decide_eq_false h
theorem smB_eq (W H : Int) (C D : List Nat) : smB W H C W H D = eqB C D := by simp [smB, eqB]
theorem smB_self (W H : Int) (C : List Nat) : smB W H C W H C = true := by simp [smB]
set_option maxRecDepth 100000 in
set_option maxHeartbeats 1000000 in
theorem copyPlane_any {u : World} {a : Option Addr} {c : Nat} {C : List Nat} {W H : Int} (h : Sl u .u8 a C) (hl : C.length ≤ 140737488355328) :
    Calls Tryd.prog 31 #[.agg #[.int .i64 W, .int .i64 H, .slice a C.length c]] u fun e w' => ∃ a' c', e = .returned (.agg #[.int .i64 W, .int .i64 H, .slice a' C.length c']) ∧ Nw u w' a' c' C ∧ Below u.heap.size u w' := by
  have HA : Hid (Below u.heap.size u ((u.alloc (.cells #[.int .i64 W, .int .i64 H, .slice a C.length c] 24)).alloc (.cells #[.int .i64 0, .int .i64 0, .slice none 0 0] 24))) := to_alloc (from_alloc _ _) _
  have c0 : ((u.alloc (.cells #[.int .i64 W, .int .i64 H, .slice a C.length c] 24)).alloc (.cells #[.int .i64 0, .int .i64 0, .slice none 0 0] 24)).cell? ⟨u.heap.size, 0, none⟩ = some (.int .i64 W) := by simp [go_sem]
  have c1 : ((u.alloc (.cells #[.int .i64 W, .int .i64 H, .slice a C.length c] 24)).alloc (.cells #[.int .i64 0, .int .i64 0, .slice none 0 0] 24)).cell? ⟨u.heap.size, 1, none⟩ = some (.int .i64 H) := by simp [go_sem]
  have c2 : ((u.alloc (.cells #[.int .i64 W, .int .i64 H, .slice a C.length c] 24)).alloc (.cells #[.int .i64 0, .int .i64 0, .slice none 0 0] 24)).cell? ⟨u.heap.size, 2, none⟩ = some (.slice a C.length c) := by simp [go_sem]
  have k0 : ((u.alloc (.cells #[.int .i64 W, .int .i64 H, .slice a C.length c] 24)).alloc (.cells #[.int .i64 0, .int .i64 0, .slice none 0 0] 24)).cell? ⟨u.heap.size + 1, 0, none⟩ = some (.int .i64 0) := by simp [go_sem]
  have k1 : ((u.alloc (.cells #[.int .i64 W, .int .i64 H, .slice a C.length c] 24)).alloc (.cells #[.int .i64 0, .int .i64 0, .slice none 0 0] 24)).cell? ⟨u.heap.size + 1, 1, none⟩ = some (.int .i64 0) := by simp [go_sem]
  have k2 : ((u.alloc (.cells #[.int .i64 W, .int .i64 H, .slice a C.length c] 24)).alloc (.cells #[.int .i64 0, .int .i64 0, .slice none 0 0] 24)).cell? ⟨u.heap.size + 1, 2, none⟩ = some (.slice none 0 0) := by simp [go_sem]
  have k3 : ∀ o, ((u.alloc (.cells #[.int .i64 W, .int .i64 H, .slice a C.length c] 24)).alloc (.cells #[.int .i64 0, .int .i64 0, .slice none 0 0] 24)).frozen? ⟨u.heap.size + 1, o, none⟩ = false := fun o => by simp [go_sem]
  have hz : ((u.alloc (.cells #[.int .i64 W, .int .i64 H, .slice a C.length c] 24)).alloc (.cells #[.int .i64 0, .int .i64 0, .slice none 0 0] 24)).heap.size = u.heap.size + 2 := by simp
  have HSL : Hid (Sl ((u.alloc (.cells #[.int .i64 W, .int .i64 H, .slice a C.length c] 24)).alloc (.cells #[.int .i64 0, .int .i64 0, .slice none 0 0] 24)) .u8 a C) := h.to HA.out
  have HZ : Hid _ := hz
  have K0 : Hid _ := k0
  have K1 : Hid _ := k1
  have K2 : Hid _ := k2
  have K3 : Hid _ := k3
  clear h k0 k1 k2 k3 hz
  go_enter Tryd.func31, Tryd.ntmps31
  go_wp2_with fail
  generalize ((u.alloc (.cells #[.int .i64 W, .int .i64 H, .slice a C.length c] 24)).alloc (.cells #[.int .i64 0, .int .i64 0, .slice none 0 0] 24)) = V at *
  have hz := HZ.out
  have HK : Hid (∀ t : World, Kf (u.heap.size + 1) V t → (t.cell? ⟨u.heap.size, 0, none⟩ = some (.int .i64 W) ∧ t.cell? ⟨u.heap.size, 1, none⟩ = some (.int .i64 H) ∧ t.cell? ⟨u.heap.size, 2, none⟩ = some (.slice a C.length c) ∧ Kf (u.heap.size + 1) V t)) := fun t ht => ⟨by rw [ht.cell _ _ (by omega) (by omega)]; exact c0, by rw [ht.cell _ _ (by omega) (by omega)]; exact c1, by rw [ht.cell _ _ (by omega) (by omega)]; exact c2, ht⟩
  have HKd : Hid (Kf (u.heap.size + 1) V V.drew) := (Kf.refl _ _).drew
  have HCb : Hid (Calls Tryd.prog 15 #[.slice a C.length c] V.drew fun e w' => ∃ a' c', e = .returned (.slice a' C.length c') ∧ Nw V.drew w' a' c' C ∧ Below V.drew.heap.size V.drew w') := copyBytes_any HSL.out.drew hl
  clear c0 c1 c2
  go_region_held3 (fun t => t.cell? ⟨u.heap.size, 0, none⟩ = some (.int .i64 W) ∧ t.cell? ⟨u.heap.size, 1, none⟩ = some (.int .i64 H) ∧ t.cell? ⟨u.heap.size, 2, none⟩ = some (.slice a C.length c) ∧ Kf (u.heap.size + 1) V t)
    ((exact HK.out _ (by first | exact HKd.out | exact HKd.out.step (by assumption) | exact (((HKd.out.step (by assumption)).kb (Kb.setCell _ _ _ _)).kb (Kb.setCell _ _ _ _)).kb (Kb.setCell _ _ _ _))))
    ((go_at_call 15; refine HCb.out.mono ?_; rintro e w5 ⟨a', c', rfl, hnw, hb5⟩; have hb6 : Below V.heap.size V w5 := Below.trans (below_drew (Below.refl _ _)) hb5; have z0 : w5.cell? ⟨u.heap.size + 1, 0, none⟩ = some (.int .i64 0) := (newCell hb6 _ _ (by omega)).trans K0.out; have z1 : w5.cell? ⟨u.heap.size + 1, 1, none⟩ = some (.int .i64 0) := (newCell hb6 _ _ (by omega)).trans K1.out; have z2 : w5.cell? ⟨u.heap.size + 1, 2, none⟩ = some (.slice none 0 0) := (newCell hb6 _ _ (by omega)).trans K2.out; have z3 : ∀ o, w5.frozen? ⟨u.heap.size + 1, o, none⟩ = false := (fun o => (newFrozen hb6 _ _ (by omega)).trans (K3.out o))))
  go_wp2_with fail
  refine bodyPost_ret (v := .agg #[.int .i64 W, .int .i64 H, .slice a' C.length c']) (by simp [results, Tryd.results31, go_sem, z0, z1, z2]) rfl ⟨a', c', rfl, ?_, ?_⟩
  · have hV : V.drew.heap.size = u.heap.size + 2 := HZ.out
    exact Nw.mono (((hnw.far (b := u.heap.size + 1) (o := 0) (by omega) _).far (b := u.heap.size + 1) (o := 1) (by omega) _).far (b := u.heap.size + 1) (o := 2) (by omega) _) (by omega)
  · exact below_set (below_set (below_set (HA.out.trans (hb6.mono (by omega))) (by simp) _) (by simp) _) (by simp) _

set_option maxHeartbeats 1000000 in
theorem rcheck_any {w : World} {a : Option Addr} {c : Nat} {C : List Nat} {W H : Int} :
    Calls Tryd.prog 58 #[.agg #[.int .i64 W, .int .i64 H, .slice a C.length c]] w fun e w' => e = .returned (.int .i64 (ck W H C)) ∧ Below w.heap.size w w' := by
  by_cases h0 : W < 1
  · rw [ck_no (fun k => by have := k.w0; omega)]
    go_enter Tryd.func58, Tryd.ntmps58
    go_wp2
    go_ret
    exact ⟨rfl, from_alloc _ _⟩
  by_cases h1 : 512 < W
  · rw [ck_no (fun k => by have := k.w1; omega)]
    go_enter Tryd.func58, Tryd.ntmps58
    go_wp2
    go_ret
    exact ⟨rfl, from_alloc _ _⟩
  by_cases h2 : H < 1
  · rw [ck_no (fun k => by have := k.h0; omega)]
    go_enter Tryd.func58, Tryd.ntmps58
    go_wp2
    go_ret
    exact ⟨rfl, from_alloc _ _⟩
  by_cases h3 : 512 < H
  · rw [ck_no (fun k => by have := k.h1; omega)]
    go_enter Tryd.func58, Tryd.ntmps58
    go_wp2
    go_ret
    exact ⟨rfl, from_alloc _ _⟩
  have i0 : 1 ≤ W := by omega
  have i1 : W ≤ 512 := by omega
  have i2 : 1 ≤ H := by omega
  have i3 : H ≤ 512 := by omega
  have p0 : 0 ≤ W * H := Int.mul_nonneg (by omega) (by omega)
  have p1 : W * H ≤ 512 * 512 := Int.mul_le_mul i1 i3 (by omega) (by omega)
  have p2 : W * H ≤ 262144 := p1
  clear h0 h1 h2 h3 p1
  by_cases h4 : (C.length : Int) = W * H
  · rw [ck_ok ⟨i0, i1, i2, i3, h4⟩]
    have h4' : ((C.length : Int) != W * H) = false := by simp [h4]
    have H4 : Hid _ := h4
    clear h4
    go_enter Tryd.func58, Tryd.ntmps58
    go_wp2
    go_ret
    exact ⟨rfl, from_alloc _ _⟩
  · rw [ck_no (fun k => h4 k.len)]
    have h4' : ((C.length : Int) != W * H) = true := by simp [h4]
    go_enter Tryd.func58, Tryd.ntmps58
    go_wp2
    go_ret
    exact ⟨rfl, from_alloc _ _⟩


set_option maxHeartbeats 1000000 in
theorem rsame_any {w : World} {a b : Option Addr} {c d : Nat} {C D : List Nat} {W H W' H' : Int} (h1 : Sl w .u8 a C) (h2 : Sl w .u8 b D) (hC : C.length ≤ 140737488355328) (hD : D.length ≤ 140737488355328) :
    Calls Tryd.prog 39 #[.agg #[.int .i64 W, .int .i64 H, .slice a C.length c], .agg #[.int .i64 W', .int .i64 H', .slice b D.length d]] w fun e w' => e = .returned (.bool (smB W H C W' H' D)) ∧ Below w.heap.size w w' := by
  have HB : Hid (Below w.heap.size w ((w.alloc (.cells #[.int .i64 W, .int .i64 H, .slice a C.length c] 24)).alloc (.cells #[.int .i64 W', .int .i64 H', .slice b D.length d] 24))) := to_alloc (from_alloc _ _) _
  have E : Hid (Calls Tryd.prog 18 #[.slice a C.length c, .slice b D.length d] ((w.alloc (.cells #[.int .i64 W, .int .i64 H, .slice a C.length c] 24)).alloc (.cells #[.int .i64 W', .int .i64 H', .slice b D.length d] 24)) fun e w' => e = .returned (.bool (eqB C D)) ∧ Below ((w.alloc (.cells #[.int .i64 W, .int .i64 H, .slice a C.length c] 24)).alloc (.cells #[.int .i64 W', .int .i64 H', .slice b D.length d] 24)).heap.size ((w.alloc (.cells #[.int .i64 W, .int .i64 H, .slice a C.length c] 24)).alloc (.cells #[.int .i64 W', .int .i64 H', .slice b D.length d] 24)) w') := eqBytes_any (h1.to HB.out) (h2.to HB.out) hC hD
  clear h1 h2 hC hD
  by_cases hW : W = W'
  · by_cases hH : H = H'
    · subst hW hH
      rw [smB_eq]
      go_enter Tryd.func39, Tryd.ntmps39
      go_wp2_with fail
      refine E.out.mono ?_
      rintro e w1 ⟨rfl, hb⟩
      have HB1 : Hid (Below w.heap.size w w1) := below_to HB.out hb
      clear hb
      go_wp2_with fail
      go_ret
      exact ⟨rfl, HB1.out⟩
    · subst hW
      rw [smB_no (fun k => hH k.2.1)]
      have hH' : (H == H') = false := by simp [hH]
      clear hH
      go_enter Tryd.func39, Tryd.ntmps39
      go_wp2_with fail
      go_ret
      exact ⟨rfl, HB.out⟩
  · rw [smB_no (fun k => hW k.1)]
    have hW' : (W == W') = false := by simp [hW]
    clear hW
    go_enter Tryd.func39, Tryd.ntmps39
    go_wp2_with fail
    go_ret
    exact ⟨rfl, HB.out⟩


set_option maxHeartbeats 1000000 in
theorem clip_any {w : World} {i : Int} {n m : Nat} (_h0 : 1 ≤ n) (hm : m = n - 1) :
    Calls Tryd.prog 61 #[.int .i64 i, .int .i64 0, .int .i64 (m : Int)] w fun e w' => e = .returned (.int .i64 (nr i n : Nat)) ∧ w' = w := by
  have i0 : (0 : Int) ≤ (m : Int) := by omega
  by_cases h1 : i < 0
  · rw [show nr i n = 0 from by unfold nr; rw [if_pos h1]]
    go_enter Tryd.func61, Tryd.ntmps61
    go_wp2
    go_ret
    exact ⟨rfl, rfl⟩
  · by_cases h2 : (m : Int) < i
    · rw [show nr i n = m from by unfold nr; rw [if_neg h1]; omega]
      go_enter Tryd.func61, Tryd.ntmps61
      go_wp2
      go_ret
      exact ⟨rfl, rfl⟩
    · have e : ((nr i n : Nat) : Int) = i := by unfold nr; rw [if_neg h1]; omega
      rw [e]
      go_enter Tryd.func61, Tryd.ntmps61
      go_wp2
      go_ret
      exact ⟨rfl, rfl⟩

end Go.Proofs.YtpideemiijhkgaaDoor
