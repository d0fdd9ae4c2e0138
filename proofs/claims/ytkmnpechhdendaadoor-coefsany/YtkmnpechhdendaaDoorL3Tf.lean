/- DERIVED. The walk of Adapt. -/
import Derived.Test.YtkmnpechhdendaaDoorL3Te
namespace Go.Proofs.YtkmnpechhdendaaDoor.L3
open Go.RowKit

/-- a table that has learnt as far as k -/
def adK (C : List Nat) (r s k : Nat) : List Nat := (List.range C.length).map fun j => if j < k then adE C r s j else C.getD j 0
theorem adK_len (C : List Nat) (r s k : Nat) : (adK C r s k).length = C.length := by simp [adK]
theorem adK_get (C : List Nat) (r s k j : Nat) (h : j < C.length) : (adK C r s k).getD j 0 = if j < k then adE C r s j else C.getD j 0 := range_getD _ h
theorem adK_zero (C : List Nat) (r s : Nat) : adK C r s 0 = C :=
  list_eq_of_getD (adK_len _ _ _ _) fun j hj => by rw [adK_len] at hj; rw [adK_get _ _ _ _ _ hj, if_neg (by omega)]
theorem adK_set (C : List Nat) (r s k : Nat) (h : k < C.length) : (adK C r s k).set k (adE C r s k) = adK C r s (k + 1) := by
  refine list_eq_of_getD (by simp [adK]) fun j hj => ?_
  rw [List.length_set, adK_len] at hj
  rw [adK_get _ _ _ _ _ hj, List.getD_eq_getElem?_getD, List.getElem?_set]
  by_cases e : k = j
  · subst e; rw [if_pos rfl, if_pos (by rw [adK_len]; exact h)]; simp
  · rw [if_neg e, ← List.getD_eq_getElem?_getD, adK_get _ _ _ _ _ hj]
    by_cases g : j < k
    · rw [if_pos g, if_pos (by omega)]
    · rw [if_neg g, if_neg (by omega)]
theorem adK_all (C : List Nat) (n : Int) (s k : Nat) (h : k + 1 = C.length) : adK C (rt C.length n) s k = ad C n s := by
  refine list_eq_of_getD (by rw [adK_len, ad_len]) fun j hj => ?_
  rw [adK_len] at hj
  rw [adK_get _ _ _ _ _ hj, ad_get _ _ _ _ hj]
  by_cases g : j < k
  · rw [if_pos g]
  · rw [if_neg g]; unfold adE; rw [if_pos (by omega)]

theorem below_drew {B : Nat} {w u : World} (h : Below B w u) : Below B w u.drew := ⟨h.os, h.tape, h.output, h.size, h.block⟩
theorem up_val {p r : Nat} (hp : (p : Int) ≤ 32768) (hr : r = 4 ∨ r = 5 ∨ r = 6 ∨ r = 7) : IntKind.u16.wrap ((p : Int) + (32768 - (p : Int)) / 2 ^ r) = ((p + (32768 - p) / 2 ^ r : Nat) : Int) := by
  rw [IntKind.wrap_u16]
  rcases hr with rfl | rfl | rfl | rfl <;> simp only [Int.reducePow, Nat.reducePow] <;> omega
theorem down_val {p r : Nat} (hp : (p : Int) ≤ 32768) (hr : r = 4 ∨ r = 5 ∨ r = 6 ∨ r = 7) : IntKind.u16.wrap ((p : Int) - (p : Int) / 2 ^ r) = ((p - p / 2 ^ r : Nat) : Int) := by
  rw [IntKind.wrap_u16]
  rcases hr with rfl | rfl | rfl | rfl <;> simp only [Int.reducePow, Nat.reducePow] <;> omega

def AdInv (W : World) (B g c : Nat) (C : List Nat) (r s : Nat) (i : Value) (wr : World) : Prop :=
  ∃ k : Nat, k + 1 ≤ C.length ∧ i = .int .i64 k ∧ Ow wr B g C.length c (adK C r s k) ∧ Below B W wr

set_option maxRecDepth 100000 in
set_option maxHeartbeats 1000000 in
theorem adapt_ok {w : World} {a : Option Addr} {c : Nat} {C : List Nat} {n : Int} {s : Nat} (h : Sl w .u16 a C) (ht : TOk C n) (hs : s < C.length) :
    Calls Tryd.prog 80 #[.agg #[.slice a C.length c, .int .i64 n], .int .i64 s] w fun e w' => Tn w w' e (ad C n s) (adN n) := by
  have HS : Hid (Sl w .u16 a C) := h
  have HT : Hid (TOk C n) := ht
  have HC : Hid (cv C n s = 0) := cv_ok ht (by omega) (by omega)
  have hhi := ht.hi
  have hlo := ht.lo
  clear h ht
  go_enter Tryd.func80, Tryd.ntmps80
  go_wp2_with fail
  have hW : ((w.alloc (.cells #[.slice a C.length c, .int .i64 n] 59)).alloc (.cells #[.slice none 0 0, .int .i64 0] 59)).heap.size = w.heap.size + 2 := by simp
  have HW : Hid _ := hW
  have hz0 : ((w.alloc (.cells #[.slice a C.length c, .int .i64 n] 59)).alloc (.cells #[.slice none 0 0, .int .i64 0] 59)).cell? ⟨w.heap.size, 0, none⟩ = some (.slice a C.length c) := by
    rw [World.cell?_alloc_lt _ _ _ (by simp)]; simp
  have hz1 : ((w.alloc (.cells #[.slice a C.length c, .int .i64 n] 59)).alloc (.cells #[.slice none 0 0, .int .i64 0] 59)).cell? ⟨w.heap.size, 1, none⟩ = some (.int .i64 n) := by
    rw [World.cell?_alloc_lt _ _ _ (by simp)]; simp
  have hz2 : ((w.alloc (.cells #[.slice a C.length c, .int .i64 n] 59)).alloc (.cells #[.slice none 0 0, .int .i64 0] 59)).cell? ⟨w.heap.size + 1, 0, none⟩ = some (.slice none 0 0) := by simp
  have hz3 : ((w.alloc (.cells #[.slice a C.length c, .int .i64 n] 59)).alloc (.cells #[.slice none 0 0, .int .i64 0] 59)).cell? ⟨w.heap.size + 1, 1, none⟩ = some (.int .i64 0) := by simp
  have hz4 : ((w.alloc (.cells #[.slice a C.length c, .int .i64 n] 59)).alloc (.cells #[.slice none 0 0, .int .i64 0] 59)).frozen? ⟨w.heap.size + 1, 0, none⟩ = false := by simp
  have hz5 : ((w.alloc (.cells #[.slice a C.length c, .int .i64 n] 59)).alloc (.cells #[.slice none 0 0, .int .i64 0] 59)).frozen? ⟨w.heap.size + 1, 1, none⟩ = false := by simp
  have hbw : Below w.heap.size w ((w.alloc (.cells #[.slice a C.length c, .int .i64 n] 59)).alloc (.cells #[.slice none 0 0, .int .i64 0] 59)) := below_alloc ((Below.refl _ _).alloc (Nat.le_refl _) _) (Nat.le_refl _) _
  generalize (w.alloc (.cells #[.slice a C.length c, .int .i64 n] 59)).alloc (.cells #[.slice none 0 0, .int .i64 0] 59) = W at *
  clear hW
  have HBW : Hid (Below w.heap.size w W) := hbw
  clear hbw
  refine (checkValue_any (HS.out.to HBW.out) (by omega)).mono ?_
  rintro e w1 ⟨rfl, hb1⟩
  rw [HC.out]
  have q0 : w1.cell? ⟨w.heap.size, 0, none⟩ = some (.slice a C.length c) := by rw [newCell hb1 _ _ (by rw [HW.out]; omega)]; exact hz0
  have HB1 : Hid (Below W.heap.size W w1) := hb1
  clear hb1
  go_wp2_with fail
  refine (clone_some ((HS.out.to HBW.out).to HB1.out) (by omega) (by omega)).mono ?_
  rintro e w2 ⟨g, c', rfl, ho2, hb2⟩
  have HB2 : Hid (Below W.heap.size W w2) := HB1.out.trans (hb2.mono HB1.out.size)
  have q1 : w2.cell? ⟨w.heap.size, 0, none⟩ = some (.slice a C.length c) := by rw [newCell HB2.out _ _ (by rw [HW.out]; omega)]; exact hz0
  have q2 : w2.cell? ⟨w.heap.size, 1, none⟩ = some (.int .i64 n) := by rw [newCell HB2.out _ _ (by rw [HW.out]; omega)]; exact hz1
  have HO2 : Hid (Ow w2 W.heap.size g C.length c' C) := ho2.mono HB1.out.size
  clear ho2 hb2 q0 HB1
  go_wp2_with fail
  refine (rate_any hlo hhi).mono ?_
  rintro e w3 ⟨rfl, hb3⟩
  have HB3 : Hid (Below W.heap.size W w3) := HB2.out.trans (hb3.mono HB2.out.size)
  have HO3 : Hid (Ow w3 W.heap.size g C.length c' C) := HO2.out.to hb3
  clear hb3 HB2 HO2 q1 q2
  have hr := rt_cases C.length n
  generalize hrr : rt C.length n = r at *
  have HRR : Hid (rt C.length n = r) := hrr
  clear hrr
  go_wp2_with fail
  go_loopw [25] (fun i wr => AdInv W W.heap.size g c' C r s i wr) (fun i _ => C.length - (intOf i).toNat)
  case atStart => exact ⟨0, by omega, rfl, by rw [adK_zero]; exact HO3.out, HB3.out⟩
  case round =>
    obtain ⟨k, hk, rfl, ho, hb⟩ := hrel
    clear HO3 HB3
    by_cases hlt : k + 1 < C.length
    · have c1 := ho.cell k (by omega)
      have c2 := ho.thaw k
      rw [adK_get _ _ _ _ _ (by omega), if_neg (by omega)] at c1
      have hp := HT.out.le k
      have HST := adK_set C r s k (by omega)
      have HE : Hid (adE C r s k = if s ≤ k then C.getD k 0 + (32768 - C.getD k 0) / 2 ^ r else C.getD k 0 - C.getD k 0 / 2 ^ r) := by unfold adE Hid; rw [if_neg (by omega)]
      generalize C.getD k 0 = p at *
      have HST' : Hid _ := HST
      have HO : Hid _ := ho
      have HB : Hid _ := hb
      have b0 : 0 ≤ (k : Int) := by omega
      have b1 : (k : Int) < (C.length : Int) - 1 := by omega
      have b2 : (k : Int) < (C.length : Int) := by omega
      have b3 : (p : Int) ≤ 32768 := by omega
      clear ho hb HST hp
      by_cases hsk : s ≤ k
      · have hsk' : (s : Int) ≤ (k : Int) := by omega
        go_wp2
        go_region
        all_goals go_wp2
        go_roundw
        case rel =>
          refine ⟨k + 1, by omega, by go_num, ?_, below_drew (below_set HB.out (a := ⟨g, k, none⟩) HO.out.lies.1 _)⟩
          have he := HE.out
          rw [if_pos hsk] at he
          rw [up_val b3 hr, ← he, ← HST'.out]
          exact (HO.out.set k (adE C r s k)).carry rfl
        case measure => simp [intOf]; omega
      · have hsk' : ¬ (s : Int) ≤ (k : Int) := by omega
        go_wp2
        go_region
        all_goals go_wp2
        go_roundw
        case rel =>
          refine ⟨k + 1, by omega, by go_num, ?_, below_drew (below_set HB.out (a := ⟨g, k, none⟩) HO.out.lies.1 _)⟩
          have he := HE.out
          rw [if_neg hsk] at he
          rw [down_val b3 hr, ← he, ← HST'.out]
          exact (HO.out.set k (adE C r s k)).carry rfl
        case measure => simp [intOf]; omega
    · have b1 : ¬ (k : Int) < (C.length : Int) - 1 := by omega
      have d0 : wr.cell? ⟨w.heap.size + 1, 0, none⟩ = some (.slice none 0 0) := by rw [newCell hb _ _ (by rw [HW.out]; omega)]; exact hz2
      have d1 : wr.cell? ⟨w.heap.size + 1, 1, none⟩ = some (.int .i64 0) := by rw [newCell hb _ _ (by rw [HW.out]; omega)]; exact hz3
      have f0 : wr.frozen? ⟨w.heap.size + 1, 0, none⟩ = false := by rw [newFrozen hb _ _ (by rw [HW.out]; omega)]; exact hz4
      have f1 : wr.frozen? ⟨w.heap.size + 1, 1, none⟩ = false := by rw [newFrozen hb _ _ (by rw [HW.out]; omega)]; exact hz5
      have d2 : wr.cell? ⟨w.heap.size, 1, none⟩ = some (.int .i64 n) := by rw [newCell hb _ _ (by rw [HW.out]; omega)]; exact hz1
      have n0 := HT.out.n0
      have n1 := HT.out.n1
      have hgl := ho.lies.1
      have HGL : Hid (w.heap.size + 2 ≤ g) := by rw [HW.out] at hgl; exact hgl
      have HAL := adK_all C n s k (by omega)
      rw [HRR.out] at HAL
      rw [HAL] at ho
      have HO : Hid _ := ho
      have HB : Hid _ := hb
      clear ho hb hgl HAL
      have fin : ∀ (e : Ending), e = .returned (.tuple #[.agg #[.slice (some ⟨g, 0, none⟩) C.length c', .int .i64 (adN n)], .int .i64 0]) →
          Tn w ((wr.setCell ⟨w.heap.size + 1, 0, none⟩ (.slice (some ⟨g, 0, none⟩) C.length c')).setCell ⟨w.heap.size + 1, 1, none⟩ (.int .i64 (adN n))) e (ad C n s) (adN n) := by
        intro e he
        have hgl := HGL.out
        refine ⟨g, c', by rw [ad_len]; exact he, ?_, ?_⟩
        · rw [ad_len]
          exact ((HO.out.far (by simp; omega) _).far (by simp; omega) _).mono (by rw [HW.out]; omega)
        · exact below_set (below_set (HBW.out.trans (HB.out.mono (by rw [HW.out]; omega))) (by simp) _) (by simp) _
      have FIN : Hid _ := fin
      clear fin
      go_wp2
      exact bodyPost_ret (v := .tuple #[.agg #[.slice (some ⟨g, 0, none⟩) C.length c', .int .i64 (adN n)], .int .i64 0]) (by simp [results, Tryd.results80, go_sem, d0, d1, adN]) rfl (FIN.out _ rfl)

set_option maxRecDepth 100000 in
set_option maxHeartbeats 1000000 in
theorem adapt_no {w : World} {a : Option Addr} {c : Nat} {C : List Nat} {n s : Int} (h : Sl w .u16 a C) (hl : C.length ≤ 140737488355328) (ht : ¬ (TOk C n ∧ 0 ≤ s ∧ s < C.length)) :
    Calls Tryd.prog 80 #[.agg #[.slice a C.length c, .int .i64 n], .int .i64 s] w fun e w' => e = .returned (.tuple #[.agg #[.slice none 0 0, .int .i64 0], .int .i64 2]) ∧ Below w.heap.size w w' := by
  have HS : Hid (Sl w .u16 a C) := h
  have HC : Hid (cv C n s = 2) := cv_no ht
  clear h ht
  go_enter Tryd.func80, Tryd.ntmps80
  go_wp2_with fail
  refine (checkValue_any ((HS.out.alloc _).alloc _) hl).mono ?_
  rintro e w1 ⟨rfl, hb1⟩
  rw [HC.out]
  have d0 : w1.cell? ⟨w.heap.size + 1, 0, none⟩ = some (.slice none 0 0) := by rw [newCell hb1 _ _ (by simp)]; simp
  have d1 : w1.cell? ⟨w.heap.size + 1, 1, none⟩ = some (.int .i64 0) := by rw [newCell hb1 _ _ (by simp)]; simp
  have f0 : w1.frozen? ⟨w.heap.size + 1, 0, none⟩ = false := by rw [newFrozen hb1 _ _ (by simp)]; simp
  have f1 : w1.frozen? ⟨w.heap.size + 1, 1, none⟩ = false := by rw [newFrozen hb1 _ _ (by simp)]; simp
  have HB1 : Hid (Below w.heap.size w w1) := (below_alloc ((Below.refl _ _).alloc (Nat.le_refl _) _) (Nat.le_refl _) _).trans (hb1.mono (by simp; omega))
  clear hb1
  go_wp2_with fail
  exact bodyPost_ret (v := .tuple #[.agg #[.slice none 0 0, .int .i64 0], .int .i64 2]) (by simp [results, Tryd.results80, go_sem, d0, d1]) rfl ⟨rfl, below_set (below_set HB1.out (by simp) _) (by simp) _⟩

end Go.Proofs.YtkmnpechhdendaaDoor.L3
