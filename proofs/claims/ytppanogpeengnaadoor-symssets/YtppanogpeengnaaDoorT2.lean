/- DERIVED. Several texts in one: The walks of slices.Clone over 16-bit numbers, of bits.Len at small numbers, of rate and of Adapt. The walk of Adapt. A list of tables in memory; the walks of middle and Average. The walks of the statements' own 'has' and 'works'. -/
import Derived.Test.YtppanogpeengnaaDoorT1
import Derived.Lib.Strings
import Derived.Lib.Slices
import Derived.Lib.Small
import Derived.Lib.Walk
import Derived.Lib.BitFns
namespace Go.Proofs.YtppanogpeengnaaDoor.L3
open Go.RowKit

theorem clone_q22 (w : World) (a : Option Addr) (n c n' c' : Nat) : (binOp .eql 61 (.slice a n c) (.slice none n' c')).run Tryd.prog w = .ok (.bool a.isNone) w := Lib.run_eql_slice_nil w 61 38 a n c n' c' Tryd.underlying61
theorem addr_add (g k j : Nat) : (⟨g, k, none⟩ : Addr).add j = ⟨g, k + j, none⟩ := by unfold Addr.add; split <;> simp_all

set_option maxHeartbeats 400000 in
theorem clone_some {w : World} {a : Option Addr} {c : Nat} {C : List Nat} (h : Sl w .u16 a C) (hl : C.length ≤ 70368744177664) (h0 : 0 < C.length) :
    Calls Tryd.prog 54 #[.slice a C.length c] w fun e w' => ∃ g c', e = .returned (.slice (some ⟨g, 0, none⟩) C.length c') ∧ Ow w' w.heap.size g C.length c' C ∧ Below w.heap.size w w' := by
  have q22 := clone_q22
  obtain ⟨b, o, rfl, hbl, hcell⟩ := h.form h0
  obtain ⟨i, hi, hz0, hz1, hz2⟩ := info_parts Tryd.info38
  have hown : (w.alloc (.cells #[] 38)).ownsRow w.heap.size 38 1 (.slice (some ⟨w.heap.size, 0, none⟩) 0 0) 0 [] := World.ownsRow_made w #[] 0 (Nat.le_refl _) (by simp) (by simp)
  have hnews : ∀ j u, (ns .u16 C)[j]? = some u → (w.alloc (.cells #[] 38)).cell? ((⟨b, o, none⟩ : Addr).add j) = some u := by
    intro j u hu
    have hj : j < C.length := by have := List.getElem?_eq_some_iff.1 hu; obtain ⟨h1, _⟩ := this; rw [ns_length] at h1; exact h1
    rw [ns_get _ C j hj] at hu
    rw [← hu, addr_add, newCell ((Below.refl w.heap.size w).alloc (Nat.le_refl _) _) b _ hbl]
    exact hcell j hj
  clear hcell h
  go_enter Tryd.func54, Tryd.ntmps54
  go_wp2_with (at_builtin; refine wpList_append_lies _ (by rfl) _ _ _ (by rfl) w.heap.size 38 i (.int .u16 0) 1 2 Tryd.underlying61 hi hz0 hz1 hz2 rfl (by omega) _ 0 [] (by rfl) hown ⟨b, o, none⟩ C.length c (ns .u16 C) (by rfl) (by rw [ns_length, Nat.mul_one]) hnews (ns_one _ C) h0 (by unfold maxLen; omega) (by omega) (by simp) (w.heap.size + 1) (by simp) ?_; intro g cap w1 hown1 hgrow hat hlt)
  go_ret
  rw [List.nil_append, Nat.zero_add] at hown1
  refine ⟨g, cap, rfl, ⟨hown1⟩, ?_⟩
  exact ((Below.refl _ _).alloc (Nat.le_refl _) _).grown hgrow (by simp) (fun k hk => by simp [Value.ownBlock] at hk; omega)

theorem wrap64_small (n : Int) (h0 : 0 ≤ n) (h1 : n < 9223372036854775808) : wrap64 n = n := by unfold wrap64; omega

set_option maxHeartbeats 1000000 in
set_option maxRecDepth 100000 in
theorem len64_small (x : Int) (w : World) (h0 : 0 ≤ x) (h1 : x ≤ 255) :
    Calls Tryd.prog 105 #[.int .u64 x] w fun e w' => e = .returned (.int .i64 (Lib.bitLen x.toNat)) ∧ w' = w := by
  have hs := Lib.len8tab_size
  go_enter Tryd.func105, Tryd.ntmps105
  go_wp2
  all_goals (go_ret; refine ⟨congrArg Ending.returned (congrArg (Value.int IntKind.i64) ?_), rfl⟩)
  rw [Lib.len8_of x (by omega) (by omega)]
  have h8 := Lib.bitLen_le x.toNat 8 (by omega) (by omega)
  rw [wrap64_small (Lib.bitLen x.toNat : Int) (by omega) (by omega), wrap64_small (Lib.bitLen x.toNat : Int) (by omega) (by omega)]

set_option maxHeartbeats 1000000 in
theorem len_small (x : Int) (w : World) (h0 : 0 ≤ x) (h1 : x ≤ 255) :
    Calls Tryd.prog 86 #[.int .u64 x] w fun e w' => e = .returned (.int .i64 (Lib.bitLen x.toNat)) ∧ w' = w := by
  go_enter Tryd.func86, Tryd.ntmps86
  go_wp2_with fail
  refine (len64_small x _ h0 h1).mono ?_
  rintro e w1 ⟨rfl, rfl⟩
  go_wp2_with fail
  go_ret
  exact ⟨rfl, rfl⟩

theorem lg_all : ∀ m : Nat, m < 17 → 2 ≤ m → 2 ≤ Lib.bitLen m ∧ (Lib.bitLen m = 2 ↔ m < 4) := by decide +kernel

set_option maxHeartbeats 1000000 in
theorem rate_any {w : World} {a : Option Addr} {c : Nat} {C : List Nat} {n : Int} (h0 : 2 ≤ C.length) (h1 : C.length ≤ 16) :
    Calls Tryd.prog 64 #[.agg #[.slice a C.length c, .int .i64 n]] w fun e w' => e = .returned (.int .i64 (rt C.length n : Nat)) ∧ Below w.heap.size w w' := by
  have hlg := lg_all C.length (by omega) h0
  have b0 : (2 : Int) ≤ (C.length : Int) := by omega
  have b1 : (C.length : Int) ≤ 16 := by omega
  have HR : Hid (rt C.length n = 3 + (if C.length < 4 then 1 else 2) + (if n > 15 then 1 else 0) + (if n > 31 then 1 else 0)) := rfl
  have HB : Hid (Below w.heap.size w (w.alloc (.cells #[.slice a C.length c, .int .i64 n] 63))) := (Below.refl _ _).alloc (Nat.le_refl _) _
  have hL := lg_all C.length (by omega) h0
  generalize hm : Lib.bitLen C.length = m at *
  have HM : Hid _ := hm
  clear hm
  by_cases h4 : C.length < 4
  · have hm2 : m = 2 := hL.2.2 h4
    subst hm2
    rw [if_pos h4] at HR
    clear hL hlg
    rcases (show n ≤ 15 ∨ (15 < n ∧ n ≤ 31) ∨ (15 < n ∧ 31 < n) by omega) with hn | ⟨hn, hn'⟩ | ⟨hn, hn'⟩
    all_goals (
      go_enter Tryd.func64, Tryd.ntmps64
      go_wp2_with fail
      refine (len_small (C.length : Int) _ (by omega) (by omega)).mono ?_
      rintro e w1 ⟨rfl, rfl⟩
      rw [Int.toNat_natCast, HM.out]
      go_wp2_with fail
      go_ret
      refine ⟨ret_int ?_, HB.out⟩
      rw [HR.out])
    · rw [if_neg (by omega), if_neg (by omega)]; rfl
    · rw [if_pos (by omega), if_neg (by omega)]; rfl
    · rw [if_pos (by omega), if_pos (by omega)]; rfl
  · have hm2 : ¬ (m : Int) - 1 < 2 := by omega
    have hm3 : (2 : Int) ≤ (m : Int) - 1 := by omega
    have hm4 : (m : Int) ≤ 100 := by have := Lib.bitLen_le C.length 8 (by omega) (by omega); rw [HM.out] at this; omega
    rw [if_neg h4] at HR
    clear hL hlg
    rcases (show n ≤ 15 ∨ (15 < n ∧ n ≤ 31) ∨ (15 < n ∧ 31 < n) by omega) with hn | ⟨hn, hn'⟩ | ⟨hn, hn'⟩
    all_goals (
      go_enter Tryd.func64, Tryd.ntmps64
      go_wp2_with fail
      refine (len_small (C.length : Int) _ (by omega) (by omega)).mono ?_
      rintro e w1 ⟨rfl, rfl⟩
      rw [Int.toNat_natCast, HM.out]
      go_wp2_with fail
      go_ret
      refine ⟨ret_int ?_, HB.out⟩
      rw [HR.out])
    · rw [if_neg (by omega), if_neg (by omega)]; omega
    · rw [if_pos (by omega), if_neg (by omega)]; omega
    · rw [if_pos (by omega), if_pos (by omega)]; omega

end Go.Proofs.YtppanogpeengnaaDoor.L3

namespace Go.Proofs.YtppanogpeengnaaDoor.L3
open Go.RowKit

/-- a table that has learnt as far as k -/
def adK (C : List Nat) (r s k : Nat) : List Nat := (List.range C.length).map fun j => if j < k then adE C r s j else C.getD j 0
theorem adK_len (C : List Nat) (r s k : Nat) : (adK C r s k).length = C.length := by simp [adK]
theorem adK_get (C : List Nat) (r s k j : Nat) (h : j < C.length) : (adK C r s k).getD j 0 = if j < k then adE C r s j else C.getD j 0 := range_getD _ h
theorem adK_zero (C : List Nat) (r s : Nat) : adK C r s 0 = C :=
  list_eq_of_getD (adK_len _ _ _ _) fun j hj => by rw [adK_len] at hj; rw [adK_get _ _ _ _ _ hj, if_neg (by omega)]
theorem adK_set (C : List Nat) (r s k : Nat) (h : k < C.length) : (adK C r s k).set k (adE C r s k) = adK C r s (k + 1) := by
  refine list_eq_of_getD (by simp [adK]) fun j hj => ?_
  rw [List.length_set, adK_len] at hj
  rw [adK_get _ _ _ _ _ hj, List.getD_eq_getElem?_getD, List.getElem?_set]
  by_cases e : k = j
  · subst e; rw [if_pos rfl, if_pos (by rw [adK_len]; exact h)]; simp
  · rw [if_neg e, ← List.getD_eq_getElem?_getD, adK_get _ _ _ _ _ hj]
    by_cases g : j < k
    · rw [if_pos g, if_pos (by omega)]
    · rw [if_neg g, if_neg (by omega)]
theorem adK_all (C : List Nat) (n : Int) (s k : Nat) (h : k + 1 = C.length) : adK C (rt C.length n) s k = ad C n s := by
  refine list_eq_of_getD (by rw [adK_len, ad_len]) fun j hj => ?_
  rw [adK_len] at hj
  rw [adK_get _ _ _ _ _ hj, ad_get _ _ _ _ hj]
  by_cases g : j < k
  · rw [if_pos g]
  · rw [if_neg g]; unfold adE; rw [if_pos (by omega)]

theorem below_drew {B : Nat} {w u : World} (h : Below B w u) : Below B w u.drew := ⟨h.os, h.tape, h.output, h.size, h.block⟩
theorem up_val {p r : Nat} (hp : (p : Int) ≤ 32768) (hr : r = 4 ∨ r = 5 ∨ r = 6 ∨ r = 7) : IntKind.u16.wrap ((p : Int) + (32768 - (p : Int)) / 2 ^ r) = ((p + (32768 - p) / 2 ^ r : Nat) : Int) := by
  rw [IntKind.wrap_u16]
  rcases hr with rfl | rfl | rfl | rfl <;> simp only [Int.reducePow, Nat.reducePow] <;> omega
theorem down_val {p r : Nat} (hp : (p : Int) ≤ 32768) (hr : r = 4 ∨ r = 5 ∨ r = 6 ∨ r = 7) : IntKind.u16.wrap ((p : Int) - (p : Int) / 2 ^ r) = ((p - p / 2 ^ r : Nat) : Int) := by
  rw [IntKind.wrap_u16]
  rcases hr with rfl | rfl | rfl | rfl <;> simp only [Int.reducePow, Nat.reducePow] <;> omega

def AdInv (W : World) (B g c : Nat) (C : List Nat) (r s : Nat) (i : Value) (wr : World) : Prop :=
  ∃ k : Nat, k + 1 ≤ C.length ∧ i = .int .i64 k ∧ Ow wr B g C.length c (adK C r s k) ∧ Below B W wr

set_option maxRecDepth 100000 in
set_option maxHeartbeats 1000000 in
theorem adapt_ok {w : World} {a : Option Addr} {c : Nat} {C : List Nat} {n : Int} {s : Nat} (h : Sl w .u16 a C) (ht : TOk C n) (hs : s < C.length) :
    Calls Tryd.prog 39 #[.agg #[.slice a C.length c, .int .i64 n], .int .i64 s] w fun e w' => Tn w w' e (ad C n s) (adN n) := by
  have HS : Hid (Sl w .u16 a C) := h
  have HT : Hid (TOk C n) := ht
  have HC : Hid (cv C n s = 0) := cv_ok ht (by omega) (by omega)
  have hhi := ht.hi
  have hlo := ht.lo
  clear h ht
  go_enter Tryd.func39, Tryd.ntmps39
  go_wp2_with fail
  have hW : ((w.alloc (.cells #[.slice a C.length c, .int .i64 n] 63)).alloc (.cells #[.slice none 0 0, .int .i64 0] 63)).heap.size = w.heap.size + 2 := by simp
  have HW : Hid _ := hW
  have hz0 : ((w.alloc (.cells #[.slice a C.length c, .int .i64 n] 63)).alloc (.cells #[.slice none 0 0, .int .i64 0] 63)).cell? ⟨w.heap.size, 0, none⟩ = some (.slice a C.length c) := by
    rw [World.cell?_alloc_lt _ _ _ (by simp)]; simp
  have hz1 : ((w.alloc (.cells #[.slice a C.length c, .int .i64 n] 63)).alloc (.cells #[.slice none 0 0, .int .i64 0] 63)).cell? ⟨w.heap.size, 1, none⟩ = some (.int .i64 n) := by
    rw [World.cell?_alloc_lt _ _ _ (by simp)]; simp
  have hz2 : ((w.alloc (.cells #[.slice a C.length c, .int .i64 n] 63)).alloc (.cells #[.slice none 0 0, .int .i64 0] 63)).cell? ⟨w.heap.size + 1, 0, none⟩ = some (.slice none 0 0) := by simp
  have hz3 : ((w.alloc (.cells #[.slice a C.length c, .int .i64 n] 63)).alloc (.cells #[.slice none 0 0, .int .i64 0] 63)).cell? ⟨w.heap.size + 1, 1, none⟩ = some (.int .i64 0) := by simp
  have hz4 : ((w.alloc (.cells #[.slice a C.length c, .int .i64 n] 63)).alloc (.cells #[.slice none 0 0, .int .i64 0] 63)).frozen? ⟨w.heap.size + 1, 0, none⟩ = false := by simp
  have hz5 : ((w.alloc (.cells #[.slice a C.length c, .int .i64 n] 63)).alloc (.cells #[.slice none 0 0, .int .i64 0] 63)).frozen? ⟨w.heap.size + 1, 1, none⟩ = false := by simp
  have hbw : Below w.heap.size w ((w.alloc (.cells #[.slice a C.length c, .int .i64 n] 63)).alloc (.cells #[.slice none 0 0, .int .i64 0] 63)) := below_alloc ((Below.refl _ _).alloc (Nat.le_refl _) _) (Nat.le_refl _) _
  generalize (w.alloc (.cells #[.slice a C.length c, .int .i64 n] 63)).alloc (.cells #[.slice none 0 0, .int .i64 0] 63) = W at *
  clear hW
  have HBW : Hid (Below w.heap.size w W) := hbw
  clear hbw
  refine (checkValue_any (HS.out.to HBW.out) (by omega)).mono ?_
  rintro e w1 ⟨rfl, hb1⟩
  rw [HC.out]
  have q0 : w1.cell? ⟨w.heap.size, 0, none⟩ = some (.slice a C.length c) := by rw [newCell hb1 _ _ (by rw [HW.out]; omega)]; exact hz0
  have HB1 : Hid (Below W.heap.size W w1) := hb1
  clear hb1
  go_wp2_with fail
  refine (clone_some ((HS.out.to HBW.out).to HB1.out) (by omega) (by omega)).mono ?_
  rintro e w2 ⟨g, c', rfl, ho2, hb2⟩
  have HB2 : Hid (Below W.heap.size W w2) := HB1.out.trans (hb2.mono HB1.out.size)
  have q1 : w2.cell? ⟨w.heap.size, 0, none⟩ = some (.slice a C.length c) := by rw [newCell HB2.out _ _ (by rw [HW.out]; omega)]; exact hz0
  have q2 : w2.cell? ⟨w.heap.size, 1, none⟩ = some (.int .i64 n) := by rw [newCell HB2.out _ _ (by rw [HW.out]; omega)]; exact hz1
  have HO2 : Hid (Ow w2 W.heap.size g C.length c' C) := ho2.mono HB1.out.size
  clear ho2 hb2 q0 HB1
  go_wp2_with fail
  refine (rate_any hlo hhi).mono ?_
  rintro e w3 ⟨rfl, hb3⟩
  have HB3 : Hid (Below W.heap.size W w3) := HB2.out.trans (hb3.mono HB2.out.size)
  have HO3 : Hid (Ow w3 W.heap.size g C.length c' C) := HO2.out.to hb3
  clear hb3 HB2 HO2 q1 q2
  have hr := rt_cases C.length n
  generalize hrr : rt C.length n = r at *
  have HRR : Hid (rt C.length n = r) := hrr
  clear hrr
  go_wp2_with fail
  go_loopw [25] (fun i wr => AdInv W W.heap.size g c' C r s i wr) (fun i _ => C.length - (intOf i).toNat)
  case atStart => exact ⟨0, by omega, rfl, by rw [adK_zero]; exact HO3.out, HB3.out⟩
  case round =>
    obtain ⟨k, hk, rfl, ho, hb⟩ := hrel
    clear HO3 HB3
    by_cases hlt : k + 1 < C.length
    · have c1 := ho.cell k (by omega)
      have c2 := ho.thaw k
      rw [adK_get _ _ _ _ _ (by omega), if_neg (by omega)] at c1
      have hp := HT.out.le k
      have HST := adK_set C r s k (by omega)
      have HE : Hid (adE C r s k = if s ≤ k then C.getD k 0 + (32768 - C.getD k 0) / 2 ^ r else C.getD k 0 - C.getD k 0 / 2 ^ r) := by unfold adE Hid; rw [if_neg (by omega)]
      generalize C.getD k 0 = p at *
      have HST' : Hid _ := HST
      have HO : Hid _ := ho
      have HB : Hid _ := hb
      have b0 : 0 ≤ (k : Int) := by omega
      have b1 : (k : Int) < (C.length : Int) - 1 := by omega
      have b2 : (k : Int) < (C.length : Int) := by omega
      have b3 : (p : Int) ≤ 32768 := by omega
      clear ho hb HST hp
      by_cases hsk : s ≤ k
      · have hsk' : (s : Int) ≤ (k : Int) := by omega
        go_wp2
        go_region
        all_goals go_wp2
        go_roundw
        case rel =>
          refine ⟨k + 1, by omega, by go_num, ?_, below_drew (below_set HB.out (a := ⟨g, k, none⟩) HO.out.lies.1 _)⟩
          have he := HE.out
          rw [if_pos hsk] at he
          rw [up_val b3 hr, ← he, ← HST'.out]
          exact (HO.out.set k (adE C r s k)).carry rfl
        case measure => simp [intOf]; omega
      · have hsk' : ¬ (s : Int) ≤ (k : Int) := by omega
        go_wp2
        go_region
        all_goals go_wp2
        go_roundw
        case rel =>
          refine ⟨k + 1, by omega, by go_num, ?_, below_drew (below_set HB.out (a := ⟨g, k, none⟩) HO.out.lies.1 _)⟩
          have he := HE.out
          rw [if_neg hsk] at he
          rw [down_val b3 hr, ← he, ← HST'.out]
          exact (HO.out.set k (adE C r s k)).carry rfl
        case measure => simp [intOf]; omega
    · have b1 : ¬ (k : Int) < (C.length : Int) - 1 := by omega
      have d0 : wr.cell? ⟨w.heap.size + 1, 0, none⟩ = some (.slice none 0 0) := by rw [newCell hb _ _ (by rw [HW.out]; omega)]; exact hz2
      have d1 : wr.cell? ⟨w.heap.size + 1, 1, none⟩ = some (.int .i64 0) := by rw [newCell hb _ _ (by rw [HW.out]; omega)]; exact hz3
      have f0 : wr.frozen? ⟨w.heap.size + 1, 0, none⟩ = false := by rw [newFrozen hb _ _ (by rw [HW.out]; omega)]; exact hz4
      have f1 : wr.frozen? ⟨w.heap.size + 1, 1, none⟩ = false := by rw [newFrozen hb _ _ (by rw [HW.out]; omega)]; exact hz5
      have d2 : wr.cell? ⟨w.heap.size, 1, none⟩ = some (.int .i64 n) := by rw [newCell hb _ _ (by rw [HW.out]; omega)]; exact hz1
      have n0 := HT.out.n0
      have n1 := HT.out.n1
      have hgl := ho.lies.1
      have HGL : Hid (w.heap.size + 2 ≤ g) := by rw [HW.out] at hgl; exact hgl
      have HAL := adK_all C n s k (by omega)
      rw [HRR.out] at HAL
      rw [HAL] at ho
      have HO : Hid _ := ho
      have HB : Hid _ := hb
      clear ho hb hgl HAL
      have fin : ∀ (e : Ending), e = .returned (.tuple #[.agg #[.slice (some ⟨g, 0, none⟩) C.length c', .int .i64 (adN n)], .int .i64 0]) →
          Tn w ((wr.setCell ⟨w.heap.size + 1, 0, none⟩ (.slice (some ⟨g, 0, none⟩) C.length c')).setCell ⟨w.heap.size + 1, 1, none⟩ (.int .i64 (adN n))) e (ad C n s) (adN n) := by
        intro e he
        have hgl := HGL.out
        refine ⟨g, c', by rw [ad_len]; exact he, ?_, ?_⟩
        · rw [ad_len]
          exact ((HO.out.far (by simp; omega) _).far (by simp; omega) _).mono (by rw [HW.out]; omega)
        · exact below_set (below_set (HBW.out.trans (HB.out.mono (by rw [HW.out]; omega))) (by simp) _) (by simp) _
      have FIN : Hid _ := fin
      clear fin
      go_wp2
      exact bodyPost_ret (v := .tuple #[.agg #[.slice (some ⟨g, 0, none⟩) C.length c', .int .i64 (adN n)], .int .i64 0]) (by simp [results, Tryd.results39, go_sem, d0, d1, adN]) rfl (FIN.out _ rfl)

set_option maxRecDepth 100000 in
set_option maxHeartbeats 1000000 in
theorem adapt_no {w : World} {a : Option Addr} {c : Nat} {C : List Nat} {n s : Int} (h : Sl w .u16 a C) (hl : C.length ≤ 140737488355328) (ht : ¬ (TOk C n ∧ 0 ≤ s ∧ s < C.length)) :
    Calls Tryd.prog 39 #[.agg #[.slice a C.length c, .int .i64 n], .int .i64 s] w fun e w' => e = .returned (.tuple #[.agg #[.slice none 0 0, .int .i64 0], .int .i64 2]) ∧ Below w.heap.size w w' := by
  have HS : Hid (Sl w .u16 a C) := h
  have HC : Hid (cv C n s = 2) := cv_no ht
  clear h ht
  go_enter Tryd.func39, Tryd.ntmps39
  go_wp2_with fail
  refine (checkValue_any ((HS.out.alloc _).alloc _) hl).mono ?_
  rintro e w1 ⟨rfl, hb1⟩
  rw [HC.out]
  have d0 : w1.cell? ⟨w.heap.size + 1, 0, none⟩ = some (.slice none 0 0) := by rw [newCell hb1 _ _ (by simp)]; simp
  have d1 : w1.cell? ⟨w.heap.size + 1, 1, none⟩ = some (.int .i64 0) := by rw [newCell hb1 _ _ (by simp)]; simp
  have f0 : w1.frozen? ⟨w.heap.size + 1, 0, none⟩ = false := by rw [newFrozen hb1 _ _ (by simp)]; simp
  have f1 : w1.frozen? ⟨w.heap.size + 1, 1, none⟩ = false := by rw [newFrozen hb1 _ _ (by simp)]; simp
  have HB1 : Hid (Below w.heap.size w w1) := (below_alloc ((Below.refl _ _).alloc (Nat.le_refl _) _) (Nat.le_refl _) _).trans (hb1.mono (by simp; omega))
  clear hb1
  go_wp2_with fail
  exact bodyPost_ret (v := .tuple #[.agg #[.slice none 0 0, .int .i64 0], .int .i64 2]) (by simp [results, Tryd.results39, go_sem, d0, d1]) rfl ⟨rfl, below_set (below_set HB1.out (by simp) _) (by simp) _⟩

end Go.Proofs.YtppanogpeengnaaDoor.L3

namespace Go.Proofs.YtppanogpeengnaaDoor.L3
open Go.RowKit

/-- a table as a value -/
structure Tb where
  a : Option Addr
  c : Nat
  C : List Nat
  n : Int
/-- a table's numbers lie in memory -/
structure Tb.In (w : World) (t : Tb) : Prop where
  sl : Sl w .u16 t.a t.C
  len : t.C.length ≤ 70368744177664
  u16 : ∀ i, t.C.getD i 0 < 65536
theorem Tb.In.to {w w' : World} {t : Tb} (h : t.In w) (hb : Below w.heap.size w w') : t.In w' := ⟨h.sl.to hb, h.len, h.u16⟩
/-- tables that lie in a row, from cell o of block b -/
structure Ts (w : World) (b o : Nat) (L : List Tb) : Prop where
  low : b < w.heap.size
  cell0 : ∀ j t, L[j]? = some t → w.cell? ⟨b, o + j * 2, none⟩ = some (.slice t.a t.C.length t.c)
  cell1 : ∀ j t, L[j]? = some t → w.cell? ⟨b, o + j * 2 + 1, none⟩ = some (.int .i64 t.n)
  ins : ∀ t, t ∈ L → t.In w
theorem Ts.to {w w' : World} {b o : Nat} {L : List Tb} (h : Ts w b o L) (hb : Below w.heap.size w w') : Ts w' b o L :=
  ⟨Nat.lt_of_lt_of_le h.low hb.size, fun j t ht => by rw [newCell hb _ _ h.low]; exact h.cell0 j t ht, fun j t ht => by rw [newCell hb _ _ h.low]; exact h.cell1 j t ht, fun t ht => (h.ins t ht).to hb⟩

def smK (L : List Tb) (i k : Nat) : Nat := sm ((L.take k).map Tb.C) i
theorem smK_zero (L : List Tb) (i : Nat) : smK L i 0 = 0 := by simp [smK, sm]
theorem smK_succ (L : List Tb) (i k : Nat) (t : Tb) (h : L[k]? = some t) : smK L i (k + 1) = smK L i k + t.C.getD i 0 := by
  unfold smK
  rw [List.take_add_one, h]
  simp [sm_append, sm_cons, sm_nil]
theorem smK_all (L : List Tb) (i : Nat) : smK L i L.length = sm (L.map Tb.C) i := by simp [smK]
theorem smK_le (L : List Tb) (i : Nat) (h : ∀ t ∈ L, t.C.getD i 0 < 65536) : ∀ k, k ≤ L.length → smK L i k ≤ k * 65535
  | 0, _ => by rw [smK_zero]; exact Nat.zero_le _
  | k + 1, hk => by
    have := smK_le L i h k (by omega)
    rw [smK_succ L i k L[k] (List.getElem?_eq_getElem (by omega))]
    have := h L[k] (List.getElem_mem _)
    omega

set_option maxRecDepth 100000 in
set_option maxHeartbeats 1000000 in
theorem middle_any {w : World} {b o c : Nat} {L : List Tb} {i : Nat} (h : Ts w b o L) (h0 : 0 < L.length) (hl : L.length ≤ 4398046511104) (hi : ∀ t ∈ L, i < t.C.length) :
    Calls Tryd.prog 95 #[.int .i64 i, .slice (some ⟨b, o, none⟩) L.length c] w fun e w' => e = .returned (.int .u16 (avE (L.map Tb.C) i : Nat)) ∧ Below w.heap.size w w' := by
  have HT : Hid (Ts w b o L) := h
  have HI : Hid (∀ t ∈ L, i < t.C.length) := hi
  have HLE : Hid (∀ k, k ≤ L.length → smK L i k ≤ k * 65535) := smK_le L i (fun t ht => (h.ins t ht).u16 i)
  clear h hi
  go_enter Tryd.func95, Tryd.ntmps95
  go_wp2_with fail
  go_loopw [6, 16] (fun sv iv wr => ∃ k : Nat, k ≤ L.length ∧ iv = .int .i64 k ∧ sv = .int .u64 ((L.length / 2 + smK L i k : Nat) : Int) ∧ Below w.heap.size w wr) (fun _ iv _ => L.length - (intOf iv).toNat)
  case atStart => exact ⟨0, by omega, rfl, by rw [smK_zero]; simp, Below.refl _ _⟩
  case round =>
    obtain ⟨k, hk, rfl, rfl, hb⟩ := hrel
    have hle := HLE.out k hk
    by_cases hlt : k < L.length
    · have hget := List.getElem?_eq_getElem hlt
      have HSU := smK_succ L i k L[k] hget
      have hin := (HT.out.ins L[k] (List.getElem_mem _))
      have hc := HI.out L[k] (List.getElem_mem _)
      have hc0 := HT.out.cell0 k _ hget
      have hc1 := HT.out.cell1 k _ hget
      generalize L[k] = t at *
      obtain ⟨ta, tc, tC, tn⟩ := t
      simp only at *
      obtain ⟨b', o', rfl, hbl, hcell⟩ := hin.sl.form (Nat.lt_of_le_of_lt (Nat.zero_le _) hc)
      have r0 : wr.cell? ⟨b, o + k * 2, none⟩ = some (.slice (some ⟨b', o', none⟩) tC.length tc) := by rw [newCell hb _ _ HT.out.low]; exact hc0
      have r1 : wr.cell? ⟨b, o + k * 2 + 1, none⟩ = some (.int .i64 tn) := by rw [newCell hb _ _ HT.out.low]; exact hc1
      have r2 : wr.cell? ⟨b', o' + i, none⟩ = some (.int .u16 (tC.getD i 0 : Nat)) := by rw [newCell hb _ _ hbl]; exact hcell i hc
      have hu := hin.u16 i
      generalize tC.getD i 0 = x at *
      have hs := hb.size
      have b0 : 0 ≤ (k : Int) := by omega
      have b1 : (k : Int) < (L.length : Int) := by omega
      have b2 : 0 ≤ (i : Int) := by omega
      have b3 : (i : Int) < (tC.length : Int) := by omega
      have hl1 : b' < wr.heap.size := by omega
      have hl2 : b' ≠ wr.heap.size := by omega
      have hl3 : wr.heap.size ≠ b' := by omega
      have HB : Hid (Below w.heap.size w wr) := hb
      have HSU' : Hid _ := HSU
      clear hb HSU hin hc0 hc1 hcell hget
      go_wp2
      go_roundw
      case rel => exact ⟨k + 1, by omega, by go_num, by rw [HSU'.out]; congr 1; omega, below_alloc HB.out (Nat.le_refl _) _⟩
      case measure => simp [intOf]; omega
    · have hk' : k = L.length := by omega
      subst hk'
      have b1 : (0 : Int) < (L.length : Int) := by omega
      have HA : Hid (avE (L.map Tb.C) i = (L.length / 2 + smK L i L.length) / L.length) := by unfold avE Hid; rw [smK_all]; simp
      have HA2 : Hid (avE (L.map Tb.C) i ≤ 65535) := avE_le (by simpa using h0) (fun C hC => by
        obtain ⟨t, ht, rfl⟩ := List.mem_map.1 hC
        have := (HT.out.ins t ht).u16 i
        omega)
      have HB : Hid (Below w.heap.size w wr) := hb
      clear hb
      go_wp2
      go_ret
      refine ⟨ret_int ?_, HB.out⟩
      have a1 := HA.out
      have a2 := HA2.out
      rw [IntKind.wrap_u16]
      have e : ((L.length : Int) / 2 + (smK L i L.length : Int)) / (L.length : Int) = (((L.length / 2 + smK L i L.length) / L.length : Nat) : Int) := by
        rw [Int.natCast_ediv, Int.natCast_add, Int.natCast_ediv]; rfl
      rw [e, ← a1]
      generalize avE (L.map Tb.C) i = q at *
      omega

/-- tables that have an average -/
def AvOk (L : List Tb) (m : Nat) : Prop := ∀ t, t ∈ L → TOk t.C t.n ∧ t.C.length = m
def FiInv2 (w : World) (f : Nat → Nat) (n g : Nat) (i : Value) (wr : World) : Prop :=
  ∃ k : Nat, k ≤ n ∧ i = .int .i64 k ∧ Ow wr g g n n (part f n k) ∧ Below g w wr
def AvInv (W : World) (L : List Tb) (m : Nat) (iv : Value) (wr : World) : Prop := ∃ k : Nat, k ≤ L.length ∧ iv = .int .i64 k ∧ Below W.heap.size W wr ∧ ∀ j t, j < k → L[j]? = some t → TOk t.C t.n ∧ t.C.length = m

set_option maxRecDepth 100000 in
set_option maxHeartbeats 2000000 in
theorem average_some {w : World} {b o c : Nat} {L : List Tb} {t0 : Tb} (h : Ts w b o L) (h0 : L[0]? = some t0) (hl : L.length ≤ 4398046511104) :
    Calls Tryd.prog 79 #[.slice (some ⟨b, o, none⟩) L.length c] w fun e w' => (AvOk L t0.C.length ∧ Tn w w' e (av t0.C.length (L.map Tb.C)) 0) ∨ (¬ AvOk L t0.C.length ∧ e = .returned (.tuple #[.agg #[.slice none 0 0, .int .i64 0], .int .i64 2]) ∧ Below w.heap.size w w') := by
  obtain ⟨i, hi, hz0, hz1, hz2⟩ := info_parts Tryd.info38
  have hL0 : 0 < L.length := by
    rcases Nat.eq_zero_or_pos L.length with e | e
    · rw [List.getElem?_eq_none (by omega)] at h0; cases h0
    · exact e
  have HT : Hid (Ts w b o L) := h
  have H0 : Hid (L[0]? = some t0) := h0
  have hm0 : t0 ∈ L := List.mem_of_getElem? h0
  have hc0 : (w.alloc (.cells #[.slice none 0 0, .int .i64 0] 63)).cell? ⟨b, o, none⟩ = some (.slice t0.a t0.C.length t0.c) := by
    rw [World.cell?_alloc_lt _ _ _ h.low]; have := h.cell0 0 t0 h0; simpa using this
  have hbW : Below w.heap.size w (w.alloc (.cells #[.slice none 0 0, .int .i64 0] 63)) := (Below.refl _ _).alloc (Nat.le_refl _) _
  have HBW : Hid _ := hbW
  have hn0 : ((L.length : Int) == 0) = false := by rw [beq_eq_false_iff_ne]; omega
  have b00 : (0 : Int) < (L.length : Int) := by omega
  have hlen0 := (h.ins t0 hm0).len
  obtain ⟨ta0, tc0, C0, n0⟩ := t0
  simp only at *
  clear h h0 hbW
  go_enter Tryd.func79, Tryd.ntmps79
  go_wp2_with fail
  have z0 : (w.alloc (.cells #[.slice none 0 0, .int .i64 0] 63)).cell? ⟨w.heap.size, 0, none⟩ = some (.slice none 0 0) := by simp
  have z1 : (w.alloc (.cells #[.slice none 0 0, .int .i64 0] 63)).cell? ⟨w.heap.size, 1, none⟩ = some (.int .i64 0) := by simp
  have z2 : (w.alloc (.cells #[.slice none 0 0, .int .i64 0] 63)).frozen? ⟨w.heap.size, 0, none⟩ = false := by simp
  have z3 : (w.alloc (.cells #[.slice none 0 0, .int .i64 0] 63)).frozen? ⟨w.heap.size, 1, none⟩ = false := by simp
  have hWs : (w.alloc (.cells #[.slice none 0 0, .int .i64 0] 63)).heap.size = w.heap.size + 1 := by simp
  have HWs : Hid _ := hWs
  clear hc0 hWs
  generalize w.alloc (.cells #[.slice none 0 0, .int .i64 0] 63) = W at *
  go_loopw [20] (fun iv wr => AvInv W L C0.length iv wr) (fun iv _ => L.length - (intOf iv).toNat)
  case atStart => exact ⟨0, by omega, rfl, Below.refl _ _, fun j t hj => by omega⟩
  case round =>
    obtain ⟨k, hk, rfl, hb, hall⟩ := hrel
    have HA : Hid _ := hall
    have d0 : wr.cell? ⟨w.heap.size, 0, none⟩ = some (.slice none 0 0) := by rw [newCell hb _ _ (by rw [HWs.out]; omega)]; exact z0
    have d1 : wr.cell? ⟨w.heap.size, 1, none⟩ = some (.int .i64 0) := by rw [newCell hb _ _ (by rw [HWs.out]; omega)]; exact z1
    have f0 : wr.frozen? ⟨w.heap.size, 0, none⟩ = false := by rw [newFrozen hb _ _ (by rw [HWs.out]; omega)]; exact z2
    have f1 : wr.frozen? ⟨w.heap.size, 1, none⟩ = false := by rw [newFrozen hb _ _ (by rw [HWs.out]; omega)]; exact z3
    clear hall
    by_cases hlt : k < L.length
    · have hget := List.getElem?_eq_getElem hlt
      have hin := (HT.out.ins L[k] (List.getElem_mem _))
      have hc0 := HT.out.cell0 k _ hget
      have hc1 := HT.out.cell1 k _ hget
      have HG : Hid (L[k]? = some L[k]) := hget
      have hmem : Hid (L[k] ∈ L) := List.getElem_mem _
      generalize L[k] = t at *
      obtain ⟨ta, tc, tC, tn⟩ := t
      have hsl : Sl w .u16 ta tC := hin.sl
      have hlen : tC.length ≤ 70368744177664 := hin.len
      simp only at *
      have r0 : wr.cell? ⟨b, o + k * 2, none⟩ = some (.slice ta tC.length tc) := by rw [newCell hb _ _ (Nat.lt_of_lt_of_le HT.out.low HBW.out.size), newCell HBW.out _ _ HT.out.low]; exact hc0
      have r1 : wr.cell? ⟨b, o + k * 2 + 1, none⟩ = some (.int .i64 tn) := by rw [newCell hb _ _ (Nat.lt_of_lt_of_le HT.out.low HBW.out.size), newCell HBW.out _ _ HT.out.low]; exact hc1
      have b0 : 0 ≤ (k : Int) := by omega
      have b1 : (k : Int) < (L.length : Int) := by omega
      have HB : Hid (Below W.heap.size W wr) := hb
      have HSL : Hid (Sl wr .u16 ta tC) := (hsl.to HBW.out).to hb
      have hs := hb.size
      clear hb hin hc0 hc1 hget hsl
      by_cases hok : TOk tC tn
      · have HK : Hid (ck tC tn = 0) := ck_ok hok
        have HOK : Hid (TOk tC tn) := hok
        clear hok
        by_cases hln : tC.length = C0.length
        · have hln' : ((tC.length : Int) != (C0.length : Int)) = false := by simp [hln]
          have HLN : Hid (tC.length = C0.length) := hln
          clear hln
          go_wp2_with fail
          refine (check_any (HSL.out.alloc _) (by omega)).mono ?_
          rintro e w1 ⟨rfl, hb1⟩
          rw [HK.out]
          have q0 : w1.cell? ⟨wr.heap.size, 0, none⟩ = some (.slice ta tC.length tc) := by rw [newCell hb1 _ _ (by simp)]; simp
          have HB1 : Hid (Below W.heap.size W w1) := (below_alloc HB.out (Nat.le_refl _) _).trans (hb1.mono (by simp; omega))
          clear hb1
          go_wp2_with fail
          go_roundw
          case rel => exact ⟨k + 1, by omega, by go_num, HB1.out, fun j t hj ht => by
            by_cases e : j = k
            · subst e; rw [HG.out] at ht; cases ht; exact ⟨HOK.out, HLN.out⟩
            · exact HA.out j t (by omega) ht⟩
          case measure => simp [intOf]; omega
        · have hln' : ((tC.length : Int) != (C0.length : Int)) = true := by rw [bne_iff_ne]; omega
          go_wp2_with fail
          refine (check_any (HSL.out.alloc _) (by omega)).mono ?_
          rintro e w1 ⟨rfl, hb1⟩
          rw [HK.out]
          have q0 : w1.cell? ⟨wr.heap.size, 0, none⟩ = some (.slice ta tC.length tc) := by rw [newCell hb1 _ _ (by simp)]; simp
          have HB1 : Hid (Below W.heap.size W w1) := (below_alloc HB.out (Nat.le_refl _) _).trans (hb1.mono (by simp; omega))
          clear hb1
          have d0' : w1.cell? ⟨w.heap.size, 0, none⟩ = some (.slice none 0 0) := by rw [newCell HB1.out _ _ (by rw [HWs.out]; omega)]; exact z0
          have d1' : w1.cell? ⟨w.heap.size, 1, none⟩ = some (.int .i64 0) := by rw [newCell HB1.out _ _ (by rw [HWs.out]; omega)]; exact z1
          have f0' : w1.frozen? ⟨w.heap.size, 0, none⟩ = false := by rw [newFrozen HB1.out _ _ (by rw [HWs.out]; omega)]; exact z2
          have f1' : w1.frozen? ⟨w.heap.size, 1, none⟩ = false := by rw [newFrozen HB1.out _ _ (by rw [HWs.out]; omega)]; exact z3
          go_wp2_with fail
          refine bodyPost_ret (v := .tuple #[.agg #[.slice none 0 0, .int .i64 0], .int .i64 2]) (by simp [results, Tryd.results79, go_sem, d0', d1']) rfl (Or.inr ⟨fun hav => hln (hav _ hmem.out).2, rfl, ?_⟩)
          exact below_set (below_set (HBW.out.trans (HB1.out.mono (by rw [HWs.out]; omega))) (by simp) _) (by simp) _
      · have HK : Hid (ck tC tn = 2) := ck_no hok
        go_wp2_with fail
        refine (check_any (HSL.out.alloc _) (by omega)).mono ?_
        rintro e w1 ⟨rfl, hb1⟩
        rw [HK.out]
        have HB1 : Hid (Below W.heap.size W w1) := (below_alloc HB.out (Nat.le_refl _) _).trans (hb1.mono (by simp; omega))
        clear hb1
        have d0' : w1.cell? ⟨w.heap.size, 0, none⟩ = some (.slice none 0 0) := by rw [newCell HB1.out _ _ (by rw [HWs.out]; omega)]; exact z0
        have d1' : w1.cell? ⟨w.heap.size, 1, none⟩ = some (.int .i64 0) := by rw [newCell HB1.out _ _ (by rw [HWs.out]; omega)]; exact z1
        have f0' : w1.frozen? ⟨w.heap.size, 0, none⟩ = false := by rw [newFrozen HB1.out _ _ (by rw [HWs.out]; omega)]; exact z2
        have f1' : w1.frozen? ⟨w.heap.size, 1, none⟩ = false := by rw [newFrozen HB1.out _ _ (by rw [HWs.out]; omega)]; exact z3
        go_wp2_with fail
        refine bodyPost_ret (v := .tuple #[.agg #[.slice none 0 0, .int .i64 0], .int .i64 2]) (by simp [results, Tryd.results79, go_sem, d0', d1']) rfl (Or.inr ⟨fun hav => hok (hav _ hmem.out).1, rfl, ?_⟩)
        exact below_set (below_set (HBW.out.trans (HB1.out.mono (by rw [HWs.out]; omega))) (by simp) _) (by simp) _
    · generalize wr = wo at *
      have HAV : Hid (AvOk L C0.length) := fun t ht => by
        obtain ⟨j, hj, e⟩ := List.getElem_of_mem ht
        exact HA.out j t (by omega) (by rw [List.getElem?_eq_getElem hj, e])
      have hT0 : TOk C0 n0 := (HAV.out _ hm0).1
      have hhi := hT0.hi
      have hlo := hT0.lo
      have HB : Hid (Below W.heap.size W wo) := hb
      clear hb
      go_wp2_with (at_make; refine wpList_make_full _ (by rfl) _ _ _ (by rfl) wo.heap.size 38 i (.int .u16 0) 1 Tryd.underlying61 hi hz0 hz1 .i64 .i64 _ _ C0.length (by rfl) (by rfl) rfl rfl (by rw [hz2]; omega) (by unfold maxLen; omega) (by simp) ?_; intro w1 hown hgrow)
      rw [← part_zero (avE (L.map Tb.C))] at hown
      have hB1 : Below wo.heap.size wo w1 := (Below.refl _ _).grown hgrow (Nat.le_refl _) (fun k hk => by cases hk)
      clear hgrow
      go_wp2_with fail
      go_loopw [40] (fun iv u => FiInv2 wo (avE (L.map Tb.C)) C0.length wo.heap.size iv u) (fun iv _ => C0.length - (intOf iv).toNat)
      case atStart => exact ⟨0, by omega, rfl, ⟨hown⟩, hB1⟩
      case round =>
        obtain ⟨q, hq, rfl, ho, hbq⟩ := hrel
        clear hown hB1
        by_cases hqt : q < C0.length
        · have HO : Hid _ := ho
          have HBQ : Hid _ := hbq
          have HPT : Hid _ := part_set (avE (L.map Tb.C)) C0.length q hqt
          clear ho hbq
          have b0 : 0 ≤ (q : Int) := by omega
          have b1 : (q : Int) < (C0.length : Int) := by omega
          go_wp2_with fail
          refine (middle_any (((HT.out.to HBW.out).to HB.out).to HBQ.out) hL0 hl (fun t ht => by rw [(HAV.out t ht).2]; exact hqt)).mono ?_
          rintro e w2 ⟨rfl, hb2⟩
          have HO2 : Hid (Ow w2 wo.heap.size wo.heap.size C0.length C0.length (part (avE (L.map Tb.C)) C0.length q)) := HO.out.to hb2
          have HB2 : Hid (Below wo.heap.size wo w2) := HBQ.out.trans (hb2.mono HBQ.out.size)
          have c1 := HO2.out.cell q hqt
          have c2 := HO2.out.thaw q
          clear hb2 HO HBQ
          generalize avE (L.map Tb.C) q = v at *
          go_wp2_with fail
          go_roundw
          case rel =>
            refine ⟨q + 1, by omega, by go_num, ?_, below_set HB2.out (Nat.le_refl _) _⟩
            rw [← HPT.out]
            exact HO2.out.set q v
          case measure => simp [intOf]; omega
        · have hq' : q = C0.length := by omega
          subst hq'
          have e0 : wr.cell? ⟨w.heap.size, 0, none⟩ = some (.slice none 0 0) := by rw [newCell hbq _ _ (by have := HB.out.size; rw [HWs.out] at this; omega)]; exact d0
          have e1 : wr.cell? ⟨w.heap.size, 1, none⟩ = some (.int .i64 0) := by rw [newCell hbq _ _ (by have := HB.out.size; rw [HWs.out] at this; omega)]; exact d1
          have g0 : wr.frozen? ⟨w.heap.size, 0, none⟩ = false := by rw [newFrozen hbq _ _ (by have := HB.out.size; rw [HWs.out] at this; omega)]; exact f0
          have g1 : wr.frozen? ⟨w.heap.size, 1, none⟩ = false := by rw [newFrozen hbq _ _ (by have := HB.out.size; rw [HWs.out] at this; omega)]; exact f1
          have HO : Hid _ := ho
          have HBQ : Hid _ := hbq
          clear ho hbq d0 d1 f0 f1
          go_wp2_with fail
          refine bodyPost_ret (v := .tuple #[.agg #[.slice (some ⟨wo.heap.size, 0, none⟩) C0.length C0.length, .int .i64 0], .int .i64 0]) (by simp [results, Tryd.results79, go_sem, e0, e1]) rfl (Or.inl ⟨HAV.out, wo.heap.size, C0.length, by rw [av_len], ?_, ?_⟩)
          · rw [av_len]
            have hsz := HB.out.size
            rw [HWs.out] at hsz
            have hav : part (avE (L.map Tb.C)) C0.length C0.length = av C0.length (L.map Tb.C) := list_eq_of_getD (by rw [part_len, av_len]) (fun j hj => by
              rw [part_len] at hj
              rw [part_get _ _ _ _ hj, if_pos hj, av_get _ _ _ hj])
            have hoo := HO.out
            rw [hav] at hoo
            exact ((hoo.far (by simp; omega) _).far (by simp; omega) _).mono (by omega)
          · have h1 := HBW.out.size
            have h2 := HB.out.size
            exact below_set (below_set ((HBW.out.trans (HB.out.mono h1)).trans (HBQ.out.mono (by omega))) (by simp) _) (by simp) _

set_option maxHeartbeats 1000000 in
theorem average_none {w : World} {a : Option Addr} {c : Nat} :
    Calls Tryd.prog 79 #[.slice a 0 c] w fun e w' => e = .returned (.tuple #[.agg #[.slice none 0 0, .int .i64 0], .int .i64 2]) ∧ Below w.heap.size w w' := by
  go_enter Tryd.func79, Tryd.ntmps79
  go_wp2_with fail
  exact bodyPost_ret (v := .tuple #[.agg #[.slice none 0 0, .int .i64 0], .int .i64 2]) (by simp [results, Tryd.results79, go_sem]) rfl ⟨rfl, by go_grown⟩

end Go.Proofs.YtppanogpeengnaaDoor.L3

namespace Go.Proofs.YtppanogpeengnaaDoor.L3
open Go.RowKit

set_option maxRecDepth 100000 in
set_option maxHeartbeats 1000000 in
theorem flC2 : flC 2 = [16384, 32768] := by decide +kernel
theorem ad2 : ad [16384, 32768] 0 0 = [17408, 32768] := by decide +kernel
theorem adN0 : adN 0 = 1 := by decide +kernel
theorem av2 : av 2 [[16384, 32768], [17408, 32768]] = [16896, 32768] := by decide +kernel
theorem ok2 {x : Nat} {n : Int} (hx : x ≤ 32768) (h0 : 0 ≤ n) (h1 : n ≤ 32) : TOk [x, 32768] n :=
  ⟨by simp, by simp, rfl, h0, h1, fun i g1 g2 => by
    have e : i = 1 := by simp at g2; omega
    subst e; exact hx⟩

/-- a list that was built in place -/
theorem built_sl (w : World) (x y : Nat) (X Y : Int) (t : TypeId) (hx : X = (x : Int)) (hy : Y = (y : Int)) : Sl (w.alloc (.cells #[.int .u16 X, .int .u16 Y] t)) .u16 (some ⟨w.heap.size, 0, none⟩) [x, y] :=
  Or.inr ⟨w.heap.size, 0, rfl, by simp, fun j hj => by
    simp at hj
    rcases (show j = 0 ∨ j = 1 by omega) with rfl | rfl <;> simp [hx, hy]⟩

/-- a variable in block x that has a table -/
structure Loc (u : World) (x : Nat) (t : Tb) : Prop where
  low : x < u.heap.size
  c0 : u.cell? ⟨x, 0, none⟩ = some (.slice t.a t.C.length t.c)
  c1 : u.cell? ⟨x, 1, none⟩ = some (.int .i64 t.n)
  sl : Sl u .u16 t.a t.C
theorem Loc.to {u v : World} {x : Nat} {t : Tb} (h : Loc u x t) (hb : Below u.heap.size u v) : Loc v x t :=
  ⟨Nat.lt_of_lt_of_le h.low hb.size, by rw [newCell hb _ _ h.low]; exact h.c0, by rw [newCell hb _ _ h.low]; exact h.c1, h.sl.to hb⟩
theorem Loc.new {u : World} (t : Tb) (h : Sl u .u16 t.a t.C) : Loc (u.alloc (.cells #[.slice t.a t.C.length t.c, .int .i64 t.n] 63)) u.heap.size t :=
  ⟨by simp, by simp, by simp, h.alloc _⟩
theorem to_alloc {w u : World} (h : Below w.heap.size w u) (o : Obj) : Below w.heap.size w (u.alloc o) := below_alloc h (Nat.le_refl _) o
theorem from_alloc (u : World) (o : Obj) : Below u.heap.size u (u.alloc o) := (Below.refl _ _).alloc (Nat.le_refl _) _

theorem pair_ts {u : World} {a1 a2 : Option Addr} {c1 c2 x1 y1 x2 y2 : Nat} {n1 n2 : Int} (h1 : Sl u .u16 a1 [x1, y1]) (h2 : Sl u .u16 a2 [x2, y2]) (b1 : x1 < 65536 := by omega) (b2 : y1 < 65536 := by omega) (b3 : x2 < 65536 := by omega) (b4 : y2 < 65536 := by omega) :
    Ts (u.alloc (.cells #[.slice a1 2 c1, .int .i64 n1, .slice a2 2 c2, .int .i64 n2] 63)) u.heap.size 0 [⟨a1, c1, [x1, y1], n1⟩, ⟨a2, c2, [x2, y2], n2⟩] := by
  refine ⟨by simp, fun j t ht => ?_, fun j t ht => ?_, fun t ht => ?_⟩
  · rcases j with _ | _ | j
    · simp at ht; subst ht; simp
    · simp at ht; subst ht; simp
    · simp at ht
  · rcases j with _ | _ | j
    · simp at ht; subst ht; simp
    · simp at ht; subst ht; simp
    · simp at ht
  · have hu : ∀ x y : Nat, x < 65536 → y < 65536 → ∀ i, ([x, y] : List Nat).getD i 0 < 65536 := fun x y hx hy i => by
      rcases i with _ | _ | i <;> simp [List.getD_eq_getElem?_getD] <;> assumption
    simp at ht
    rcases ht with rfl | rfl
    · exact ⟨h1.alloc _, by simp, hu _ _ b1 b2⟩
    · exact ⟨h2.alloc _, by simp, hu _ _ b3 b4⟩

end Go.Proofs.YtppanogpeengnaaDoor.L3
