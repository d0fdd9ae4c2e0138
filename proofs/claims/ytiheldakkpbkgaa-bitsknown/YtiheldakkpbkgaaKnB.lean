/- DERIVED. The walk of the statements' own 'texts': what the chapter's readers tell. -/
import Derived.Test.YtiheldakkpbkgaaKnA
namespace Go.Proofs.Ytiheldakkpbkgaa
open Go.RowKit

theorem lit_byt {zs : List Nat} (h : zs.all (fun z => decide (z < 256)) = true) : ∀ i, zs.getD i 0 < 256 := by
  intro i
  rcases Nat.lt_or_ge i zs.length with hi | hi
  · rw [List.getD_eq_getElem?_getD, List.getElem?_eq_getElem hi]
    have := List.all_eq_true.1 h _ (List.getElem_mem hi)
    simpa using this
  · rw [List.getD_eq_getElem?_getD, List.getElem?_eq_none hi]; simp
theorem DoAt.lit (w : World) (cs : Array Value) (L : List (Int × Int × Nat)) (hcs : cs.toList = ds L) (hL : L.all (fun e => decide (e.2.2 < 4294967296)) = true) (hn : L.length ≤ maxLen) : DoAt (w.alloc (.cells cs 34)) (.slice (some ⟨w.heap.size, 0, none⟩) L.length L.length) L := by
  have hsz : cs.size = L.length * 3 := by rw [← Array.length_toList, hcs, ds_length]
  have hown : (w.alloc (.cells cs 34)).ownsRow 0 34 3 (.slice (some ⟨w.heap.size, 0, none⟩) L.length L.length) L.length cs.toList := World.ownsRow_lit w cs L.length (Nat.zero_le _) hn hsz
  rw [hcs] at hown
  refine Or.inr ⟨w.heap.size, 0, L.length, rfl, by simp, fun j hj => ?_⟩
  obtain ⟨h0, h1, h2⟩ := ds_get L j hj
  rw [Nat.zero_add, hown.cellAt (j * 3) (by omega), hown.cellAt (j * 3 + 1) (by omega), hown.cellAt (j * 3 + 2) (by omega)]
  refine ⟨h0, h1, h2, ?_⟩
  rw [List.getD_eq_getElem?_getD, List.getElem?_eq_getElem hj]
  have := List.all_eq_true.1 hL _ (List.getElem_mem hj)
  simpa using this
theorem told_lit {w : World} {vb : Value} {zs T : List Nat} {a : Option Addr} {c : Nat} {L : List (Int × Int × Nat)} (hT : tell zs L = T) (hn : T.length = 2 * L.length + 1) (hb : SrcOf w vb zs) (hz : ∀ i, zs.getD i 0 < 256) (hzl : zs.length ≤ 100000) (hL : DoAt w (.slice a L.length c) L) (hLl : L.length ≤ 100000) :
    Calls Try.prog 58 #[vb, .slice a L.length c] w fun e w' => ∃ a' c', e = .returned (.slice a' T.length c') ∧ w'.ownsRow w.heap.size 3 1 (.slice a' T.length c') T.length (is T) ∧ Below w.heap.size w w' := by
  subst hT
  rw [hn]
  exact told_any w vb zs a c L hb hz hzl hL hLl

set_option maxHeartbeats 8000000 in
set_option maxRecDepth 100000 in
theorem texts_true (w : World) : Calls Try.prog 41 #[] w fun e w' => e = .returned (.bool true) ∧ Below w.heap.size w w' := by
  have HB0 : Hid (Below w.heap.size w w) := Below.refl _ _
  go_enter Try.func41, Try.ntmps41
  go_wp2_with fail
  have o0 : (w.alloc (.cells #[.int .u8 165, .int .u8 128] 5)).ownsRow 0 5 1 (.slice (some ⟨w.heap.size, 0, none⟩) ([165, 128] : List Nat).length 2) ([165, 128] : List Nat).length (bs [165, 128]) := World.ownsRow_lit w #[.int .u8 165, .int .u8 128] 2 (Nat.zero_le _) (by decide) (by decide)
  have hba : Hid (Below w.heap.size w (w.alloc (.cells #[.int .u8 165, .int .u8 128] 5))) := HB0.out.alloc HB0.out.size _
  clear HB0
  refine (reads_any 0 3 _).mono ?_; rintro e w0_0 ⟨rfl, hr⟩
  have o1 := own_below o0 hr
  have h0_0 : Hid (Below w.heap.size w w0_0) := hba.out.trans (hr.mono hba.out.size)
  clear hr o0 hba
  go_wp2_with fail
  refine (reads_any 1 2 _).mono ?_; rintro e w0_1 ⟨rfl, hr⟩
  have o2 := own_below o1 hr
  have h0_1 : Hid (Below w.heap.size w w0_1) := h0_0.out.trans (hr.mono h0_0.out.size)
  clear hr o1 h0_0
  go_wp2_with fail
  refine (reads_any 4 0 _).mono ?_; rintro e w0_2 ⟨rfl, hr⟩
  have o3 := own_below o2 hr
  have h0_2 : Hid (Below w.heap.size w w0_2) := h0_1.out.trans (hr.mono h0_1.out.size)
  clear hr o2 h0_1
  go_wp2_with fail
  refine (reads_any 0 11 _).mono ?_; rintro e w0_3 ⟨rfl, hr⟩
  have o4 := own_below o3 hr
  have h0_3 : Hid (Below w.heap.size w w0_3) := h0_2.out.trans (hr.mono h0_2.out.size)
  clear hr o3 h0_2
  go_wp2_with fail
  refine (reads_any 0 2 _).mono ?_; rintro e w0_4 ⟨rfl, hr⟩
  have o5 := own_below o4 hr
  have h0_4 : Hid (Below w.heap.size w w0_4) := h0_3.out.trans (hr.mono h0_3.out.size)
  clear hr o4 h0_3
  go_wp2_with fail
  refine (reads_any 4 0 _).mono ?_; rintro e w0_5 ⟨rfl, hr⟩
  have o6 := own_below o5 hr
  have h0_5 : Hid (Below w.heap.size w w0_5) := h0_4.out.trans (hr.mono h0_4.out.size)
  clear hr o5 h0_4
  go_wp2_with fail
  have hdo := DoAt.lit w0_5 #[.int .i64 0, .int .i64 3, .int .u32 0, .int .i64 1, .int .i64 2, .int .u32 0, .int .i64 4, .int .i64 0, .int .u32 0, .int .i64 0, .int .i64 11, .int .u32 0, .int .i64 0, .int .i64 2, .int .u32 0, .int .i64 4, .int .i64 0, .int .u32 0] [(0, 3, 0), (1, 2, 0), (4, 0, 0), (0, 11, 0), (0, 2, 0), (4, 0, 0)] rfl (by decide) (by decide)
  have hbd : Hid (Below w.heap.size w (w0_5.alloc (.cells #[.int .i64 0, .int .i64 3, .int .u32 0, .int .i64 1, .int .i64 2, .int .u32 0, .int .i64 4, .int .i64 0, .int .u32 0, .int .i64 0, .int .i64 11, .int .u32 0, .int .i64 0, .int .i64 2, .int .u32 0, .int .i64 4, .int .i64 0, .int .u32 0] 34))) := h0_5.out.alloc h0_5.out.size _
  refine (told_lit (zs := [165, 128]) (T := [5, 0, 1, 0, 0, 4, 0, 3, 1, 0, 0, 0, 8]) (by decide +kernel) (by decide) (SrcOf.ofOwn (o6.alloc (.cells #[.int .i64 0, .int .i64 3, .int .u32 0, .int .i64 1, .int .i64 2, .int .u32 0, .int .i64 4, .int .i64 0, .int .u32 0, .int .i64 0, .int .i64 11, .int .u32 0, .int .i64 0, .int .i64 2, .int .u32 0, .int .i64 4, .int .i64 0, .int .u32 0] 34))) (lit_byt (by decide)) (by decide) hdo (by decide)).mono ?_; rintro e wt0 ⟨a0, c0, rfl, ot, ht⟩
  have hbt : Hid (Below w.heap.size w wt0) := hbd.out.trans (ht.mono hbd.out.size)
  clear hdo ht hbd h0_5 o6
  go_wp2_with fail
  have hli : (wt0.alloc (.cells #[.int .i64 5, .int .i64 0, .int .i64 1, .int .i64 0, .int .i64 0, .int .i64 4, .int .i64 0, .int .i64 3, .int .i64 1, .int .i64 0, .int .i64 0, .int .i64 0, .int .i64 8] 3)).ownsRow 0 3 1 (.slice (some ⟨wt0.heap.size, 0, none⟩) ([5, 0, 1, 0, 0, 4, 0, 3, 1, 0, 0, 0, 8] : List Nat).length 13) ([5, 0, 1, 0, 0, 4, 0, 3, 1, 0, 0, 0, 8] : List Nat).length (is [5, 0, 1, 0, 0, 4, 0, 3, 1, 0, 0, 0, 8]) := World.ownsRow_lit wt0 #[.int .i64 5, .int .i64 0, .int .i64 1, .int .i64 0, .int .i64 0, .int .i64 4, .int .i64 0, .int .i64 3, .int .i64 1, .int .i64 0, .int .i64 0, .int .i64 0, .int .i64 8] 13 (Nat.zero_le _) (by decide) (by decide)
  have hbi : Hid (Below w.heap.size w (wt0.alloc (.cells #[.int .i64 5, .int .i64 0, .int .i64 1, .int .i64 0, .int .i64 0, .int .i64 4, .int .i64 0, .int .i64 3, .int .i64 1, .int .i64 0, .int .i64 0, .int .i64 0, .int .i64 8] 3))) := hbt.out.alloc hbt.out.size _
  have ce := eqInts_own (xs := [5, 0, 1, 0, 0, 4, 0, 3, 1, 0, 0, 0, 8]) (ys := [5, 0, 1, 0, 0, 4, 0, 3, 1, 0, 0, 0, 8]) (ot.alloc (.cells #[.int .i64 5, .int .i64 0, .int .i64 1, .int .i64 0, .int .i64 0, .int .i64 4, .int .i64 0, .int .i64 3, .int .i64 1, .int .i64 0, .int .i64 0, .int .i64 0, .int .i64 8] 3)) hli (by decide)
  rw [show decide (([5, 0, 1, 0, 0, 4, 0, 3, 1, 0, 0, 0, 8] : List Nat) = [5, 0, 1, 0, 0, 4, 0, 3, 1, 0, 0, 0, 8]) = true from by decide] at ce
  refine ce.mono ?_; rintro e we0 ⟨rfl, he⟩
  have HE0 : Hid (Below w.heap.size w we0) := hbi.out.trans (he.mono hbi.out.size)
  clear ce he hbi hli hbt ot
  go_wp2_with fail
  have o0 : (we0.alloc (.cells #[.int .u8 128] 5)).ownsRow 0 5 1 (.slice (some ⟨we0.heap.size, 0, none⟩) ([128] : List Nat).length 1) ([128] : List Nat).length (bs [128]) := World.ownsRow_lit we0 #[.int .u8 128] 1 (Nat.zero_le _) (by decide) (by decide)
  have hba : Hid (Below w.heap.size w (we0.alloc (.cells #[.int .u8 128] 5))) := HE0.out.alloc HE0.out.size _
  clear HE0
  refine (reads_any 1 3 _).mono ?_; rintro e w1_0 ⟨rfl, hr⟩
  have o1 := own_below o0 hr
  have h1_0 : Hid (Below w.heap.size w w1_0) := hba.out.trans (hr.mono hba.out.size)
  clear hr o0 hba
  go_wp2_with fail
  refine (reads_any 0 8 _).mono ?_; rintro e w1_1 ⟨rfl, hr⟩
  have o2 := own_below o1 hr
  have h1_1 : Hid (Below w.heap.size w w1_1) := h1_0.out.trans (hr.mono h1_0.out.size)
  clear hr o1 h1_0
  go_wp2_with fail
  refine (reads_any 0 0 _).mono ?_; rintro e w1_2 ⟨rfl, hr⟩
  have o3 := own_below o2 hr
  have h1_2 : Hid (Below w.heap.size w w1_2) := h1_1.out.trans (hr.mono h1_1.out.size)
  clear hr o2 h1_1
  go_wp2_with fail
  refine (reads_any 0 1 _).mono ?_; rintro e w1_3 ⟨rfl, hr⟩
  have o4 := own_below o3 hr
  have h1_3 : Hid (Below w.heap.size w w1_3) := h1_2.out.trans (hr.mono h1_2.out.size)
  clear hr o3 h1_2
  go_wp2_with fail
  refine (reads_any 0 33 _).mono ?_; rintro e w1_4 ⟨rfl, hr⟩
  have o5 := own_below o4 hr
  have h1_4 : Hid (Below w.heap.size w w1_4) := h1_3.out.trans (hr.mono h1_3.out.size)
  clear hr o4 h1_3
  go_wp2_with fail
  refine (reads_any 1 32 _).mono ?_; rintro e w1_5 ⟨rfl, hr⟩
  have o6 := own_below o5 hr
  have h1_5 : Hid (Below w.heap.size w w1_5) := h1_4.out.trans (hr.mono h1_4.out.size)
  clear hr o5 h1_4
  go_wp2_with fail
  refine (reads_any 1 0 _).mono ?_; rintro e w1_6 ⟨rfl, hr⟩
  have o7 := own_below o6 hr
  have h1_6 : Hid (Below w.heap.size w w1_6) := h1_5.out.trans (hr.mono h1_5.out.size)
  clear hr o6 h1_5
  go_wp2_with fail
  have hdo := DoAt.lit w1_6 #[.int .i64 1, .int .i64 3, .int .u32 0, .int .i64 0, .int .i64 8, .int .u32 0, .int .i64 0, .int .i64 0, .int .u32 0, .int .i64 0, .int .i64 1, .int .u32 0, .int .i64 0, .int .i64 33, .int .u32 0, .int .i64 1, .int .i64 32, .int .u32 0, .int .i64 1, .int .i64 0, .int .u32 0] [(1, 3, 0), (0, 8, 0), (0, 0, 0), (0, 1, 0), (0, 33, 0), (1, 32, 0), (1, 0, 0)] rfl (by decide) (by decide)
  have hbd : Hid (Below w.heap.size w (w1_6.alloc (.cells #[.int .i64 1, .int .i64 3, .int .u32 0, .int .i64 0, .int .i64 8, .int .u32 0, .int .i64 0, .int .i64 0, .int .u32 0, .int .i64 0, .int .i64 1, .int .u32 0, .int .i64 0, .int .i64 33, .int .u32 0, .int .i64 1, .int .i64 32, .int .u32 0, .int .i64 1, .int .i64 0, .int .u32 0] 34))) := h1_6.out.alloc h1_6.out.size _
  refine (told_lit (zs := [128]) (T := [0, 4, 128, 0, 0, 0, 0, 3, 0, 2, 0, 2, 0, 2, 0]) (by decide +kernel) (by decide) (SrcOf.ofOwn (o7.alloc (.cells #[.int .i64 1, .int .i64 3, .int .u32 0, .int .i64 0, .int .i64 8, .int .u32 0, .int .i64 0, .int .i64 0, .int .u32 0, .int .i64 0, .int .i64 1, .int .u32 0, .int .i64 0, .int .i64 33, .int .u32 0, .int .i64 1, .int .i64 32, .int .u32 0, .int .i64 1, .int .i64 0, .int .u32 0] 34))) (lit_byt (by decide)) (by decide) hdo (by decide)).mono ?_; rintro e wt1 ⟨a1, c1, rfl, ot, ht⟩
  have hbt : Hid (Below w.heap.size w wt1) := hbd.out.trans (ht.mono hbd.out.size)
  clear hdo ht hbd h1_6 o7
  go_wp2_with fail
  have hli : (wt1.alloc (.cells #[.int .i64 0, .int .i64 4, .int .i64 128, .int .i64 0, .int .i64 0, .int .i64 0, .int .i64 0, .int .i64 3, .int .i64 0, .int .i64 2, .int .i64 0, .int .i64 2, .int .i64 0, .int .i64 2, .int .i64 0] 3)).ownsRow 0 3 1 (.slice (some ⟨wt1.heap.size, 0, none⟩) ([0, 4, 128, 0, 0, 0, 0, 3, 0, 2, 0, 2, 0, 2, 0] : List Nat).length 15) ([0, 4, 128, 0, 0, 0, 0, 3, 0, 2, 0, 2, 0, 2, 0] : List Nat).length (is [0, 4, 128, 0, 0, 0, 0, 3, 0, 2, 0, 2, 0, 2, 0]) := World.ownsRow_lit wt1 #[.int .i64 0, .int .i64 4, .int .i64 128, .int .i64 0, .int .i64 0, .int .i64 0, .int .i64 0, .int .i64 3, .int .i64 0, .int .i64 2, .int .i64 0, .int .i64 2, .int .i64 0, .int .i64 2, .int .i64 0] 15 (Nat.zero_le _) (by decide) (by decide)
  have hbi : Hid (Below w.heap.size w (wt1.alloc (.cells #[.int .i64 0, .int .i64 4, .int .i64 128, .int .i64 0, .int .i64 0, .int .i64 0, .int .i64 0, .int .i64 3, .int .i64 0, .int .i64 2, .int .i64 0, .int .i64 2, .int .i64 0, .int .i64 2, .int .i64 0] 3))) := hbt.out.alloc hbt.out.size _
  have ce := eqInts_own (xs := [0, 4, 128, 0, 0, 0, 0, 3, 0, 2, 0, 2, 0, 2, 0]) (ys := [0, 4, 128, 0, 0, 0, 0, 3, 0, 2, 0, 2, 0, 2, 0]) (ot.alloc (.cells #[.int .i64 0, .int .i64 4, .int .i64 128, .int .i64 0, .int .i64 0, .int .i64 0, .int .i64 0, .int .i64 3, .int .i64 0, .int .i64 2, .int .i64 0, .int .i64 2, .int .i64 0, .int .i64 2, .int .i64 0] 3)) hli (by decide)
  rw [show decide (([0, 4, 128, 0, 0, 0, 0, 3, 0, 2, 0, 2, 0, 2, 0] : List Nat) = [0, 4, 128, 0, 0, 0, 0, 3, 0, 2, 0, 2, 0, 2, 0]) = true from by decide] at ce
  refine ce.mono ?_; rintro e we1 ⟨rfl, he⟩
  have HE1 : Hid (Below w.heap.size w we1) := hbi.out.trans (he.mono hbi.out.size)
  clear ce he hbi hli hbt ot
  go_wp2_with fail
  have o0 : (we1.alloc (.cells #[.int .u8 0, .int .u8 0, .int .u8 0, .int .u8 0] 5)).ownsRow 0 5 1 (.slice (some ⟨we1.heap.size, 0, none⟩) ([0, 0, 0, 0] : List Nat).length 4) ([0, 0, 0, 0] : List Nat).length (bs [0, 0, 0, 0]) := World.ownsRow_lit we1 #[.int .u8 0, .int .u8 0, .int .u8 0, .int .u8 0] 4 (Nat.zero_le _) (by decide) (by decide)
  have hba : Hid (Below w.heap.size w (we1.alloc (.cells #[.int .u8 0, .int .u8 0, .int .u8 0, .int .u8 0] 5))) := HE1.out.alloc HE1.out.size _
  clear HE1
  refine (reads_any 2 0 _).mono ?_; rintro e w2_0 ⟨rfl, hr⟩
  have o1 := own_below o0 hr
  have h2_0 : Hid (Below w.heap.size w w2_0) := hba.out.trans (hr.mono hba.out.size)
  clear hr o0 hba
  go_wp2_with fail
  have hdo := DoAt.lit w2_0 #[.int .i64 2, .int .i64 0, .int .u32 0] [(2, 0, 0)] rfl (by decide) (by decide)
  have hbd : Hid (Below w.heap.size w (w2_0.alloc (.cells #[.int .i64 2, .int .i64 0, .int .u32 0] 34))) := h2_0.out.alloc h2_0.out.size _
  refine (told_lit (zs := [0, 0, 0, 0]) (T := [0, 4, 32]) (by decide +kernel) (by decide) (SrcOf.ofOwn (o1.alloc (.cells #[.int .i64 2, .int .i64 0, .int .u32 0] 34))) (lit_byt (by decide)) (by decide) hdo (by decide)).mono ?_; rintro e wt2 ⟨a2, c2, rfl, ot, ht⟩
  have hbt : Hid (Below w.heap.size w wt2) := hbd.out.trans (ht.mono hbd.out.size)
  clear hdo ht hbd h2_0 o1
  go_wp2_with fail
  have hli : (wt2.alloc (.cells #[.int .i64 0, .int .i64 4, .int .i64 32] 3)).ownsRow 0 3 1 (.slice (some ⟨wt2.heap.size, 0, none⟩) ([0, 4, 32] : List Nat).length 3) ([0, 4, 32] : List Nat).length (is [0, 4, 32]) := World.ownsRow_lit wt2 #[.int .i64 0, .int .i64 4, .int .i64 32] 3 (Nat.zero_le _) (by decide) (by decide)
  have hbi : Hid (Below w.heap.size w (wt2.alloc (.cells #[.int .i64 0, .int .i64 4, .int .i64 32] 3))) := hbt.out.alloc hbt.out.size _
  have ce := eqInts_own (xs := [0, 4, 32]) (ys := [0, 4, 32]) (ot.alloc (.cells #[.int .i64 0, .int .i64 4, .int .i64 32] 3)) hli (by decide)
  rw [show decide (([0, 4, 32] : List Nat) = [0, 4, 32]) = true from by decide] at ce
  refine ce.mono ?_; rintro e we2 ⟨rfl, he⟩
  have HE2 : Hid (Below w.heap.size w we2) := hbi.out.trans (he.mono hbi.out.size)
  clear ce he hbi hli hbt ot
  go_wp2_with fail
  have o0 : (we2.alloc (.cells #[.int .u8 0, .int .u8 0, .int .u8 0, .int .u8 1] 5)).ownsRow 0 5 1 (.slice (some ⟨we2.heap.size, 0, none⟩) ([0, 0, 0, 1] : List Nat).length 4) ([0, 0, 0, 1] : List Nat).length (bs [0, 0, 0, 1]) := World.ownsRow_lit we2 #[.int .u8 0, .int .u8 0, .int .u8 0, .int .u8 1] 4 (Nat.zero_le _) (by decide) (by decide)
  have hba : Hid (Below w.heap.size w (we2.alloc (.cells #[.int .u8 0, .int .u8 0, .int .u8 0, .int .u8 1] 5))) := HE2.out.alloc HE2.out.size _
  clear HE2
  refine (reads_any 2 0 _).mono ?_; rintro e w3_0 ⟨rfl, hr⟩
  have o1 := own_below o0 hr
  have h3_0 : Hid (Below w.heap.size w w3_0) := hba.out.trans (hr.mono hba.out.size)
  clear hr o0 hba
  go_wp2_with fail
  have hdo := DoAt.lit w3_0 #[.int .i64 2, .int .i64 0, .int .u32 0] [(2, 0, 0)] rfl (by decide) (by decide)
  have hbd : Hid (Below w.heap.size w (w3_0.alloc (.cells #[.int .i64 2, .int .i64 0, .int .u32 0] 34))) := h3_0.out.alloc h3_0.out.size _
  refine (told_lit (zs := [0, 0, 0, 1]) (T := [0, 3, 32]) (by decide +kernel) (by decide) (SrcOf.ofOwn (o1.alloc (.cells #[.int .i64 2, .int .i64 0, .int .u32 0] 34))) (lit_byt (by decide)) (by decide) hdo (by decide)).mono ?_; rintro e wt3 ⟨a3, c3, rfl, ot, ht⟩
  have hbt : Hid (Below w.heap.size w wt3) := hbd.out.trans (ht.mono hbd.out.size)
  clear hdo ht hbd h3_0 o1
  go_wp2_with fail
  have hli : (wt3.alloc (.cells #[.int .i64 0, .int .i64 3, .int .i64 32] 3)).ownsRow 0 3 1 (.slice (some ⟨wt3.heap.size, 0, none⟩) ([0, 3, 32] : List Nat).length 3) ([0, 3, 32] : List Nat).length (is [0, 3, 32]) := World.ownsRow_lit wt3 #[.int .i64 0, .int .i64 3, .int .i64 32] 3 (Nat.zero_le _) (by decide) (by decide)
  have hbi : Hid (Below w.heap.size w (wt3.alloc (.cells #[.int .i64 0, .int .i64 3, .int .i64 32] 3))) := hbt.out.alloc hbt.out.size _
  have ce := eqInts_own (xs := [0, 3, 32]) (ys := [0, 3, 32]) (ot.alloc (.cells #[.int .i64 0, .int .i64 3, .int .i64 32] 3)) hli (by decide)
  rw [show decide (([0, 3, 32] : List Nat) = [0, 3, 32]) = true from by decide] at ce
  refine ce.mono ?_; rintro e we3 ⟨rfl, he⟩
  have HE3 : Hid (Below w.heap.size w we3) := hbi.out.trans (he.mono hbi.out.size)
  clear ce he hbi hli hbt ot
  go_wp2_with fail
  have o0 : (we3.alloc (.cells #[.int .u8 0] 5)).ownsRow 0 5 1 (.slice (some ⟨we3.heap.size, 0, none⟩) ([0] : List Nat).length 1) ([0] : List Nat).length (bs [0]) := World.ownsRow_lit we3 #[.int .u8 0] 1 (Nat.zero_le _) (by decide) (by decide)
  have hba : Hid (Below w.heap.size w (we3.alloc (.cells #[.int .u8 0] 5))) := HE3.out.alloc HE3.out.size _
  clear HE3
  refine (reads_any 2 0 _).mono ?_; rintro e w4_0 ⟨rfl, hr⟩
  have o1 := own_below o0 hr
  have h4_0 : Hid (Below w.heap.size w w4_0) := hba.out.trans (hr.mono hba.out.size)
  clear hr o0 hba
  go_wp2_with fail
  have hdo := DoAt.lit w4_0 #[.int .i64 2, .int .i64 0, .int .u32 0] [(2, 0, 0)] rfl (by decide) (by decide)
  have hbd : Hid (Below w.heap.size w (w4_0.alloc (.cells #[.int .i64 2, .int .i64 0, .int .u32 0] 34))) := h4_0.out.alloc h4_0.out.size _
  refine (told_lit (zs := [0]) (T := [0, 3, 8]) (by decide +kernel) (by decide) (SrcOf.ofOwn (o1.alloc (.cells #[.int .i64 2, .int .i64 0, .int .u32 0] 34))) (lit_byt (by decide)) (by decide) hdo (by decide)).mono ?_; rintro e wt4 ⟨a4, c4, rfl, ot, ht⟩
  have hbt : Hid (Below w.heap.size w wt4) := hbd.out.trans (ht.mono hbd.out.size)
  clear hdo ht hbd h4_0 o1
  go_wp2_with fail
  have hli : (wt4.alloc (.cells #[.int .i64 0, .int .i64 3, .int .i64 8] 3)).ownsRow 0 3 1 (.slice (some ⟨wt4.heap.size, 0, none⟩) ([0, 3, 8] : List Nat).length 3) ([0, 3, 8] : List Nat).length (is [0, 3, 8]) := World.ownsRow_lit wt4 #[.int .i64 0, .int .i64 3, .int .i64 8] 3 (Nat.zero_le _) (by decide) (by decide)
  have hbi : Hid (Below w.heap.size w (wt4.alloc (.cells #[.int .i64 0, .int .i64 3, .int .i64 8] 3))) := hbt.out.alloc hbt.out.size _
  have ce := eqInts_own (xs := [0, 3, 8]) (ys := [0, 3, 8]) (ot.alloc (.cells #[.int .i64 0, .int .i64 3, .int .i64 8] 3)) hli (by decide)
  rw [show decide (([0, 3, 8] : List Nat) = [0, 3, 8]) = true from by decide] at ce
  refine ce.mono ?_; rintro e we4 ⟨rfl, he⟩
  have HE4 : Hid (Below w.heap.size w we4) := hbi.out.trans (he.mono hbi.out.size)
  clear ce he hbi hli hbt ot
  go_wp2_with fail
  have o0 : (we4.alloc (.cells #[.int .u8 80] 5)).ownsRow 0 5 1 (.slice (some ⟨we4.heap.size, 0, none⟩) ([80] : List Nat).length 1) ([80] : List Nat).length (bs [80]) := World.ownsRow_lit we4 #[.int .u8 80] 1 (Nat.zero_le _) (by decide) (by decide)
  have hba : Hid (Below w.heap.size w (we4.alloc (.cells #[.int .u8 80] 5))) := HE4.out.alloc HE4.out.size _
  clear HE4
  refine (reads_any 2 0 _).mono ?_; rintro e w5_0 ⟨rfl, hr⟩
  have o1 := own_below o0 hr
  have h5_0 : Hid (Below w.heap.size w w5_0) := hba.out.trans (hr.mono hba.out.size)
  clear hr o0 hba
  go_wp2_with fail
  refine (reads_any 2 0 _).mono ?_; rintro e w5_1 ⟨rfl, hr⟩
  have o2 := own_below o1 hr
  have h5_1 : Hid (Below w.heap.size w w5_1) := h5_0.out.trans (hr.mono h5_0.out.size)
  clear hr o1 h5_0
  go_wp2_with fail
  refine (reads_any 2 0 _).mono ?_; rintro e w5_2 ⟨rfl, hr⟩
  have o3 := own_below o2 hr
  have h5_2 : Hid (Below w.heap.size w w5_2) := h5_1.out.trans (hr.mono h5_1.out.size)
  clear hr o2 h5_1
  go_wp2_with fail
  have hdo := DoAt.lit w5_2 #[.int .i64 2, .int .i64 0, .int .u32 0, .int .i64 2, .int .i64 0, .int .u32 0, .int .i64 2, .int .i64 0, .int .u32 0] [(2, 0, 0), (2, 0, 0), (2, 0, 0)] rfl (by decide) (by decide)
  have hbd : Hid (Below w.heap.size w (w5_2.alloc (.cells #[.int .i64 2, .int .i64 0, .int .u32 0, .int .i64 2, .int .i64 0, .int .u32 0, .int .i64 2, .int .i64 0, .int .u32 0] 34))) := h5_2.out.alloc h5_2.out.size _
  refine (told_lit (zs := [80]) (T := [1, 0, 0, 0, 0, 3, 4]) (by decide +kernel) (by decide) (SrcOf.ofOwn (o3.alloc (.cells #[.int .i64 2, .int .i64 0, .int .u32 0, .int .i64 2, .int .i64 0, .int .u32 0, .int .i64 2, .int .i64 0, .int .u32 0] 34))) (lit_byt (by decide)) (by decide) hdo (by decide)).mono ?_; rintro e wt5 ⟨a5, c5, rfl, ot, ht⟩
  have hbt : Hid (Below w.heap.size w wt5) := hbd.out.trans (ht.mono hbd.out.size)
  clear hdo ht hbd h5_2 o3
  go_wp2_with fail
  have hli : (wt5.alloc (.cells #[.int .i64 1, .int .i64 0, .int .i64 0, .int .i64 0, .int .i64 0, .int .i64 3, .int .i64 4] 3)).ownsRow 0 3 1 (.slice (some ⟨wt5.heap.size, 0, none⟩) ([1, 0, 0, 0, 0, 3, 4] : List Nat).length 7) ([1, 0, 0, 0, 0, 3, 4] : List Nat).length (is [1, 0, 0, 0, 0, 3, 4]) := World.ownsRow_lit wt5 #[.int .i64 1, .int .i64 0, .int .i64 0, .int .i64 0, .int .i64 0, .int .i64 3, .int .i64 4] 7 (Nat.zero_le _) (by decide) (by decide)
  have hbi : Hid (Below w.heap.size w (wt5.alloc (.cells #[.int .i64 1, .int .i64 0, .int .i64 0, .int .i64 0, .int .i64 0, .int .i64 3, .int .i64 4] 3))) := hbt.out.alloc hbt.out.size _
  have ce := eqInts_own (xs := [1, 0, 0, 0, 0, 3, 4]) (ys := [1, 0, 0, 0, 0, 3, 4]) (ot.alloc (.cells #[.int .i64 1, .int .i64 0, .int .i64 0, .int .i64 0, .int .i64 0, .int .i64 3, .int .i64 4] 3)) hli (by decide)
  rw [show decide (([1, 0, 0, 0, 0, 3, 4] : List Nat) = [1, 0, 0, 0, 0, 3, 4]) = true from by decide] at ce
  refine ce.mono ?_; rintro e we5 ⟨rfl, he⟩
  have HE5 : Hid (Below w.heap.size w we5) := hbi.out.trans (he.mono hbi.out.size)
  clear ce he hbi hli hbt ot
  go_wp2_with fail
  have o0 : (we5.alloc (.cells #[.int .u8 0, .int .u8 0, .int .u8 0, .int .u8 1, .int .u8 255, .int .u8 255, .int .u8 255, .int .u8 255] 5)).ownsRow 0 5 1 (.slice (some ⟨we5.heap.size, 0, none⟩) ([0, 0, 0, 1, 255, 255, 255, 255] : List Nat).length 8) ([0, 0, 0, 1, 255, 255, 255, 255] : List Nat).length (bs [0, 0, 0, 1, 255, 255, 255, 255]) := World.ownsRow_lit we5 #[.int .u8 0, .int .u8 0, .int .u8 0, .int .u8 1, .int .u8 255, .int .u8 255, .int .u8 255, .int .u8 255] 8 (Nat.zero_le _) (by decide) (by decide)
  have hba : Hid (Below w.heap.size w (we5.alloc (.cells #[.int .u8 0, .int .u8 0, .int .u8 0, .int .u8 1, .int .u8 255, .int .u8 255, .int .u8 255, .int .u8 255] 5))) := HE5.out.alloc HE5.out.size _
  clear HE5
  refine (reads_any 2 0 _).mono ?_; rintro e w6_0 ⟨rfl, hr⟩
  have o1 := own_below o0 hr
  have h6_0 : Hid (Below w.heap.size w w6_0) := hba.out.trans (hr.mono hba.out.size)
  clear hr o0 hba
  go_wp2_with fail
  have hdo := DoAt.lit w6_0 #[.int .i64 2, .int .i64 0, .int .u32 0] [(2, 0, 0)] rfl (by decide) (by decide)
  have hbd : Hid (Below w.heap.size w (w6_0.alloc (.cells #[.int .i64 2, .int .i64 0, .int .u32 0] 34))) := h6_0.out.alloc h6_0.out.size _
  refine (told_lit (zs := [0, 0, 0, 1, 255, 255, 255, 255]) (T := [4294967294, 0, 1]) (by decide +kernel) (by decide) (SrcOf.ofOwn (o1.alloc (.cells #[.int .i64 2, .int .i64 0, .int .u32 0] 34))) (lit_byt (by decide)) (by decide) hdo (by decide)).mono ?_; rintro e wt6 ⟨a6, c6, rfl, ot, ht⟩
  have hbt : Hid (Below w.heap.size w wt6) := hbd.out.trans (ht.mono hbd.out.size)
  clear hdo ht hbd h6_0 o1
  go_wp2_with fail
  have hli : (wt6.alloc (.cells #[.int .i64 4294967294, .int .i64 0, .int .i64 1] 3)).ownsRow 0 3 1 (.slice (some ⟨wt6.heap.size, 0, none⟩) ([4294967294, 0, 1] : List Nat).length 3) ([4294967294, 0, 1] : List Nat).length (is [4294967294, 0, 1]) := World.ownsRow_lit wt6 #[.int .i64 4294967294, .int .i64 0, .int .i64 1] 3 (Nat.zero_le _) (by decide) (by decide)
  have hbi : Hid (Below w.heap.size w (wt6.alloc (.cells #[.int .i64 4294967294, .int .i64 0, .int .i64 1] 3))) := hbt.out.alloc hbt.out.size _
  have ce := eqInts_own (xs := [4294967294, 0, 1]) (ys := [4294967294, 0, 1]) (ot.alloc (.cells #[.int .i64 4294967294, .int .i64 0, .int .i64 1] 3)) hli (by decide)
  rw [show decide (([4294967294, 0, 1] : List Nat) = [4294967294, 0, 1]) = true from by decide] at ce
  refine ce.mono ?_; rintro e we6 ⟨rfl, he⟩
  have HE6 : Hid (Below w.heap.size w we6) := hbi.out.trans (he.mono hbi.out.size)
  clear ce he hbi hli hbt ot
  go_wp2_with fail
  have o0 : (we6.alloc (.cells #[.int .u8 172, .int .u8 2] 5)).ownsRow 0 5 1 (.slice (some ⟨we6.heap.size, 0, none⟩) ([172, 2] : List Nat).length 2) ([172, 2] : List Nat).length (bs [172, 2]) := World.ownsRow_lit we6 #[.int .u8 172, .int .u8 2] 2 (Nat.zero_le _) (by decide) (by decide)
  have hba : Hid (Below w.heap.size w (we6.alloc (.cells #[.int .u8 172, .int .u8 2] 5))) := HE6.out.alloc HE6.out.size _
  clear HE6
  refine (reads_any 3 0 _).mono ?_; rintro e w7_0 ⟨rfl, hr⟩
  have o1 := own_below o0 hr
  have h7_0 : Hid (Below w.heap.size w w7_0) := hba.out.trans (hr.mono hba.out.size)
  clear hr o0 hba
  go_wp2_with fail
  have hdo := DoAt.lit w7_0 #[.int .i64 3, .int .i64 0, .int .u32 0] [(3, 0, 0)] rfl (by decide) (by decide)
  have hbd : Hid (Below w.heap.size w (w7_0.alloc (.cells #[.int .i64 3, .int .i64 0, .int .u32 0] 34))) := h7_0.out.alloc h7_0.out.size _
  refine (told_lit (zs := [172, 2]) (T := [300, 0, 0]) (by decide +kernel) (by decide) (SrcOf.ofOwn (o1.alloc (.cells #[.int .i64 3, .int .i64 0, .int .u32 0] 34))) (lit_byt (by decide)) (by decide) hdo (by decide)).mono ?_; rintro e wt7 ⟨a7, c7, rfl, ot, ht⟩
  have hbt : Hid (Below w.heap.size w wt7) := hbd.out.trans (ht.mono hbd.out.size)
  clear hdo ht hbd h7_0 o1
  go_wp2_with fail
  have hli : (wt7.alloc (.cells #[.int .i64 300, .int .i64 0, .int .i64 0] 3)).ownsRow 0 3 1 (.slice (some ⟨wt7.heap.size, 0, none⟩) ([300, 0, 0] : List Nat).length 3) ([300, 0, 0] : List Nat).length (is [300, 0, 0]) := World.ownsRow_lit wt7 #[.int .i64 300, .int .i64 0, .int .i64 0] 3 (Nat.zero_le _) (by decide) (by decide)
  have hbi : Hid (Below w.heap.size w (wt7.alloc (.cells #[.int .i64 300, .int .i64 0, .int .i64 0] 3))) := hbt.out.alloc hbt.out.size _
  have ce := eqInts_own (xs := [300, 0, 0]) (ys := [300, 0, 0]) (ot.alloc (.cells #[.int .i64 300, .int .i64 0, .int .i64 0] 3)) hli (by decide)
  rw [show decide (([300, 0, 0] : List Nat) = [300, 0, 0]) = true from by decide] at ce
  refine ce.mono ?_; rintro e we7 ⟨rfl, he⟩
  have HE7 : Hid (Below w.heap.size w we7) := hbi.out.trans (he.mono hbi.out.size)
  clear ce he hbi hli hbt ot
  go_wp2_with fail
  have o0 : (we7.alloc (.cells #[.int .u8 128, .int .u8 0] 5)).ownsRow 0 5 1 (.slice (some ⟨we7.heap.size, 0, none⟩) ([128, 0] : List Nat).length 2) ([128, 0] : List Nat).length (bs [128, 0]) := World.ownsRow_lit we7 #[.int .u8 128, .int .u8 0] 2 (Nat.zero_le _) (by decide) (by decide)
  have hba : Hid (Below w.heap.size w (we7.alloc (.cells #[.int .u8 128, .int .u8 0] 5))) := HE7.out.alloc HE7.out.size _
  clear HE7
  refine (reads_any 3 0 _).mono ?_; rintro e w8_0 ⟨rfl, hr⟩
  have o1 := own_below o0 hr
  have h8_0 : Hid (Below w.heap.size w w8_0) := hba.out.trans (hr.mono hba.out.size)
  clear hr o0 hba
  go_wp2_with fail
  have hdo := DoAt.lit w8_0 #[.int .i64 3, .int .i64 0, .int .u32 0] [(3, 0, 0)] rfl (by decide) (by decide)
  have hbd : Hid (Below w.heap.size w (w8_0.alloc (.cells #[.int .i64 3, .int .i64 0, .int .u32 0] 34))) := h8_0.out.alloc h8_0.out.size _
  refine (told_lit (zs := [128, 0]) (T := [0, 4, 16]) (by decide +kernel) (by decide) (SrcOf.ofOwn (o1.alloc (.cells #[.int .i64 3, .int .i64 0, .int .u32 0] 34))) (lit_byt (by decide)) (by decide) hdo (by decide)).mono ?_; rintro e wt8 ⟨a8, c8, rfl, ot, ht⟩
  have hbt : Hid (Below w.heap.size w wt8) := hbd.out.trans (ht.mono hbd.out.size)
  clear hdo ht hbd h8_0 o1
  go_wp2_with fail
  have hli : (wt8.alloc (.cells #[.int .i64 0, .int .i64 4, .int .i64 16] 3)).ownsRow 0 3 1 (.slice (some ⟨wt8.heap.size, 0, none⟩) ([0, 4, 16] : List Nat).length 3) ([0, 4, 16] : List Nat).length (is [0, 4, 16]) := World.ownsRow_lit wt8 #[.int .i64 0, .int .i64 4, .int .i64 16] 3 (Nat.zero_le _) (by decide) (by decide)
  have hbi : Hid (Below w.heap.size w (wt8.alloc (.cells #[.int .i64 0, .int .i64 4, .int .i64 16] 3))) := hbt.out.alloc hbt.out.size _
  have ce := eqInts_own (xs := [0, 4, 16]) (ys := [0, 4, 16]) (ot.alloc (.cells #[.int .i64 0, .int .i64 4, .int .i64 16] 3)) hli (by decide)
  rw [show decide (([0, 4, 16] : List Nat) = [0, 4, 16]) = true from by decide] at ce
  refine ce.mono ?_; rintro e we8 ⟨rfl, he⟩
  have HE8 : Hid (Below w.heap.size w we8) := hbi.out.trans (he.mono hbi.out.size)
  clear ce he hbi hli hbt ot
  go_wp2_with fail
  have o0 : (we8.alloc (.cells #[.int .u8 255, .int .u8 255, .int .u8 255, .int .u8 255, .int .u8 15] 5)).ownsRow 0 5 1 (.slice (some ⟨we8.heap.size, 0, none⟩) ([255, 255, 255, 255, 15] : List Nat).length 5) ([255, 255, 255, 255, 15] : List Nat).length (bs [255, 255, 255, 255, 15]) := World.ownsRow_lit we8 #[.int .u8 255, .int .u8 255, .int .u8 255, .int .u8 255, .int .u8 15] 5 (Nat.zero_le _) (by decide) (by decide)
  have hba : Hid (Below w.heap.size w (we8.alloc (.cells #[.int .u8 255, .int .u8 255, .int .u8 255, .int .u8 255, .int .u8 15] 5))) := HE8.out.alloc HE8.out.size _
  clear HE8
  refine (reads_any 3 0 _).mono ?_; rintro e w9_0 ⟨rfl, hr⟩
  have o1 := own_below o0 hr
  have h9_0 : Hid (Below w.heap.size w w9_0) := hba.out.trans (hr.mono hba.out.size)
  clear hr o0 hba
  go_wp2_with fail
  have hdo := DoAt.lit w9_0 #[.int .i64 3, .int .i64 0, .int .u32 0] [(3, 0, 0)] rfl (by decide) (by decide)
  have hbd : Hid (Below w.heap.size w (w9_0.alloc (.cells #[.int .i64 3, .int .i64 0, .int .u32 0] 34))) := h9_0.out.alloc h9_0.out.size _
  refine (told_lit (zs := [255, 255, 255, 255, 15]) (T := [4294967295, 0, 0]) (by decide +kernel) (by decide) (SrcOf.ofOwn (o1.alloc (.cells #[.int .i64 3, .int .i64 0, .int .u32 0] 34))) (lit_byt (by decide)) (by decide) hdo (by decide)).mono ?_; rintro e wt9 ⟨a9, c9, rfl, ot, ht⟩
  have hbt : Hid (Below w.heap.size w wt9) := hbd.out.trans (ht.mono hbd.out.size)
  clear hdo ht hbd h9_0 o1
  go_wp2_with fail
  have hli : (wt9.alloc (.cells #[.int .i64 4294967295, .int .i64 0, .int .i64 0] 3)).ownsRow 0 3 1 (.slice (some ⟨wt9.heap.size, 0, none⟩) ([4294967295, 0, 0] : List Nat).length 3) ([4294967295, 0, 0] : List Nat).length (is [4294967295, 0, 0]) := World.ownsRow_lit wt9 #[.int .i64 4294967295, .int .i64 0, .int .i64 0] 3 (Nat.zero_le _) (by decide) (by decide)
  have hbi : Hid (Below w.heap.size w (wt9.alloc (.cells #[.int .i64 4294967295, .int .i64 0, .int .i64 0] 3))) := hbt.out.alloc hbt.out.size _
  have ce := eqInts_own (xs := [4294967295, 0, 0]) (ys := [4294967295, 0, 0]) (ot.alloc (.cells #[.int .i64 4294967295, .int .i64 0, .int .i64 0] 3)) hli (by decide)
  rw [show decide (([4294967295, 0, 0] : List Nat) = [4294967295, 0, 0]) = true from by decide] at ce
  refine ce.mono ?_; rintro e we9 ⟨rfl, he⟩
  have HE9 : Hid (Below w.heap.size w we9) := hbi.out.trans (he.mono hbi.out.size)
  clear ce he hbi hli hbt ot
  go_wp2_with fail
  have o0 : (we9.alloc (.cells #[.int .u8 255, .int .u8 255, .int .u8 255, .int .u8 255, .int .u8 31] 5)).ownsRow 0 5 1 (.slice (some ⟨we9.heap.size, 0, none⟩) ([255, 255, 255, 255, 31] : List Nat).length 5) ([255, 255, 255, 255, 31] : List Nat).length (bs [255, 255, 255, 255, 31]) := World.ownsRow_lit we9 #[.int .u8 255, .int .u8 255, .int .u8 255, .int .u8 255, .int .u8 31] 5 (Nat.zero_le _) (by decide) (by decide)
  have hba : Hid (Below w.heap.size w (we9.alloc (.cells #[.int .u8 255, .int .u8 255, .int .u8 255, .int .u8 255, .int .u8 31] 5))) := HE9.out.alloc HE9.out.size _
  clear HE9
  refine (reads_any 3 0 _).mono ?_; rintro e w10_0 ⟨rfl, hr⟩
  have o1 := own_below o0 hr
  have h10_0 : Hid (Below w.heap.size w w10_0) := hba.out.trans (hr.mono hba.out.size)
  clear hr o0 hba
  go_wp2_with fail
  have hdo := DoAt.lit w10_0 #[.int .i64 3, .int .i64 0, .int .u32 0] [(3, 0, 0)] rfl (by decide) (by decide)
  have hbd : Hid (Below w.heap.size w (w10_0.alloc (.cells #[.int .i64 3, .int .i64 0, .int .u32 0] 34))) := h10_0.out.alloc h10_0.out.size _
  refine (told_lit (zs := [255, 255, 255, 255, 31]) (T := [0, 4, 40]) (by decide +kernel) (by decide) (SrcOf.ofOwn (o1.alloc (.cells #[.int .i64 3, .int .i64 0, .int .u32 0] 34))) (lit_byt (by decide)) (by decide) hdo (by decide)).mono ?_; rintro e wt10 ⟨a10, c10, rfl, ot, ht⟩
  have hbt : Hid (Below w.heap.size w wt10) := hbd.out.trans (ht.mono hbd.out.size)
  clear hdo ht hbd h10_0 o1
  go_wp2_with fail
  have hli : (wt10.alloc (.cells #[.int .i64 0, .int .i64 4, .int .i64 40] 3)).ownsRow 0 3 1 (.slice (some ⟨wt10.heap.size, 0, none⟩) ([0, 4, 40] : List Nat).length 3) ([0, 4, 40] : List Nat).length (is [0, 4, 40]) := World.ownsRow_lit wt10 #[.int .i64 0, .int .i64 4, .int .i64 40] 3 (Nat.zero_le _) (by decide) (by decide)
  have hbi : Hid (Below w.heap.size w (wt10.alloc (.cells #[.int .i64 0, .int .i64 4, .int .i64 40] 3))) := hbt.out.alloc hbt.out.size _
  have ce := eqInts_own (xs := [0, 4, 40]) (ys := [0, 4, 40]) (ot.alloc (.cells #[.int .i64 0, .int .i64 4, .int .i64 40] 3)) hli (by decide)
  rw [show decide (([0, 4, 40] : List Nat) = [0, 4, 40]) = true from by decide] at ce
  refine ce.mono ?_; rintro e we10 ⟨rfl, he⟩
  have HE10 : Hid (Below w.heap.size w we10) := hbi.out.trans (he.mono hbi.out.size)
  clear ce he hbi hli hbt ot
  go_wp2_with fail
  have o0 : (we10.alloc (.cells #[.int .u8 255, .int .u8 255, .int .u8 255, .int .u8 255, .int .u8 143] 5)).ownsRow 0 5 1 (.slice (some ⟨we10.heap.size, 0, none⟩) ([255, 255, 255, 255, 143] : List Nat).length 5) ([255, 255, 255, 255, 143] : List Nat).length (bs [255, 255, 255, 255, 143]) := World.ownsRow_lit we10 #[.int .u8 255, .int .u8 255, .int .u8 255, .int .u8 255, .int .u8 143] 5 (Nat.zero_le _) (by decide) (by decide)
  have hba : Hid (Below w.heap.size w (we10.alloc (.cells #[.int .u8 255, .int .u8 255, .int .u8 255, .int .u8 255, .int .u8 143] 5))) := HE10.out.alloc HE10.out.size _
  clear HE10
  refine (reads_any 3 0 _).mono ?_; rintro e w11_0 ⟨rfl, hr⟩
  have o1 := own_below o0 hr
  have h11_0 : Hid (Below w.heap.size w w11_0) := hba.out.trans (hr.mono hba.out.size)
  clear hr o0 hba
  go_wp2_with fail
  have hdo := DoAt.lit w11_0 #[.int .i64 3, .int .i64 0, .int .u32 0] [(3, 0, 0)] rfl (by decide) (by decide)
  have hbd : Hid (Below w.heap.size w (w11_0.alloc (.cells #[.int .i64 3, .int .i64 0, .int .u32 0] 34))) := h11_0.out.alloc h11_0.out.size _
  refine (told_lit (zs := [255, 255, 255, 255, 143]) (T := [0, 4, 40]) (by decide +kernel) (by decide) (SrcOf.ofOwn (o1.alloc (.cells #[.int .i64 3, .int .i64 0, .int .u32 0] 34))) (lit_byt (by decide)) (by decide) hdo (by decide)).mono ?_; rintro e wt11 ⟨a11, c11, rfl, ot, ht⟩
  have hbt : Hid (Below w.heap.size w wt11) := hbd.out.trans (ht.mono hbd.out.size)
  clear hdo ht hbd h11_0 o1
  go_wp2_with fail
  have hli : (wt11.alloc (.cells #[.int .i64 0, .int .i64 4, .int .i64 40] 3)).ownsRow 0 3 1 (.slice (some ⟨wt11.heap.size, 0, none⟩) ([0, 4, 40] : List Nat).length 3) ([0, 4, 40] : List Nat).length (is [0, 4, 40]) := World.ownsRow_lit wt11 #[.int .i64 0, .int .i64 4, .int .i64 40] 3 (Nat.zero_le _) (by decide) (by decide)
  have hbi : Hid (Below w.heap.size w (wt11.alloc (.cells #[.int .i64 0, .int .i64 4, .int .i64 40] 3))) := hbt.out.alloc hbt.out.size _
  have ce := eqInts_own (xs := [0, 4, 40]) (ys := [0, 4, 40]) (ot.alloc (.cells #[.int .i64 0, .int .i64 4, .int .i64 40] 3)) hli (by decide)
  rw [show decide (([0, 4, 40] : List Nat) = [0, 4, 40]) = true from by decide] at ce
  refine ce.mono ?_; rintro e we11 ⟨rfl, he⟩
  have HE11 : Hid (Below w.heap.size w we11) := hbi.out.trans (he.mono hbi.out.size)
  clear ce he hbi hli hbt ot
  go_wp2_with fail
  have o0 : (we11.alloc (.cells #[.int .u8 128] 5)).ownsRow 0 5 1 (.slice (some ⟨we11.heap.size, 0, none⟩) ([128] : List Nat).length 1) ([128] : List Nat).length (bs [128]) := World.ownsRow_lit we11 #[.int .u8 128] 1 (Nat.zero_le _) (by decide) (by decide)
  have hba : Hid (Below w.heap.size w (we11.alloc (.cells #[.int .u8 128] 5))) := HE11.out.alloc HE11.out.size _
  clear HE11
  refine (reads_any 3 0 _).mono ?_; rintro e w12_0 ⟨rfl, hr⟩
  have o1 := own_below o0 hr
  have h12_0 : Hid (Below w.heap.size w w12_0) := hba.out.trans (hr.mono hba.out.size)
  clear hr o0 hba
  go_wp2_with fail
  have hdo := DoAt.lit w12_0 #[.int .i64 3, .int .i64 0, .int .u32 0] [(3, 0, 0)] rfl (by decide) (by decide)
  have hbd : Hid (Below w.heap.size w (w12_0.alloc (.cells #[.int .i64 3, .int .i64 0, .int .u32 0] 34))) := h12_0.out.alloc h12_0.out.size _
  refine (told_lit (zs := [128]) (T := [0, 3, 8]) (by decide +kernel) (by decide) (SrcOf.ofOwn (o1.alloc (.cells #[.int .i64 3, .int .i64 0, .int .u32 0] 34))) (lit_byt (by decide)) (by decide) hdo (by decide)).mono ?_; rintro e wt12 ⟨a12, c12, rfl, ot, ht⟩
  have hbt : Hid (Below w.heap.size w wt12) := hbd.out.trans (ht.mono hbd.out.size)
  clear hdo ht hbd h12_0 o1
  go_wp2_with fail
  have hli : (wt12.alloc (.cells #[.int .i64 0, .int .i64 3, .int .i64 8] 3)).ownsRow 0 3 1 (.slice (some ⟨wt12.heap.size, 0, none⟩) ([0, 3, 8] : List Nat).length 3) ([0, 3, 8] : List Nat).length (is [0, 3, 8]) := World.ownsRow_lit wt12 #[.int .i64 0, .int .i64 3, .int .i64 8] 3 (Nat.zero_le _) (by decide) (by decide)
  have hbi : Hid (Below w.heap.size w (wt12.alloc (.cells #[.int .i64 0, .int .i64 3, .int .i64 8] 3))) := hbt.out.alloc hbt.out.size _
  have ce := eqInts_own (xs := [0, 3, 8]) (ys := [0, 3, 8]) (ot.alloc (.cells #[.int .i64 0, .int .i64 3, .int .i64 8] 3)) hli (by decide)
  rw [show decide (([0, 3, 8] : List Nat) = [0, 3, 8]) = true from by decide] at ce
  refine ce.mono ?_; rintro e we12 ⟨rfl, he⟩
  have HE12 : Hid (Below w.heap.size w we12) := hbi.out.trans (he.mono hbi.out.size)
  clear ce he hbi hli hbt ot
  go_wp2_with fail
  have o0 : (we12.alloc (.cells #[.int .u8 0] 5)).ownsRow 0 5 1 (.slice (some ⟨we12.heap.size, 0, none⟩) ([0] : List Nat).length 1) ([0] : List Nat).length (bs [0]) := World.ownsRow_lit we12 #[.int .u8 0] 1 (Nat.zero_le _) (by decide) (by decide)
  have hba : Hid (Below w.heap.size w (we12.alloc (.cells #[.int .u8 0] 5))) := HE12.out.alloc HE12.out.size _
  clear HE12
  refine (reads_any 3 0 _).mono ?_; rintro e w13_0 ⟨rfl, hr⟩
  have o1 := own_below o0 hr
  have h13_0 : Hid (Below w.heap.size w w13_0) := hba.out.trans (hr.mono hba.out.size)
  clear hr o0 hba
  go_wp2_with fail
  have hdo := DoAt.lit w13_0 #[.int .i64 3, .int .i64 0, .int .u32 0] [(3, 0, 0)] rfl (by decide) (by decide)
  have hbd : Hid (Below w.heap.size w (w13_0.alloc (.cells #[.int .i64 3, .int .i64 0, .int .u32 0] 34))) := h13_0.out.alloc h13_0.out.size _
  refine (told_lit (zs := [0]) (T := [0, 0, 0]) (by decide +kernel) (by decide) (SrcOf.ofOwn (o1.alloc (.cells #[.int .i64 3, .int .i64 0, .int .u32 0] 34))) (lit_byt (by decide)) (by decide) hdo (by decide)).mono ?_; rintro e wt13 ⟨a13, c13, rfl, ot, ht⟩
  have hbt : Hid (Below w.heap.size w wt13) := hbd.out.trans (ht.mono hbd.out.size)
  clear hdo ht hbd h13_0 o1
  go_wp2_with fail
  have hli : (wt13.alloc (.cells #[.int .i64 0, .int .i64 0, .int .i64 0] 3)).ownsRow 0 3 1 (.slice (some ⟨wt13.heap.size, 0, none⟩) ([0, 0, 0] : List Nat).length 3) ([0, 0, 0] : List Nat).length (is [0, 0, 0]) := World.ownsRow_lit wt13 #[.int .i64 0, .int .i64 0, .int .i64 0] 3 (Nat.zero_le _) (by decide) (by decide)
  have hbi : Hid (Below w.heap.size w (wt13.alloc (.cells #[.int .i64 0, .int .i64 0, .int .i64 0] 3))) := hbt.out.alloc hbt.out.size _
  have ce := eqInts_own (xs := [0, 0, 0]) (ys := [0, 0, 0]) (ot.alloc (.cells #[.int .i64 0, .int .i64 0, .int .i64 0] 3)) hli (by decide)
  rw [show decide (([0, 0, 0] : List Nat) = [0, 0, 0]) = true from by decide] at ce
  refine ce.mono ?_; rintro e we13 ⟨rfl, he⟩
  have HE13 : Hid (Below w.heap.size w we13) := hbi.out.trans (he.mono hbi.out.size)
  clear ce he hbi hli hbt ot
  go_wp2_with fail
  have o0 : (we13.alloc (.cells #[.int .u8 1, .int .u8 2] 5)).ownsRow 0 5 1 (.slice (some ⟨we13.heap.size, 0, none⟩) ([1, 2] : List Nat).length 2) ([1, 2] : List Nat).length (bs [1, 2]) := World.ownsRow_lit we13 #[.int .u8 1, .int .u8 2] 2 (Nat.zero_le _) (by decide) (by decide)
  have hba : Hid (Below w.heap.size w (we13.alloc (.cells #[.int .u8 1, .int .u8 2] 5))) := HE13.out.alloc HE13.out.size _
  clear HE13
  refine (reads_any 0 1 _).mono ?_; rintro e w14_0 ⟨rfl, hr⟩
  have o1 := own_below o0 hr
  have h14_0 : Hid (Below w.heap.size w w14_0) := hba.out.trans (hr.mono hba.out.size)
  clear hr o0 hba
  go_wp2_with fail
  refine (reads_any 3 0 _).mono ?_; rintro e w14_1 ⟨rfl, hr⟩
  have o2 := own_below o1 hr
  have h14_1 : Hid (Below w.heap.size w w14_1) := h14_0.out.trans (hr.mono h14_0.out.size)
  clear hr o1 h14_0
  go_wp2_with fail
  refine (reads_any 4 0 _).mono ?_; rintro e w14_2 ⟨rfl, hr⟩
  have o3 := own_below o2 hr
  have h14_2 : Hid (Below w.heap.size w w14_2) := h14_1.out.trans (hr.mono h14_1.out.size)
  clear hr o2 h14_1
  go_wp2_with fail
  have hdo := DoAt.lit w14_2 #[.int .i64 0, .int .i64 1, .int .u32 0, .int .i64 3, .int .i64 0, .int .u32 0, .int .i64 4, .int .i64 0, .int .u32 0] [(0, 1, 0), (3, 0, 0), (4, 0, 0)] rfl (by decide) (by decide)
  have hbd : Hid (Below w.heap.size w (w14_2.alloc (.cells #[.int .i64 0, .int .i64 1, .int .u32 0, .int .i64 3, .int .i64 0, .int .u32 0, .int .i64 4, .int .i64 0, .int .u32 0] 34))) := h14_2.out.alloc h14_2.out.size _
  refine (told_lit (zs := [1, 2]) (T := [0, 0, 0, 2, 0, 4, 15]) (by decide +kernel) (by decide) (SrcOf.ofOwn (o3.alloc (.cells #[.int .i64 0, .int .i64 1, .int .u32 0, .int .i64 3, .int .i64 0, .int .u32 0, .int .i64 4, .int .i64 0, .int .u32 0] 34))) (lit_byt (by decide)) (by decide) hdo (by decide)).mono ?_; rintro e wt14 ⟨a14, c14, rfl, ot, ht⟩
  have hbt : Hid (Below w.heap.size w wt14) := hbd.out.trans (ht.mono hbd.out.size)
  clear hdo ht hbd h14_2 o3
  go_wp2_with fail
  have hli : (wt14.alloc (.cells #[.int .i64 0, .int .i64 0, .int .i64 0, .int .i64 2, .int .i64 0, .int .i64 4, .int .i64 15] 3)).ownsRow 0 3 1 (.slice (some ⟨wt14.heap.size, 0, none⟩) ([0, 0, 0, 2, 0, 4, 15] : List Nat).length 7) ([0, 0, 0, 2, 0, 4, 15] : List Nat).length (is [0, 0, 0, 2, 0, 4, 15]) := World.ownsRow_lit wt14 #[.int .i64 0, .int .i64 0, .int .i64 0, .int .i64 2, .int .i64 0, .int .i64 4, .int .i64 15] 7 (Nat.zero_le _) (by decide) (by decide)
  have hbi : Hid (Below w.heap.size w (wt14.alloc (.cells #[.int .i64 0, .int .i64 0, .int .i64 0, .int .i64 2, .int .i64 0, .int .i64 4, .int .i64 15] 3))) := hbt.out.alloc hbt.out.size _
  have ce := eqInts_own (xs := [0, 0, 0, 2, 0, 4, 15]) (ys := [0, 0, 0, 2, 0, 4, 15]) (ot.alloc (.cells #[.int .i64 0, .int .i64 0, .int .i64 0, .int .i64 2, .int .i64 0, .int .i64 4, .int .i64 15] 3)) hli (by decide)
  rw [show decide (([0, 0, 0, 2, 0, 4, 15] : List Nat) = [0, 0, 0, 2, 0, 4, 15]) = true from by decide] at ce
  refine ce.mono ?_; rintro e we14 ⟨rfl, he⟩
  have HE14 : Hid (Below w.heap.size w we14) := hbi.out.trans (he.mono hbi.out.size)
  clear ce he hbi hli hbt ot
  go_wp2_with fail
  go_ret
  exact ⟨rfl, HE14.out⟩

end Go.Proofs.Ytiheldakkpbkgaa
