/- DERIVED. The walks of slices.Clone over 16-bit numbers, of bits.Len at small numbers, of rate and of Adapt. -/
import Derived.Test.YtkmnpechhdendaaDoorL3Td
import Derived.Lib.Strings
import Derived.Lib.Slices
import Derived.Lib.Small
import Derived.Lib.Walk
import Derived.Lib.BitFns
namespace Go.Proofs.YtkmnpechhdendaaDoor.L3
open Go.RowKit

theorem clone_q22 (w : World) (a : Option Addr) (n c n' c' : Nat) : (binOp .eql 57 (.slice a n c) (.slice none n' c')).run Tryd.prog w = .ok (.bool a.isNone) w := Lib.run_eql_slice_nil w 57 82 a n c n' c' Tryd.underlying57
theorem addr_add (g k j : Nat) : (⟨g, k, none⟩ : Addr).add j = ⟨g, k + j, none⟩ := by unfold Addr.add; split <;> simp_all

set_option maxHeartbeats 400000 in
theorem clone_some {w : World} {a : Option Addr} {c : Nat} {C : List Nat} (h : Sl w .u16 a C) (hl : C.length ≤ 70368744177664) (h0 : 0 < C.length) :
    Calls Tryd.prog 33 #[.slice a C.length c] w fun e w' => ∃ g c', e = .returned (.slice (some ⟨g, 0, none⟩) C.length c') ∧ Ow w' w.heap.size g C.length c' C ∧ Below w.heap.size w w' := by
  have q22 := clone_q22
  obtain ⟨b, o, rfl, hbl, hcell⟩ := h.form h0
  obtain ⟨i, hi, hz0, hz1, hz2⟩ := info_parts Tryd.info82
  have hown : (w.alloc (.cells #[] 82)).ownsRow w.heap.size 82 1 (.slice (some ⟨w.heap.size, 0, none⟩) 0 0) 0 [] := World.ownsRow_made w #[] 0 (Nat.le_refl _) (by simp) (by simp)
  have hnews : ∀ j u, (ns .u16 C)[j]? = some u → (w.alloc (.cells #[] 82)).cell? ((⟨b, o, none⟩ : Addr).add j) = some u := by
    intro j u hu
    have hj : j < C.length := by have := List.getElem?_eq_some_iff.1 hu; obtain ⟨h1, _⟩ := this; rw [ns_length] at h1; exact h1
    rw [ns_get _ C j hj] at hu
    rw [← hu, addr_add, newCell ((Below.refl w.heap.size w).alloc (Nat.le_refl _) _) b _ hbl]
    exact hcell j hj
  clear hcell h
  go_enter Tryd.func33, Tryd.ntmps33
  go_wp2_with (at_builtin; refine wpList_append_lies _ (by rfl) _ _ _ (by rfl) w.heap.size 82 i (.int .u16 0) 1 2 Tryd.underlying57 hi hz0 hz1 hz2 rfl (by omega) _ 0 [] (by rfl) hown ⟨b, o, none⟩ C.length c (ns .u16 C) (by rfl) (by rw [ns_length, Nat.mul_one]) hnews (ns_one _ C) h0 (by unfold maxLen; omega) (by omega) (by simp) (w.heap.size + 1) (by simp) ?_; intro g cap w1 hown1 hgrow hat hlt)
  go_ret
  rw [List.nil_append, Nat.zero_add] at hown1
  refine ⟨g, cap, rfl, ⟨hown1⟩, ?_⟩
  exact ((Below.refl _ _).alloc (Nat.le_refl _) _).grown hgrow (by simp) (fun k hk => by simp [Value.ownBlock] at hk; omega)

theorem wrap64_small (n : Int) (h0 : 0 ≤ n) (h1 : n < 9223372036854775808) : wrap64 n = n := by unfold wrap64; omega

set_option maxHeartbeats 1000000 in
set_option maxRecDepth 100000 in
theorem len64_small (x : Int) (w : World) (h0 : 0 ≤ x) (h1 : x ≤ 255) :
    Calls Tryd.prog 91 #[.int .u64 x] w fun e w' => e = .returned (.int .i64 (Lib.bitLen x.toNat)) ∧ w' = w := by
  have hs := Lib.len8tab_size
  go_enter Tryd.func91, Tryd.ntmps91
  go_wp2
  all_goals (go_ret; refine ⟨congrArg Ending.returned (congrArg (Value.int IntKind.i64) ?_), rfl⟩)
  rw [Lib.len8_of x (by omega) (by omega)]
  have h8 := Lib.bitLen_le x.toNat 8 (by omega) (by omega)
  rw [wrap64_small (Lib.bitLen x.toNat : Int) (by omega) (by omega), wrap64_small (Lib.bitLen x.toNat : Int) (by omega) (by omega)]

set_option maxHeartbeats 1000000 in
theorem len_small (x : Int) (w : World) (h0 : 0 ≤ x) (h1 : x ≤ 255) :
    Calls Tryd.prog 89 #[.int .u64 x] w fun e w' => e = .returned (.int .i64 (Lib.bitLen x.toNat)) ∧ w' = w := by
  go_enter Tryd.func89, Tryd.ntmps89
  go_wp2_with fail
  refine (len64_small x _ h0 h1).mono ?_
  rintro e w1 ⟨rfl, rfl⟩
  go_wp2_with fail
  go_ret
  exact ⟨rfl, rfl⟩

theorem lg_all : ∀ m : Nat, m < 17 → 2 ≤ m → 2 ≤ Lib.bitLen m ∧ (Lib.bitLen m = 2 ↔ m < 4) := by decide +kernel

set_option maxHeartbeats 1000000 in
theorem rate_any {w : World} {a : Option Addr} {c : Nat} {C : List Nat} {n : Int} (h0 : 2 ≤ C.length) (h1 : C.length ≤ 16) :
    Calls Tryd.prog 86 #[.agg #[.slice a C.length c, .int .i64 n]] w fun e w' => e = .returned (.int .i64 (rt C.length n : Nat)) ∧ Below w.heap.size w w' := by
  have hlg := lg_all C.length (by omega) h0
  have b0 : (2 : Int) ≤ (C.length : Int) := by omega
  have b1 : (C.length : Int) ≤ 16 := by omega
  have HR : Hid (rt C.length n = 3 + (if C.length < 4 then 1 else 2) + (if n > 15 then 1 else 0) + (if n > 31 then 1 else 0)) := rfl
  have HB : Hid (Below w.heap.size w (w.alloc (.cells #[.slice a C.length c, .int .i64 n] 59))) := (Below.refl _ _).alloc (Nat.le_refl _) _
  have hL := lg_all C.length (by omega) h0
  generalize hm : Lib.bitLen C.length = m at *
  have HM : Hid _ := hm
  clear hm
  by_cases h4 : C.length < 4
  · have hm2 : m = 2 := hL.2.2 h4
    subst hm2
    rw [if_pos h4] at HR
    clear hL hlg
    rcases (show n ≤ 15 ∨ (15 < n ∧ n ≤ 31) ∨ (15 < n ∧ 31 < n) by omega) with hn | ⟨hn, hn'⟩ | ⟨hn, hn'⟩
    all_goals (
      go_enter Tryd.func86, Tryd.ntmps86
      go_wp2_with fail
      refine (len_small (C.length : Int) _ (by omega) (by omega)).mono ?_
      rintro e w1 ⟨rfl, rfl⟩
      rw [Int.toNat_natCast, HM.out]
      go_wp2_with fail
      go_ret
      refine ⟨ret_int ?_, HB.out⟩
      rw [HR.out])
    · rw [if_neg (by omega), if_neg (by omega)]; rfl
    · rw [if_pos (by omega), if_neg (by omega)]; rfl
    · rw [if_pos (by omega), if_pos (by omega)]; rfl
  · have hm2 : ¬ (m : Int) - 1 < 2 := by omega
    have hm3 : (2 : Int) ≤ (m : Int) - 1 := by omega
    have hm4 : (m : Int) ≤ 100 := by have := Lib.bitLen_le C.length 8 (by omega) (by omega); rw [HM.out] at this; omega
    rw [if_neg h4] at HR
    clear hL hlg
    rcases (show n ≤ 15 ∨ (15 < n ∧ n ≤ 31) ∨ (15 < n ∧ 31 < n) by omega) with hn | ⟨hn, hn'⟩ | ⟨hn, hn'⟩
    all_goals (
      go_enter Tryd.func86, Tryd.ntmps86
      go_wp2_with fail
      refine (len_small (C.length : Int) _ (by omega) (by omega)).mono ?_
      rintro e w1 ⟨rfl, rfl⟩
      rw [Int.toNat_natCast, HM.out]
      go_wp2_with fail
      go_ret
      refine ⟨ret_int ?_, HB.out⟩
      rw [HR.out])
    · rw [if_neg (by omega), if_neg (by omega)]; omega
    · rw [if_pos (by omega), if_neg (by omega)]; omega
    · rw [if_pos (by omega), if_pos (by omega)]; omega

end Go.Proofs.YtkmnpechhdendaaDoor.L3
