/- DERIVED. The document's Fetch. -/
import Derived.Test.YtpideemiijhkgaaDoorDb
import Derived.Test.YtpideemiijhkgaaDoorDc
import Derived.Test.YtpideemiijhkgaaDoorCe
namespace Go.Proofs.YtpideemiijhkgaaDoor
open Go.RowKit

set_option maxHeartbeats 1000000 in
theorem clp_any {w : World} {z : Int} : Calls Tryd.prog 61 #[.int .i64 z, .int .i64 0, .int .i64 255] w fun e w' => e = .returned (.int .i64 (clp z : Nat)) ∧ w' = w := by
  by_cases h0 : z < 0
  · rw [show clp z = 0 from by unfold clp; rw [if_pos h0]]
    go_enter Tryd.func61, Tryd.ntmps61
    go_wp2
    go_ret
    exact ⟨rfl, rfl⟩
  · by_cases h1 : 255 < z
    · rw [show clp z = 255 from by unfold clp; rw [if_neg h0, if_pos h1]]
      go_enter Tryd.func61, Tryd.ntmps61
      go_wp2
      go_ret
      exact ⟨rfl, rfl⟩
    · rw [show ((clp z : Nat) : Int) = z from by unfold clp; rw [if_neg h0, if_neg h1]; omega]
      go_enter Tryd.func61, Tryd.ntmps61
      go_wp2
      go_ret
      exact ⟨rfl, rfl⟩

set_option maxRecDepth 100000 in
set_option maxHeartbeats 2000000 in
theorem rfetch_no {u : World} {a : Option Addr} {c : Nat} {C : List Nat} {W H px py pw ph pk : Int} (hn : ¬ FOk W H C px py pw ph pk) :
    Calls Tryd.prog 38 #[.agg #[.int .i64 W, .int .i64 H, .slice a C.length c], .int .i64 px, .int .i64 py, .int .i64 pw, .int .i64 ph, .int .i64 pk] u fun e w' => e = .returned (.tuple #[.slice none 0 0, .int .i64 2]) ∧ Below u.heap.size u w' := by
  by_cases hp : POk W H C
  · by_cases c0 : px < -1048576
    · have hck : ck W H C = 0 := ck_ok hp
      clear hn
      go_enter Tryd.func38, Tryd.ntmps38
      go_wp2_with fail
      refine rcheck_any.mono ?_
      rintro e w1 ⟨rfl, hb⟩
      rw [hck]
      have HB : Hid _ := below_to (from_alloc u _) hb
      clear hb hck
      go_wp2_with fail
      exact bodyPost_ret (v := .tuple #[.slice none 0 0, .int .i64 2]) (by simp [results, Tryd.results38, go_sem]) rfl ⟨rfl, HB.out⟩
    by_cases c1 : 1048576 < px
    · have hck : ck W H C = 0 := ck_ok hp
      clear hn
      go_enter Tryd.func38, Tryd.ntmps38
      go_wp2_with fail
      refine rcheck_any.mono ?_
      rintro e w1 ⟨rfl, hb⟩
      rw [hck]
      have HB : Hid _ := below_to (from_alloc u _) hb
      clear hb hck
      go_wp2_with fail
      exact bodyPost_ret (v := .tuple #[.slice none 0 0, .int .i64 2]) (by simp [results, Tryd.results38, go_sem]) rfl ⟨rfl, HB.out⟩
    by_cases c2 : py < -1048576
    · have hck : ck W H C = 0 := ck_ok hp
      clear hn
      go_enter Tryd.func38, Tryd.ntmps38
      go_wp2_with fail
      refine rcheck_any.mono ?_
      rintro e w1 ⟨rfl, hb⟩
      rw [hck]
      have HB : Hid _ := below_to (from_alloc u _) hb
      clear hb hck
      go_wp2_with fail
      exact bodyPost_ret (v := .tuple #[.slice none 0 0, .int .i64 2]) (by simp [results, Tryd.results38, go_sem]) rfl ⟨rfl, HB.out⟩
    by_cases c3 : 1048576 < py
    · have hck : ck W H C = 0 := ck_ok hp
      clear hn
      go_enter Tryd.func38, Tryd.ntmps38
      go_wp2_with fail
      refine rcheck_any.mono ?_
      rintro e w1 ⟨rfl, hb⟩
      rw [hck]
      have HB : Hid _ := below_to (from_alloc u _) hb
      clear hb hck
      go_wp2_with fail
      exact bodyPost_ret (v := .tuple #[.slice none 0 0, .int .i64 2]) (by simp [results, Tryd.results38, go_sem]) rfl ⟨rfl, HB.out⟩
    by_cases c4 : pw < 4
    · have hck : ck W H C = 0 := ck_ok hp
      clear hn
      go_enter Tryd.func38, Tryd.ntmps38
      go_wp2_with fail
      refine rcheck_any.mono ?_
      rintro e w1 ⟨rfl, hb⟩
      rw [hck]
      have HB : Hid _ := below_to (from_alloc u _) hb
      clear hb hck
      go_wp2_with fail
      exact bodyPost_ret (v := .tuple #[.slice none 0 0, .int .i64 2]) (by simp [results, Tryd.results38, go_sem]) rfl ⟨rfl, HB.out⟩
    by_cases c5 : 64 < pw
    · have hck : ck W H C = 0 := ck_ok hp
      clear hn
      go_enter Tryd.func38, Tryd.ntmps38
      go_wp2_with fail
      refine rcheck_any.mono ?_
      rintro e w1 ⟨rfl, hb⟩
      rw [hck]
      have HB : Hid _ := below_to (from_alloc u _) hb
      clear hb hck
      go_wp2_with fail
      exact bodyPost_ret (v := .tuple #[.slice none 0 0, .int .i64 2]) (by simp [results, Tryd.results38, go_sem]) rfl ⟨rfl, HB.out⟩
    by_cases c6 : ph < 4
    · have hck : ck W H C = 0 := ck_ok hp
      clear hn
      go_enter Tryd.func38, Tryd.ntmps38
      go_wp2_with fail
      refine rcheck_any.mono ?_
      rintro e w1 ⟨rfl, hb⟩
      rw [hck]
      have HB : Hid _ := below_to (from_alloc u _) hb
      clear hb hck
      go_wp2_with fail
      exact bodyPost_ret (v := .tuple #[.slice none 0 0, .int .i64 2]) (by simp [results, Tryd.results38, go_sem]) rfl ⟨rfl, HB.out⟩
    by_cases c7 : 64 < ph
    · have hck : ck W H C = 0 := ck_ok hp
      clear hn
      go_enter Tryd.func38, Tryd.ntmps38
      go_wp2_with fail
      refine rcheck_any.mono ?_
      rintro e w1 ⟨rfl, hb⟩
      rw [hck]
      have HB : Hid _ := below_to (from_alloc u _) hb
      clear hb hck
      go_wp2_with fail
      exact bodyPost_ret (v := .tuple #[.slice none 0 0, .int .i64 2]) (by simp [results, Tryd.results38, go_sem]) rfl ⟨rfl, HB.out⟩
    by_cases c8 : pk < 0
    · have hck : ck W H C = 0 := ck_ok hp
      clear hn
      go_enter Tryd.func38, Tryd.ntmps38
      go_wp2_with fail
      refine rcheck_any.mono ?_
      rintro e w1 ⟨rfl, hb⟩
      rw [hck]
      have HB : Hid _ := below_to (from_alloc u _) hb
      clear hb hck
      go_wp2_with fail
      exact bodyPost_ret (v := .tuple #[.slice none 0 0, .int .i64 2]) (by simp [results, Tryd.results38, go_sem]) rfl ⟨rfl, HB.out⟩
    by_cases c9 : 2 < pk
    · have hck : ck W H C = 0 := ck_ok hp
      clear hn
      go_enter Tryd.func38, Tryd.ntmps38
      go_wp2_with fail
      refine rcheck_any.mono ?_
      rintro e w1 ⟨rfl, hb⟩
      rw [hck]
      have HB : Hid _ := below_to (from_alloc u _) hb
      clear hb hck
      go_wp2_with fail
      exact bodyPost_ret (v := .tuple #[.slice none 0 0, .int .i64 2]) (by simp [results, Tryd.results38, go_sem]) rfl ⟨rfl, HB.out⟩
    exact absurd ⟨hp, by omega, by omega, by omega, by omega, by omega⟩ hn
  · have hck : ck W H C = 2 := ck_no hp
    clear hn
    go_enter Tryd.func38, Tryd.ntmps38
    go_wp2_with fail
    refine rcheck_any.mono ?_
    rintro e w1 ⟨rfl, hb⟩
    rw [hck]
    have HB : Hid _ := below_to (from_alloc u _) hb
    clear hb hck
    go_wp2_with fail
    exact bodyPost_ret (v := .tuple #[.slice none 0 0, .int .i64 2]) (by simp [results, Tryd.results38, go_sem]) rfl ⟨rfl, HB.out⟩

end Go.Proofs.YtpideemiijhkgaaDoor
