/- DERIVED. The walks of the document's Inverse and Forward. -/
import Derived.Test.YtjbipejpegmmoaaDoorFf
import Derived.Test.YtjbipejpegmmoaaDoorEb
namespace Go.Proofs.YtjbipejpegmmoaaDoor
open Go.RowKit

set_option maxRecDepth 100000 in
set_option maxHeartbeats 1000000 in
theorem rinv_yes {w : World} {a : Option Addr} {c : Nat} {k : Int} {C : List Int} (hs : Si w a C) (hm : tkB (kL k) C = true) :
    Calls Tryd.prog 23 #[.int .i64 k, .slice a C.length c] w fun e w' => N2 w w' e (invR k C) := by
  obtain ⟨l0, l1, l2, l3⟩ := tkB_yes hm
  have hL := kL_le k
  have HMay : Hid (Calls Tryd.prog 29 #[.int .i64 k, .slice a C.length c] w fun e w' => e = .returned (.bool true) ∧ w = w') := by
    have := may_any (w := w) (c := c) (k := k) hs (by omega)
    rw [hm] at this
    exact this
  have HM3 : Hid (Mst C 1048576) := l3
  have HS : Hid (Si w a C) := hs
  have hk : k = 3 ∨ ∃ q : Nat, q < 3 ∧ k = (q : Int) := by
    by_cases h3 : k = 3
    · exact Or.inl h3
    · by_cases hr : 0 ≤ k ∧ k < 3
      · exact Or.inr ⟨k.toNat, by omega, by omega⟩
      · have : kL k = 0 := by unfold kL; rw [if_neg (by omega), if_neg (by omega), if_neg (by omega), if_neg (by omega)]
        omega
  clear hs l2 l3
  rcases hk with rfl | ⟨q, hq, rfl⟩
  · have HN4 : Hid (C.length = 4) := by show _ = _; have : kL 3 = 4 := rfl; omega
    clear hm l1
    go_enter Tryd.func23, Tryd.ntmps23
    go_wp2_with fail
    refine HMay.out.mono ?_
    rintro e w1 ⟨rfl, rfl⟩
    go_wp2_with fail
    refine weights_wht.mono ?_
    rintro e w1 ⟨rfl, rfl⟩
    go_wp2_with fail
    refine (rback_wht HS.out HN4.out HM3.out).mono ?_
    rintro e w2 ⟨g, rfl, hg, hr, hb⟩
    have HB : Hid _ := hb
    clear hb
    go_wp2_with fail
    refine bodyPost_ret (v := .tuple #[.slice (some ⟨g, 0, none⟩) (invR 3 C).length (invR 3 C).length, .int .i64 0]) (by simp [results, Tryd.results23, go_sem]; rfl) rfl ?_
    exact ⟨g, rfl, hg, hr, HB.out⟩
  · have HE : Hid (invR (q : Int) C = wr (kW (q : Int) C.length) C) := by show _ = _; unfold invR; rw [if_neg (by omega)]
    clear hm
    go_enter Tryd.func23, Tryd.ntmps23
    go_wp2_with fail
    refine HMay.out.mono ?_
    rintro e w1 ⟨rfl, rfl⟩
    go_wp2_with fail
    refine (weights_any hq (by omega) (by omega)).mono ?_
    rintro e w2 ⟨m, d, b, G, rfl, hmt, hb2⟩
    have HMt : Hid _ := hmt
    have HB2 : Hid _ := hb2
    clear hmt hb2
    go_wp2_with fail
    refine (back_any (HS.out.to HB2.out) HMt.out rfl (by omega) (by omega) HM3.out (kW_le (q : Int) C.length)).mono ?_
    rintro e w3 ⟨g, rfl, hg, hr, hb⟩
    rw [← HE.out] at hr
    rw [← HE.out]
    have HB : Hid _ := hb
    have HR : Hid _ := hr
    clear hb hr
    generalize hRR : invR (q : Int) C = R at *
    have HRR : Hid (invR (q : Int) C = R) := hRR
    clear hRR
    go_wp2_with fail
    refine bodyPost_ret (v := .tuple #[.slice (some ⟨g, 0, none⟩) R.length R.length, .int .i64 0]) (by simp [results, Tryd.results23, go_sem]) rfl ?_
    exact ⟨g, by rw [HRR.out], Nat.le_trans HB2.out.size hg, by rw [HRR.out]; exact HR.out, below_to HB2.out HB.out⟩

set_option maxRecDepth 100000 in
set_option maxHeartbeats 400000 in
theorem rinv_no {w : World} {a : Option Addr} {c : Nat} {k : Int} {C : List Int} (hs : Si w a C) (hl : C.length ≤ 140737488355328) (hm : tkB (kL k) C = false) :
    Calls Tryd.prog 23 #[.int .i64 k, .slice a C.length c] w fun e w' => N0 w w' e := by
  have HMay : Hid (Calls Tryd.prog 29 #[.int .i64 k, .slice a C.length c] w fun e w' => e = .returned (.bool false) ∧ w = w') := by
    have := may_any (w := w) (c := c) (k := k) hs hl
    rw [hm] at this
    exact this
  clear hs hm
  go_enter Tryd.func23, Tryd.ntmps23
  go_wp2_with fail
  refine HMay.out.mono ?_
  rintro e w1 ⟨rfl, rfl⟩
  go_wp2_with fail
  refine bodyPost_ret (v := .tuple #[.slice none 0 0, .int .i64 2]) (by simp [results, Tryd.results23, go_sem]) rfl ?_
  exact ⟨rfl, Below.refl _ _⟩

set_option maxRecDepth 100000 in
set_option maxHeartbeats 1000000 in
theorem rfwd_yes {w : World} {a : Option Addr} {c : Nat} {k : Int} {C : List Int} (hs : Si w a C) (hm : tkB (kL k) C = true) :
    Calls Tryd.prog 24 #[.int .i64 k, .slice a C.length c] w fun e w' => N2 w w' e (fwdR k C) := by
  obtain ⟨l0, l1, l2, l3⟩ := tkB_yes hm
  have hL := kL_le k
  have HMay : Hid (Calls Tryd.prog 29 #[.int .i64 k, .slice a C.length c] w fun e w' => e = .returned (.bool true) ∧ w = w') := by
    have := may_any (w := w) (c := c) (k := k) hs (by omega)
    rw [hm] at this
    exact this
  have HM3 : Hid (Mst C 1048576) := l3
  have HS : Hid (Si w a C) := hs
  have hk : k = 3 ∨ ∃ q : Nat, q < 3 ∧ k = (q : Int) := by
    by_cases h3 : k = 3
    · exact Or.inl h3
    · by_cases hr : 0 ≤ k ∧ k < 3
      · exact Or.inr ⟨k.toNat, by omega, by omega⟩
      · have : kL k = 0 := by unfold kL; rw [if_neg (by omega), if_neg (by omega), if_neg (by omega), if_neg (by omega)]
        omega
  clear hs l2 l3
  rcases hk with rfl | ⟨q, hq, rfl⟩
  · have HN4 : Hid (C.length = 4) := by show _ = _; have : kL 3 = 4 := rfl; omega
    clear hm l1
    go_enter Tryd.func24, Tryd.ntmps24
    go_wp2_with fail
    refine HMay.out.mono ?_
    rintro e w1 ⟨rfl, rfl⟩
    go_wp2_with fail
    refine weights_wht.mono ?_
    rintro e w1 ⟨rfl, rfl⟩
    go_wp2_with fail
    refine (ron_wht HS.out HN4.out HM3.out).mono ?_
    rintro e w2 ⟨g, rfl, hg, hr, hb⟩
    have HB : Hid _ := hb
    clear hb
    go_wp2_with fail
    refine bodyPost_ret (v := .tuple #[.slice (some ⟨g, 0, none⟩) (fwdR 3 C).length (fwdR 3 C).length, .int .i64 0]) (by simp [results, Tryd.results24, go_sem]; rfl) rfl ?_
    exact ⟨g, rfl, hg, hr, HB.out⟩
  · have HE : Hid (fwdR (q : Int) C = wr (fun i k => kW (q : Int) C.length k i) C) := by show _ = _; unfold fwdR; rw [if_neg (by omega)]
    clear hm
    go_enter Tryd.func24, Tryd.ntmps24
    go_wp2_with fail
    refine HMay.out.mono ?_
    rintro e w1 ⟨rfl, rfl⟩
    go_wp2_with fail
    refine (weights_any hq (by omega) (by omega)).mono ?_
    rintro e w2 ⟨m, d, b, G, rfl, hmt, hb2⟩
    have HMt : Hid _ := hmt
    have HB2 : Hid _ := hb2
    clear hmt hb2
    go_wp2_with fail
    refine (on_any (HS.out.to HB2.out) HMt.out rfl (by omega) (by omega) HM3.out (kW_le (q : Int) C.length)).mono ?_
    rintro e w3 ⟨g, rfl, hg, hr, hb⟩
    rw [← HE.out] at hr
    rw [← HE.out]
    have HB : Hid _ := hb
    have HR : Hid _ := hr
    clear hb hr
    generalize hRR : fwdR (q : Int) C = R at *
    have HRR : Hid (fwdR (q : Int) C = R) := hRR
    clear hRR
    go_wp2_with fail
    refine bodyPost_ret (v := .tuple #[.slice (some ⟨g, 0, none⟩) R.length R.length, .int .i64 0]) (by simp [results, Tryd.results24, go_sem]) rfl ?_
    exact ⟨g, by rw [HRR.out], Nat.le_trans HB2.out.size hg, by rw [HRR.out]; exact HR.out, below_to HB2.out HB.out⟩

set_option maxRecDepth 100000 in
set_option maxHeartbeats 400000 in
theorem rfwd_no {w : World} {a : Option Addr} {c : Nat} {k : Int} {C : List Int} (hs : Si w a C) (hl : C.length ≤ 140737488355328) (hm : tkB (kL k) C = false) :
    Calls Tryd.prog 24 #[.int .i64 k, .slice a C.length c] w fun e w' => N0 w w' e := by
  have HMay : Hid (Calls Tryd.prog 29 #[.int .i64 k, .slice a C.length c] w fun e w' => e = .returned (.bool false) ∧ w = w') := by
    have := may_any (w := w) (c := c) (k := k) hs hl
    rw [hm] at this
    exact this
  clear hs hm
  go_enter Tryd.func24, Tryd.ntmps24
  go_wp2_with fail
  refine HMay.out.mono ?_
  rintro e w1 ⟨rfl, rfl⟩
  go_wp2_with fail
  refine bodyPost_ret (v := .tuple #[.slice none 0 0, .int .i64 2]) (by simp [results, Tryd.results24, go_sem]) rfl ?_
  exact ⟨rfl, Below.refl _ _⟩

end Go.Proofs.YtjbipejpegmmoaaDoor
