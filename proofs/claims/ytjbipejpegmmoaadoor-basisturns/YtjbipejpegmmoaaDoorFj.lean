/- DERIVED. The walks of one and of BasisTurns. -/
import Derived.Test.YtjbipejpegmmoaaDoorFi
namespace Go.Proofs.YtjbipejpegmmoaaDoor
open Go.RowKit

set_option maxRecDepth 100000 in
set_option maxHeartbeats 4000000 in
theorem one_no {w : World} {a : Option Addr} {c : Nat} {k : Int} {C : List Int} (hq : Qt w) (hs : Si w a C) (hl : C.length ≤ 17592186043904) (hm : tkB (kL k) C = false) :
    Calls Tryd.prog 12 #[.int .i64 k, .slice a C.length c] w fun e w' => e = .returned (.bool true) ∧ Below w.heap.size w w' := by
  have HQ : Hid (Qt w) := hq
  have HT : Hid (tkB (kL k) C = false) := hm
  clear hq hm
  have HS : Hid (Si w a C) := hs
  have n0 : (0 : Int) ≤ (C.length : Int) := by omega
  have n1 : (C.length : Int) ≤ 17592186043904 := by omega
  clear hs
  go_enter Tryd.func12, Tryd.ntmps12
  go_wp2_with fail
  refine (copy_any HS.out hl).mono ?_
  rintro e w1 ⟨a1, c1, rfl, ho1, hb1⟩
  have HO1 : Hid (Oi w1 w.heap.size a1 C.length c1 C) := ho1
  have HB1 : Hid (Below w.heap.size w w1) := hb1
  clear ho1 hb1
  have hub : ∀ (g cap : Nat) (w' : World), Hid (Oi w' w.heap.size (some ⟨g, 0, none⟩) (C.length + 2) cap (C ++ [77, 78])) → (C.length : Int) ≤ (cap : Int) := fun g cap w' h => by have := h.out.cap; omega
  have HUB : Hid _ := hub
  clear hub
  go_wp2_with (at_builtin; refine wpList_append_two _ (by rfl) _ _ (by rfl) w.heap.size C.length c1 C a1 77 78 HO1.out HB1.out.size (by omega) (by rfl) (by rfl) ?_; intro g cap w2 ho2 hb2 hz2; have HO2 : Hid (Oi w2 w.heap.size (some ⟨g, 0, none⟩) (C.length + 2) cap (C ++ [77, 78])) := ho2; have hcap := HUB.out _ _ _ HO2; have HB2 : Hid (Below w.heap.size w w2) := HB1.out.trans hb2; clear ho2 hb2 hz2)
  have HSr : Hid (Si w2 (some ⟨g, 0, none⟩) C) := by
    by_cases h0 : C.length = 0
    · exact Or.inl (List.eq_nil_of_length_eq_zero h0)
    · exact Or.inr ⟨g, 0, rfl, HO2.out.lt.2, fun j hj => by rw [Nat.zero_add, HO2.out.cellAt j (by omega), getD_left _ _ _ hj]⟩
  have HSe : Hid (Si w2 (some ⟨g, C.length, none⟩) [77, 78]) := Or.inr ⟨g, C.length, rfl, HO2.out.lt.2, fun j hj => by rw [HO2.out.cellAt _ (by simp at hj; omega), getD_right]⟩
  have HSi : Hid (Si w2 a C) := HS.out.to HB2.out
  have HQ2 : Hid (Qt w2) := HQ.out.to HB2.out
  have hcap2 : (C.length : Int) + 2 ≤ (cap : Int) := by have := HO2.out.cap; omega
  go_wp2_with fail
  refine (inv_no (HSr.out.to (Below.refl _ _)) (by omega) HT.out).mono ?_
  rintro e w3 ⟨rfl, hb3⟩
  have HV3 : Hid (Below w2.heap.size w2 w3) := hb3
  clear hb3
  go_wp2_with fail
  refine (rinv_no (HSi.out.to HV3.out) (by omega) HT.out).mono ?_
  rintro e w4 ⟨rfl, hb4⟩
  have HV4 : Hid (Below w2.heap.size w2 w4) := below_to HV3.out hb4
  clear hb4
  go_wp2_with fail
  refine (fwd_no (HSr.out.to HV4.out) (by omega) HT.out).mono ?_
  rintro e w5 ⟨rfl, hb5⟩
  have HV5 : Hid (Below w2.heap.size w2 w5) := below_to HV4.out hb5
  clear hb5
  go_wp2_with fail
  refine (rfwd_no (HSi.out.to HV5.out) (by omega) HT.out).mono ?_
  rintro e w6 ⟨rfl, hb6⟩
  have HV6 : Hid (Below w2.heap.size w2 w6) := below_to HV5.out hb6
  clear hb6
  go_wp2_with fail
  refine (eq_to (C := []) (D := []) (Si.nil _ _) (Si.nil _ _) rfl rfl rfl (by decide)).mono ?_
  rintro e w7 ⟨rfl, hb7⟩
  have HV7 : Hid (Below w2.heap.size w2 w7) := below_to HV6.out hb7
  clear hb7
  go_wp2_with fail
  refine (eq_to (C := []) (D := []) (Si.nil _ _) (Si.nil _ _) rfl rfl rfl (by decide)).mono ?_
  rintro e w8 ⟨rfl, hb8⟩
  have HV8 : Hid (Below w2.heap.size w2 w8) := below_to HV7.out hb8
  clear hb8
  go_wp2_with fail
  go_loop [14] (fun i => i = .int .i64 0) (fun _ => 0)
  case atStart => rfl
  case round =>
    subst hrel
    go_wp2_with (at_builtin; refine wpList_append_int _ (by rfl) _ _ (by rfl) w2.heap.size 0 0 [] none _ (Oi.nil _ _) HV8.out.size (by omega) (by rfl) (by rfl) ?_; intro ge cape wz hoz hbz hzz)
    have HVz : Hid (Below w2.heap.size w2 wz) := HV8.out.trans hbz
    clear hoz hbz hzz
    refine (eq_to (HSr.out.to HVz.out) (HSi.out.to HVz.out) rfl rfl rfl (by omega)).mono ?_
    rintro e wy ⟨rfl, hby⟩
    have HVy : Hid (Below w2.heap.size w2 wy) := below_to HVz.out hby
    clear hby
    go_wp2_with fail
    have HVx : Hid (Below w2.heap.size w2 (wy.alloc (.cells #[.int .i64 77, .int .i64 78] 3))) := to_alloc HVy.out _
    have HIx : Hid (Ri 3 (wy.alloc (.cells #[.int .i64 77, .int .i64 78] 3)) wy.heap.size [77, 78]) := Ri.built 3 wy [77, 78] rfl
    refine (eq_to (HSe.out.to HVx.out) HIx.out.si rfl rfl rfl (by decide)).mono ?_
    rintro e wu ⟨rfl, hbu⟩
    have HVu : Hid (Below w2.heap.size w2 wu) := below_to HVx.out hbu
    clear hbu
    go_wp2_with fail
    go_ret
    exact ⟨rfl, HB2.out.trans (HVu.out.mono HB2.out.size)⟩


theorem one_any {w : World} {a : Option Addr} {c : Nat} {k : Int} {C : List Int} (hq : Qt w) (hs : Si w a C) (hl : C.length ≤ 17592186043904) :
    Calls Tryd.prog 12 #[.int .i64 k, .slice a C.length c] w fun e w' => e = .returned (.bool true) ∧ Below w.heap.size w w' := by
  cases hm : tkB (kL k) C with
  | true => exact one_yes hq hs hl hm
  | false => exact one_no hq hs hl hm

set_option maxRecDepth 100000 in
set_option maxHeartbeats 1000000 in
theorem turns_walk {w : World} {a : Option Addr} {c : Nat} {k : Int} {C : List Int} (hq : Qt w) (hs : Si w a C) (hl : C.length ≤ 17592186043904) :
    Calls Tryd.prog 4 #[.int .i64 k, .slice a C.length c] w fun e w' => e = .returned (.bool true) ∧ Below w.heap.size w w' := by
  have HQ : Hid (Qt w) := hq
  have HS : Hid (Si w a C) := hs
  clear hq hs
  go_enter Tryd.func4, Tryd.ntmps4
  go_wp2_with fail
  go_loopw [5] (fun i wr => ∃ q : Int, -1 ≤ q ∧ q ≤ 5 ∧ i = .int .i64 q ∧ Below w.heap.size w wr) (fun i _ => (5 - intOf i).toNat)
  case atStart => exact ⟨-1, by omega, by omega, rfl, Below.refl _ _⟩
  case round =>
    obtain ⟨q, hq0, hq1, rfl, hb⟩ := hrel
    have HB : Hid (Below w.heap.size w wr) := hb
    clear hb
    by_cases hlt : q < 5
    · go_wp2_with fail
      refine (one_any (HQ.out.to HB.out) (HS.out.to HB.out) hl).mono ?_
      rintro e w1 ⟨rfl, hb1⟩
      have HB1 : Hid (Below w.heap.size w w1) := below_to HB.out hb1
      clear hb1
      go_wp2_with fail
      go_roundw
      case rel => exact ⟨q + 1, by omega, by omega, by go_num, HB1.out⟩
      case measure => simp [intOf]; omega
    · go_wp2_with fail
      refine (one_any (HQ.out.to HB.out) (HS.out.to HB.out) hl).mono ?_
      rintro e w1 ⟨rfl, hb1⟩
      have HB1 : Hid (Below w.heap.size w w1) := below_to HB.out hb1
      clear hb1
      go_wp2_with fail
      refine (works_any (HQ.out.to HB1.out)).mono ?_
      rintro e w2 ⟨rfl, hb2⟩
      have HB2 : Hid (Below w.heap.size w w2) := below_to HB1.out hb2
      clear hb2
      go_wp2_with fail
      go_ret
      exact ⟨rfl, HB2.out⟩

end Go.Proofs.YtjbipejpegmmoaaDoor
