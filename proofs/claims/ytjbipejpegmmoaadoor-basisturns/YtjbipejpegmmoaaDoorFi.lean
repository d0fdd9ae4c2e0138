/- DERIVED. The walk of one, of a row that may be. -/
import Derived.Test.YtjbipejpegmmoaaDoorFh
import Derived.Test.YtjbipejpegmmoaaDoorEa
namespace Go.Proofs.YtjbipejpegmmoaaDoor
open Go.RowKit

set_option maxRecDepth 100000 in
set_option maxHeartbeats 4000000 in
theorem one_yes {w : World} {a : Option Addr} {c : Nat} {k : Int} {C : List Int} (hq : Qt w) (hs : Si w a C) (hl : C.length ≤ 17592186043904) (hm : tkB (kL k) C = true) :
    Calls Tryd.prog 12 #[.int .i64 k, .slice a C.length c] w fun e w' => e = .returned (.bool true) ∧ Below w.heap.size w w' := by
  have HQ : Hid (Qt w) := hq
  have HT : Hid (tkB (kL k) C = true) := hm
  have HLi : Hid ((invR k C).length = C.length) := inv_len hm
  have HLf : Hid ((fwdR k C).length = C.length) := fwd_len hm
  have h64 : C.length ≤ 64 := by have := tkB_yes hm; have := kL_le k; omega
  clear hq hm
  have HS : Hid (Si w a C) := hs
  have n0 : (0 : Int) ≤ (C.length : Int) := by omega
  have n1 : (C.length : Int) ≤ 17592186043904 := by omega
  clear hs
  go_enter Tryd.func12, Tryd.ntmps12
  go_wp2_with fail
  refine (copy_any HS.out hl).mono ?_
  rintro e w1 ⟨a1, c1, rfl, ho1, hb1⟩
  have HO1 : Hid (Oi w1 w.heap.size a1 C.length c1 C) := ho1
  have HB1 : Hid (Below w.heap.size w w1) := hb1
  clear ho1 hb1
  have hub : ∀ (g cap : Nat) (w' : World), Hid (Oi w' w.heap.size (some ⟨g, 0, none⟩) (C.length + 2) cap (C ++ [77, 78])) → (C.length : Int) ≤ (cap : Int) := fun g cap w' h => by have := h.out.cap; omega
  have HUB : Hid _ := hub
  clear hub
  go_wp2_with (at_builtin; refine wpList_append_two _ (by rfl) _ _ (by rfl) w.heap.size C.length c1 C a1 77 78 HO1.out HB1.out.size (by omega) (by rfl) (by rfl) ?_; intro g cap w2 ho2 hb2 hz2; have HO2 : Hid (Oi w2 w.heap.size (some ⟨g, 0, none⟩) (C.length + 2) cap (C ++ [77, 78])) := ho2; have hcap := HUB.out _ _ _ HO2; have HB2 : Hid (Below w.heap.size w w2) := HB1.out.trans hb2; clear ho2 hb2 hz2)
  have HSr : Hid (Si w2 (some ⟨g, 0, none⟩) C) := by
    by_cases h0 : C.length = 0
    · exact Or.inl (List.eq_nil_of_length_eq_zero h0)
    · exact Or.inr ⟨g, 0, rfl, HO2.out.lt.2, fun j hj => by rw [Nat.zero_add, HO2.out.cellAt j (by omega), getD_left _ _ _ hj]⟩
  have HSe : Hid (Si w2 (some ⟨g, C.length, none⟩) [77, 78]) := Or.inr ⟨g, C.length, rfl, HO2.out.lt.2, fun j hj => by rw [HO2.out.cellAt _ (by simp at hj; omega), getD_right]⟩
  have HSi : Hid (Si w2 a C) := HS.out.to HB2.out
  have HQ2 : Hid (Qt w2) := HQ.out.to HB2.out
  have hcap2 : (C.length : Int) + 2 ≤ (cap : Int) := by have := HO2.out.cap; omega
  go_wp2_with fail
  refine (inv_yes (HQ2.out.to (Below.refl _ _)) (HSr.out.to (Below.refl _ _)) HT.out).mono ?_
  rintro e w3 ⟨ga, rfl, hg3, hr3, hb3⟩
  rw [HLi.out]
  have HV3 : Hid (Below w2.heap.size w2 w3) := hb3
  have HR3_ga : Hid (Ri 3 w3 ga (invR k C)) := hr3
  have HG3 : Hid (w2.heap.size ≤ ga) := hg3
  clear hg3 hr3 hb3
  go_wp2_with fail
  refine (rinv_yes (HSi.out.to HV3.out) HT.out).mono ?_
  rintro e w4 ⟨gb, rfl, hg4, hr4, hb4⟩
  rw [HLi.out]
  have HV4 : Hid (Below w2.heap.size w2 w4) := below_to HV3.out hb4
  have HR4_gb : Hid (Ri 3 w4 gb (invR k C)) := hr4
  have HG4 : Hid (w2.heap.size ≤ gb) := Nat.le_trans HV3.out.size hg4
  have HR4_ga : Hid (Ri 3 w4 ga (invR k C)) := HR3_ga.out.to hb4
  have HN4_ga : Hid (ga < gb) := Nat.lt_of_lt_of_le HR3_ga.out.lt hg4
  clear hg4 hr4 hb4
  go_wp2_with fail
  refine (fwd_yes (HQ2.out.to HV4.out) (HSr.out.to HV4.out) HT.out).mono ?_
  rintro e w5 ⟨gc, rfl, hg5, hr5, hb5⟩
  rw [HLf.out]
  have HV5 : Hid (Below w2.heap.size w2 w5) := below_to HV4.out hb5
  have HR5_gc : Hid (Ri 3 w5 gc (fwdR k C)) := hr5
  have HG5 : Hid (w2.heap.size ≤ gc) := Nat.le_trans HV4.out.size hg5
  have HR5_ga : Hid (Ri 3 w5 ga (invR k C)) := HR4_ga.out.to hb5
  have HN5_ga : Hid (ga < gc) := Nat.lt_of_lt_of_le HR4_ga.out.lt hg5
  have HR5_gb : Hid (Ri 3 w5 gb (invR k C)) := HR4_gb.out.to hb5
  have HN5_gb : Hid (gb < gc) := Nat.lt_of_lt_of_le HR4_gb.out.lt hg5
  clear hg5 hr5 hb5
  go_wp2_with fail
  refine (rfwd_yes (HSi.out.to HV5.out) HT.out).mono ?_
  rintro e w6 ⟨gd, rfl, hg6, hr6, hb6⟩
  rw [HLf.out]
  have HV6 : Hid (Below w2.heap.size w2 w6) := below_to HV5.out hb6
  have HR6_gd : Hid (Ri 3 w6 gd (fwdR k C)) := hr6
  have HG6 : Hid (w2.heap.size ≤ gd) := Nat.le_trans HV5.out.size hg6
  have HR6_ga : Hid (Ri 3 w6 ga (invR k C)) := HR5_ga.out.to hb6
  have HN6_ga : Hid (ga < gd) := Nat.lt_of_lt_of_le HR5_ga.out.lt hg6
  have HR6_gb : Hid (Ri 3 w6 gb (invR k C)) := HR5_gb.out.to hb6
  have HN6_gb : Hid (gb < gd) := Nat.lt_of_lt_of_le HR5_gb.out.lt hg6
  have HR6_gc : Hid (Ri 3 w6 gc (fwdR k C)) := HR5_gc.out.to hb6
  have HN6_gc : Hid (gc < gd) := Nat.lt_of_lt_of_le HR5_gc.out.lt hg6
  clear hg6 hr6 hb6
  have q64 : (C.length : Int) ≤ 64 := by omega
  go_wp2_with fail
  refine (eq_to HR6_ga.out.si HR6_gb.out.si HLi.out HLi.out rfl (by omega)).mono ?_
  rintro e w7 ⟨rfl, hb7⟩
  have HV7 : Hid (Below w2.heap.size w2 w7) := below_to HV6.out hb7
  have HR7_ga : Hid (Ri 3 w7 ga (invR k C)) := HR6_ga.out.to hb7
  have HR7_gc : Hid (Ri 3 w7 gc (fwdR k C)) := HR6_gc.out.to hb7
  have HR7_gd : Hid (Ri 3 w7 gd (fwdR k C)) := HR6_gd.out.to hb7
  clear hb7
  go_wp2_with fail
  refine (eq_to HR7_gc.out.si HR7_gd.out.si HLf.out HLf.out rfl (by omega)).mono ?_
  rintro e w8 ⟨rfl, hb8⟩
  have HV8 : Hid (Below w2.heap.size w2 w8) := below_to HV7.out hb8
  have HR8_ga : Hid (Ri 3 w8 ga (invR k C)) := HR7_ga.out.to hb8
  have HR8_gc : Hid (Ri 3 w8 gc (fwdR k C)) := HR7_gc.out.to hb8
  clear hb8
  go_wp2_with fail
  go_loopw [14] (fun i wr => ∃ (t : Nat) (A F : List Int), t ≤ C.length ∧ i = .int .i64 t ∧ A.length = C.length ∧ F.length = C.length ∧ Ri 3 wr ga A ∧ Ri 3 wr gc F ∧ Below w2.heap.size w2 wr) (fun i _ => C.length - (intOf i).toNat)
  case atStart => exact ⟨0, invR k C, fwdR k C, by omega, rfl, HLi.out, HLf.out, HR8_ga.out, HR8_gc.out, HV8.out⟩
  case round =>
    obtain ⟨t, A, F, ht, rfl, hA, hF, hra, hrf, hb⟩ := hrel
    have t0 : 0 ≤ (t : Int) := by omega
    by_cases htn : t < C.length
    · have t1 : (t : Int) < (C.length : Int) := by omega
      have x0 := hra.cell t (by omega)
      have x1 := hra.thaw t
      have x2 := hrf.cell t (by omega)
      have x3 := hrf.thaw t
      have hne : ga ≠ gc := by have := HN5_ga.out; omega
      have HRa : Hid (Ri 3 ((wr.setCell ⟨ga, t, none⟩ (.int .i64 (-1))).setCell ⟨gc, t, none⟩ (.int .i64 (-1))) ga (A.set t (-1))) := (hra.set t (-1)).far (by simpa using hne) _
      have HRf : Hid (Ri 3 ((wr.setCell ⟨ga, t, none⟩ (.int .i64 (-1))).setCell ⟨gc, t, none⟩ (.int .i64 (-1))) gc (F.set t (-1))) := (hrf.far (by simpa using hne.symm) _).set t (-1)
      have HVz : Hid (Below w2.heap.size w2 ((wr.setCell ⟨ga, t, none⟩ (.int .i64 (-1))).setCell ⟨gc, t, none⟩ (.int .i64 (-1)))) := below_set (below_set hb (by simpa using HG3.out) _) (by simpa using HG5.out) _
      have x4 : (wr.setCell ⟨ga, t, none⟩ (.int .i64 (-1))).cell? ⟨gc, t, none⟩ = some (.int .i64 (F.getD t 0)) := by rw [World.cell?_setCell_other _ _ _ _ (by simp <;> omega)]; exact x2
      have x5 : (wr.setCell ⟨ga, t, none⟩ (.int .i64 (-1))).frozen? ⟨gc, t, none⟩ = false := by rw [World.frozen?_setCell]; exact x3
      have HA : Hid (A.length = C.length) := hA
      have HF : Hid (F.length = C.length) := hF
      clear hra hrf hb hA hF
      go_wp2_with fail
      go_roundw
      case rel => exact ⟨t + 1, A.set t (-1), F.set t (-1), by omega, by go_num, by rw [List.length_set]; exact HA.out, by rw [List.length_set]; exact HF.out, HRa.out, HRf.out, HVz.out⟩
      case measure => simp [intOf]; omega
    · obtain rfl : t = C.length := by omega
      have HOa : Hid (Oi wr w2.heap.size (some ⟨ga, 0, none⟩) C.length C.length A) := by
        have := hra.oi HG3.out (by omega)
        rw [hA] at this
        exact this
      have HVz : Hid (Below w2.heap.size w2 wr) := hb
      clear hra hrf hb hA hF
      go_wp2_with (at_builtin; refine wpList_append_int _ (by rfl) _ _ (by rfl) w2.heap.size C.length C.length A (some ⟨ga, 0, none⟩) _ HOa.out HVz.out.size (by omega) (by rfl) (by rfl) ?_; intro ge cape wz hoz hbz hzz)
      have HVq := HVz.out.trans hbz
      replace HVz : Hid (Below w2.heap.size w2 wz) := HVq
      clear hoz hbz hzz HVq HOa
      refine (eq_to (HSr.out.to HVz.out) (HSi.out.to HVz.out) rfl rfl rfl (by omega)).mono ?_
      rintro e wy ⟨rfl, hby⟩
      have HVy : Hid (Below w2.heap.size w2 wy) := below_to HVz.out hby
      clear hby
      go_wp2_with fail
      have HVx : Hid (Below w2.heap.size w2 (wy.alloc (.cells #[.int .i64 77, .int .i64 78] 3))) := to_alloc HVy.out _
      have HIx : Hid (Ri 3 (wy.alloc (.cells #[.int .i64 77, .int .i64 78] 3)) wy.heap.size [77, 78]) := Ri.built 3 wy [77, 78] rfl
      refine (eq_to (HSe.out.to HVx.out) HIx.out.si rfl rfl rfl (by decide)).mono ?_
      rintro e wu ⟨rfl, hbu⟩
      have HVu : Hid (Below w2.heap.size w2 wu) := below_to HVx.out hbu
      clear hbu
      go_wp2_with fail
      go_ret
      exact ⟨rfl, HB2.out.trans (HVu.out.mono HB2.out.size)⟩


end Go.Proofs.YtjbipejpegmmoaaDoor
