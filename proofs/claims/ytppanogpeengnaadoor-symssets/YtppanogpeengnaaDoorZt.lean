/- DERIVED. The walk of SymsSets. -/
import Derived.Test.YtppanogpeengnaaDoorZw
import Derived.Test.YtppanogpeengnaaDoorSq
import Derived.Test.YtppanogpeengnaaDoorS4
import Derived.Deep.RegionHeld3
import Derived.Deep.DeepCutAuto
import Derived.Deep.Cut
import Derived.Deep.CutBlock
import Derived.BigRegion
namespace Go.Proofs.YtppanogpeengnaaDoor
open Go.RowKit L3

set_option maxRecDepth 100000 in
set_option maxHeartbeats 8000000 in
theorem sets_walk {W : World} (hsh : Sh W) {a0 a1 : Option Addr} {cap0 cap1 : Nat} {L0 L1 : List Dx} (h0 : DoAt W a0 L0) (hl0 : L0.length ≤ 140737488355328) (h1 : DoAt W a1 L1) (hl1 : L1.length ≤ 140737488355328) {s0 s1 s2 s3 : Int} :
    Calls Tryd.prog 5 #[.slice a0 L0.length cap0, .slice a1 L1.length cap1, .agg #[.int .i64 s0, .int .i64 s1, .int .i64 s2, .int .i64 s3]] W fun e w' => e = .returned (.bool true) ∧ Below W.heap.size W w' := by
  have HSh : Hid (∀ u, Below W.heap.size W u → Sh u) := fun u hu => hsh.to hu
  have HC0 : Hid (∀ u, Below W.heap.size W u → Calls Tryd.prog 9 #[.slice a0 L0.length cap0] u fun e w' => HuA u w' e) := fun u hu => set_learnt u a0 cap0 L0 (doAt_to h0 hu) hl0
  have HC1 : Hid (∀ u, Below W.heap.size W u → Calls Tryd.prog 9 #[.slice a1 L1.length cap1] u fun e w' => HuA u w' e) := fun u hu => set_learnt u a1 cap1 L1 (doAt_to h1 hu) hl1
  clear hsh h0 hl0 h1 hl1
  have HB1 : Hid (Below W.heap.size W (W.alloc (.cells #[.int .i64 s0, .int .i64 s1, .int .i64 s2, .int .i64 s3] 58))) := from_alloc _ _
  have HS1 : Hid (∀ u, Below (W.alloc (.cells #[.int .i64 s0, .int .i64 s1, .int .i64 s2, .int .i64 s3] 58)).heap.size (W.alloc (.cells #[.int .i64 s0, .int .i64 s1, .int .i64 s2, .int .i64 s3] 58)) u → u.cell? ⟨W.heap.size, 0, none⟩ = some (.int .i64 s0) ∧ u.cell? ⟨W.heap.size, 1, none⟩ = some (.int .i64 s1) ∧ u.cell? ⟨W.heap.size, 2, none⟩ = some (.int .i64 s2) ∧ u.cell? ⟨W.heap.size, 3, none⟩ = some (.int .i64 s3)) := fun u hu => by
    rw [newCell hu _ _ (by simp), newCell hu _ _ (by simp), newCell hu _ _ (by simp), newCell hu _ _ (by simp)]
    simp [go_sem]
  go_enter Tryd.func5, Tryd.ntmps5
  go_wp2_with fail
  generalize W.alloc (.cells #[.int .i64 s0, .int .i64 s1, .int .i64 s2, .int .i64 s3] 58) = W1 at *
  refine (HC0.out _ HB1.out).mono ?_
  rintro e w2 ⟨bt, cT, B, S, rfl, hz2, hb2, -⟩
  have HX2 : Hid (Hz w2 W1.heap.size bt B S) := hz2
  have HB2 : Hid (Below W1.heap.size W1 w2) := hb2
  have HW2 : Hid (Below W.heap.size W w2) := below_to HB1.out hb2
  clear hz2 hb2
  go_wp2_with fail
  refine (HC1.out _ HW2.out).mono ?_
  rintro e w3 ⟨bt3, cT3, B3, S3, rfl, hz3, hb3, hr3⟩
  have hbu : Below w3.heap.size w3 ((w3.alloc (.cells #[.slice (some ⟨bt, 0, none⟩) 32 cT] 25)).alloc (.cells #[.slice (some ⟨bt3, 0, none⟩) 32 cT3] 25)) := to_alloc (from_alloc _ _) _
  have HZU : Hid (Hz ((w3.alloc (.cells #[.slice (some ⟨bt, 0, none⟩) 32 cT] 25)).alloc (.cells #[.slice (some ⟨bt3, 0, none⟩) 32 cT3] 25)) w2.heap.size bt3 B3 S3) := hz3.to hbu
  have HLB : Hid (∀ y, B3 y → w2.heap.size ≤ y ∧ y < w3.heap.size) := fun y hy => ⟨hz3.ge hy, hz3.lt hy⟩
  have HBU : Hid (Below w2.heap.size w2 ((w3.alloc (.cells #[.slice (some ⟨bt, 0, none⟩) 32 cT] 25)).alloc (.cells #[.slice (some ⟨bt3, 0, none⟩) 32 cT3] 25))) := below_to hb3 hbu
  have HLU : Hid (w2.heap.size ≤ w3.heap.size ∧ ((w3.alloc (.cells #[.slice (some ⟨bt, 0, none⟩) 32 cT] 25)).alloc (.cells #[.slice (some ⟨bt3, 0, none⟩) 32 cT3] 25)).heap.size = w3.heap.size + 2) := ⟨hb3.size, by simp⟩
  have HCU : Hid (((w3.alloc (.cells #[.slice (some ⟨bt, 0, none⟩) 32 cT] 25)).alloc (.cells #[.slice (some ⟨bt3, 0, none⟩) 32 cT3] 25)).cell? ⟨w3.heap.size, 0, none⟩ = some (.slice (some ⟨bt, 0, none⟩) 32 cT) ∧ ((w3.alloc (.cells #[.slice (some ⟨bt, 0, none⟩) 32 cT] 25)).alloc (.cells #[.slice (some ⟨bt3, 0, none⟩) 32 cT3] 25)).cell? ⟨w3.heap.size + 1, 0, none⟩ = some (.slice (some ⟨bt3, 0, none⟩) 32 cT3) ∧ ((w3.alloc (.cells #[.slice (some ⟨bt, 0, none⟩) 32 cT] 25)).alloc (.cells #[.slice (some ⟨bt3, 0, none⟩) 32 cT3] 25)).frozen? ⟨w3.heap.size + 1, 0, none⟩ = false) := by
    refine ⟨?_, ?_, ?_⟩
    · rw [newCell (from_alloc _ _) _ _ (by simp)]; simp [go_sem]
    · have e : w3.heap.size + 1 = (w3.alloc (.cells #[.slice (some ⟨bt, 0, none⟩) 32 cT] 25)).heap.size := by simp
      rw [e]; simp [go_sem]
    · have e : w3.heap.size + 1 = (w3.alloc (.cells #[.slice (some ⟨bt, 0, none⟩) 32 cT] 25)).heap.size := by simp
      rw [e]; simp [go_sem]
  have HRm : Hid (32 ≤ cT3) := hr3
  have HBr : Hid (∀ u, Calls Tryd.prog 26 #[.int .i64 s0, .int .i64 4] u fun e w' => e = .returned (.int .i64 ((brg s0 4 : Nat) : Int)) ∧ w' = u) := fun u => bring_any s0 4 u (by omega) (by omega)
  have y0 := (HS1.out _ (below_to HB2.out HBU.out)).1
  clear hbu hz3 hb3 hr3
  go_wp2_with fail
  generalize (w3.alloc (.cells #[.slice (some ⟨bt, 0, none⟩) 32 cT] 25)).alloc (.cells #[.slice (some ⟨bt3, 0, none⟩) 32 cT3] 25) = U at *
  generalize w3.heap.size = xb at *
  refine (HBr.out _).mono ?_
  rintro e w4 ⟨rfl, hw4⟩
  obtain rfl : U = w4 := hw4.symm
  clear hw4 HBr y0
  obtain ⟨m0, hm0⟩ : ∃ m0, brg s0 4 = m0 := ⟨_, rfl⟩
  rw [hm0]
  clear hm0
  go_upto_if 27 with fail
  go_cut [9] (fun s9 T => Sp w2 xb (xb + 1) bt cT T)
  case first =>
    have hlu := HLU.out
    have HYB : Hid (xb < U.heap.size ∧ xb + 1 < U.heap.size ∧ w2.heap.size ≤ xb) := ⟨by omega, by omega, by omega⟩
    clear hlu
    by_cases hm : m0 = 0
    · obtain ⟨k, hk⟩ : ∃ k, brg s1 32 = k := ⟨_, rfl⟩
      have hk32 : k < 32 := by rw [← hk]; exact brg_lt s1 (by omega)
      obtain ⟨c, hc⟩ : ∃ c, brg s2 (sC k) = c := ⟨_, rfl⟩
      have hcC : c < sC k := by rw [← hc]; exact brg_lt s2 (sC_le k hk32).1
      obtain ⟨md, hmd⟩ : ∃ md, brg s3 5 = md := ⟨_, rfl⟩
      have hmd5 : md < 5 := by rw [← hmd]; exact brg_lt s3 (by omega)
      obtain ⟨pb, qk, tb, tf, tc, tn, q, K, p, t, hTp, g1, g2, g3⟩ := HZU.out.tp hk32 hcC
      have HTp : Hid (∀ u, Below U.heap.size U u → ∃ q K p t, Tp u w2.heap.size bt3 k c pb qk tb tf tc tn q K p t) := fun u hu => by
        have hz := HZU.out.to hu
        exact ⟨q, K, p, t, hTp.to hu⟩
      have HNe : Hid (xb ≠ bt3 ∧ xb + 1 ≠ bt3 ∧ xb ≠ pb ∧ xb + 1 ≠ pb ∧ xb ≠ tb ∧ xb + 1 ≠ tb) := by
        have e1 := HLB.out _ g1
        have e2 := HLB.out _ g2
        have e3 := HLB.out _ g3
        exact ⟨by omega, by omega, by omega, by omega, by omega, by omega⟩
      have HB1r : Hid (∀ u, Calls Tryd.prog 26 #[.int .i64 s1, .int .i64 32] u fun e w' => e = .returned (.int .i64 (k : Int)) ∧ w' = u) := fun u => by rw [← hk]; exact bring_any s1 32 u (by omega) (by omega)
      have HB2r : Hid (∀ u, Calls Tryd.prog 26 #[.int .i64 s2, .int .i64 (sC k : Int)] u fun e w' => e = .returned (.int .i64 (c : Int)) ∧ w' = u) := fun u => by rw [← hc]; exact bring_any s2 (sC k) u (sC_le k hk32).1 (by have := (sC_le k hk32).2; omega)
      have HB3r : Hid (∀ u, Calls Tryd.prog 26 #[.int .i64 s3, .int .i64 5] u fun e w' => e = .returned (.int .i64 (md : Int)) ∧ w' = u) := fun u => by rw [← hmd]; exact bring_any s3 5 u (by omega) (by omega)
      have HKK : Hid (k < 32 ∧ c < sC k ∧ md < 5) := ⟨hk32, hcC, hmd5⟩
      have HRl : Hid (sC k ≤ qk) := hTp.rm
      have HCe : Hid (∀ u, Below U.heap.size U u → u.cell? ⟨W.heap.size, 1, none⟩ = some (.int .i64 s1) ∧ u.cell? ⟨W.heap.size, 2, none⟩ = some (.int .i64 s2) ∧ u.cell? ⟨W.heap.size, 3, none⟩ = some (.int .i64 s3) ∧ u.cell? ⟨xb + 1, 0, none⟩ = some (.slice (some ⟨bt3, 0, none⟩) 32 cT3) ∧ u.cell? ⟨bt3, k, none⟩ = some (.slice (some ⟨pb, 0, none⟩) (sC k) qk)) := fun u hu => by
        obtain ⟨_, e1, e2, e3⟩ := HS1.out u (below_to (below_to HB2.out HBU.out) hu)
        obtain ⟨_, _, _, _, hT⟩ := HTp.out u hu
        exact ⟨e1, e2, e3, by rw [newCell hu _ _ HYB.out.2.1]; exact HCU.out.2.1, hT.f1⟩
      have hq0 : ((m0 : Int) == 0) = true := by rw [hm]; rfl
      have k0 : (0 : Int) ≤ (k : Int) := by omega
      have k1 : (k : Int) < 32 := by omega
      clear hm hk hc hmd g1 g2 g3 hTp hk32 hcC hmd5
      obtain ⟨y1, y2, y3, y4, y5⟩ := HCe.out U (Below.refl _ _)
      go_wp2_with fail
      refine (HB1r.out _).mono ?_
      rintro e w4 ⟨rfl, hw4⟩
      obtain rfl : U = w4 := hw4.symm
      clear hw4
      have hbd : Below U.heap.size U U.drew := below_drew (Below.refl _ _)
      go_wp2_with fail
      go_region_held3 (fun u => u.cell? ⟨W.heap.size, 2, none⟩ = some (.int .i64 s2) ∧ u.cell? ⟨xb + 1, 0, none⟩ = some (.slice (some ⟨bt3, 0, none⟩) 32 cT3) ∧ u.cell? ⟨bt3, k, none⟩ = some (.slice (some ⟨pb, 0, none⟩) (sC k) qk))
        ((exact ⟨(HCe.out _ (by assumption)).2.1, (HCe.out _ (by assumption)).2.2.2.1, (HCe.out _ (by assumption)).2.2.2.2⟩))
        ((go_at_call 26; refine (HB2r.out _).mono ?_; rintro e wA ⟨rfl, hwA⟩; obtain rfl := hwA.symm))
      all_goals
        have HBX : Hid (Below U.heap.size U U.drew) := hbd
        clear hbd y1 y2 y3 y4 y5
        generalize U.drew = X at *
        obtain ⟨q, K, p, t, hT⟩ := HTp.out X HBX.out
        have HT : Hid (Tp X w2.heap.size bt3 k c pb qk tb tf tc tn q K p t) := hT
        have HCm : Hid (Cmm w2 X xb (xb + 1) bt cT bt3 cT3) := ⟨below_to HBU.out HBX.out, by rw [newCell HBX.out _ _ HYB.out.1]; exact HCU.out.1, by rw [newCell HBX.out _ _ HYB.out.2.1]; exact HCU.out.2.1, Nat.lt_of_lt_of_le HYB.out.1 HBX.out.size, Nat.lt_of_lt_of_le HYB.out.2.1 HBX.out.size⟩
        have y3 := (HCe.out X HBX.out).2.2.1
        clear hT
        go_wp2_with fail
        refine (HB3r.out _).mono ?_
        rintro e w4 ⟨rfl, hw4⟩
        obtain rfl : X = w4 := hw4.symm
        clear hw4 y3
        have f0 := HCm.out.cy
        have f1 := HT.out.f1
        have d0 : X.drew.cell? ⟨xb + 1, 0, none⟩ = some (.slice (some ⟨bt3, 0, none⟩) 32 cT3) := f0
        have d1 : X.drew.cell? ⟨bt3, k, none⟩ = some (.slice (some ⟨pb, 0, none⟩) (sC k) qk) := f1
        have c0 : (0 : Int) ≤ (c : Int) := by omega
        have c1 : (c : Int) < (sC k : Int) := by have := HKK.out.2.1; omega
        have c2 : (c : Int) ≤ (qk : Int) := by have := HKK.out.2.1; have := HRl.out; omega
        have hqk : qk ≠ 0 := by have := HKK.out.2.1; have := HRl.out; omega
        have HMd : Hid (md = 0 ∨ md = 1 ∨ md = 2 ∨ md = 3 ∨ md = 4) := by have := HKK.out.2.2; show _ ∨ _; omega
        rcases HMd.out with h | h | h | h | h
        · have q0 : ((md : Int) == 0) = true := by rw [h]; rfl
          have HF : Hid (∀ u, u = X.setCell ⟨bt3, k, none⟩ (.slice (some ⟨pb, 0, none⟩) c qk) ∨ u = (X.setCell ⟨bt3, k, none⟩ (.slice (some ⟨pb, 0, none⟩) c qk)).drew → Sp w2 xb (xb + 1) bt cT u) := HT.out.sp0 HCm.out HNe.out.1 HNe.out.2.1 HKK.out.2.1
          have z1 := HT.out.z1
          have z2 : X.drew.frozen? ⟨bt3, k, none⟩ = false := z1
          clear h
          go_wp2_with fail
          go_region
          all_goals
            go_wp2_with fail
            go_meet
            exact HF.out _ (by first | exact Or.inl rfl | exact Or.inr rfl)
        · have q0 : ((md : Int) == 0) = false := by rw [h]; rfl
          have q1 : ((md : Int) == 1) = true := by rw [h]; rfl
          have f2 := HT.out.f2
          have d2 : X.drew.cell? ⟨pb, c * 2, none⟩ = some (.slice (some ⟨tb, tf, none⟩) (sV k) tc) := f2
          have z1 := HT.out.z2 (c * 2)
          have z2 : X.drew.frozen? ⟨pb, c * 2, none⟩ = false := z1
          have v1 : (1 : Int) ≤ (sV k : Int) := by have := (sV_le k HKK.out.1).1; omega
          clear h
          by_cases htc : tc = 1
          · have HF : Hid (∀ u, u = X.setCell ⟨pb, c * 2, none⟩ (.slice (some ⟨tb, tf, none⟩) (sV k - 1) 0) ∨ u = (X.setCell ⟨pb, c * 2, none⟩ (.slice (some ⟨tb, tf, none⟩) (sV k - 1) 0)).drew → Sp w2 xb (xb + 1) bt cT u) := HT.out.sp1b HCm.out HNe.out.2.2.1 HNe.out.2.2.2.1
            subst htc
            go_wp2_with fail
            go_region
            all_goals
              go_wp2_with fail
              go_meet
              exact HF.out _ (by first | exact Or.inl rfl | exact Or.inr rfl)
          · have HF : Hid (∀ u, u = X.setCell ⟨pb, c * 2, none⟩ (.slice (some ⟨tb, tf + 1, none⟩) (sV k - 1) (tc - 1)) ∨ u = (X.setCell ⟨pb, c * 2, none⟩ (.slice (some ⟨tb, tf + 1, none⟩) (sV k - 1) (tc - 1))).drew → Sp w2 xb (xb + 1) bt cT u) := HT.out.sp1a HCm.out HNe.out.2.2.1 HNe.out.2.2.2.1
            go_wp2_with fail
            go_region
            all_goals
              go_wp2_with fail
              go_meet
              exact HF.out _ (by first | exact Or.inl rfl | exact Or.inr rfl)
        · have q0 : ((md : Int) == 0) = false := by rw [h]; rfl
          have q1 : ((md : Int) == 1) = false := by rw [h]; rfl
          have q2 : ((md : Int) == 2) = true := by rw [h]; rfl
          have HF : Hid (∀ u, u = X.setCell ⟨pb, c * 2 + 1, none⟩ (.int .i64 33) ∨ u = (X.setCell ⟨pb, c * 2 + 1, none⟩ (.int .i64 33)).drew → Sp w2 xb (xb + 1) bt cT u) := HT.out.sp2 HCm.out HNe.out.2.2.1 HNe.out.2.2.2.1
          have f3 := HT.out.f3
          have z1 := HT.out.z2 (c * 2 + 1)
          clear h
          go_wp2_with fail
          go_meet
          exact HF.out _ (by first | exact Or.inl rfl | exact Or.inr rfl)
        · have q0 : ((md : Int) == 0) = false := by rw [h]; rfl
          have q1 : ((md : Int) == 1) = false := by rw [h]; rfl
          have q2 : ((md : Int) == 2) = false := by rw [h]; rfl
          have q3 : ((md : Int) == 3) = true := by rw [h]; rfl
          have HF : Hid (∀ u, u = X.setCell ⟨tb, tf, none⟩ (.int .u16 32769) ∨ u = (X.setCell ⟨tb, tf, none⟩ (.int .u16 32769)).drew → Sp w2 xb (xb + 1) bt cT u) := HT.out.sp3 HCm.out HNe.out.2.2.2.2.1 HNe.out.2.2.2.2.2
          have f2 := HT.out.f2
          have f4 := HT.out.f4
          have z1 := HT.out.z4
          have v1 : (0 : Int) < (sV k : Int) := by have := (sV_le k HKK.out.1).1; omega
          clear h
          go_wp2_with fail
          go_meet
          exact HF.out _ (by first | exact Or.inl rfl | exact Or.inr rfl)
        · have q0 : ((md : Int) == 0) = false := by rw [h]; rfl
          have q1 : ((md : Int) == 1) = false := by rw [h]; rfl
          have q2 : ((md : Int) == 2) = false := by rw [h]; rfl
          have q3 : ((md : Int) == 3) = false := by rw [h]; rfl
          have HF : Hid (Sp w2 xb (xb + 1) bt cT (X.setCell ⟨xb + 1, 0, none⟩ (.slice (some ⟨bt3, 0, none⟩) k cT3))) := sp_cut HCm.out.bel (by have := HYB.out.2.2; omega) (by omega) HCm.out.cx HCm.out.cy HCm.out.lx HCm.out.ly (HZU.out.hu.to HBX.out) (fun e => by have := (HLB.out _ e).2; omega) HKK.out.1
          have z1 : X.frozen? ⟨xb + 1, 0, none⟩ = false := by rw [newFrozen HBX.out _ _ HYB.out.2.1]; exact HCU.out.2.2
          have k2 : (k : Int) ≤ (cT3 : Int) := by have := HRm.out; have := HKK.out.1; omega
          have hc3 : cT3 ≠ 0 := by have := HRm.out; omega
          clear h
          go_wp2_with fail
          go_meet
          exact HF.out
    · have hq0 : ((m0 : Int) == 0) = false := by rw [beq_eq_false_iff_ne]; omega
      have HSp : Hid (Sp w2 xb (xb + 1) bt cT U) := ⟨⟨_, 32, cT3, S3, HCU.out.2.1, HZU.out.hu.yy⟩, HCU.out.1, HBU.out, HYB.out.1, HYB.out.2.1⟩
      clear hm
      go_wp2_with fail
      go_meet
      exact HSp.out
  case rest =>
    obtain ⟨⟨ya, yn, yc, Y, cy, hy⟩, cx, hbl, hlx, hly⟩ := hcut
    have HYy : Hid (Yy wc ya yn Y) := hy
    have HWc : Hid (Below W.heap.size W wc) := below_to HW2.out hbl
    have HXy : Hid (∀ u, Below wc.heap.size wc u → Ry u (some ⟨bt, 0, none⟩) 32 S) := fun u hu => ((HX2.out.hu.to hbl).to hu).ry.1
    have HOx : Hid (okX S) := HX2.out.hu.ry.2
    have HKx : Hid (∀ u, Below wc.heap.size wc u → u.cell? ⟨xb, 0, none⟩ = some (.slice (some ⟨bt, 0, none⟩) 32 cT) ∧ u.cell? ⟨xb + 1, 0, none⟩ = some (.slice ya yn yc)) := fun u hu => ⟨by rw [newCell hu _ _ hlx]; exact cx, by rw [newCell hu _ _ hly]; exact cy⟩
    clear hy hbl hlx hly HX2 HZU HLB HBU HLU HCU HRm HS1 HB2 HC0 HC1 HB1 HW2
    go_wp2_with fail
    refine (rcopy_y HYy.out).mono ?_
    rintro e w5 ⟨ia, ic, rfl, hi5, hb5⟩
    have HB6 : Hid (Below wc.heap.size wc (w5.alloc (.cells #[.slice ia yn ic] 25))) := to_alloc hb5 _
    have HI6 : Hid (Yy (w5.alloc (.cells #[.slice ia yn ic] 25)) ia yn Y) := hi5.to (from_alloc _ _)
    have HK6 : Hid ((w5.alloc (.cells #[.slice ia yn ic] 25)).cell? ⟨w5.heap.size, 0, none⟩ = some (.slice ia yn ic)) := by show _ = _; simp [go_sem]
    have HL6 : Hid (w5.heap.size < (w5.alloc (.cells #[.slice ia yn ic] 25)).heap.size) := by show _ < _; simp
    clear hi5 hb5 cx cy
    go_upto_region 16 with fail
    generalize w5.alloc (.cells #[.slice ia yn ic] 25) = V at *
    generalize w5.heap.size = ib at *
    have HWV : Hid (∀ u, Below V.heap.size V u → Below W.heap.size W u) := fun u hu => below_to (below_to HWc.out HB6.out) hu
    have HK : Hid (∀ u, Below V.heap.size V u → u.cell? ⟨xb, 0, none⟩ = some (.slice (some ⟨bt, 0, none⟩) 32 cT) ∧ u.cell? ⟨xb + 1, 0, none⟩ = some (.slice ya yn yc) ∧ u.cell? ⟨ib, 0, none⟩ = some (.slice ia yn ic)) := fun u hu => ⟨(HKx.out _ (below_to HB6.out hu)).1, (HKx.out _ (below_to HB6.out hu)).2, by rw [newCell hu _ _ HL6.out]; exact HK6.out⟩
    have HX : Hid (∀ u, Below V.heap.size V u → Ry u (some ⟨bt, 0, none⟩) 32 S) := fun u hu => HXy.out _ (below_to HB6.out hu)
    have HY : Hid (∀ u, Below V.heap.size V u → Yy u ya yn Y) := fun u hu => HYy.out.to (below_to HB6.out hu)
    have HI : Hid (∀ u, Below V.heap.size V u → Yy u ia yn Y) := fun u hu => HI6.out.to hu
    clear HXy HYy HI6 HKx HK6 HL6 HB6 HWc
    obtain ⟨ck, hck⟩ : ∃ ck, ckX Y = ck := ⟨_, rfl⟩
    have HCK : Hid (ckX Y = ck) := hck
    have HCi : Hid (∀ u, Below V.heap.size V u → Calls Tryd.prog 27 #[.agg #[.slice ia yn ic]] u fun e w' => e = .returned (.int .i64 ck) ∧ Below u.heap.size u w') := fun u hu => by
      have h := (HI.out u hu).ry
      have := scheck_g (cT := ic) (HSh.out _ (HWV.out u hu)) h.gv h.len h.sm
      rw [hck] at this; exact this
    have HCy : Hid (∀ u, Below V.heap.size V u → Calls Tryd.prog 28 #[.agg #[.slice ya yn yc]] u fun e w' => e = .returned (.int .i64 ck) ∧ Below u.heap.size u w') := fun u hu => by
      have h := (HY.out u hu).ry
      have := rscheck_g (cT := yc) h.gv h.len h.sm
      rw [hck] at this; exact this
    have HCx : Hid (∀ u, Below V.heap.size V u → Calls Tryd.prog 27 #[.agg #[.slice (some ⟨bt, 0, none⟩) 32 cT]] u fun e w' => e = .returned (.int .i64 0) ∧ Below u.heap.size u w') := fun u hu => by
      have h := HX.out u hu
      have := scheck_g (cT := cT) (HSh.out _ (HWV.out u hu)) h.gv h.len h.sm
      rw [ckX_ok HOx.out] at this; exact this
    have HCo : Hid (∀ u, Below V.heap.size V u → Calls Tryd.prog 29 #[.agg #[.slice ia yn ic]] u fun e w' => CpX u w' e yn Y) := fun u hu => by
      have h := (HI.out u hu).ry
      exact scopy_g h.gv h.len h.sm h.ps
    have HSm : Hid (∀ u, Below V.heap.size V u → ∀ b c, Gv u b Y → Calls Tryd.prog 14 #[.agg #[.slice b yn c], .agg #[.slice ya yn yc]] u fun e w' => e = .returned (.bool true) ∧ Below u.heap.size u w') := fun u hu b c hb => by
      have h := (HY.out u hu).ry
      exact rsame_g hb h.gv h.len h.sm
    have hcc : (ck == ck) = true := by simp
    have hbd : Below V.heap.size V V.drew := below_drew (Below.refl _ _)
    clear hck
    go_region_held3 (fun u => u.cell? ⟨xb, 0, none⟩ = some (.slice (some ⟨bt, 0, none⟩) 32 cT) ∧ u.cell? ⟨xb + 1, 0, none⟩ = some (.slice ya yn yc) ∧ u.cell? ⟨ib, 0, none⟩ = some (.slice ia yn ic))
      ((exact HK.out _ (by assumption)))
      (first
        | (go_at_call 27; with_reducible refine (HCi.out _ (by assumption)).mono ?_; rintro e wA ⟨rfl, hbA⟩; have hzA := below_to (by assumption) hbA)
        | (go_at_call 28; refine (HCy.out _ (by assumption)).mono ?_; rintro e wB ⟨rfl, hbB⟩; have hzB := below_to (by assumption) hbB)
        | (go_at_call 27; with_reducible refine (HCx.out _ (by assumption)).mono ?_; rintro e wC ⟨rfl, hbC⟩; have hzC := below_to (by assumption) hbC)
        | (go_at_call 29; refine (HCo.out _ (by assumption)).mono ?_; rintro e wD ⟨bD, cD, rfl, hgD, hbD⟩; have hzD := below_to (by assumption) hbD)
        | (go_at_call 14; refine (HSm.out _ (by assumption) _ _ hgD).mono ?_; rintro e wE ⟨rfl, hbE⟩; have hzE := below_to (by assumption) hbE))
    all_goals
      have HZE : Hid (Below V.heap.size V wE) := hzE
      clear hzE hbE hzA hbA hzB hbB hzC hbC hzD hbD hgD hbd HCi HCy HCx HCo
      obtain ⟨zn, hzn⟩ : ∃ zn, (Zr S Y).length = zn := ⟨_, rfl⟩
      have HZn : Hid ((Zr S Y).length = zn) := hzn
      clear hzn
      go_upto_region 18 with fail
      obtain ⟨kx, ky, ki⟩ := HK.out _ HZE.out
      have HB7 : Hid (Below V.heap.size V (World.alloc wE (.cells #[.slice (some ⟨bt, 0, none⟩) 32 cT, .slice ia yn ic, .slice (some ⟨bt, 0, none⟩) 32 cT] 25))) := to_alloc HZE.out _
      have HA7 : Hid (Calls Tryd.prog 30 #[.slice (some ⟨(World.heap wE).size, 0, none⟩) 3 3] (World.alloc wE (.cells #[.slice (some ⟨bt, 0, none⟩) 32 cT, .slice ia yn ic, .slice (some ⟨bt, 0, none⟩) 32 cT] 25)) fun e w' => ∃ a c, e = .returned (.tuple #[.agg #[.slice a zn c], .int .i64 ck]) ∧ Gv w' a (Zr S Y) ∧ Below (World.alloc wE (.cells #[.slice (some ⟨bt, 0, none⟩) 32 cT, .slice ia yn ic, .slice (some ⟨bt, 0, none⟩) 32 cT] 25)).heap.size (World.alloc wE (.cells #[.slice (some ⟨bt, 0, none⟩) 32 cT, .slice ia yn ic, .slice (some ⟨bt, 0, none⟩) 32 cT] 25)) w') := by
        have h := savg_y (cl := 3) (xc := cT) (yc := ic) (HSh.out _ (HWV.out _ HB7.out)) (b := (World.heap wE).size) (by simp) (by simp [go_sem]) (by simp [go_sem]) (by simp [go_sem]) (HX.out _ HB7.out) HOx.out (HI.out _ HB7.out).ry
        refine h.mono ?_
        rintro e w' ⟨a, c, rfl, h2, h3⟩
        rw [HZn.out, HCK.out]
        exact ⟨a, c, rfl, h2, h3⟩
      go_wp2_with fail
      refine HA7.out.mono ?_
      rintro e w7 ⟨pa, pc, rfl, hg7, hb7⟩
      have HB8 : Hid (Below V.heap.size V (w7.alloc (.cells #[.slice pa zn pc] 25))) := to_alloc (below_to HB7.out hb7) _
      have HG8 : Hid (Gv (w7.alloc (.cells #[.slice pa zn pc] 25)) pa (Zr S Y)) := hg7.to (from_alloc _ _)
      have HP8 : Hid ((w7.alloc (.cells #[.slice pa zn pc] 25)).cell? ⟨w7.heap.size, 0, none⟩ = some (.slice pa zn pc)) := by show _ = _; simp [go_sem]
      have HL8 : Hid (w7.heap.size < (w7.alloc (.cells #[.slice pa zn pc] 25)).heap.size) := by show _ < _; simp
      clear hg7 hb7 HA7 HB7 kx ky ki
      go_upto_region 19 with fail
      generalize w7.alloc (.cells #[.slice pa zn pc] 25) = V2 at *
      generalize w7.heap.size = pb at *
      obtain ⟨kx, ky, ki⟩ := HK.out _ HB8.out
      have HB9 : Hid (Below V2.heap.size V2 (V2.alloc (.cells #[.slice (some ⟨bt, 0, none⟩) 32 cT, .slice ya yn yc, .slice (some ⟨bt, 0, none⟩) 32 cT] 25))) := from_alloc _ _
      have HV9 : Hid (Below V.heap.size V (V2.alloc (.cells #[.slice (some ⟨bt, 0, none⟩) 32 cT, .slice ya yn yc, .slice (some ⟨bt, 0, none⟩) 32 cT] 25))) := to_alloc HB8.out _
      have HA9 : Hid (Calls Tryd.prog 31 #[.slice (some ⟨V2.heap.size, 0, none⟩) 3 3] (V2.alloc (.cells #[.slice (some ⟨bt, 0, none⟩) 32 cT, .slice ya yn yc, .slice (some ⟨bt, 0, none⟩) 32 cT] 25)) fun e w' => ∃ a c, e = .returned (.tuple #[.agg #[.slice a zn c], .int .i64 ck]) ∧ Gv w' a (Zr S Y) ∧ Below (V2.alloc (.cells #[.slice (some ⟨bt, 0, none⟩) 32 cT, .slice ya yn yc, .slice (some ⟨bt, 0, none⟩) 32 cT] 25)).heap.size (V2.alloc (.cells #[.slice (some ⟨bt, 0, none⟩) 32 cT, .slice ya yn yc, .slice (some ⟨bt, 0, none⟩) 32 cT] 25)) w') := by
        have h := ravg_y (cl := 3) (xc := cT) (yc := yc) (b := V2.heap.size) (by simp) (by simp [go_sem]) (by simp [go_sem]) (by simp [go_sem]) (HX.out _ HV9.out) HOx.out (HY.out _ HV9.out).ry
        refine h.mono ?_
        rintro e w' ⟨a, c, rfl, h2, h3⟩
        rw [HZn.out, HCK.out]
        exact ⟨a, c, rfl, h2, h3⟩
      go_wp2_with fail
      refine HA9.out.mono ?_
      rintro e w9 ⟨qa, qc, rfl, hg9, hb9⟩
      have HBA : Hid (Below V2.heap.size V2 (w9.alloc (.cells #[.slice qa zn qc] 25))) := to_alloc (below_to HB9.out hb9) _
      have HGA : Hid (Gv (w9.alloc (.cells #[.slice qa zn qc] 25)) qa (Zr S Y)) := hg9.to (from_alloc _ _)
      have HQA : Hid ((w9.alloc (.cells #[.slice qa zn qc] 25)).cell? ⟨w9.heap.size, 0, none⟩ = some (.slice qa zn qc)) := by show _ = _; simp [go_sem]
      have HLA : Hid (w9.heap.size < (w9.alloc (.cells #[.slice qa zn qc] 25)).heap.size) := by show _ < _; simp
      clear hg9 hb9 HA9 HB9 HV9 kx ky ki
      go_upto_region 20 with fail
      generalize w9.alloc (.cells #[.slice qa zn qc] 25) = V3 at *
      generalize w9.heap.size = qb at *
      have HV3 : Hid (Below V.heap.size V V3) := below_to HB8.out HBA.out
      have HE : Hid (∀ u, Below V3.heap.size V3 u → Below V.heap.size V u) := fun u hu => below_to HV3.out hu
      have HPQ : Hid (∀ u, Below V3.heap.size V3 u → u.cell? ⟨pb, 0, none⟩ = some (.slice pa zn pc) ∧ u.cell? ⟨qb, 0, none⟩ = some (.slice qa zn qc) ∧ Gv u pa (Zr S Y) ∧ Gv u qa (Zr S Y)) := fun u hu => ⟨by rw [newCell (below_to HBA.out hu) _ _ HL8.out]; exact HP8.out, by rw [newCell hu _ _ HLA.out]; exact HQA.out, HG8.out.to (below_to HBA.out hu), HGA.out.to hu⟩
      clear HB8 HG8 HP8 HL8 HBA HGA HQA HLA
      obtain ⟨kx, ky, ki⟩ := HK.out _ HV3.out
      have HWi := swriter_y (c := ic) (HSh.out _ (HWV.out _ HV3.out)) (HI.out _ HV3.out)
      go_wp2_with fail
      refine HWi.mono ?_
      rintro e wF ⟨pF, rfl, hbF⟩
      rw [HCK.out]
      have HBF : Hid (Below V3.heap.size V3 wF) := hbF
      clear hbF HWi kx ky ki
      obtain ⟨kx, ky, ki⟩ := HK.out _ (HE.out _ HBF.out)
      have HWy := rwriter_y (c := yc) (HY.out _ (HE.out _ HBF.out))
      go_wp2_with fail
      refine HWy.mono ?_
      rintro e wG ⟨pG, rfl, hbG⟩
      rw [HCK.out]
      have HBG : Hid (Below V3.heap.size V3 wG) := below_to HBF.out hbG
      clear hbG HWy kx ky ki
      obtain ⟨kx, ky, ki⟩ := HK.out _ (HE.out _ HBG.out)
      obtain ⟨kp, kq, gp, gq⟩ := HPQ.out _ HBG.out
      have HSp : Hid (Calls Tryd.prog 14 #[.agg #[.slice pa zn pc], .agg #[.slice qa zn qc]] wG fun e w' => e = .returned (.bool true) ∧ Below (World.heap wG).size wG w') := rsame_g gp gq HZn.out (Zr_sml S Y)
      clear gp gq
      go_wp2_with fail
      refine HSp.out.mono ?_
      rintro e wH ⟨rfl, hbH⟩
      have HBH : Hid (Below V3.heap.size V3 wH) := below_to HBG.out hbH
      clear hbH HSp kx ky ki kp kq
      obtain ⟨kx, ky, ki⟩ := HK.out _ (HE.out _ HBH.out)
      have HSq := HSm.out _ (HE.out _ HBH.out) ia ic (HI.out _ (HE.out _ HBH.out)).ry.gv
      go_wp2_with fail
      refine HSq.mono ?_
      rintro e wI ⟨rfl, hbI⟩
      have HBI : Hid (Below V3.heap.size V3 wI) := below_to HBH.out hbI
      clear hbI HSq kx ky ki
      go_wp2_with fail
      refine (awake_ok (HSh.out _ (HWV.out _ (HE.out _ HBI.out)))).mono ?_
      rintro e wJ ⟨rfl, hbJ⟩
      have HBJ : Hid (Below W.heap.size W wJ) := HWV.out _ (HE.out _ (below_to HBI.out hbJ))
      clear hbJ
      go_wp2_with fail
      exact bodyPost_ret (v := .bool true) (by simp [results, Tryd.results5, go_sem]) rfl ⟨rfl, HBJ.out⟩

end Go.Proofs.YtppanogpeengnaaDoor
