/- DERIVED. The walks of the document's decoder's Take and Read, and of CopyBytes. -/
import Derived.Test.YtogaekjohnbbiaaDoorRtA
namespace Go.Proofs.YtogaekjohnbbiaaDoor
open Go.RowKit

/-- a document's decoder's numbers -/
def Dsf (w : World) (x b : Nat) (zs : List Nat) (q c g : Nat) : Prop := Df w x b zs q c g ∧ Dk c g

set_option maxRecDepth 100000 in
set_option maxHeartbeats 1000000 in
theorem rtake_no {w : World} {x b : Nat} {zs : List Nat} {q c g : Nat} (h : Df w x b zs q c g) (hk : Dk c g) (lo hi : Nat) (hm : ¬ dMay c g lo hi) :
    Calls Tryd.prog 24 #[.pointer (some ⟨x, 0, none⟩), .int .u32 lo, .int .u32 hi] w fun e w' => e = .returned (.int .i64 2) ∧ ∃ k, w' = w.drewN k := by
  unfold dMay at hm
  have HP : Hid _ := value_df h hk
  clear h hk
  generalize dVal c g = v at *
  by_cases h1 : lo ≤ v
  · by_cases h2 : v < hi
    · have h3 : 32768 < hi := by omega
      go_enter Tryd.func24, Tryd.ntmps24
      go_wp2_with fail
      refine Calls.mono HP.out ?_; rintro e w2 ⟨rfl, k, rfl⟩
      go_wp2_with fail
      go_ret
      exact ⟨rfl, k, rfl⟩
    · go_enter Tryd.func24, Tryd.ntmps24
      go_wp2_with fail
      refine Calls.mono HP.out ?_; rintro e w2 ⟨rfl, k, rfl⟩
      go_wp2_with fail
      go_ret
      exact ⟨rfl, k, rfl⟩
  · go_enter Tryd.func24, Tryd.ntmps24
    go_wp2_with fail
    refine Calls.mono HP.out ?_; rintro e w2 ⟨rfl, k, rfl⟩
    go_wp2_with fail
    go_ret
    exact ⟨rfl, k, rfl⟩

/-- the range that lies in a document's decoder's block -/
def rngOf3 (x : Nat) (w : World) : Nat := (intOf ((w.cell? ⟨x, 3, none⟩).getD (.int .u64 0))).toNat

theorem fetch64 {c z : Nat} (hc : c < 16777216) (hz : z < 256) : IntKind.u64.wrap (IntKind.u64.wrap ((c : Int) * 256) + (z : Int)) = ((c * 256 + z : Nat) : Int) := by
  rw [IntKind.wrap_u64, IntKind.wrap_u64]; omega

set_option maxRecDepth 100000 in
set_option maxHeartbeats 1000000 in
theorem rtake_yes {w : World} {x b : Nat} {zs : List Nat} {q c g : Nat} (h : Df w x b zs q c g) (hk : Dk c g) (hqb : q + 2 < 1099511627776) (lo hi : Nat) (hm : dMay c g lo hi) :
    Calls Tryd.prog 24 #[.pointer (some ⟨x, 0, none⟩), .int .u32 lo, .int .u32 hi] w fun e w' => e = .returned (.int .i64 0) ∧ Df w' x b zs (dTake zs c g q lo hi).2.2 (dTake zs c g q lo hi).1 (dTake zs c g q lo hi).2.1 ∧ Kp x w w' := by
  have hin := hm.in hk.below hk.least
  have hlt : lo < hi := Nat.lt_of_le_of_lt hm.1 hm.2.1
  have hwid := pWid_ok hk.least hlt hm.2.2
  have hgm := hk.most
  have HPA : Hid _ := fun w => rpart_any g lo hi w hgm hlt hm.2.2
  have hfin : dTake zs c g q lo hi = dn zs 2 (c - pBeg g lo) (pWid g lo hi) q := rfl
  generalize dTake zs c g q lo hi = out at *
  have HF : Hid _ := hfin
  clear hfin
  have HP : Hid _ := value_df h hk
  unfold dMay at hm
  obtain ⟨m1, m2, m3⟩ := hm
  generalize dVal c g = v at *
  generalize pBeg g lo = beg at *
  generalize pWid g lo hi = wid at *
  have hc := h.code
  have hr := h.rng
  have ht1 := h.thaw2
  have ht2 := h.thaw3
  have HD : Hid _ := h
  clear h
  go_enter Tryd.func24, Tryd.ntmps24
  go_wp2_with fail
  refine Calls.mono HP.out ?_; rintro e w2 ⟨rfl, k, rfl⟩
  go_wp2_with fail
  refine (HPA.out _).mono ?_; rintro e w3 ⟨rfl, rfl⟩
  go_wp2_with fail
  have h0 : Df (((w.drewN k).setCell ⟨x, 2, none⟩ (.int .u64 ((c : Int) - (beg : Nat)))).setCell ⟨x, 3, none⟩ (.int .u64 (wid : Nat))) x b zs q (c - beg) wid := by
    have := ((HD.out.same (w' := w.drewN k) rfl).setCode (c - beg)).setRng wid
    rw [show ((c - beg : Nat) : Int) = (c : Int) - beg from by omega] at this
    exact this
  have k0 : Kp x w (((w.drewN k).setCell ⟨x, 2, none⟩ (.int .u64 ((c : Int) - (beg : Nat)))).setCell ⟨x, 3, none⟩ (.int .u64 (wid : Nat))) := (((Kp.refl x w).drewN k).trans (Kp.set _ _ _ _)).trans (Kp.set _ _ _ _)
  clear hc hr ht1 ht2
  go_loopw [] (fun wr => ∃ f c' g' q', Df wr x b zs q' c' g' ∧ Kp x w wr ∧ Hid (dn zs f c' g' q' = out) ∧ Hid (c' < g') ∧ Hid (g' < 4294967296) ∧ Hid (16777216 ≤ g' * 256 ^ f) ∧ Hid (q' + f ≤ q + 2)) (fun wr => 4294967296 - rngOf3 x wr)
  case atStart => exact ⟨2, _, _, _, h0, k0, HF.out.symm, hin.2, (show wid < 4294967296 by omega), (show 16777216 ≤ wid * 256 ^ 2 by omega), (show q + 2 ≤ q + 2 by omega)⟩
  case round =>
    clear h0 k0 HF HPA HP HD hk hin hwid hlt hgm m1 m2 m3
    obtain ⟨f, c', g', q', hd, hk, HN, HCG, HGM, HFU, HQB⟩ := hrel
    have hr := hd.rng
    by_cases hlt : g' < 16777216
    · obtain ⟨f, rfl⟩ : ∃ f', f = f' + 1 := ⟨f - 1, by
        rcases f with _ | f
        · have := HFU.out; simp at this; omega
        · omega⟩
      have hlt' : ((g' : Int) < 16777216) := by omega
      have HLT : Hid (g' < 16777216) := hlt
      have HPOS : Hid (0 < g') := by
        show 0 < g'
        have h1 := HFU.out
        rcases Nat.eq_zero_or_pos g' with e | e
        · rw [e] at h1; simp at h1
        · exact e
      have hqb' : q' < 1099511627776 := by have := HQB.out; omega
      have HNX : Hid (Calls Tryd.prog 35 #[.pointer (some ⟨x, 0, none⟩)] wr.drew fun e w' => e = .returned (.int .u64 (zs.getD q' 0 : Nat)) ∧ Df w' x b zs (q' + 1) c' g' ∧ Kp x wr w' ∧ w'.cell? ⟨x, 2, none⟩ = some (.int .u64 (c' : Nat)) ∧ w'.frozen? ⟨x, 2, none⟩ = false) := (next_df (hd.same (w' := wr.drew) rfl) hqb').mono fun e w' ⟨h1, h2, h3⟩ => ⟨h1, h2, ((Kp.refl x wr).drew).trans h3, h2.code, h2.thaw2⟩
      have hc := hd.code
      have hf := hd.thaw2
      have hz := hd.byt q'
      have HFE : Hid _ := fetch64 (c := c') (z := zs.getD q' 0) (by have := HCG.out; omega) hz
      have HZ : Hid _ := hz
      clear hlt hz
      obtain ⟨z, hzz⟩ : ∃ z, zs.getD q' 0 = z := ⟨_, rfl⟩
      rw [hzz] at HNX HFE HZ
      have HZE : Hid _ := hzz
      clear hzz
      go_wp2_with fail
      go_region_with ((go_at_call 35; refine Calls.mono HNX.out ?_; rintro e w2 ⟨rfl, hd2, hk2, hc2, hf2⟩))
      all_goals
        have hr2 := hd2.rng
        have ht2 := hd2.thaw3
        have HD2 : Hid _ := hd2
        clear hd2 hc2 hf2
        go_wp2_with fail
        refine ⟨?_, ?_⟩
        · rw [HFE.out]
          have h3 := (HD2.out.setCode (c' * 256 + z)).setRng (g' * 256)
          rw [show ((g' * 256 : Nat) : Int) = (g' : Int) * 256 from by omega] at h3
          have hlt := HLT.out
          have hgm := HGM.out
          have hcg := HCG.out
          have hz := HZ.out
          have hqq := HQB.out
          refine ⟨f, c' * 256 + z, g' * 256, q' + 1, h3, ((hk.trans hk2).trans (Kp.set _ _ _ _)).trans (Kp.set _ _ _ _), ?_, (show c' * 256 + z < g' * 256 by omega), (show g' * 256 < 4294967296 by omega), ?_, (show q' + 1 + f ≤ q + 2 by omega)⟩
          · have := HN.out
            rw [dn, if_pos hlt, HZE.out] at this
            exact this
          · have := HFU.out
            rw [Nat.pow_succ', ← Nat.mul_assoc] at this
            exact this
        · have e1 : rngOf3 x wr = g' := by unfold rngOf3; rw [hr]; rfl
          have e2 : ∀ u : Value, rngOf3 x ((w2.setCell ⟨x, 2, none⟩ u).setCell ⟨x, 3, none⟩ (.int .u64 ((g' : Int) * 256))) = g' * 256 := fun u => by
            unfold rngOf3; rw [World.cell?_setCell_same _ _ _ ((World.cell?_setCell_other _ _ _ _ (by simp)).trans hr2)]; simp [intOf]; omega
          rw [e1, e2]
          have h2 := HPOS.out
          have h3 := HGM.out
          omega
    · have hlt' : decide ((g' : Int) < 16777216) = false := by simp; omega
      have HLT : Hid (¬ g' < 16777216) := hlt
      clear hlt
      go_wp2_with fail
      go_ret
      have hlt := HLT.out
      have := HN.out
      have e : dn zs f c' g' q' = (c', g', q') := by
        rcases f with _ | f
        · rfl
        · rw [dn, if_neg hlt]
      rw [e] at this
      subst this
      exact ⟨rfl, hd, hk⟩

end Go.Proofs.YtogaekjohnbbiaaDoor
