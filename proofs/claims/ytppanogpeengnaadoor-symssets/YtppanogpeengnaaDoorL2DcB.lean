/- DERIVED. The walk of a decoder's Take where it narrows, and those of slices.Clone over bytes and of rac.Read. -/
import Derived.Test.YtppanogpeengnaaDoorL2DcA
import Derived.Deep.AppendLies
import Derived.Deep.RegionHeld3
namespace Go.Proofs.YtppanogpeengnaaDoor.L2
open Go.RowKit

set_option maxRecDepth 100000 in
set_option maxHeartbeats 1000000 in
theorem take_yes {w : World} {x b : Nat} {zs : List Nat} {q c g : Nat} (h : Dc w x b zs q c g) (hk : Dk c g) (lo hi : Nat) (hm : dMay c g lo hi) :
    Calls Tryd.prog 102 #[.pointer (some ⟨x, 0, none⟩), .int .u32 lo, .int .u32 hi] w fun e w' => e = .returned (.int .i64 0) ∧ Dc w' x b zs (dTake zs c g q lo hi).2.2 (dTake zs c g q lo hi).1 (dTake zs c g q lo hi).2.1 ∧ Kp x w w' := by
  have hg : 0 < g := by have := hk.least; omega
  have hin := hm.in hk.below hk.least
  have hlt : lo < hi := Nat.lt_of_le_of_lt hm.1 hm.2.1
  have hwid := pWid_ok hk.least hlt hm.2.2
  have hgm := hk.most
  have HPA : Hid _ := fun w => part_any g lo hi w hgm hlt hm.2.2
  have hfin : dTake zs c g q lo hi = dn zs 2 (c - pBeg g lo) (pWid g lo hi) q := rfl
  generalize dTake zs c g q lo hi = out at *
  have HF : Hid _ := hfin
  clear hfin
  have HP : Hid _ := fun w (hc : World.cell? w ⟨x, 1, none⟩ = some (.int .u32 (c : Nat))) h => dplace_any hc h hk
  unfold dMay at hm
  obtain ⟨m1, m2, m3⟩ := hm
  generalize dVal c g = v at *
  generalize pBeg g lo = beg at *
  generalize pWid g lo hi = wid at *
  have hc := h.code
  have hr := h.rng
  have ht1 := h.thaw1
  have ht2 := h.thaw2
  have HD : Hid _ := h
  clear h
  go_enter Tryd.func102, Tryd.ntmps102
  go_wp2_with fail
  refine (dnone_any hr hg).mono ?_; rintro e w1 ⟨rfl, rfl⟩
  go_wp2_with fail
  refine (HP.out _ hc hr).mono ?_; rintro e w2 ⟨rfl, k, rfl⟩
  go_wp2_with fail
  refine (HPA.out _).mono ?_; rintro e w3 ⟨rfl, rfl⟩
  go_wp2_with fail
  have h0 : Dc (((w1.drewN k).setCell ⟨x, 1, none⟩ (.int .u32 ((c : Int) - (beg : Nat)))).setCell ⟨x, 2, none⟩ (.int .u32 (wid : Nat))) x b zs q (c - beg) wid := by
    have := ((HD.out.same (w' := w1.drewN k) rfl).setCode (c - beg)).setRng wid
    rw [show ((c - beg : Nat) : Int) = (c : Int) - beg from by omega] at this
    exact this
  have k0 : Kp x w1 (((w1.drewN k).setCell ⟨x, 1, none⟩ (.int .u32 ((c : Int) - (beg : Nat)))).setCell ⟨x, 2, none⟩ (.int .u32 (wid : Nat))) := (((Kp.refl x w1).drewN k).trans (Kp.set _ _ _ _)).trans (Kp.set _ _ _ _)
  clear hc hr ht1 ht2
  go_loopw [] (fun wr => ∃ f c' g' q', Dc wr x b zs q' c' g' ∧ Kp x w1 wr ∧ Hid (dn zs f c' g' q' = out) ∧ c' < g' ∧ g' < 4294967296 ∧ Hid (16777216 ≤ g' * 256 ^ f)) (fun wr => 4294967296 - rngOf x wr)
  case atStart => exact ⟨2, _, _, _, h0, k0, HF.out.symm, hin.2, by omega, show 16777216 ≤ wid * 256 ^ 2 by omega⟩
  case round =>
    clear h0 k0 HF HPA HP HD hk hin hwid hlt hgm m1 m2 m3 hg
    obtain ⟨f, c', g', q', hd, hk, HN, hcg, hgm', HFU⟩ := hrel
    have HCG : Hid (c' < g') := hcg
    clear hcg
    have hr := hd.rng
    by_cases hlt : g' < 16777216
    · obtain ⟨f, rfl⟩ : ∃ f', f = f' + 1 := ⟨f - 1, by
        rcases f with _ | f
        · have := HFU.out; simp at this; omega
        · omega⟩
      have hlt' : ((g' : Int) < 16777216) := by omega
      have HLT : Hid (g' < 16777216) := hlt
      have HGM : Hid (g' < 4294967296) := hgm'
      clear hlt hgm'
      go_wp2_with fail
      refine (fetch_dc hd (by have := HCG.out; have := HLT.out; omega)).mono ?_; rintro e w2 ⟨rfl, hd2, hk2⟩
      have hr2 := hd2.rng
      have ht2 := hd2.thaw2
      go_wp2_with fail
      go_roundw
      case rel =>
        have h3 := hd2.setRng (g' * 256)
        rw [show ((g' * 256 : Nat) : Int) = (g' : Int) * 256 from by omega] at h3
        have hz := hd.byt q'
        have hcg := HCG.out
        have hlt := HLT.out
        have hgm' := HGM.out
        refine ⟨f, c' * 256 + zs.getD q' 0, g' * 256, q' + 1, h3, (hk.trans hk2).trans (Kp.set _ _ _ _), ?_, by omega, by omega, ?_⟩
        · have := HN.out
          rw [dn, if_pos hlt] at this
          exact this
        · have := HFU.out
          rw [Nat.pow_succ', ← Nat.mul_assoc] at this
          exact this
      case measure =>
        have e1 : rngOf x wr = g' := by unfold rngOf; rw [hr]; rfl
        have e2 : rngOf x (w2.setCell ⟨x, 2, none⟩ (.int .u32 ((g' : Int) * 256))) = g' * 256 := by
          unfold rngOf; rw [World.cell?_setCell_same _ _ _ hr2]; simp [intOf]; omega
        rw [e1, e2]
        have h1 := HFU.out
        have h2 : 0 < g' := by
          rcases Nat.eq_zero_or_pos g' with e | e
          · rw [e] at h1; simp at h1
          · exact e
        have h3 := HGM.out
        omega
    · have hlt' : decide ((g' : Int) < 16777216) = false := by simp; omega
      have HLT : Hid (¬ g' < 16777216) := hlt
      clear hlt hgm'
      go_wp2_with fail
      go_ret
      have hlt := HLT.out
      have := HN.out
      have e : dn zs f c' g' q' = (c', g', q') := by
        rcases f with _ | f
        · rfl
        · rw [dn, if_neg hlt]
      rw [e] at this
      subst this
      exact ⟨rfl, hd, hk⟩

/-! ### bytes that are copied -/
/-- bytes, as cells -/
def bs (zs : List Nat) : List Value := zs.map fun z : Nat => .int .u8 (z : Int)
theorem bs_length (zs : List Nat) : (bs zs).length = zs.length := by simp [bs]
theorem bs_get (zs : List Nat) (j : Nat) (h : j < zs.length) : (bs zs)[j]? = some (.int .u8 (zs.getD j 0 : Nat)) := by
  simp [bs, List.getElem?_eq_getElem h]
theorem bs_one (zs : List Nat) : ∀ u ∈ bs zs, u.oneCell' = true := by
  intro u hu
  obtain ⟨z, _, rfl⟩ := List.mem_map.1 hu
  rfl
theorem bs_set (zs : List Nat) (q b : Nat) : bs (zs.set q b) = (bs zs).set q (.int .u8 (b : Int)) := by simp [bs]
theorem bs_append (xs ys : List Nat) : bs (xs ++ ys) = bs xs ++ bs ys := by simp [bs]
theorem Tryd.info5 : (Tryd.prog.info? 5).map (fun i => (i.zero, i.size, i.bytes)) = some (some (.int .u8 0), 1, 1) := by kernel_rfl

theorem clone_q32 (w : World) (a : Option Addr) (n c n' c' : Nat) : (binOp .eql 44 (.slice a n c) (.slice none n' c')).run Tryd.prog w = .ok (.bool a.isNone) w := Lib.run_eql_slice_nil w 44 5 a n c n' c' Tryd.underlying44

set_option maxHeartbeats 400000 in
theorem clone_nil (w : World) : Calls Tryd.prog 73 #[.slice none 0 0] w fun e w' => e = .returned (.slice none 0 0) ∧ w' = w := by
  have q32 := clone_q32
  go_enter Tryd.func73, Tryd.ntmps73
  go_wp2
  go_ret
  exact ⟨rfl, rfl⟩

set_option maxHeartbeats 400000 in
theorem clone_empty (ad : Addr) (c : Nat) (w : World) : Calls Tryd.prog 73 #[.slice (some ad) 0 c] w fun e w' => e = .returned (.slice (some ⟨w.heap.size, 0, none⟩) 0 0) ∧ w' = w.alloc (.cells #[] 5) := by
  have q32 := clone_q32
  go_enter Tryd.func73, Tryd.ntmps73
  go_wp2
  go_ret
  exact ⟨rfl, rfl⟩

set_option maxHeartbeats 400000 in
theorem clone_some (ad : Addr) (c : Nat) (zs : List Nat) (w : World) (hc : ∀ j, j < zs.length → w.cell? (ad.add j) = some (.int .u8 (zs.getD j 0 : Nat))) (hl : zs.length ≤ 140737488355328) (h0 : 0 < zs.length) :
    Calls Tryd.prog 73 #[.slice (some ad) zs.length c] w fun e w' => ∃ v, e = .returned v ∧ w'.ownsRow w.heap.size 5 1 v zs.length (bs zs) ∧ Below w.heap.size w w' := by
  have q32 := clone_q32
  obtain ⟨i, hi, hz0, hz1, hz2⟩ := info_parts Tryd.info5
  have hown : (w.alloc (.cells #[] 5)).ownsRow w.heap.size 5 1 (.slice (some ⟨w.heap.size, 0, none⟩) 0 0) 0 [] := World.ownsRow_made w #[] 0 (Nat.le_refl _) (by simp) (by simp)
  have hnews : ∀ j u, (bs zs)[j]? = some u → (w.alloc (.cells #[] 5)).cell? (ad.add j) = some u := by
    intro j u hu
    have hj : j < zs.length := by have := List.getElem?_eq_some_iff.1 hu; obtain ⟨h1, _⟩ := this; rw [bs_length] at h1; exact h1
    rw [bs_get zs j hj] at hu
    rw [← hu]
    have := hc j hj
    rw [World.cell?_alloc_lt _ _ _ (World.block_lt_of_cell? w _ this)]
    exact this
  go_enter Tryd.func73, Tryd.ntmps73
  go_wp2_with (at_builtin; refine wpList_append_lies _ (by rfl) _ _ _ (by rfl) w.heap.size 5 i (.int .u8 0) 1 1 Tryd.underlying44 hi hz0 hz1 hz2 rfl (by omega) _ 0 [] (by rfl) hown ad zs.length c (bs zs) (by rfl) (by rw [bs_length, Nat.mul_one]) hnews (bs_one zs) h0 (by unfold maxLen; omega) (by omega) (by simp) (w.heap.size + 1) (by simp) ?_; intro g cap w1 hown1 hgrow hat hlt)
  go_ret
  rw [List.nil_append, Nat.zero_add] at hown1
  refine ⟨_, rfl, hown1, ?_⟩
  exact ((Below.refl _ _).alloc (Nat.le_refl _) _).grown hgrow (by simp) (fun k hk => by simp [Value.ownBlock] at hk; omega)

/-- a byte slice that can be read: nil, or cells behind an address -/
def SrcOf (w : World) (v : Value) (zs : List Nat) : Prop :=
  (zs = [] ∧ v = .slice none 0 0) ∨ ∃ ad c, v = .slice (some ad) zs.length c ∧ ∀ j, j < zs.length → w.cell? (ad.add j) = some (.int .u8 (zs.getD j 0 : Nat))

theorem own_slice {w : World} {B e size n : Nat} {v : Value} {xs : List Value} (h : w.ownsRow B e size v n xs) : ∃ a c, v = .slice a n c := by
  rcases h.2 with ⟨rfl, rfl⟩ | ⟨g, cap, cur, rfl, _⟩
  · exact ⟨_, _, rfl⟩
  · exact ⟨_, _, rfl⟩

theorem clone_any {w : World} {v : Value} {zs : List Nat} (h : SrcOf w v zs) (hl : zs.length ≤ 140737488355328) :
    Calls Tryd.prog 73 #[v] w fun e w' => ∃ a c, e = .returned (.slice a zs.length c) ∧ w'.ownsRow w.heap.size 5 1 (.slice a zs.length c) zs.length (bs zs) ∧ Below w.heap.size w w' := by
  rcases h with ⟨rfl, rfl⟩ | ⟨ad, c, rfl, hc⟩
  · refine (clone_nil w).mono ?_
    rintro e w' ⟨rfl, rfl⟩
    exact ⟨_, _, rfl, World.ownsRow_nil _ _ _ _, Below.refl _ _⟩
  · by_cases h0 : zs.length = 0
    · obtain rfl : zs = [] := List.eq_nil_of_length_eq_zero h0
      refine (clone_empty ad c w).mono ?_
      rintro e w' ⟨rfl, rfl⟩
      exact ⟨_, _, rfl, World.ownsRow_made w #[] 0 (Nat.le_refl _) (by simp) (by simp), (Below.refl _ _).alloc (Nat.le_refl _) _⟩
    · refine (clone_some ad c zs w hc hl (by omega)).mono ?_
      rintro e w' ⟨v, rfl, h1, h2⟩
      obtain ⟨a, c, rfl⟩ := own_slice h1
      exact ⟨a, c, rfl, h1, h2⟩

/-- an owned row of bytes, as a decoder's data; the block lies behind B -/
theorem Dt.ofOwn {w : World} {B : Nat} {v : Value} {zs : List Nat} (h : w.ownsRow B 5 1 v zs.length (bs zs)) : ∃ b, B ≤ b ∧ (b < w.heap.size ∨ b = w.heap.size + B + 1) ∧ (zs ≠ [] → b < w.heap.size) ∧ Dt w v b zs := by
  have hlt := h.lt
  obtain ⟨h1, h2⟩ := h
  rcases h2 with ⟨rfl, h0⟩ | ⟨g, cap, cur, rfl, hB, hg, hn, hm, hs, ht⟩
  · exact ⟨w.heap.size + B + 1, by omega, Or.inr rfl, fun h => absurd (List.eq_nil_of_length_eq_zero h0) h, Or.inl ⟨List.eq_nil_of_length_eq_zero h0, _, _, rfl⟩⟩
  · refine ⟨g, hB, Or.inl (hlt g rfl).2, fun _ => (hlt g rfl).2, Or.inr ⟨0, cap, (hlt g rfl).2, hn, rfl, fun i hi => ?_⟩⟩
    have hown : w.ownsRow B 5 1 (.slice (some ⟨g, 0, none⟩) zs.length cap) zs.length (bs zs) := ⟨h1, Or.inr ⟨g, cap, cur, rfl, hB, hg, hn, hm, hs, ht⟩⟩
    rw [Nat.zero_add, hown.cellAt i (by omega)]
    exact bs_get zs i hi

/-- a decoder as it is at first -/
def dFirst (zs : List Nat) : Nat := min (pre zs 4) 4294967294
theorem dFirst_ok {zs : List Nat} : Dk (dFirst zs) 4294967295 := ⟨by unfold dFirst; omega, by omega, by omega⟩

end Go.Proofs.YtppanogpeengnaaDoor.L2
