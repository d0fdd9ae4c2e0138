/- DERIVED. A list of parts that lies in memory; the walk of the statement RacEndless. -/
import Derived.Test.YtogaekjohnbbiaaDoorLwC
namespace Go.Proofs.YtogaekjohnbbiaaDoor
open Go.RowKit

/-- a fact that no step of a walk may unfold -/
structure Bx (p : Prop) : Prop where
  out : p

/-- a list of parts that lies in memory -/
def PtAt (w : World) (v : Value) (L : List (Nat × Nat)) : Prop :=
  (L = [] ∧ ∃ a c, v = .slice a 0 c) ∨ ∃ b off c, v = .slice (some ⟨b, off, none⟩) L.length c ∧ b < w.heap.size ∧
    ∀ j, j < L.length → w.cell? ⟨b, off + j * 2, none⟩ = some (.int .u32 ((L.getD j (0, 0)).1 : Nat)) ∧ w.cell? ⟨b, off + j * 2 + 1, none⟩ = some (.int .u32 ((L.getD j (0, 0)).2 : Nat)) ∧ (L.getD j (0, 0)).1 < 4294967296 ∧ (L.getD j (0, 0)).2 < 4294967296
theorem PtAt.cells {w : World} {a : Option Addr} {n c : Nat} {L : List (Nat × Nat)} (h : PtAt w (.slice a n c) L) (j : Nat) (hj : j < L.length) : ∃ b off, a = some ⟨b, off, none⟩ ∧ b < w.heap.size ∧
    w.cell? ⟨b, off + j * 2, none⟩ = some (.int .u32 ((L.getD j (0, 0)).1 : Nat)) ∧ w.cell? ⟨b, off + j * 2 + 1, none⟩ = some (.int .u32 ((L.getD j (0, 0)).2 : Nat)) ∧ (L.getD j (0, 0)).1 < 4294967296 ∧ (L.getD j (0, 0)).2 < 4294967296 := by
  rcases h with ⟨rfl, _⟩ | ⟨b, off, c', hv, hb, hc⟩
  · simp at hj
  · simp only [Value.slice.injEq] at hv
    exact ⟨b, off, hv.1, hb, hc j hj⟩
theorem ptCells {W w : World} {b off k P Q : Nat} (hb : Below W.heap.size W w) (hbl : b < W.heap.size) (h0 : Hid (W.cell? ⟨b, off + k * 2, none⟩ = some (.int .u32 (P : Nat)))) (h1 : Hid (W.cell? ⟨b, off + k * 2 + 1, none⟩ = some (.int .u32 (Q : Nat)))) :
    w.cell? ⟨b, off + k * 2, none⟩ = some (.int .u32 (P : Nat)) ∧ w.cell? ⟨b, off + k * 2 + 1, none⟩ = some (.int .u32 (Q : Nat)) := by
  rw [hb.cell (p := ⟨b, off + k * 2, none⟩) hbl, hb.cell (p := ⟨b, off + k * 2 + 1, none⟩) hbl]
  exact ⟨h0.out, h1.out⟩
theorem SrcOf.below {W u : World} {v : Value} {zs : List Nat} (h : SrcOf W v zs) (hb : Below W.heap.size W u) : SrcOf u v zs := by
  rcases h with h | ⟨ad, cc, rfl, hc⟩
  · exact Or.inl h
  · exact Or.inr ⟨ad, cc, rfl, fun j hj => by rw [hb.cell (World.block_lt_of_cell? W _ (hc j hj))]; exact hc j hj⟩

/-- a decoder in block x of the bytes zs, wherever it stands -/
def Ds (w : World) (x b : Nat) (zs : List Nat) (q c g : Nat) : Prop := Dc w x b zs q c g ∧ Dk c g
theorem Ds.same {w w' : World} {x b : Nat} {zs : List Nat} {q c g : Nat} (h : Ds w x b zs q c g) (e : w'.heap = w.heap) : Ds w' x b zs q c g := ⟨h.1.same e, h.2⟩
theorem Ds.below {w w' : World} {x b : Nat} {zs : List Nat} {q c g : Nat} (h : Ds w x b zs q c g) (hb : Below w.heap.size w w') : Ds w' x b zs q c g := ⟨h.1.below hb, h.2⟩
theorem Ds.kp {w w' : World} {x b y : Nat} {zs : List Nat} {q c g : Nat} (h : Ds w x b zs q c g) (hk : Kp y w w') (hx : x ≠ y) (hb : b ≠ y) : Ds w' x b zs q c g := ⟨h.1.kp hk hx hb, h.2⟩
/-- a decoder that is narrowed -/
theorem take_ds {w : World} {x b : Nat} {zs : List Nat} {q c g : Nat} (h : Ds w x b zs q c g) (lo hi : Nat) (hm : dMay c g lo hi) :
    Calls Tryd.prog 23 #[.pointer (some ⟨x, 0, none⟩), .int .u32 lo, .int .u32 hi] w fun e w' => e = .returned (.int .i64 0) ∧ Ds w' x b zs (dTake zs c g q lo hi).2.2 (dTake zs c g q lo hi).1 (dTake zs c g q lo hi).2.1 ∧ Kp x w w' := by
  refine (take_yes h.1 h.2 lo hi hm).mono ?_
  rintro e w' ⟨rfl, h1, h2⟩
  have ho := dTake_ok (q := q) h.1.byt hm h.2.below h.2.least h.2.most
  exact ⟨rfl, ⟨h1, ⟨ho.1, ho.2.1, ho.2.2.1⟩⟩, h2⟩

def EdInv (W : World) (n x b : Nat) (zs : List Nat) (i : Value) (wr : World) : Prop :=
  ∃ (k q c g : Nat), i = .int .i64 k ∧ k ≤ n ∧ k ≤ 500 ∧ Ds wr x b zs q c g ∧ Below W.heap.size W wr

set_option maxHeartbeats 1000000 in
set_option maxRecDepth 100000 in
theorem endless_walk (W : World) (vb : Value) (zs : List Nat) (a : Option Addr) (cp : Nat) (L : List (Nat × Nat)) (hb : SrcOf W vb zs) (hz : ∀ i, zs.getD i 0 < 256) (hzl : zs.length ≤ 140737488355328) (hL : PtAt W (.slice a L.length cp) L) (hLl : L.length ≤ 140737488355328) :
    Calls Tryd.prog 6 #[vb, .slice a L.length cp] W fun e w' => e = .returned (.bool true) ∧ Below W.heap.size W w' := by
  have HPt : Hid (PtAt W (.slice a L.length cp) L) := hL
  have HSr : Hid (SrcOf W vb zs) := hb
  clear hL hb
  go_enter Tryd.func6, Tryd.ntmps6
  go_wp2_with fail
  refine (works_true W).mono ?_; rintro e u1 ⟨rfl, hu1⟩
  go_wp2_with fail
  refine (read_any (HSr.out.below hu1) hz hzl).mono ?_; rintro e u2 ⟨x, rfl, b, hd2, hx2, hb2, hbel2⟩
  have HU2 : Hid (Below W.heap.size W u2) := hu1.trans (hbel2.mono hu1.size)
  have hxW : W.heap.size ≤ x := Nat.le_trans hu1.size hx2
  have hds : Ds u2 x b zs 4 (dFirst zs) 4294967295 := ⟨hd2, dFirst_ok⟩
  clear hd2 hx2 hb2 hbel2 hu1
  go_wp2_with fail
  go_loopw [6] (fun i wr => EdInv W L.length x b zs i wr) (fun i _ => L.length - (intOf i).toNat)
  case atStart => exact ⟨0, _, _, _, rfl, by omega, by omega, hds, HU2.out⟩
  case round =>
    clear hds HU2 HSr hz
    obtain ⟨k, q, c, g, rfl, hk1, hk2, hd, hbW⟩ := hrel
    have HB : Hid (Below W.heap.size W wr) := hbW
    clear hbW
    by_cases hlt : k < L.length ∧ k < 500
    · obtain ⟨hlt1, hlt2⟩ := hlt
      obtain ⟨pb, off, rfl, hbl, hq0, hq1, hP, hQ⟩ := HPt.out.cells k hlt1
      generalize L.getD k (0, 0) = el at hq0 hq1 hP hQ
      obtain ⟨P, Q⟩ := el
      simp only at hq0 hq1 hP hQ
      replace hq0 : Hid _ := hq0
      replace hq1 : Hid _ := hq1
      have HVA : Hid (∀ u, Ds u x b zs q c g → Calls Tryd.prog 20 #[.pointer (some ⟨x, 0, none⟩)] u fun e w' => e = .returned (.tuple #[.int .u32 (dVal c g : Nat), .int .i64 0]) ∧ ∃ k, w' = u.drewN k) := fun u h => value_dc h.1 h.2
      have HNO : Hid (∀ u lo hi, Ds u x b zs q c g → ¬ (lo ≤ dVal c g ∧ dVal c g < hi ∧ hi ≤ 32768) → Calls Tryd.prog 23 #[.pointer (some ⟨x, 0, none⟩), .int .u32 (lo : Nat), .int .u32 (hi : Nat)] u fun e w' => e = .returned (.int .i64 2) ∧ ∃ k, w' = u.drewN k) := fun u lo hi h hm => take_no h.1 h.2 lo hi hm
      have HYE : Hid (∀ u lo hi, Ds u x b zs q c g → (lo ≤ dVal c g ∧ dVal c g < hi ∧ hi ≤ 32768) → Calls Tryd.prog 23 #[.pointer (some ⟨x, 0, none⟩), .int .u32 (lo : Nat), .int .u32 (hi : Nat)] u fun e w' => e = .returned (.int .i64 0) ∧ ∃ q' c' g', Ds w' x b zs q' c' g' ∧ Kp x u w') := fun u lo hi h hm => (take_ds h lo hi hm).mono fun e w' ⟨h1, h2, h3⟩ => ⟨h1, _, _, _, h2, h3⟩
      have hv := dVal_lt c g
      generalize dVal c g = v at *
      have HAO := about_ok hv P Q
      have HAB : Hid _ := fun u => about_any v P Q u hv hP hQ
      have hv' : (v : Int) ≤ 32767 := by omega
      generalize aLo v P = al at *
      generalize aHi v Q = ah at *
      have HAO' : Hid _ := HAO
      clear HAO
      by_cases h0 : v = 0
      · subst h0
        go_wp2_with fail
        refine (HVA.out _ hd).mono ?_; rintro e w1 ⟨rfl, n1, rfl⟩
        have hd1 := hd.same (w' := wr.drewN n1) rfl
        have HB1 : Hid (Below W.heap.size W (wr.drewN n1)) := below_drewN HB.out n1
        clear hd HB
        generalize wr.drewN n1 = w1 at *
        go_wp2_with fail
        refine (HNO.out _ 1 32768 hd1 (by omega)).mono ?_; rintro e w2 ⟨rfl, n2, rfl⟩
        have hd2 := hd1.same (w' := w1.drewN n2) rfl
        have HB2 : Hid (Below W.heap.size W (w1.drewN n2)) := below_drewN HB1.out n2
        clear hd1 HB1
        generalize w1.drewN n2 = w2 at *
        go_wp2_with fail
        refine (HNO.out _ 0 0 hd2 (by omega)).mono ?_; rintro e w3 ⟨rfl, n3, rfl⟩
        have hd3 := hd2.same (w' := w2.drewN n3) rfl
        have HB3 : Hid (Below W.heap.size W (w2.drewN n3)) := below_drewN HB2.out n3
        clear hd2 HB2
        generalize w2.drewN n3 = w3 at *
        go_wp2_with fail
        refine (HNO.out _ 0 32769 hd3 (by omega)).mono ?_; rintro e w4 ⟨rfl, n4, rfl⟩
        have hd4 := hd3.same (w' := w3.drewN n4) rfl
        have HB4 : Hid (Below W.heap.size W (w3.drewN n4)) := below_drewN HB3.out n4
        clear hd3 HB3
        generalize w3.drewN n4 = w4 at *
        go_wp2_with fail
        refine (HVA.out _ hd4).mono ?_; rintro e w5 ⟨rfl, n5, rfl⟩
        have hd5 := hd4.same (w' := w4.drewN n5) rfl
        have HB5 : Hid (Below W.heap.size W (w4.drewN n5)) := below_drewN HB4.out n5
        clear hd4 HB4
        generalize w4.drewN n5 = w5 at *
        obtain ⟨c0, c1⟩ := ptCells HB5.out hbl hq0 hq1
        go_wp2_with fail
        refine (HAB.out _).mono ?_; rintro e wa ⟨rfl, hba⟩
        have hda := hd5.below hba
        have HBa : Hid (Below W.heap.size W wa) := HB5.out.trans (hba.mono HB5.out.size)
        clear hd5 HB5 hba c0 c1
        have hdp : Ds (wa.alloc (.cells #[.int .u32 (al : Nat), .int .u32 (ah : Nat)] 31)) x b zs q c g := hda.below ((Below.refl _ _).alloc (Nat.le_refl _) _)
        have HBp : Hid (Below W.heap.size W (wa.alloc (.cells #[.int .u32 (al : Nat), .int .u32 (ah : Nat)] 31))) := below_alloc HBa.out (Nat.le_refl _) _
        clear HBa
        go_wp2_with fail
        refine (HYE.out _ al ah hdp HAO'.out).mono ?_; rintro e wz ⟨rfl, qz, cz, gz, hdz, hkz⟩
        have HBz : Hid (Below W.heap.size W wz) := HBp.out.trans (hkz.toBelow hxW)
        clear hdp HBp hda hkz
        go_wp2_with fail
        go_roundw
        case rel => exact ⟨k + 1, qz, cz, gz, by go_num, by omega, by omega, hdz, HBz.out⟩
        case measure => simp [intOf]; omega
      · have h0' : (0 : Int) < (v : Int) := by omega
        by_cases h1 : v = 32767
        · subst h1
          go_wp2_with fail
          refine (HVA.out _ hd).mono ?_; rintro e w1 ⟨rfl, n1, rfl⟩
          have hd1 := hd.same (w' := wr.drewN n1) rfl
          have HB1 : Hid (Below W.heap.size W (wr.drewN n1)) := below_drewN HB.out n1
          clear hd HB
          generalize wr.drewN n1 = w1 at *
          go_wp2_with fail
          refine (HNO.out _ 0 32767 hd1 (by omega)).mono ?_; rintro e w2 ⟨rfl, n2, rfl⟩
          have hd2 := hd1.same (w' := w1.drewN n2) rfl
          have HB2 : Hid (Below W.heap.size W (w1.drewN n2)) := below_drewN HB1.out n2
          clear hd1 HB1
          generalize w1.drewN n2 = w2 at *
          go_wp2_with fail
          refine (HNO.out _ 32767 32767 hd2 (by omega)).mono ?_; rintro e w3 ⟨rfl, n3, rfl⟩
          have hd3 := hd2.same (w' := w2.drewN n3) rfl
          have HB3 : Hid (Below W.heap.size W (w2.drewN n3)) := below_drewN HB2.out n3
          clear hd2 HB2
          generalize w2.drewN n3 = w3 at *
          go_wp2_with fail
          refine (HNO.out _ 32767 32769 hd3 (by omega)).mono ?_; rintro e w4 ⟨rfl, n4, rfl⟩
          have hd4 := hd3.same (w' := w3.drewN n4) rfl
          have HB4 : Hid (Below W.heap.size W (w3.drewN n4)) := below_drewN HB3.out n4
          clear hd3 HB3
          generalize w3.drewN n4 = w4 at *
          go_wp2_with fail
          refine (HVA.out _ hd4).mono ?_; rintro e w5 ⟨rfl, n5, rfl⟩
          have hd5 := hd4.same (w' := w4.drewN n5) rfl
          have HB5 : Hid (Below W.heap.size W (w4.drewN n5)) := below_drewN HB4.out n5
          clear hd4 HB4
          generalize w4.drewN n5 = w5 at *
          obtain ⟨c0, c1⟩ := ptCells HB5.out hbl hq0 hq1
          go_wp2_with fail
          refine (HAB.out _).mono ?_; rintro e wa ⟨rfl, hba⟩
          have hda := hd5.below hba
          have HBa : Hid (Below W.heap.size W wa) := HB5.out.trans (hba.mono HB5.out.size)
          clear hd5 HB5 hba c0 c1
          have hdp : Ds (wa.alloc (.cells #[.int .u32 (al : Nat), .int .u32 (ah : Nat)] 31)) x b zs q c g := hda.below ((Below.refl _ _).alloc (Nat.le_refl _) _)
          have HBp : Hid (Below W.heap.size W (wa.alloc (.cells #[.int .u32 (al : Nat), .int .u32 (ah : Nat)] 31))) := below_alloc HBa.out (Nat.le_refl _) _
          clear HBa
          go_wp2_with fail
          refine (HYE.out _ al ah hdp HAO'.out).mono ?_; rintro e wz ⟨rfl, qz, cz, gz, hdz, hkz⟩
          have HBz : Hid (Below W.heap.size W wz) := HBp.out.trans (hkz.toBelow hxW)
          clear hdp HBp hda hkz
          go_wp2_with fail
          go_roundw
          case rel => exact ⟨k + 1, qz, cz, gz, by go_num, by omega, by omega, hdz, HBz.out⟩
          case measure => simp [intOf]; omega
        · have h1' : (v : Int) < 32767 := by omega
          have g1 : decide ((32767 : Int) < (v : Int)) = false := by simp; omega
          have g2 : decide ((0 : Int) < (v : Int)) = true := by simp; omega
          have g3 : decide ((v : Int) < 32767) = true := by simp; omega
          have G1 : Bx _ := ⟨g1⟩
          have G2 : Bx _ := ⟨g2⟩
          have G3 : Bx _ := ⟨g3⟩
          clear h0 h1 hv hv' h0' h1' g1 g2 g3
          go_wp2_with fail
          refine (HVA.out _ hd).mono ?_; rintro e w1 ⟨rfl, n1, rfl⟩
          have hd1 := hd.same (w' := wr.drewN n1) rfl
          have HB1 : Hid (Below W.heap.size W (wr.drewN n1)) := below_drewN HB.out n1
          clear hd HB
          generalize wr.drewN n1 = w1 at *
          have g1 : ¬ ((32767 : Int) < (v : Int)) := by have := G1.out; simpa using this
          have g2 : (0 : Int) < (v : Int) := by have := G2.out; simpa using this
          go_wp2_with fail
          refine (HNO.out _ 0 v hd1 (by omega)).mono ?_; rintro e w2 ⟨rfl, n2, rfl⟩
          have hd2 := hd1.same (w' := w1.drewN n2) rfl
          have HB2 : Hid (Below W.heap.size W (w1.drewN n2)) := below_drewN HB1.out n2
          clear hd1 HB1
          generalize w1.drewN n2 = w2 at *
          clear g1 g2
          have g3 : (v : Int) < 32767 := by have := G3.out; simpa using this
          go_wp2_with fail
          refine (HNO.out _ (v + 1) 32768 hd2 (by omega)).mono ?_; rintro e w3 ⟨rfl, n3, rfl⟩
          have hd3 := hd2.same (w' := w2.drewN n3) rfl
          have HB3 : Hid (Below W.heap.size W (w2.drewN n3)) := below_drewN HB2.out n3
          clear hd2 HB2
          generalize w2.drewN n3 = w3 at *
          clear g3
          go_wp2_with fail
          refine (HNO.out _ v v hd3 (by omega)).mono ?_; rintro e w4 ⟨rfl, n4, rfl⟩
          have hd4 := hd3.same (w' := w3.drewN n4) rfl
          have HB4 : Hid (Below W.heap.size W (w3.drewN n4)) := below_drewN HB3.out n4
          clear hd3 HB3
          generalize w3.drewN n4 = w4 at *
          go_wp2_with fail
          refine (HNO.out _ v 32769 hd4 (by omega)).mono ?_; rintro e w5 ⟨rfl, n5, rfl⟩
          have hd5 := hd4.same (w' := w4.drewN n5) rfl
          have HB5 : Hid (Below W.heap.size W (w4.drewN n5)) := below_drewN HB4.out n5
          clear hd4 HB4
          generalize w4.drewN n5 = w5 at *
          go_wp2_with fail
          refine (HVA.out _ hd5).mono ?_; rintro e w6 ⟨rfl, n6, rfl⟩
          have hd6 := hd5.same (w' := w5.drewN n6) rfl
          have HB6 : Hid (Below W.heap.size W (w5.drewN n6)) := below_drewN HB5.out n6
          clear hd5 HB5
          generalize w5.drewN n6 = w6 at *
          obtain ⟨c0, c1⟩ := ptCells HB6.out hbl hq0 hq1
          go_wp2_with fail
          refine (HAB.out _).mono ?_; rintro e wa ⟨rfl, hba⟩
          have hda := hd6.below hba
          have HBa : Hid (Below W.heap.size W wa) := HB6.out.trans (hba.mono HB6.out.size)
          clear hd6 HB6 hba c0 c1
          have hdp : Ds (wa.alloc (.cells #[.int .u32 (al : Nat), .int .u32 (ah : Nat)] 31)) x b zs q c g := hda.below ((Below.refl _ _).alloc (Nat.le_refl _) _)
          have HBp : Hid (Below W.heap.size W (wa.alloc (.cells #[.int .u32 (al : Nat), .int .u32 (ah : Nat)] 31))) := below_alloc HBa.out (Nat.le_refl _) _
          clear HBa
          go_wp2_with fail
          refine (HYE.out _ al ah hdp HAO'.out).mono ?_; rintro e wz ⟨rfl, qz, cz, gz, hdz, hkz⟩
          have HBz : Hid (Below W.heap.size W wz) := HBp.out.trans (hkz.toBelow hxW)
          clear hdp HBp hda hkz
          go_wp2_with fail
          go_roundw
          case rel => exact ⟨k + 1, qz, cz, gz, by go_num, by omega, by omega, hdz, HBz.out⟩
          case measure => simp [intOf]; omega
    · by_cases h1 : k < L.length
      · have h2 : ¬ k < 500 := by omega
        go_wp2_with fail
        go_ret
        exact ⟨rfl, HB.out⟩
      · go_wp2_with fail
        go_ret
        exact ⟨rfl, HB.out⟩

end Go.Proofs.YtogaekjohnbbiaaDoor
