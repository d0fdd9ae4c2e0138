/- DERIVED. The walk of the statement RacBack: what was put is found. -/
import Derived.Test.YtogaekjohnbbiaaDoorLwD
namespace Go.Proofs.YtogaekjohnbbiaaDoor
open Go.RowKit

/-- an encoder behind the first i parts -/
def est (L : List (Nat × Nat)) : Nat → Nat × Nat × Nat
  | 0 => (0, 4294967295, 0)
  | i + 1 => ePut (est L i).1 (est L i).2.1 (est L i).2.2 (mLo (L.getD i (0, 0)).1) (mHi (L.getD i (0, 0)).1 (L.getD i (0, 0)).2)
theorem est_ok (L : List (Nat × Nat)) : ∀ i, Ev (est L i).1 (est L i).2.1 (est L i).2.2 ∧ (est L i).2.2 ≤ 2 * i := by
  intro i
  induction i with
  | zero => exact ⟨Ev.first, Nat.le_refl _⟩
  | succ i ih =>
    have hm := may_ok (L.getD i (0, 0)).1 (L.getD i (0, 0)).2
    have h := ePut_ok ih.1 hm.1 hm.2
    rw [est]
    exact ⟨h.1, by have := ih.2; omega⟩
theorem est_inc (L : List (Nat × Nat)) (i : Nat) : ∀ m, Inc (est L i).1 (est L i).2.1 (est L i).2.2 (est L (i + m)).1 (est L (i + m)).2.1 (est L (i + m)).2.2 := by
  intro m
  induction m with
  | zero => exact Inc.refl _ _ _
  | succ m ih =>
    refine ih.trans ?_
    rw [← Nat.add_assoc, est]
    have hm := may_ok (L.getD (i + m) (0, 0)).1 (L.getD (i + m) (0, 0)).2
    have he := (est_ok L (i + m)).1
    have hw := pWid_ok he.least hm.1 hm.2
    refine Inc.trans ?_ (en_inc 2 _ _ _)
    exact ⟨Nat.le_refl _, by rw [Nat.sub_self, Nat.pow_zero, Nat.mul_one]; omega, by rw [Nat.sub_self, Nat.pow_zero, Nat.mul_one]; omega⟩
/-- where a decoder of the bytes stands behind the first i parts -/
structure Dst (L : List (Nat × Nat)) (zs : List Nat) (i q c g : Nat) : Prop where
  code : c + (est L i).1 = pre zs ((est L i).2.2 + 4)
  rng : g = (est L i).2.1
  read : q = (est L i).2.2 + 4
theorem Dst.first {L : List (Nat × Nat)} {zs : List Nat} {N : Nat} (hz : ∀ i, zs.getD i 0 < 256) (hp : pre zs ((est L N).2.2 + 4) = (est L N).1) : Dst L zs 0 4 (dFirst zs) 4294967295 := by
  have hi := est_inc L 0 N
  rw [Nat.zero_add] at hi
  have h := hi.in (by have := (est_ok L N).1.least; omega) hz hp
  refine ⟨?_, rfl, rfl⟩
  simp only [est, Nat.zero_add] at h ⊢
  unfold dFirst
  omega
theorem Dst.found {L : List (Nat × Nat)} {zs : List Nat} {N i q c g : Nat} (h : Dst L zs i q c g) (hz : ∀ i, zs.getD i 0 < 256) (hp : pre zs ((est L N).2.2 + 4) = (est L N).1) (hi : i < N) {P Q : Nat} (hel : L.getD i (0, 0) = (P, Q)) :
    dMay c g (mLo P) (mHi P Q) ∧ Dst L zs (i + 1) (dTake zs c g q (mLo P) (mHi P Q)).2.2 (dTake zs c g q (mLo P) (mHi P Q)).1 (dTake zs c g q (mLo P) (mHi P Q)).2.1 := by
  have hm := may_ok P Q
  have hin := est_inc L (i + 1) (N - (i + 1))
  rw [show i + 1 + (N - (i + 1)) = N from by omega] at hin
  have es : est L (i + 1) = ePut (est L i).1 (est L i).2.1 (est L i).2.2 (mLo P) (mHi P Q) := by rw [est, hel]
  rw [es] at hin
  obtain ⟨h1, h2, h3⟩ := h
  subst h2 h3
  have hf := Go.Proofs.YtogaekjohnbbiaaDoor.found hz (est_ok L i).1 hm.1 hm.2 h1 hin (by have := (est_ok L N).1.least; omega) hp
  exact ⟨hf.1, by rw [es]; exact hf.2.1, by rw [es]; exact hf.2.2.1, by rw [es]; exact hf.2.2.2⟩

def Bk1 (W : World) (L : List (Nat × Nat)) (N x : Nat) (i : Value) (wr : World) : Prop :=
  ∃ (k : Nat) (d : Value), i = .int .i64 k ∧ k ≤ N ∧ EnS wr W.heap.size x d (est L k).1 (est L k).2.1 (est L k).2.2 ∧ Below W.heap.size W wr
def Bk2 (W : World) (L : List (Nat × Nat)) (zs : List Nat) (N x b : Nat) (i : Value) (wr : World) : Prop :=
  ∃ (k q c g : Nat), i = .int .i64 k ∧ k ≤ N ∧ Ds wr x b zs q c g ∧ Dst L zs k q c g ∧ Below W.heap.size W wr

set_option maxHeartbeats 2000000 in
set_option maxRecDepth 100000 in
theorem back_walk (W : World) (a : Option Addr) (cp : Nat) (L : List (Nat × Nat)) (hL : PtAt W (.slice a L.length cp) L) (hLl : L.length ≤ 140737488355328) :
    Calls Tryd.prog 5 #[.slice a L.length cp] W fun e w' => e = .returned (.bool true) ∧ Below W.heap.size W w' := by
  have HPt : Hid (PtAt W (.slice a L.length cp) L) := hL
  clear hL
  by_cases hN : L.length ≤ 400
  · have hN' : (L.length : Int) ≤ 400 := by omega
    go_enter Tryd.func5, Tryd.ntmps5
    go_wp2_with fail
    refine (works_true W).mono ?_; rintro e u1 ⟨rfl, hu1⟩
    go_wp2_with fail
    refine (new_ens u1).mono ?_; rintro e u2 ⟨rfl, hw2, hb2⟩
    have HU2 : Hid (Below W.heap.size W u2) := hu1.trans (hb2.mono hu1.size)
    have hw2' : EnS u2 W.heap.size u1.heap.size (.slice none 0 0) 0 4294967295 0 := by
      obtain ⟨ys, low, h1, h2⟩ := hw2
      exact ⟨ys, low, ⟨h1.data, own_mono h1.own hu1.size, h1.apart, h1.low, h1.rng, h1.thaw0, h1.thaw1, h1.thaw2, ⟨hu1.size, h1.lies.2⟩, h1.byt⟩, h2⟩
    clear hw2 hb2
    generalize u1.heap.size = x at *
    go_wp2_with fail
    go_loopw [5] (fun i wr => Bk1 W L L.length x i wr) (fun i _ => L.length - (intOf i).toNat)
    case atStart => exact ⟨0, _, rfl, by omega, hw2', HU2.out⟩
    case round =>
      clear hw2' HU2 hu1
      obtain ⟨k, d, rfl, hk1, hE, hbW⟩ := hrel
      have HB : Hid (Below W.heap.size W wr) := hbW
      clear hbW
      have hev := est_ok L k
      have HEV : Hid _ := hev
      clear hev
      by_cases hlt : k < L.length
      · obtain ⟨pb, off, rfl, hbl, hq0, hq1, hP, hQ⟩ := HPt.out.cells k (by omega)
        obtain ⟨⟨P, Q⟩, hel⟩ : ∃ y, L.getD k (0, 0) = y := ⟨_, rfl⟩
        rw [hel] at hq0 hq1 hP hQ
        have HES : Hid (est L (k + 1) = ePut (est L k).1 (est L k).2.1 (est L k).2.2 (mLo P) (mHi P Q)) := (show est L (k + 1) = _ by rw [est, hel])
        clear hel
        simp only at hq0 hq1 hP hQ
        replace hq0 : Hid _ := hq0
        replace hq1 : Hid _ := hq1
        have hmo := may_ok P Q
        have HMO : Hid _ := hmo
        have HMA : Hid _ := fun u => may_any P Q u hP hQ
        clear hmo
        generalize mLo P = ml at *
        generalize mHi P Q = mh at *
        obtain ⟨c0, c1⟩ := ptCells HB.out hbl hq0 hq1
        go_wp2_with fail
        refine (HMA.out _).mono ?_; rintro e wa ⟨rfl, hba⟩
        have hEa := hE.below hba
        have HBa : Hid (Below W.heap.size W wa) := HB.out.trans (hba.mono HB.out.size)
        clear hE HB hba c0 c1
        have hEp : EnS (wa.alloc (.cells #[.int .u32 (ml : Nat), .int .u32 (mh : Nat)] 31)) W.heap.size x d _ _ _ := hEa.below ((Below.refl _ _).alloc (Nat.le_refl _) _)
        have HBp : Hid (Below W.heap.size W (wa.alloc (.cells #[.int .u32 (ml : Nat), .int .u32 (mh : Nat)] 31))) := below_alloc HBa.out (Nat.le_refl _) _
        clear HBa hEa
        go_wp2_with fail
        refine (put_yes hEp HEV.out.1 (by have := HEV.out.2; omega) ml mh HMO.out.1 HMO.out.2).mono ?_; rintro e wz ⟨rfl, dz, hEz, hKz⟩
        have HBz : Hid (Below W.heap.size W wz) := HBp.out.trans (hEp.kwBelow hKz)
        rw [← HES.out] at hEz
        clear hEp HBp hKz
        go_wp2_with fail
        go_roundw
        case rel => exact ⟨k + 1, dz, by go_num, by omega, hEz, HBz.out⟩
        case measure => simp [intOf]; omega
      · obtain rfl : k = L.length := by omega
        go_wp2_with fail
        refine (bytes_ens hE HEV.out.1 (by have := HEV.out.2; omega)).mono ?_; rintro e w3 ⟨v3, rfl, b3, zs, hby, hb3, hbel3⟩
        have HB3 : Hid (Below W.heap.size W w3) := HB.out.trans (hbel3.mono HB.out.size)
        clear hE HB hbel3
        have hbyt := hby.byt
        have hsrc := hby.src
        have hval := hby.val
        have hlen := hby.len
        have hlen2 : zs.length ≤ 4 + 2 * L.length := by have := HEV.out.2; omega
        have hzl : zs.length ≤ 140737488355328 := by omega
        have HVAL : Hid _ := hval
        have HBYT : Hid _ := hbyt
        have HSRC : Hid (SrcOf w3 v3 zs) := hsrc
        have hlast := hby.last
        have hcell := hby.cell
        obtain ⟨c3, rfl, hcap⟩ := hby.form
        clear hval hbyt hsrc hby hlen
        by_cases h0 : zs.length = 0
        · replace HSRC : Hid (SrcOf w3 (.slice (some ⟨b3, 0, none⟩) 0 c3) zs) := by have h := HSRC.out; rw [h0] at h; exact h
          rw [h0]
          clear hlast hcell
          go_wp2_with fail
          refine (read_any HSRC.out HBYT.out hzl).mono ?_; rintro e w4 ⟨x4, rfl, b4, hd4, hx4, hb4, hbel4⟩
          have HB4 : Hid (Below W.heap.size W w4) := HB3.out.trans (hbel4.mono HB3.out.size)
          have hxW : W.heap.size ≤ x4 := Nat.le_trans HB3.out.size hx4
          have hds : Ds w4 x4 b4 zs 4 (dFirst zs) 4294967295 := ⟨hd4, dFirst_ok⟩
          have hst : Dst L zs 0 4 (dFirst zs) 4294967295 := Dst.first HBYT.out HVAL.out
          clear HB3 hd4 hx4 hb4 hbel4
          go_wp2_with fail
          go_loopw [9] (fun i wr => Bk2 W L zs L.length x4 b4 i wr) (fun i _ => L.length - (intOf i).toNat)
          case atStart => exact ⟨0, _, _, _, rfl, by omega, hds, hst, HB4.out⟩
          case round =>
            clear hds hst HB4 HSRC
            obtain ⟨k, q, c, g, rfl, hk1, hd, hs, hbW⟩ := hrel
            have HB : Hid (Below W.heap.size W wr) := hbW
            have HS : Hid _ := hs
            clear hbW hs
            by_cases hlt : k < L.length
            · obtain ⟨pb, off, rfl, hbl, hq0, hq1, hP, hQ⟩ := HPt.out.cells k (by omega)
              obtain ⟨⟨P, Q⟩, hel⟩ : ∃ y, L.getD k (0, 0) = y := ⟨_, rfl⟩
              have hfo := HS.out.found HBYT.out HVAL.out hlt hel
              have HST : Hid _ := hfo.2
              have hmay := hfo.1
              rw [hel] at hq0 hq1 hP hQ
              clear hel hfo HS
              simp only at hq0 hq1 hP hQ
              replace hq0 : Hid _ := hq0
              replace hq1 : Hid _ := hq1
              have HMA : Hid _ := fun u => may_any P Q u hP hQ
              generalize mLo P = ml at *
              generalize mHi P Q = mh at *
              have HTA : Hid (∀ u, Ds u x4 b4 zs q c g → Calls Tryd.prog 23 #[.pointer (some ⟨x4, 0, none⟩), .int .u32 ml, .int .u32 mh] u fun e w' => e = .returned (.int .i64 0) ∧ Ds w' x4 b4 zs (dTake zs c g q ml mh).2.2 (dTake zs c g q ml mh).1 (dTake zs c g q ml mh).2.1 ∧ Kp x4 u w') := fun u h => take_ds h ml mh hmay
              have HVA : Hid (∀ u, Ds u x4 b4 zs q c g → Calls Tryd.prog 20 #[.pointer (some ⟨x4, 0, none⟩)] u fun e w' => e = .returned (.tuple #[.int .u32 (dVal c g : Nat), .int .i64 0]) ∧ ∃ k, w' = u.drewN k) := fun u h => value_dc h.1 h.2
              obtain ⟨m1, m2, _⟩ := hmay
              generalize dVal c g = v at *
              obtain ⟨c0, c1⟩ := ptCells HB.out hbl hq0 hq1
              go_wp2_with fail
              refine (HMA.out _).mono ?_; rintro e wa ⟨rfl, hba⟩
              have hda := hd.below hba
              have HBa : Hid (Below W.heap.size W wa) := HB.out.trans (hba.mono HB.out.size)
              clear hd HB hba c0 c1
              have hdp : Ds (wa.alloc (.cells #[.int .u32 (ml : Nat), .int .u32 (mh : Nat)] 31)) x4 b4 zs q c g := hda.below ((Below.refl _ _).alloc (Nat.le_refl _) _)
              have HBp : Hid (Below W.heap.size W (wa.alloc (.cells #[.int .u32 (ml : Nat), .int .u32 (mh : Nat)] 31))) := below_alloc HBa.out (Nat.le_refl _) _
              clear HBa hda
              go_wp2_with fail
              refine (HVA.out _ hdp).mono ?_; rintro e wv ⟨rfl, nv, rfl⟩
              have hdv := hdp.same (w' := (wa.alloc (.cells #[.int .u32 (ml : Nat), .int .u32 (mh : Nat)] 31)).drewN nv) rfl
              have HBv : Hid (Below W.heap.size W ((wa.alloc (.cells #[.int .u32 (ml : Nat), .int .u32 (mh : Nat)] 31)).drewN nv)) := below_drewN HBp.out nv
              clear hdp HBp
              go_wp2_with fail
              refine (HTA.out _ hdv).mono ?_; rintro e wz ⟨rfl, hdz, hkz⟩
              have HBz : Hid (Below W.heap.size W wz) := HBv.out.trans (hkz.toBelow hxW)
              clear hdv HBv hkz
              go_wp2_with fail
              go_roundw
              case rel => exact ⟨k + 1, _, _, _, by go_num, by omega, hdz, HST.out, HBz.out⟩
              case measure => simp [intOf]; omega
            · obtain rfl : k = L.length := by omega
              go_wp2_with fail
              go_ret
              exact ⟨rfl, HB.out⟩
        · have hc := hcell (zs.length - 1) (by omega)
          have hl := hlast (by omega)
          clear hlast hcell
          generalize zs.getD (zs.length - 1) 0 = z at *
          have hz' : ((z : Int) == 0) = false := by rw [beq_eq_false_iff_ne]; omega
          have hi0 : (0 : Int) < (zs.length : Int) := by omega
          have hi1 : ((zs.length : Int) - 1) < (zs.length : Int) := by omega
          have hi2 : (0 : Int) ≤ (zs.length : Int) - 1 := by omega
          have hi3 : ((zs.length : Int) - 1).toNat = zs.length - 1 := by omega
          clear hl
          go_wp2_with fail
          refine (read_any HSRC.out HBYT.out hzl).mono ?_; rintro e w4 ⟨x4, rfl, b4, hd4, hx4, hb4, hbel4⟩
          have HB4 : Hid (Below W.heap.size W w4) := HB3.out.trans (hbel4.mono HB3.out.size)
          have hxW : W.heap.size ≤ x4 := Nat.le_trans HB3.out.size hx4
          have hds : Ds w4 x4 b4 zs 4 (dFirst zs) 4294967295 := ⟨hd4, dFirst_ok⟩
          have hst : Dst L zs 0 4 (dFirst zs) 4294967295 := Dst.first HBYT.out HVAL.out
          clear HB3 hd4 hx4 hb4 hbel4
          go_wp2_with fail
          go_loopw [9] (fun i wr => Bk2 W L zs L.length x4 b4 i wr) (fun i _ => L.length - (intOf i).toNat)
          case atStart => exact ⟨0, _, _, _, rfl, by omega, hds, hst, HB4.out⟩
          case round =>
            clear hds hst HB4 HSRC
            obtain ⟨k, q, c, g, rfl, hk1, hd, hs, hbW⟩ := hrel
            have HB : Hid (Below W.heap.size W wr) := hbW
            have HS : Hid _ := hs
            clear hbW hs
            by_cases hlt : k < L.length
            · obtain ⟨pb, off, rfl, hbl, hq0, hq1, hP, hQ⟩ := HPt.out.cells k (by omega)
              obtain ⟨⟨P, Q⟩, hel⟩ : ∃ y, L.getD k (0, 0) = y := ⟨_, rfl⟩
              have hfo := HS.out.found HBYT.out HVAL.out hlt hel
              have HST : Hid _ := hfo.2
              have hmay := hfo.1
              rw [hel] at hq0 hq1 hP hQ
              clear hel hfo HS
              simp only at hq0 hq1 hP hQ
              replace hq0 : Hid _ := hq0
              replace hq1 : Hid _ := hq1
              have HMA : Hid _ := fun u => may_any P Q u hP hQ
              generalize mLo P = ml at *
              generalize mHi P Q = mh at *
              have HTA : Hid (∀ u, Ds u x4 b4 zs q c g → Calls Tryd.prog 23 #[.pointer (some ⟨x4, 0, none⟩), .int .u32 ml, .int .u32 mh] u fun e w' => e = .returned (.int .i64 0) ∧ Ds w' x4 b4 zs (dTake zs c g q ml mh).2.2 (dTake zs c g q ml mh).1 (dTake zs c g q ml mh).2.1 ∧ Kp x4 u w') := fun u h => take_ds h ml mh hmay
              have HVA : Hid (∀ u, Ds u x4 b4 zs q c g → Calls Tryd.prog 20 #[.pointer (some ⟨x4, 0, none⟩)] u fun e w' => e = .returned (.tuple #[.int .u32 (dVal c g : Nat), .int .i64 0]) ∧ ∃ k, w' = u.drewN k) := fun u h => value_dc h.1 h.2
              obtain ⟨m1, m2, _⟩ := hmay
              generalize dVal c g = v at *
              obtain ⟨c0, c1⟩ := ptCells HB.out hbl hq0 hq1
              go_wp2_with fail
              refine (HMA.out _).mono ?_; rintro e wa ⟨rfl, hba⟩
              have hda := hd.below hba
              have HBa : Hid (Below W.heap.size W wa) := HB.out.trans (hba.mono HB.out.size)
              clear hd HB hba c0 c1
              have hdp : Ds (wa.alloc (.cells #[.int .u32 (ml : Nat), .int .u32 (mh : Nat)] 31)) x4 b4 zs q c g := hda.below ((Below.refl _ _).alloc (Nat.le_refl _) _)
              have HBp : Hid (Below W.heap.size W (wa.alloc (.cells #[.int .u32 (ml : Nat), .int .u32 (mh : Nat)] 31))) := below_alloc HBa.out (Nat.le_refl _) _
              clear HBa hda
              go_wp2_with fail
              refine (HVA.out _ hdp).mono ?_; rintro e wv ⟨rfl, nv, rfl⟩
              have hdv := hdp.same (w' := (wa.alloc (.cells #[.int .u32 (ml : Nat), .int .u32 (mh : Nat)] 31)).drewN nv) rfl
              have HBv : Hid (Below W.heap.size W ((wa.alloc (.cells #[.int .u32 (ml : Nat), .int .u32 (mh : Nat)] 31)).drewN nv)) := below_drewN HBp.out nv
              clear hdp HBp
              go_wp2_with fail
              refine (HTA.out _ hdv).mono ?_; rintro e wz ⟨rfl, hdz, hkz⟩
              have HBz : Hid (Below W.heap.size W wz) := HBv.out.trans (hkz.toBelow hxW)
              clear hdv HBv hkz
              go_wp2_with fail
              go_roundw
              case rel => exact ⟨k + 1, _, _, _, by go_num, by omega, hdz, HST.out, HBz.out⟩
              case measure => simp [intOf]; omega
            · obtain rfl : k = L.length := by omega
              go_wp2_with fail
              go_ret
              exact ⟨rfl, HB.out⟩
  · have hN' : ¬ ((L.length : Int) ≤ 400) := by omega
    go_enter Tryd.func5, Tryd.ntmps5
    go_wp2_with fail
    refine (works_true W).mono ?_; rintro e u1 ⟨rfl, hu1⟩
    go_wp2_with fail
    refine (new_ens u1).mono ?_; rintro e u2 ⟨rfl, hw2, hb2⟩
    have HU2 : Hid (Below W.heap.size W u2) := hu1.trans (hb2.mono hu1.size)
    have hw2' : EnS u2 W.heap.size u1.heap.size (.slice none 0 0) 0 4294967295 0 := by
      obtain ⟨ys, low, h1, h2⟩ := hw2
      exact ⟨ys, low, ⟨h1.data, own_mono h1.own hu1.size, h1.apart, h1.low, h1.rng, h1.thaw0, h1.thaw1, h1.thaw2, ⟨hu1.size, h1.lies.2⟩, h1.byt⟩, h2⟩
    clear hw2 hb2
    generalize u1.heap.size = x at *
    go_wp2_with fail
    go_loopw [5] (fun i wr => Bk1 W L 400 x i wr) (fun i _ => 400 - (intOf i).toNat)
    case atStart => exact ⟨0, _, rfl, by omega, hw2', HU2.out⟩
    case round =>
      clear hw2' HU2 hu1
      obtain ⟨k, d, rfl, hk1, hE, hbW⟩ := hrel
      have HB : Hid (Below W.heap.size W wr) := hbW
      clear hbW
      have hev := est_ok L k
      have HEV : Hid _ := hev
      clear hev
      by_cases hlt : k < 400
      · obtain ⟨pb, off, rfl, hbl, hq0, hq1, hP, hQ⟩ := HPt.out.cells k (by omega)
        obtain ⟨⟨P, Q⟩, hel⟩ : ∃ y, L.getD k (0, 0) = y := ⟨_, rfl⟩
        rw [hel] at hq0 hq1 hP hQ
        have HES : Hid (est L (k + 1) = ePut (est L k).1 (est L k).2.1 (est L k).2.2 (mLo P) (mHi P Q)) := (show est L (k + 1) = _ by rw [est, hel])
        clear hel
        simp only at hq0 hq1 hP hQ
        replace hq0 : Hid _ := hq0
        replace hq1 : Hid _ := hq1
        have hmo := may_ok P Q
        have HMO : Hid _ := hmo
        have HMA : Hid _ := fun u => may_any P Q u hP hQ
        clear hmo
        generalize mLo P = ml at *
        generalize mHi P Q = mh at *
        obtain ⟨c0, c1⟩ := ptCells HB.out hbl hq0 hq1
        go_wp2_with fail
        refine (HMA.out _).mono ?_; rintro e wa ⟨rfl, hba⟩
        have hEa := hE.below hba
        have HBa : Hid (Below W.heap.size W wa) := HB.out.trans (hba.mono HB.out.size)
        clear hE HB hba c0 c1
        have hEp : EnS (wa.alloc (.cells #[.int .u32 (ml : Nat), .int .u32 (mh : Nat)] 31)) W.heap.size x d _ _ _ := hEa.below ((Below.refl _ _).alloc (Nat.le_refl _) _)
        have HBp : Hid (Below W.heap.size W (wa.alloc (.cells #[.int .u32 (ml : Nat), .int .u32 (mh : Nat)] 31))) := below_alloc HBa.out (Nat.le_refl _) _
        clear HBa hEa
        go_wp2_with fail
        refine (put_yes hEp HEV.out.1 (by have := HEV.out.2; omega) ml mh HMO.out.1 HMO.out.2).mono ?_; rintro e wz ⟨rfl, dz, hEz, hKz⟩
        have HBz : Hid (Below W.heap.size W wz) := HBp.out.trans (hEp.kwBelow hKz)
        rw [← HES.out] at hEz
        clear hEp HBp hKz
        go_wp2_with fail
        go_roundw
        case rel => exact ⟨k + 1, dz, by go_num, by omega, hEz, HBz.out⟩
        case measure => simp [intOf]; omega
      · obtain rfl : k = 400 := by omega
        go_wp2_with fail
        refine (bytes_ens hE HEV.out.1 (by have := HEV.out.2; omega)).mono ?_; rintro e w3 ⟨v3, rfl, b3, zs, hby, hb3, hbel3⟩
        have HB3 : Hid (Below W.heap.size W w3) := HB.out.trans (hbel3.mono HB.out.size)
        clear hE HB hbel3
        have hbyt := hby.byt
        have hsrc := hby.src
        have hval := hby.val
        have hlen := hby.len
        have hlen2 : zs.length ≤ 4 + 2 * 400 := by have := HEV.out.2; omega
        have hzl : zs.length ≤ 140737488355328 := by omega
        have HVAL : Hid _ := hval
        have HBYT : Hid _ := hbyt
        have HSRC : Hid (SrcOf w3 v3 zs) := hsrc
        have hlast := hby.last
        have hcell := hby.cell
        obtain ⟨c3, rfl, hcap⟩ := hby.form
        clear hval hbyt hsrc hby hlen
        by_cases h0 : zs.length = 0
        · replace HSRC : Hid (SrcOf w3 (.slice (some ⟨b3, 0, none⟩) 0 c3) zs) := by have h := HSRC.out; rw [h0] at h; exact h
          rw [h0]
          clear hlast hcell
          go_wp2_with fail
          refine (read_any HSRC.out HBYT.out hzl).mono ?_; rintro e w4 ⟨x4, rfl, b4, hd4, hx4, hb4, hbel4⟩
          have HB4 : Hid (Below W.heap.size W w4) := HB3.out.trans (hbel4.mono HB3.out.size)
          have hxW : W.heap.size ≤ x4 := Nat.le_trans HB3.out.size hx4
          have hds : Ds w4 x4 b4 zs 4 (dFirst zs) 4294967295 := ⟨hd4, dFirst_ok⟩
          have hst : Dst L zs 0 4 (dFirst zs) 4294967295 := Dst.first HBYT.out HVAL.out
          clear HB3 hd4 hx4 hb4 hbel4
          go_wp2_with fail
          go_loopw [9] (fun i wr => Bk2 W L zs 400 x4 b4 i wr) (fun i _ => 400 - (intOf i).toNat)
          case atStart => exact ⟨0, _, _, _, rfl, by omega, hds, hst, HB4.out⟩
          case round =>
            clear hds hst HB4 HSRC
            obtain ⟨k, q, c, g, rfl, hk1, hd, hs, hbW⟩ := hrel
            have HB : Hid (Below W.heap.size W wr) := hbW
            have HS : Hid _ := hs
            clear hbW hs
            by_cases hlt : k < 400
            · obtain ⟨pb, off, rfl, hbl, hq0, hq1, hP, hQ⟩ := HPt.out.cells k (by omega)
              obtain ⟨⟨P, Q⟩, hel⟩ : ∃ y, L.getD k (0, 0) = y := ⟨_, rfl⟩
              have hfo := HS.out.found HBYT.out HVAL.out hlt hel
              have HST : Hid _ := hfo.2
              have hmay := hfo.1
              rw [hel] at hq0 hq1 hP hQ
              clear hel hfo HS
              simp only at hq0 hq1 hP hQ
              replace hq0 : Hid _ := hq0
              replace hq1 : Hid _ := hq1
              have HMA : Hid _ := fun u => may_any P Q u hP hQ
              generalize mLo P = ml at *
              generalize mHi P Q = mh at *
              have HTA : Hid (∀ u, Ds u x4 b4 zs q c g → Calls Tryd.prog 23 #[.pointer (some ⟨x4, 0, none⟩), .int .u32 ml, .int .u32 mh] u fun e w' => e = .returned (.int .i64 0) ∧ Ds w' x4 b4 zs (dTake zs c g q ml mh).2.2 (dTake zs c g q ml mh).1 (dTake zs c g q ml mh).2.1 ∧ Kp x4 u w') := fun u h => take_ds h ml mh hmay
              have HVA : Hid (∀ u, Ds u x4 b4 zs q c g → Calls Tryd.prog 20 #[.pointer (some ⟨x4, 0, none⟩)] u fun e w' => e = .returned (.tuple #[.int .u32 (dVal c g : Nat), .int .i64 0]) ∧ ∃ k, w' = u.drewN k) := fun u h => value_dc h.1 h.2
              obtain ⟨m1, m2, _⟩ := hmay
              generalize dVal c g = v at *
              obtain ⟨c0, c1⟩ := ptCells HB.out hbl hq0 hq1
              go_wp2_with fail
              refine (HMA.out _).mono ?_; rintro e wa ⟨rfl, hba⟩
              have hda := hd.below hba
              have HBa : Hid (Below W.heap.size W wa) := HB.out.trans (hba.mono HB.out.size)
              clear hd HB hba c0 c1
              have hdp : Ds (wa.alloc (.cells #[.int .u32 (ml : Nat), .int .u32 (mh : Nat)] 31)) x4 b4 zs q c g := hda.below ((Below.refl _ _).alloc (Nat.le_refl _) _)
              have HBp : Hid (Below W.heap.size W (wa.alloc (.cells #[.int .u32 (ml : Nat), .int .u32 (mh : Nat)] 31))) := below_alloc HBa.out (Nat.le_refl _) _
              clear HBa hda
              go_wp2_with fail
              refine (HVA.out _ hdp).mono ?_; rintro e wv ⟨rfl, nv, rfl⟩
              have hdv := hdp.same (w' := (wa.alloc (.cells #[.int .u32 (ml : Nat), .int .u32 (mh : Nat)] 31)).drewN nv) rfl
              have HBv : Hid (Below W.heap.size W ((wa.alloc (.cells #[.int .u32 (ml : Nat), .int .u32 (mh : Nat)] 31)).drewN nv)) := below_drewN HBp.out nv
              clear hdp HBp
              go_wp2_with fail
              refine (HTA.out _ hdv).mono ?_; rintro e wz ⟨rfl, hdz, hkz⟩
              have HBz : Hid (Below W.heap.size W wz) := HBv.out.trans (hkz.toBelow hxW)
              clear hdv HBv hkz
              go_wp2_with fail
              go_roundw
              case rel => exact ⟨k + 1, _, _, _, by go_num, by omega, hdz, HST.out, HBz.out⟩
              case measure => simp [intOf]; omega
            · obtain rfl : k = 400 := by omega
              go_wp2_with fail
              go_ret
              exact ⟨rfl, HB.out⟩
        · have hc := hcell (zs.length - 1) (by omega)
          have hl := hlast (by omega)
          clear hlast hcell
          generalize zs.getD (zs.length - 1) 0 = z at *
          have hz' : ((z : Int) == 0) = false := by rw [beq_eq_false_iff_ne]; omega
          have hi0 : (0 : Int) < (zs.length : Int) := by omega
          have hi1 : ((zs.length : Int) - 1) < (zs.length : Int) := by omega
          have hi2 : (0 : Int) ≤ (zs.length : Int) - 1 := by omega
          have hi3 : ((zs.length : Int) - 1).toNat = zs.length - 1 := by omega
          clear hl
          go_wp2_with fail
          refine (read_any HSRC.out HBYT.out hzl).mono ?_; rintro e w4 ⟨x4, rfl, b4, hd4, hx4, hb4, hbel4⟩
          have HB4 : Hid (Below W.heap.size W w4) := HB3.out.trans (hbel4.mono HB3.out.size)
          have hxW : W.heap.size ≤ x4 := Nat.le_trans HB3.out.size hx4
          have hds : Ds w4 x4 b4 zs 4 (dFirst zs) 4294967295 := ⟨hd4, dFirst_ok⟩
          have hst : Dst L zs 0 4 (dFirst zs) 4294967295 := Dst.first HBYT.out HVAL.out
          clear HB3 hd4 hx4 hb4 hbel4
          go_wp2_with fail
          go_loopw [9] (fun i wr => Bk2 W L zs 400 x4 b4 i wr) (fun i _ => 400 - (intOf i).toNat)
          case atStart => exact ⟨0, _, _, _, rfl, by omega, hds, hst, HB4.out⟩
          case round =>
            clear hds hst HB4 HSRC
            obtain ⟨k, q, c, g, rfl, hk1, hd, hs, hbW⟩ := hrel
            have HB : Hid (Below W.heap.size W wr) := hbW
            have HS : Hid _ := hs
            clear hbW hs
            by_cases hlt : k < 400
            · obtain ⟨pb, off, rfl, hbl, hq0, hq1, hP, hQ⟩ := HPt.out.cells k (by omega)
              obtain ⟨⟨P, Q⟩, hel⟩ : ∃ y, L.getD k (0, 0) = y := ⟨_, rfl⟩
              have hfo := HS.out.found HBYT.out HVAL.out hlt hel
              have HST : Hid _ := hfo.2
              have hmay := hfo.1
              rw [hel] at hq0 hq1 hP hQ
              clear hel hfo HS
              simp only at hq0 hq1 hP hQ
              replace hq0 : Hid _ := hq0
              replace hq1 : Hid _ := hq1
              have HMA : Hid _ := fun u => may_any P Q u hP hQ
              generalize mLo P = ml at *
              generalize mHi P Q = mh at *
              have HTA : Hid (∀ u, Ds u x4 b4 zs q c g → Calls Tryd.prog 23 #[.pointer (some ⟨x4, 0, none⟩), .int .u32 ml, .int .u32 mh] u fun e w' => e = .returned (.int .i64 0) ∧ Ds w' x4 b4 zs (dTake zs c g q ml mh).2.2 (dTake zs c g q ml mh).1 (dTake zs c g q ml mh).2.1 ∧ Kp x4 u w') := fun u h => take_ds h ml mh hmay
              have HVA : Hid (∀ u, Ds u x4 b4 zs q c g → Calls Tryd.prog 20 #[.pointer (some ⟨x4, 0, none⟩)] u fun e w' => e = .returned (.tuple #[.int .u32 (dVal c g : Nat), .int .i64 0]) ∧ ∃ k, w' = u.drewN k) := fun u h => value_dc h.1 h.2
              obtain ⟨m1, m2, _⟩ := hmay
              generalize dVal c g = v at *
              obtain ⟨c0, c1⟩ := ptCells HB.out hbl hq0 hq1
              go_wp2_with fail
              refine (HMA.out _).mono ?_; rintro e wa ⟨rfl, hba⟩
              have hda := hd.below hba
              have HBa : Hid (Below W.heap.size W wa) := HB.out.trans (hba.mono HB.out.size)
              clear hd HB hba c0 c1
              have hdp : Ds (wa.alloc (.cells #[.int .u32 (ml : Nat), .int .u32 (mh : Nat)] 31)) x4 b4 zs q c g := hda.below ((Below.refl _ _).alloc (Nat.le_refl _) _)
              have HBp : Hid (Below W.heap.size W (wa.alloc (.cells #[.int .u32 (ml : Nat), .int .u32 (mh : Nat)] 31))) := below_alloc HBa.out (Nat.le_refl _) _
              clear HBa hda
              go_wp2_with fail
              refine (HVA.out _ hdp).mono ?_; rintro e wv ⟨rfl, nv, rfl⟩
              have hdv := hdp.same (w' := (wa.alloc (.cells #[.int .u32 (ml : Nat), .int .u32 (mh : Nat)] 31)).drewN nv) rfl
              have HBv : Hid (Below W.heap.size W ((wa.alloc (.cells #[.int .u32 (ml : Nat), .int .u32 (mh : Nat)] 31)).drewN nv)) := below_drewN HBp.out nv
              clear hdp HBp
              go_wp2_with fail
              refine (HTA.out _ hdv).mono ?_; rintro e wz ⟨rfl, hdz, hkz⟩
              have HBz : Hid (Below W.heap.size W wz) := HBv.out.trans (hkz.toBelow hxW)
              clear hdv HBv hkz
              go_wp2_with fail
              go_roundw
              case rel => exact ⟨k + 1, _, _, _, by go_num, by omega, hdz, HST.out, HBz.out⟩
              case measure => simp [intOf]; omega
            · obtain rfl : k = 400 := by omega
              go_wp2_with fail
              go_ret
              exact ⟨rfl, HB.out⟩

end Go.Proofs.YtogaekjohnbbiaaDoor
