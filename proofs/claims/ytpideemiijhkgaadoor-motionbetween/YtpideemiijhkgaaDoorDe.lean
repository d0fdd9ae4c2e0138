/- DERIVED. The document's Fetch, where it answers a block. -/
import Derived.Test.YtpideemiijhkgaaDoorDd
import Derived.Deep.DeepCutAuto
namespace Go.Proofs.YtpideemiijhkgaaDoor
open Go.RowKit

/-- the document's sums, one row behind the other: n of them are there -/
def moL (C : List Nat) (x y : Nat) (X Y : Int) (T : List Int) (wd hi n : Nat) : List Int := tbi (wd * hi) fun q => if q < n then mm C x y X Y T (q % wd) (q / wd) else 0
theorem moL_len (C : List Nat) (x y : Nat) (X Y : Int) (T : List Int) (wd hi n : Nat) : (moL C x y X Y T wd hi n).length = wd * hi := tbi_len _ _
theorem moL_zero (C : List Nat) (x y : Nat) (X Y : Int) (T : List Int) (wd hi : Nat) : moL C x y X Y T wd hi 0 = List.replicate (wd * hi) 0 := (tbi_zero fun j _ => by rw [if_neg (by omega)]).symm
theorem moL_set (C : List Nat) (x y : Nat) (X Y : Int) (T : List Int) {wd hi j i : Nat} (hj : j < hi) (hi' : i < wd) : (moL C x y X Y T wd hi (j * wd + i)).set (j * wd + i) (mm C x y X Y T i j) = moL C x y X Y T wd hi (j * wd + i + 1) := by
  obtain ⟨d, m⟩ := dm_of (y := j) hi'
  refine tbi_set (at_lt hj hi') (by rw [d, m, if_pos (by omega)]) fun n _ hne => ?_
  by_cases h : n < j * wd + i
  · rw [if_pos h, if_pos (by omega)]
  · rw [if_neg h, if_neg (by omega)]
theorem moL_row (C : List Nat) (x y : Nat) (X Y : Int) (T : List Int) (wd hi j : Nat) : moL C x y X Y T wd hi (j * wd + wd) = moL C x y X Y T wd hi ((j + 1) * wd + 0) := by rw [Nat.add_zero, Nat.add_mul, Nat.one_mul]
theorem moL_get (C : List Nat) (x y : Nat) (X Y : Int) (T : List Int) {wd hi q k : Nat} (h0 : 0 < wd) (h : q + k * wd < wd * hi) : (moL C x y X Y T wd hi (hi * wd + 0)).getD (q + k * wd) 0 = mm C x y X Y T (q % wd) (q / wd + k) := by
  unfold moL
  rw [tbi_get _ h, if_pos (by rw [Nat.add_zero, Nat.mul_comm hi wd]; exact h), Nat.add_mul_mod_self_right, Nat.add_mul_div_right _ _ h0]

/-- what the document's Fetch leaves while it sums: all that lies below its sums stays -/
structure Dr (V t : World) (u : World) (pb ab db mb : Nat) (x y : Nat) (a : Option Addr) (c : Nat) (C : List Nat) (T S : List Int) : Prop where
  p0 : t.cell? ⟨pb, 0, none⟩ = some (.int .i64 (x : Int))
  p1 : t.cell? ⟨pb, 1, none⟩ = some (.int .i64 (y : Int))
  p2 : t.cell? ⟨pb, 2, none⟩ = some (.slice a C.length c)
  ra : ∀ j, j < 8 → t.cell? ⟨ab, j, none⟩ = some (.int .i64 (T.getD j 0))
  rd : ∀ j, j < 8 → t.cell? ⟨db, j, none⟩ = some (.int .i64 (S.getD j 0))
  sl : Sl t .u8 a C
  bel : Below mb V t
  blu : Below u.heap.size u t

/-- samples that the document made -/
def Fr (u w' : World) (e : Ending) (L : List Nat) : Prop := ∃ a c, e = .returned (.tuple #[.slice a L.length c, .int .i64 0]) ∧ Sl w' .u8 a L ∧ Below u.heap.size u w'

set_option maxRecDepth 100000 in
set_option maxHeartbeats 4000000 in
theorem rfetch_core {u : World} {a : Option Addr} {c x y wd ht k f g : Nat} {C : List Nat} {px py X Y : Int} (hs : Sl u .u8 a C) (hC : Byt C) (hx0 : 1 ≤ x) (hx1 : x ≤ 512) (hy0 : 1 ≤ y) (hy1 : y ≤ 512) (hl : C.length = x * y)
    (X0 : -1048576 ≤ px ∧ px ≤ 1048576) (Y0 : -1048576 ≤ py ∧ py ≤ 1048576) (w0 : 4 ≤ wd) (w1 : wd ≤ 64) (h0 : 4 ≤ ht) (h1 : ht ≤ 64) (hk : k < 3) (hX : px / 16 = X) (hY : py / 16 = Y) (hf : px % 16 = (f : Int)) (hg : py % 16 = (g : Int)) :
    Calls Tryd.prog 38 #[.agg #[.int .i64 (x : Int), .int .i64 (y : Int), .slice a C.length c], .int .i64 px, .int .i64 py, .int .i64 (wd : Int), .int .i64 (ht : Int), .int .i64 (k : Int)] u fun e w' => Fr u w' e (bL C x y X Y (tp k f) (tp k g) wd ht) := by
  have hck : ck (x : Int) (y : Int) C = 0 := ck_ok (POk.of hx0 hx1 hy0 hy1 hl)
  have b1 := and15 px
  have b2 := and15 py
  rw [hf] at b1
  rw [hg] at b2
  have f16 : f < 16 := by omega
  have g16 : g < 16 := by omega
  have HT : Hid (Tk (tp k f)) := tp_tk hk f16
  have HU : Hid (Tk (tp k g)) := tp_tk hk g16
  obtain ⟨t0, t1, t2, t3, t4, t5, t6, t7, hTT⟩ := eight (tp_len k hk f f16)
  obtain ⟨s0, s1, s2, s3, s4, s5, s6, s7, hSS⟩ := eight (tp_len k hk g g16)
  have HA : Hid (∀ t : World, Calls Tryd.prog 60 #[.int .i64 (k : Int), .int .i64 (f : Int)] t fun e w' => e = .returned (.tuple #[.agg #[.int .i64 t0, .int .i64 t1, .int .i64 t2, .int .i64 t3, .int .i64 t4, .int .i64 t5, .int .i64 t6, .int .i64 t7], .int .i64 0]) ∧ Below t.heap.size t w') := fun t => by
    have := rtaps_ok (w := t) hk f16
    rwa [hTT, tv8] at this
  have HD : Hid (∀ t : World, Calls Tryd.prog 60 #[.int .i64 (k : Int), .int .i64 (g : Int)] t fun e w' => e = .returned (.tuple #[.agg #[.int .i64 s0, .int .i64 s1, .int .i64 s2, .int .i64 s3, .int .i64 s4, .int .i64 s5, .int .i64 s6, .int .i64 s7], .int .i64 0]) ∧ Below t.heap.size t w') := fun t => by
    have := rtaps_ok (w := t) hk g16
    rwa [hSS, tv8] at this
  rw [hTT] at HT ⊢
  rw [hSS] at HU ⊢
  have HSl : Hid (Sl u .u8 a C) := hs
  have HBy : Hid (Byt C) := hC
  have HP : Hid (1 ≤ x ∧ x ≤ 512 ∧ 1 ≤ y ∧ y ≤ 512 ∧ C.length = x * y) := ⟨hx0, hx1, hy0, hy1, hl⟩
  obtain ⟨hi, hhi⟩ : ∃ hi, hi = ht + 7 := ⟨_, rfl⟩
  have e7 : (ht : Int) + 7 = (hi : Int) := by omega
  have HHi : Hid (hi = ht + 7) := hhi
  obtain ⟨n, hn⟩ : ∃ n, n = wd * hi := ⟨_, rfl⟩
  have hnb : n ≤ 64 * 71 := by rw [hn]; exact Nat.mul_le_mul w1 (by omega)
  have HN : Hid (n = wd * hi) := hn
  have en : (wd : Int) * (hi : Int) = (n : Int) := by rw [← Int.natCast_mul, hn]
  have n1 : (n : Int) ≤ 4544 := by omega
  obtain ⟨z, hz⟩ : ∃ z, z = wd * ht := ⟨_, rfl⟩
  have hzb : z ≤ 64 * 64 := by rw [hz]; exact Nat.mul_le_mul w1 h1
  have HZ : Hid (z = wd * ht) := hz
  have ez : (wd : Int) * (ht : Int) = (z : Int) := by rw [← Int.natCast_mul, hz]
  have z1 : (z : Int) ≤ 4096 := by omega
  have mk1 := fun v => mk_ints (n := n) (by omega) v
  have w2 : (4 : Int) ≤ (wd : Int) := by omega
  have w3 : (wd : Int) ≤ 64 := by omega
  have h2 : (4 : Int) ≤ (ht : Int) := by omega
  have h3 : (ht : Int) ≤ 64 := by omega
  have k0 : (0 : Int) ≤ (k : Int) := by omega
  have k1 : (k : Int) ≤ 2 := by omega
  have X2 : -1048576 ≤ px := X0.1
  have X3 : px ≤ 1048576 := X0.2
  have Y2 : -1048576 ≤ py := Y0.1
  have Y3 : py ≤ 1048576 := Y0.2
  have X4 : -65536 ≤ X := by omega
  have X5 : X ≤ 65536 := by omega
  have Y4 : -65536 ≤ Y := by omega
  have Y5 : Y ≤ 65536 := by omega
  have xx : (x : Int) ≤ 512 := by omega
  have yy : (y : Int) ≤ 512 := by omega
  have xx0 : (1 : Int) ≤ (x : Int) := by omega
  have yy0 : (1 : Int) ≤ (y : Int) := by omega
  clear hn hz hhi hs hC hnb hzb hx0 hx1 hy0 hy1 hl X0 Y0 hf hg hTT hSS
  go_enter Tryd.func38, Tryd.ntmps38
  go_wp2_with fail
  refine rcheck_any.mono ?_
  rintro e v0 ⟨rfl, hb⟩
  rw [hck]
  have hlt0 : u.heap.size < v0.heap.size := Nat.lt_of_lt_of_le (by simp) hb.size
  have d0 : v0.cell? ⟨u.heap.size, 0, none⟩ = some (.int .i64 (x : Int)) := by rw [newCell hb _ _ (by simp)]; simp
  have d1 : v0.cell? ⟨u.heap.size, 1, none⟩ = some (.int .i64 (y : Int)) := by rw [newCell hb _ _ (by simp)]; simp
  have d2 : v0.cell? ⟨u.heap.size, 2, none⟩ = some (.slice a C.length c) := by rw [newCell hb _ _ (by simp)]; simp
  have HE : Hid (v0.cell? ⟨u.heap.size, 0, none⟩ = some (.int .i64 (x : Int)) ∧ v0.cell? ⟨u.heap.size, 1, none⟩ = some (.int .i64 (y : Int)) ∧ v0.cell? ⟨u.heap.size, 2, none⟩ = some (.slice a C.length c)) := ⟨d0, d1, d2⟩
  have HB0 : Hid (Below u.heap.size u v0) := below_to (from_alloc u _) hb
  clear hb hck d0 d1 d2
  go_wp2_with fail
  refine (HA.out _).mono ?_
  rintro e v1 ⟨rfl, hb⟩
  have HB1 : Hid (Below v0.heap.size v0 v1) := hb
  clear hb HA
  go_upto_region 4 with fail
  have HR1 : Hid (Ri 80 (v1.alloc (.cells #[.int .i64 t0, .int .i64 t1, .int .i64 t2, .int .i64 t3, .int .i64 t4, .int .i64 t5, .int .i64 t6, .int .i64 t7] 80)) v1.heap.size [t0, t1, t2, t3, t4, t5, t6, t7]) := Ri.built 80 v1 [t0, t1, t2, t3, t4, t5, t6, t7] rfl
  have HC1 : Hid (Below v0.heap.size v0 (v1.alloc (.cells #[.int .i64 t0, .int .i64 t1, .int .i64 t2, .int .i64 t3, .int .i64 t4, .int .i64 t5, .int .i64 t6, .int .i64 t7] 80))) := to_alloc HB1.out _
  generalize (v1.alloc (.cells #[.int .i64 t0, .int .i64 t1, .int .i64 t2, .int .i64 t3, .int .i64 t4, .int .i64 t5, .int .i64 t6, .int .i64 t7] 80)) = v2 at *
  generalize v1.heap.size = ab at *
  clear HB1
  go_wp2_with fail
  refine (HD.out _).mono ?_
  rintro e v3 ⟨rfl, hb⟩
  have HR3 : Hid (Ri 80 v3 ab [t0, t1, t2, t3, t4, t5, t6, t7]) := HR1.out.to hb
  have HC3 : Hid (Below v0.heap.size v0 v3) := below_to HC1.out hb
  clear hb HD HR1 HC1
  go_upto_region 5 with fail
  have HQ4 : Hid (Ri 80 (v3.alloc (.cells #[.int .i64 s0, .int .i64 s1, .int .i64 s2, .int .i64 s3, .int .i64 s4, .int .i64 s5, .int .i64 s6, .int .i64 s7] 80)) v3.heap.size [s0, s1, s2, s3, s4, s5, s6, s7]) := Ri.built 80 v3 [s0, s1, s2, s3, s4, s5, s6, s7] rfl
  have HR4 : Hid (Ri 80 (v3.alloc (.cells #[.int .i64 s0, .int .i64 s1, .int .i64 s2, .int .i64 s3, .int .i64 s4, .int .i64 s5, .int .i64 s6, .int .i64 s7] 80)) ab [t0, t1, t2, t3, t4, t5, t6, t7]) := HR3.out.to (from_alloc _ _)
  have HC4 : Hid (Below v0.heap.size v0 (v3.alloc (.cells #[.int .i64 s0, .int .i64 s1, .int .i64 s2, .int .i64 s3, .int .i64 s4, .int .i64 s5, .int .i64 s6, .int .i64 s7] 80))) := to_alloc HC3.out _
  generalize (v3.alloc (.cells #[.int .i64 s0, .int .i64 s1, .int .i64 s2, .int .i64 s3, .int .i64 s4, .int .i64 s5, .int .i64 s6, .int .i64 s7] 80)) = v4 at *
  generalize v3.heap.size = db at *
  generalize hTe : [t0, t1, t2, t3, t4, t5, t6, t7] = T at *
  generalize hSe : [s0, s1, s2, s3, s4, s5, s6, s7] = S at *
  have HTe : Hid ([t0, t1, t2, t3, t4, t5, t6, t7] = T) := hTe
  have HSe : Hid ([s0, s1, s2, s3, s4, s5, s6, s7] = S) := hSe
  clear hTe hSe
  clear HR3 HC3
  go_wp2_with fail
  obtain ⟨mb, hmb⟩ : ∃ mb, mb = v4.heap.size := ⟨_, rfl⟩
  rw [← hmb]
  have HM : Hid (Ri 3 (v4.alloc (.cells (madeCells #[.int .i64 0] n) 3)) mb (moL C x y X Y T wd hi (0 * wd + 0))) := by
    show Ri _ _ _ _
    rw [Nat.zero_mul, moL_zero, ← HN.out]; exact Ri.made 3 v4 n hmb.symm
  have HDr : Hid (∀ t : World, Below mb (v4.alloc (.cells (madeCells #[.int .i64 0] n) 3)) t → Dr (v4.alloc (.cells (madeCells #[.int .i64 0] n) 3)) t u u.heap.size ab db mb x y a c C T S) := fun t htt => by
    have hfr := from_alloc v4 (.cells (madeCells #[.int .i64 0] n) 3)
    rw [← hmb] at hfr
    have hal : Below mb v4 t := hfr.trans htt
    have hsz := HC4.out.size
    have hal0 : Below v0.heap.size v0 t := HC4.out.trans (hal.mono (by omega))
    have hr4 := HR4.out.below hal (by rw [hmb]; exact HR4.out.lt)
    have hq4 := HQ4.out.below hal (by rw [hmb]; exact HQ4.out.lt)
    exact ⟨by rw [newCell hal0 _ _ hlt0]; exact HE.out.1, by rw [newCell hal0 _ _ hlt0]; exact HE.out.2.1, by rw [newCell hal0 _ _ hlt0]; exact HE.out.2.2, fun j hj => hr4.cell j (by rw [HT.out.len]; exact hj), fun j hj => hq4.cell j (by rw [HU.out.len]; exact hj), (HSl.out.to HB0.out).to hal0, htt, below_to HB0.out hal0⟩
  generalize (v4.alloc (.cells (madeCells #[.int .i64 0] n) 3)) = V at *
  clear hmb HC4 HR4 HQ4 HE HB0 mk1 hlt0
  go_loopw [19] (fun i wr => ∃ j : Nat, j ≤ hi ∧ i = .int .i64 j ∧ Ri 3 wr mb (moL C x y X Y T wd hi (j * wd + 0)) ∧ Below mb V wr) (fun i _ => hi - (intOf i).toNat)
  case atStart => exact ⟨0, by omega, rfl, HM.out, Below.refl _ _⟩
  case round =>
    clear HM
    obtain ⟨j, hj, rfl, hri, hbe⟩ := hrel
    by_cases hlt : j < hi
    · have j0 : (0 : Int) ≤ (j : Int) := by omega
      have j1 : (j : Int) < (hi : Int) := by omega
      have hdr := HDr.out _ hbe
      have p0 := hdr.p0
      have p1 := hdr.p1
      have ey : (y : Int) - 1 = ((y - 1 : Nat) : Int) := by omega
      have HCl : Hid (∀ t : World, Calls Tryd.prog 61 #[.int .i64 (Y + (j : Int) - 3), .int .i64 0, .int .i64 ((y - 1 : Nat) : Int)] t fun e w' => e = .returned (.int .i64 (nr (Y + (j : Int) - 3) y : Nat)) ∧ w' = t) := fun t => clip_any HP.out.2.2.1 rfl
      obtain ⟨r, hr⟩ : ∃ r, r = nr (Y + (j : Int) - 3) y := ⟨_, rfl⟩
      obtain ⟨q, hq⟩ : ∃ q, q = r * x := ⟨_, rfl⟩
      have hrl : r < y := by rw [hr]; exact nr_lt HP.out.2.2.1
      have r1 : (r : Int) ≤ 512 := by omega
      have hqb : q ≤ 512 * 512 := by rw [hq]; exact Nat.mul_le_mul (by omega) (by omega)
      have q1 : (q : Int) ≤ 262144 := by omega
      have erx : (r : Int) * (x : Int) = (q : Int) := by rw [← Int.natCast_mul, hq]
      rw [← hr] at HCl
      have HR : Hid (r = nr (Y + (j : Int) - 3) y) := hr
      have HQ : Hid (q = r * x) := hq
      have HRi : Hid _ := hri
      have HBe : Hid _ := hbe
      have HRl : Hid (r < y) := hrl
      generalize y - 1 = ym at *
      clear hr hq hri hbe hdr hqb hrl
      go_wp2_with fail
      go_quiet ((go_at_call 61; with_reducible exact Calls.quiet_of_same (HCl.out _)))
      have HRi2 : Hid (Ri 3 (wr.drewN nq) mb (moL C x y X Y T wd hi (j * wd + 0))) := HRi.out.to (below_drewN (Below.refl _ _) nq)
      have HBe2 : Hid (Below mb V (wr.drewN nq)) := below_drewN HBe.out nq
      generalize wr.drewN nq = wq at *
      clear HRi HBe p0 p1 HCl
      go_wp2_with fail
      go_loopw [21] (fun i wr => ∃ i' : Nat, i' ≤ wd ∧ i = .int .i64 i' ∧ Ri 3 wr mb (moL C x y X Y T wd hi (j * wd + i')) ∧ Below mb V wr) (fun i _ => wd - (intOf i).toNat)
      case atStart => exact ⟨0, by omega, rfl, HRi2.out, HBe2.out⟩
      case round =>
        clear HRi2 HBe2
        obtain ⟨i, hi', rfl, hri, hbe⟩ := hrel
        by_cases hli : i < wd
        · have i0 : (0 : Int) ≤ (i : Int) := by omega
          have i1 : (i : Int) < (wd : Int) := by omega
          have HRi : Hid _ := hri
          have HBe : Hid _ := hbe
          have HF : Hid (∀ k' : Nat, 0 ≤ (sp C x y (X + (i : Int) + ((k' : Nat) : Int) - 3) (Y + (j : Int) - 3) : Int) ∧ (sp C x y (X + (i : Int) + (k' : Int) - 3) (Y + (j : Int) - 3) : Int) ≤ 255) := fun k' => by
            have := HBy.out (nr (Y + (j : Int) - 3) y * x + nr (X + (i : Int) + (k' : Int) - 3) x)
            simp only [sp]; omega
          obtain ⟨F, hF⟩ : ∃ F : Nat → Int, F = fun k' : Nat => (sp C x y (X + (i : Int) + (k' : Int) - 3) (Y + (j : Int) - 3) : Int) := ⟨_, rfl⟩
          have HFe : Hid (F = fun k' : Nat => (sp C x y (X + (i : Int) + (k' : Int) - 3) (Y + (j : Int) - 3) : Int)) := hF
          have HMm : Hid (mm C x y X Y T i j = (4 + dt T F 8) / 8) := by show _ = _; unfold mm; rw [hF]
          have HFb : Hid (∀ k', -255 ≤ F k' ∧ F k' ≤ 255) := fun k' => by
            rw [hF]
            show -255 ≤ (sp C x y (X + (i : Int) + (k' : Int) - 3) (Y + (j : Int) - 3) : Int) ∧ (sp C x y (X + (i : Int) + (k' : Int) - 3) (Y + (j : Int) - 3) : Int) ≤ 255
            have := HF.out k'
            omega
          have HDb : Hid (∀ q : Nat, q ≤ 8 → -270000 ≤ dt T F q ∧ dt T F q ≤ 270000) := fun q hq => by
            have := dt_le HT.out (M := 255) HFb.out q
            have e : (q : Int) * (128 * 255) ≤ 8 * (128 * 255) := Int.mul_le_mul_of_nonneg_right (by omega) (by omega)
            omega
          clear hri hbe hF HF
          go_wp2_with fail
          go_loopw [23, 22] (fun q s wv => ∃ k' m : Nat, k' ≤ 8 ∧ q = .int .i64 k' ∧ s = .int .i64 (4 + dt T F k') ∧ wv = wr.drewN m) (fun q _ _ => 8 - (intOf q).toNat)
          case atStart => exact ⟨0, 0, by omega, rfl, by simp [dt], rfl⟩
          case round =>
            obtain ⟨k', m, hk', rfl, rfl, hwv⟩ := hrel
            have hbm : Below mb V wr := by rw [hwv]; exact below_drewN HBe.out m
            by_cases hlk : k' < 8
            · have c0 : (0 : Int) ≤ (k' : Int) := by omega
              have c1 : (k' : Int) < 8 := by omega
              have hdr := HDr.out _ hbm
              have p0 := hdr.p0
              have p2 := hdr.p2
              have a0 := hdr.ra k' hlk
              have ex : (x : Int) - 1 = ((x - 1 : Nat) : Int) := by omega
              have HCl : Hid (∀ t : World, Calls Tryd.prog 61 #[.int .i64 (X + (i : Int) + (k' : Int) - 3), .int .i64 0, .int .i64 ((x - 1 : Nat) : Int)] t fun e w' => e = .returned (.int .i64 (nr (X + (i : Int) + (k' : Int) - 3) x : Nat)) ∧ w' = t) := fun t => clip_any HP.out.1 rfl
              have hFk : F k' = (sp C x y (X + (i : Int) + (k' : Int) - 3) (Y + (j : Int) - 3) : Int) := by rw [HFe.out]
              obtain ⟨s, hs⟩ : ∃ s, s = nr (X + (i : Int) + (k' : Int) - 3) x := ⟨_, rfl⟩
              rw [← hs] at HCl
              have hsx : s < x := by rw [hs]; exact nr_lt HP.out.1
              have hin : q + s < C.length := by rw [HP.out.2.2.2.2, HQ.out]; exact at_lt HRl.out hsx
              obtain ⟨b, o, rfl, _, hcell⟩ := hdr.sl.form (by omega)
              have e0 := hcell (q + s) hin
              have hsp : sp C x y (X + (i : Int) + (k' : Int) - 3) (Y + (j : Int) - 3) = C.getD (q + s) 0 := by unfold sp; rw [← HR.out, ← hs, ← HQ.out]
              rw [hsp] at hFk
              have hby := HBy.out (q + s)
              obtain ⟨dl, dh⟩ := HDb.out k' hk'
              obtain ⟨tl, th⟩ := HT.out.lim k'
              have HS : Hid (dt T F (k' + 1) = dt T F k' + T.getD k' 0 * F k') := dt_succ T F k'
              rw [hFk] at HS
              have mi := mul_in tl th (show -255 ≤ ((C.getD (q + s) 0 : Nat) : Int) by omega) (show ((C.getD (q + s) 0 : Nat) : Int) ≤ 255 by omega)
              obtain ⟨ml, mh⟩ := mi
              have s1 : (s : Int) ≤ 512 := by omega
              have eqs : (q : Int) + (s : Int) = ((q + s : Nat) : Int) := by omega
              have hqs : ((q + s : Nat) : Int) < (C.length : Int) := by omega
              have hqs0 : (0 : Int) ≤ ((q + s : Nat) : Int) := by omega
              generalize C.getD (q + s) 0 = val at *
              generalize dt T F k' = D at *
              generalize T.getD k' 0 = tt at *
              generalize q + s = qs at *
              generalize x - 1 = xm at *
              have v1 : (val : Int) < 256 := by omega
              have ml2 : -32640 ≤ tt * (val : Int) := by omega
              have mh2 : tt * (val : Int) ≤ 32640 := by omega
              clear hdr hs hcell hsp hby ml mh hFk hbm tl th
              have HWv : Hid _ := hwv
              clear hwv
              go_wp2_with fail
              go_quiet ((go_at_call 61; with_reducible exact Calls.quiet_of_same (HCl.out _)))
              go_wp2_with fail
              go_roundw
              case rel => exact ⟨k' + 1, m + nq, by omega, by go_num, by rw [HS.out, Int.add_assoc], by rw [HWv.out]; exact drewN_drewN _ _ _⟩
              case measure => simp [intOf]; omega
            · obtain rfl : k' = 8 := by omega
              obtain ⟨dl, dh⟩ := HDb.out 8 (by omega)
              have hri2 : Ri 3 wr mb (moL C x y X Y T wd hi (j * wd + i)) := by rw [hwv]; exact HRi.out.to (below_drewN (Below.refl _ _) m)
              have hjw : j * wd + i < n := by rw [HN.out]; exact at_lt hlt hli
              have c0 := hri2.cell (j * wd + i) (by rw [moL_len, ← HN.out]; exact hjw)
              have c1 := hri2.thaw (j * wd + i)
              have HSt : Hid (∀ x', x' = (4 + dt T F 8) / 8 → Ri 3 (wr.setCell ⟨mb, j * wd + i, none⟩ (.int .i64 x')) mb (moL C x y X Y T wd hi (j * wd + i + 1))) := by
                rintro x' rfl
                rw [← HMm.out, ← moL_set C x y X Y T hlt hli]
                exact hri2.set _ _
              have HBm : Hid (Below mb V wr) := hbm
              have e1 : (j : Int) * (wd : Int) = ((j * wd : Nat) : Int) := by rw [Int.natCast_mul]
              have HJ : Hid (j * wd + i + 1 = j * wd + (i + 1)) := by show _ = _; omega
              rw [HJ.out] at HSt
              generalize (moL C x y X Y T wd hi (j * wd + i)).getD (j * wd + i) 0 = old at *
              generalize hDD : dt T F 8 = D at *
              have HDD : Hid (dt T F 8 = D) := hDD
              obtain ⟨jw, hjw2⟩ : ∃ jw, jw = j * wd := ⟨_, rfl⟩
              rw [← hjw2] at c0 c1 e1 hjw
              have e2 : (jw : Int) + (i : Int) = ((jw + i : Nat) : Int) := by omega
              have e3 : ((jw + i : Nat) : Int) < (n : Int) := by omega
              have e4 : (0 : Int) ≤ ((jw + i : Nat) : Int) := by omega
              have e5 : (jw : Int) ≤ 4544 := by omega
              have HJW : Hid (jw = j * wd) := hjw2
              have HSt2 : Hid (∀ x', x' = (4 + D) / 8 → Ri 3 (wr.setCell ⟨mb, jw + i, none⟩ (.int .i64 x')) mb (moL C x y X Y T wd hi (j * wd + (i + 1)))) := by rw [hjw2]; exact HSt.out
              generalize jw + i = q' at *
              clear hri2 hbm hDD hjw2 HSt hwv hjw
              go_wp2_with fail
              go_roundw
              case rel => exact ⟨i + 1, by omega, by go_num, HSt2.out _ rfl, below_set HBm.out (by simp) _⟩
              case measure => simp [intOf]; omega
        · obtain rfl : i = wd := by omega
          have HRi : Hid (Ri 3 wr mb (moL C x y X Y T i hi ((j + 1) * i + 0))) := by show Ri _ _ _ _; rw [← moL_row]; exact hri
          have HBe : Hid _ := hbe
          clear hri hbe
          go_wp2_with fail
          go_roundw
          case rel => exact ⟨j + 1, by omega, by go_num, HRi.out, HBe.out⟩
          case measure => simp [intOf]; omega
    · obtain rfl : j = hi := by omega
      have HRi : Hid (Ri 3 wr mb (moL C x y X Y T wd j (j * wd + 0))) := hri
      have HBe : Hid (Below mb V wr) := hbe
      have HMl : Hid (mb < wr.heap.size) := hri.lt
      clear hri hbe
      rename World => wE
      obtain ⟨L, hL⟩ : ∃ L, L = bL C x y X Y T S wd ht := ⟨_, rfl⟩
      have HLl : Hid (L.length = z) := by show _ = _; rw [hL, bL_len, HZ.out]
      have HLg : Hid (∀ i, i < z → L.getD i 0 = clp ((1024 + dt S (fun k' => mm C x y X Y T (i % wd) (i / wd + k')) 8) / 2048)) := fun i hi' => by
        rw [hL]; unfold bL; rw [tab_get _ (by rw [← HZ.out]; exact hi')]; rfl
      have HLe : Hid (L = bL C x y X Y T S wd ht) := hL
      clear hL
      go_wp2_with fail
      go_loopw [25, 24] (fun q l wr => ∃ i : Nat, i ≤ z ∧ q = .int .i64 i ∧ ∃ ad cp, l = .slice ad i cp ∧ wr.ownsRow wE.heap.size 5 1 (.slice ad i cp) i (ns .u8 (L.take i)) ∧ (0 < i → ∃ g, ad = some ⟨g, 0, none⟩) ∧ Below wE.heap.size wE wr) (fun q _ _ => z - (intOf q).toNat)
      case atStart => exact ⟨0, by omega, rfl, none, 0, rfl, World.ownsRow_nil _ _ _ _, fun h => by omega, Below.refl _ _⟩
      case round =>
        obtain ⟨i, hi', rfl, ad, cp, rfl, hown, hsome, hbe⟩ := hrel
        by_cases hli : i < z
        · have i0 : (0 : Int) ≤ (i : Int) := by omega
          have i1 : (i : Int) < (z : Int) := by omega
          have HO : Hid _ := hown
          have HBw : Hid _ := hbe
          obtain ⟨G, hG⟩ : ∃ G : Nat → Int, G = fun k' : Nat => mm C x y X Y T (i % wd) (i / wd + k') := ⟨_, rfl⟩
          have HGe : Hid (G = fun k' : Nat => mm C x y X Y T (i % wd) (i / wd + k')) := hG
          have HGb : Hid (∀ k', -32640 ≤ G k' ∧ G k' ≤ 32640) := fun k' => by rw [hG]; exact mm_in HBy.out HT.out _ _ _ _ _ _
          have HDb : Hid (∀ q : Nat, q ≤ 8 → -40000000 ≤ dt S G q ∧ dt S G q ≤ 40000000) := fun q hq => by
            have := dt_le HU.out (M := 32640) HGb.out q
            have e : (q : Int) * (128 * 32640) ≤ 8 * (128 * 32640) := Int.mul_le_mul_of_nonneg_right (by omega) (by omega)
            omega
          have HLi : Hid (L.getD i 0 = clp ((1024 + dt S G 8) / 2048)) := by show _ = _; rw [HLg.out i hli, hG]
          clear hG hown hbe
          go_wp2_with fail
          go_loopw [27, 26] (fun q s wv => ∃ k' m : Nat, k' ≤ 8 ∧ q = .int .i64 k' ∧ s = .int .i64 (1024 + dt S G k') ∧ wv = wr.drewN m) (fun q _ _ => 8 - (intOf q).toNat)
          case atStart => exact ⟨0, 0, by omega, rfl, by simp [dt], rfl⟩
          case round =>
            obtain ⟨k', m, hk', rfl, rfl, hwv⟩ := hrel
            have hbm : Below wE.heap.size wE wr := by rw [hwv]; exact below_drewN HBw.out m
            by_cases hlk : k' < 8
            · have c0 : (0 : Int) ≤ (k' : Int) := by omega
              have c1 : (k' : Int) < 8 := by omega
              have hbv : Below mb V wr := HBe.out.trans (hbm.mono (Nat.le_of_lt HMl.out))
              have a0 := (HDr.out _ hbv).rd k' hlk
              have hin : i + k' * wd < n := by
                have h1 : k' * wd ≤ 7 * wd := Nat.mul_le_mul_right wd (by omega)
                have h2 : n = wd * ht + 7 * wd := by rw [HN.out, HHi.out, Nat.mul_add, Nat.mul_comm wd 7]
                have h3 := HZ.out
                omega
              have m0 := (HRi.out.to hbm).cell (i + k' * wd) (by rw [moL_len, ← HN.out]; exact hin)
              rw [moL_get C x y X Y T (by omega) (by rw [← HN.out]; exact hin)] at m0
              have hGk : mm C x y X Y T (i % wd) (i / wd + k') = G k' := by rw [HGe.out]
              rw [hGk] at m0
              obtain ⟨dl, dh⟩ := HDb.out k' hk'
              obtain ⟨tl, th⟩ := HU.out.lim k'
              obtain ⟨gl, gh⟩ := HGb.out k'
              obtain ⟨ml, mh⟩ := mul_in tl th gl gh
              have HS : Hid (dt S G (k' + 1) = dt S G k' + S.getD k' 0 * G k') := dt_succ S G k'
              have e1 : (k' : Int) * (wd : Int) = ((k' * wd : Nat) : Int) := by rw [Int.natCast_mul]
              generalize k' * wd = kw at *
              have e2 : (i : Int) + (kw : Int) = ((i + kw : Nat) : Int) := by omega
              have e3 : ((i + kw : Nat) : Int) < (n : Int) := by omega
              have e4 : (0 : Int) ≤ ((i + kw : Nat) : Int) := by omega
              have e5 : (kw : Int) ≤ 4544 := by omega
              generalize dt S G k' = D at *
              generalize S.getD k' 0 = tt at *
              generalize G k' = val at *
              generalize i + kw = ik at *
              have ml2 : -4177920 ≤ tt * val := by omega
              have mh2 : tt * val ≤ 4177920 := by omega
              clear hbm hbv hin hGk ml mh
              have HWv : Hid _ := hwv
              clear hwv
              go_wp2_with fail
              go_quiet (fail)
              go_wp2_with fail
              go_roundw
              case rel => exact ⟨k' + 1, m + nq, by omega, by go_num, by rw [HS.out, Int.add_assoc], by rw [HWv.out]; exact drewN_drewN _ _ _⟩
              case measure => simp [intOf]; omega
            · obtain rfl : k' = 8 := by omega
              obtain ⟨dl, dh⟩ := HDb.out 8 (by omega)
              have HO2 : Hid (wr.ownsRow wE.heap.size 5 1 (.slice ad i cp) i (ns .u8 (L.take i))) := by rw [hwv]; exact own_carry HO.out fun _ _ => rfl
              have HBm : Hid (Below wE.heap.size wE wr) := hbm
              have HBs : Hid (wE.heap.size ≤ wr.heap.size) := hbm.size
              have HTs : Hid (L.take i ++ [L.getD i 0] = L.take (i + 1)) := take_step (by rw [HLl.out]; exact hli)
              rw [HLi.out] at HTs
              have hcl := clp_lt ((1024 + dt S G 8) / 2048)
              have HCl : Hid (∀ t : World, Calls Tryd.prog 61 #[.int .i64 ((1024 + dt S G 8) / 2048), .int .i64 0, .int .i64 255] t fun e w' => e = .returned (.int .i64 (clp ((1024 + dt S G 8) / 2048) : Nat)) ∧ w' = t) := fun t => clp_any
              generalize clp ((1024 + dt S G 8) / 2048) = sv at *
              have sv1 : (sv : Int) < 256 := by omega
              generalize dt S G 8 = D at *
              clear hbm hwv
              go_wp2_with (first | (go_at_call 61; refine (HCl.out _).mono ?_; rintro e w' ⟨rfl, rfl⟩) | (at_builtin; refine wpList_append_u8 _ (by rfl) _ _ (by rfl) wE.heap.size i (L.take i) (.slice ad i cp) _ sv rfl HO2.out HBs.out (by omega) (by rfl) (by rfl) ?_; intro g' cap w5 how hb5))
              go_roundw
              case rel => exact ⟨i + 1, by omega, by go_num, _, cap, rfl, by rw [← HTs.out]; exact how, fun _ => ⟨g', rfl⟩, HBm.out.trans hb5⟩
              case measure => simp [intOf]; omega
        · obtain rfl : i = z := by omega
          have h0 : 0 < i := by
            rw [HZ.out]; exact Nat.mul_pos (by omega) (by omega)
          have ht' : L.take i = L := List.take_of_length_le (by rw [HLl.out]; exact Nat.le_refl _)
          rw [ht'] at hown
          have HRt : Hid (Fr u wr (.returned (.tuple #[.slice ad i cp, .int .i64 0])) L) := ⟨ad, cp, by rw [HLl.out], own_sl HLl.out.symm h0 hown (hsome h0), below_to (HDr.out _ HBe.out).blu hbe⟩
          clear hown hsome hbe ht'
          go_wp2_with fail
          refine bodyPost_ret (v := .tuple #[.slice ad i cp, .int .i64 0]) (by simp [results, Tryd.results38, go_sem]) rfl ?_
          rw [HTe.out, HSe.out, ← HLe.out]
          exact HRt.out

theorem rfetch_ok {u : World} {a : Option Addr} {c x y wd ht k : Nat} {C : List Nat} {px py : Int} (hs : Sl u .u8 a C) (hC : Byt C) (h : FOk (x : Int) (y : Int) C px py (wd : Int) (ht : Int) (k : Int)) :
    Calls Tryd.prog 38 #[.agg #[.int .i64 (x : Int), .int .i64 (y : Int), .slice a C.length c], .int .i64 px, .int .i64 py, .int .i64 (wd : Int), .int .i64 (ht : Int), .int .i64 (k : Int)] u fun e w' => Fr u w' e (fe C x y px py wd ht k) := by
  obtain ⟨x', y', ex, ey, p0, p1, p2, p3, p4⟩ := h.pl.nat
  obtain rfl : x = x' := by omega
  obtain rfl : y = y' := by omega
  have h1 := h.w
  have h2 := h.h
  have h3 := h.k
  exact rfetch_core hs hC p0 p1 p2 p3 p4 h.x h.y (by omega) (by omega) (by omega) (by omega) (by omega) rfl rfl (by omega) (by omega)

end Go.Proofs.YtpideemiijhkgaaDoor
