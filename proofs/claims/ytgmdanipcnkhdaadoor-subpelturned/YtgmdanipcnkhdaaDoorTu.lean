/- DERIVED. The walk of SubpelTurned. -/
import Derived.Test.YtgmdanipcnkhdaaDoorTc
import Derived.Deep.DeepCutAuto
import Derived.Deep.Light
namespace Go.Proofs.YtgmdanipcnkhdaaDoor
open Go.RowKit

set_option maxRecDepth 100000 in
set_option maxHeartbeats 8000000 in
theorem turned_walk {u : World} {a : Option Addr} {c : Nat} {C : List Nat} {W H la lb lc ld le : Int} (hg : Gt u) (hin : PlIn u W H a c C) :
    Calls Tryd.prog 8 #[.agg #[.int .i64 W, .int .i64 H, .slice a C.length c], .agg #[.int .i64 la, .int .i64 lb, .int .i64 lc, .int .i64 ld, .int .i64 le]] u fun e w' => e = .returned (.bool true) ∧ Below u.heap.size u w' := by
  have HG : Hid (Gt u) := hg
  have HI : Hid (PlIn u W H a c C) := hin
  clear hg hin
  go_enter Tryd.func8, Tryd.ntmps8
  go_wp2_with fail
  have HB0 : Hid (Below u.heap.size u ((u.alloc (.cells #[.int .i64 W, .int .i64 H, .slice a C.length c] 30)).alloc (.cells #[.int .i64 la, .int .i64 lb, .int .i64 lc, .int .i64 ld, .int .i64 le] 32))) := to_alloc (from_alloc _ _) _
  have HC0 : Hid (Cx ((u.alloc (.cells #[.int .i64 W, .int .i64 H, .slice a C.length c] 30)).alloc (.cells #[.int .i64 la, .int .i64 lb, .int .i64 lc, .int .i64 ld, .int .i64 le] 32)) u.heap.size (u.heap.size + 1) W H a C.length c la lb lc ld le) := Cx.start u W H a C.length c la lb lc ld le
  generalize (u.alloc (.cells #[.int .i64 W, .int .i64 H, .slice a C.length c] 30)).alloc (.cells #[.int .i64 la, .int .i64 lb, .int .i64 lc, .int .i64 ld, .int .i64 le] 32) = v0 at *
  refine (works_true (HG.out.to HB0.out)).mono ?_
  rintro e v1 ⟨rfl, hb⟩
  have HB1 : Hid (Below u.heap.size u v1) := below_to HB0.out hb
  have HC1 : Hid (Cx v1 u.heap.size (u.heap.size + 1) W H a C.length c la lb lc ld le) := HC0.out.to hb
  have p0 := HC1.out.p0
  have p1 := HC1.out.p1
  have p2 := HC1.out.p2
  clear hb HB0 HC0
  go_wp2_with fail
  refine check_any.mono ?_
  rintro e v2 ⟨rfl, hb⟩
  have HB2 : Hid (Below u.heap.size u v2) := below_to HB1.out hb
  have HC2 : Hid (Cx v2 u.heap.size (u.heap.size + 1) W H a C.length c la lb lc ld le) := HC1.out.to hb
  clear hb HB1 HC1 p0 p1 p2
  by_cases hp : POk W H C
  · rw [ck_ok hp]
    obtain ⟨x, y, rfl, rfl, x0, x1, y0, y1, hxy⟩ := hp.nat
    have HP : Hid (POk (x : Int) (y : Int) C) := hp
    have HX : Hid (1 ≤ x ∧ x ≤ 512 ∧ 1 ≤ y ∧ y ≤ 512 ∧ C.length = x * y) := ⟨x0, x1, y0, y1, hxy⟩
    have l0 := HC2.out.l.c0
    have l1 := HC2.out.l.c1
    have l2 := HC2.out.l.c2
    have l3 := HC2.out.l.c3
    have l4 := HC2.out.l.c4
    have p0 := HC2.out.p0
    have p1 := HC2.out.p1
    have p2 := HC2.out.p2
    have exy : (x : Int) * (y : Int) = (C.length : Int) := by rw [hxy, Int.natCast_mul]
    have hcc : ((C.length : Int) != (C.length : Int)) = false := by simp
    have xi0 : (1 : Int) ≤ (x : Int) := by omega
    have xi1 : (x : Int) ≤ 512 := by omega
    have yi0 : (1 : Int) ≤ (y : Int) := by omega
    have yi1 : (y : Int) ≤ 512 := by omega
    have cb : (C.length : Int) ≤ 262144 := by have : C.length ≤ 262144 := (by rw [hxy]; exact prod_le x1 y1); omega
    clear hp x0 x1 y0 y1 hxy
    go_wp2_with fail
    refine may_any.mono ?_
    rintro e v3 ⟨rfl, hb⟩
    obtain ⟨px, hpx⟩ : ∃ px, px = la % 2000 - 500 := ⟨_, rfl⟩
    obtain ⟨py, hpy⟩ : ∃ py, py = lb % 2000 - 500 := ⟨_, rfl⟩
    obtain ⟨wd, hwd⟩ : ∃ wd : Nat, (wd : Int) = 4 + lc % 13 := ⟨(4 + lc % 13).toNat, by omega⟩
    obtain ⟨ht, hht⟩ : ∃ ht : Nat, (ht : Int) = 4 + ld % 13 := ⟨(4 + ld % 13).toNat, by omega⟩
    obtain ⟨k, hk⟩ : ∃ k : Nat, (k : Int) = le % 3 := ⟨(le % 3).toNat, by omega⟩
    rw [← hpx, ← hpy, ← hwd, ← hht, ← hk]
    have X0 : -500 ≤ px := by omega
    have X1 : px ≤ 1499 := by omega
    have Y0 : -500 ≤ py := by omega
    have Y1 : py ≤ 1499 := by omega
    have W0 : 4 ≤ (wd : Int) := by omega
    have W1 : (wd : Int) ≤ 16 := by omega
    have H0 : 4 ≤ (ht : Int) := by omega
    have H1 : (ht : Int) ≤ 16 := by omega
    have K0 : 0 ≤ (k : Int) := by omega
    have K1 : (k : Int) ≤ 2 := by omega
    clear hpx hpy hwd hht hk
    have HB3 : Hid (Below u.heap.size u v3) := below_to HB2.out hb
    have HC3 : Hid (Cx v3 u.heap.size (u.heap.size + 1) (x : Int) (y : Int) a C.length c la lb lc ld le) := HC2.out.to hb
    clear hb HB2 HC2 l0 l1 l2 l3 l4 p0 p1 p2 exy hcc
    have l0 := HC3.out.l.c0
    have l1 := HC3.out.l.c1
    have l2 := HC3.out.l.c2
    have l3 := HC3.out.l.c3
    have l4 := HC3.out.l.c4
    have f0 := HC3.out.fr 0
    have f1 := HC3.out.fr 1
    have f2 := HC3.out.fr 2
    have f3 := HC3.out.fr 3
    have f4 := HC3.out.fr 4
    have p0 := HC3.out.p0
    have p1 := HC3.out.p1
    have p2 := HC3.out.p2
    go_upto_region 6 with fail
    have HC4 : Hid (Cx (((((v3.setCell ⟨u.heap.size + 1, 0, none⟩ (.int .i64 px)).setCell ⟨u.heap.size + 1, 1, none⟩ (.int .i64 py)).setCell ⟨u.heap.size + 1, 2, none⟩ (.int .i64 (wd : Int))).setCell ⟨u.heap.size + 1, 3, none⟩ (.int .i64 (ht : Int))).setCell ⟨u.heap.size + 1, 4, none⟩ (.int .i64 (k : Int))) u.heap.size (u.heap.size + 1) (x : Int) (y : Int) a C.length c px py (wd : Int) (ht : Int) (k : Int)) := HC3.out.put (by omega) px py (wd : Int) (ht : Int) (k : Int)
    have HB4 : Hid (Below u.heap.size u (((((v3.setCell ⟨u.heap.size + 1, 0, none⟩ (.int .i64 px)).setCell ⟨u.heap.size + 1, 1, none⟩ (.int .i64 py)).setCell ⟨u.heap.size + 1, 2, none⟩ (.int .i64 (wd : Int))).setCell ⟨u.heap.size + 1, 3, none⟩ (.int .i64 (ht : Int))).setCell ⟨u.heap.size + 1, 4, none⟩ (.int .i64 (k : Int)))) := below_set5 HB3.out (by omega)
    generalize (((((v3.setCell ⟨u.heap.size + 1, 0, none⟩ (.int .i64 px)).setCell ⟨u.heap.size + 1, 1, none⟩ (.int .i64 py)).setCell ⟨u.heap.size + 1, 2, none⟩ (.int .i64 (wd : Int))).setCell ⟨u.heap.size + 1, 3, none⟩ (.int .i64 (ht : Int))).setCell ⟨u.heap.size + 1, 4, none⟩ (.int .i64 (k : Int))) = v4 at *
    clear HB3 HC3 l0 l1 l2 l3 l4 f0 f1 f2 f3 f4 p0 p1 p2
    have l0 := HC4.out.l.c0
    have l1 := HC4.out.l.c1
    have l2 := HC4.out.l.c2
    have l3 := HC4.out.l.c3
    have l4 := HC4.out.l.c4
    have p0 := HC4.out.p0
    have p1 := HC4.out.p1
    have p2 := HC4.out.p2
    have HF : Hid (∀ (t : World), Below v4.heap.size v4 t → ∀ (D : List Nat) (a' : Option Addr) (c' : Nat) (qx qy : Int), Sl t .u8 a' D → Byt D → D.length = C.length → -1048576 ≤ qx ∧ qx ≤ 1048576 → -1048576 ≤ qy ∧ qy ≤ 1048576 → Calls Tryd.prog 13 #[.agg #[.int .i64 (x : Int), .int .i64 (y : Int), .slice a' D.length c'], .int .i64 qx, .int .i64 qy, .int .i64 (wd : Int), .int .i64 (ht : Int), .int .i64 (k : Int)] t fun e w' => Fd t w' e (fe D x y qx qy wd ht k)) := fun t htt D a' c' qx qy hs hby hl hqx hqy =>
      fetch_ok ((HG.out.to HB4.out).to htt) hs hby ⟨⟨HP.out.w0, HP.out.w1, HP.out.h0, HP.out.h1, by rw [hl]; exact HP.out.len⟩, hqx, hqy, by omega, by omega, by omega⟩
    obtain ⟨n, hn⟩ : ∃ n, n = wd * ht := ⟨_, rfl⟩
    have HN : Hid (n = wd * ht) := hn
    have en : (wd : Int) * (ht : Int) = (n : Int) := by rw [← Int.natCast_mul, hn]
    have nb : n ≤ 16 * 16 := by rw [hn]; exact Nat.mul_le_mul (by omega) (by omega)
    have n1 : (n : Int) ≤ 256 := by omega
    have hne : ((n : Int) != (n : Int)) = false := by simp
    obtain ⟨DA, hDA⟩ : ∃ DA, DA = mrA C x y := ⟨_, rfl⟩
    obtain ⟨DD, hDD⟩ : ∃ DD, DD = mrD C x y := ⟨_, rfl⟩
    have HDAl : Hid (DA.length = C.length) := by show _ = _; rw [hDA, mrA, tab_len]; exact HX.out.2.2.2.2.symm
    have HDDl : Hid (DD.length = C.length) := by show _ = _; rw [hDD, mrD, tab_len]; exact HX.out.2.2.2.2.symm
    have HDAb : Hid (Byt DA) := by show Byt _; rw [hDA]; exact tab_byt fun j => HI.out.byt _
    have HDDb : Hid (Byt DD) := by show Byt _; rw [hDD]; exact tab_byt fun j => HI.out.byt _
    obtain ⟨L, hL⟩ : ∃ L, L = fe C x y px py wd ht k := ⟨_, rfl⟩
    obtain ⟨MA, hMA⟩ : ∃ MA, MA = fe DA x y (16 * ((x : Int) - (wd : Int)) - px) py wd ht k := ⟨_, rfl⟩
    obtain ⟨MD, hMD⟩ : ∃ MD, MD = fe DD x y px (16 * ((y : Int) - (ht : Int)) - py) wd ht k := ⟨_, rfl⟩
    have HLl : Hid (L.length = n) := by show _ = _; rw [hL, fe_len, hn]
    have HLMA : Hid (MA.length = n) := by show _ = _; rw [hMA, fe_len, hn]
    have HLMD : Hid (MD.length = n) := by show _ = _; rw [hMD, fe_len, hn]
    have HVA : Hid (∀ i j, i < wd → j < ht → MA.getD (j * wd + (wd - 1 - i)) 0 = L.getD (j * wd + i) 0) := fun i j hi hj => by
      rw [hMA, hL]
      exact fe_across (by omega) (fun i j => by rw [hDA]; exact sp_mrA HX.out.1 HX.out.2.2.1 i j) px py hi hj
    have HVD : Hid (∀ i j, i < wd → j < ht → MD.getD ((ht - 1 - j) * wd + i) 0 = L.getD (j * wd + i) 0) := fun i j hi hj => by
      rw [hMD, hL]
      exact fe_down (by omega) (fun i j => by rw [hDD]; exact sp_mrD HX.out.1 HX.out.2.2.1 i j) px py hi hj
    have HFb : Hid (Calls Tryd.prog 13 #[.agg #[.int .i64 (x : Int), .int .i64 (y : Int), .slice a C.length c], .int .i64 px, .int .i64 py, .int .i64 (wd : Int), .int .i64 (ht : Int), .int .i64 (k : Int)] v4 fun e w' => Fd v4 w' e L) := by rw [hL]; exact HF.out v4 (Below.refl _ _) C a c px py (HI.out.sl.to HB4.out) HI.out.byt rfl (by omega) (by omega)
    have HMA : Hid (∀ t : World, Below v4.heap.size v4 t → Calls Tryd.prog 22 #[.agg #[.int .i64 (x : Int), .int .i64 (y : Int), .slice a C.length c], .bool true] t fun e w' => Mn t w' e x y DA) := fun t htt => by
      obtain ⟨q0, q1, q2, q3, q4⟩ := HX.out
      rw [hDA]; exact mirA ((HI.out.sl.to HB4.out).to htt) HI.out.byt q0 q1 q2 q3 q4
    have HMD : Hid (∀ t : World, Below v4.heap.size v4 t → Calls Tryd.prog 22 #[.agg #[.int .i64 (x : Int), .int .i64 (y : Int), .slice a C.length c], .bool false] t fun e w' => Mn t w' e x y DD) := fun t htt => by
      obtain ⟨q0, q1, q2, q3, q4⟩ := HX.out
      rw [hDD]; exact mirD ((HI.out.sl.to HB4.out).to htt) HI.out.byt q0 q1 q2 q3 q4
    have HFA : Hid (∀ (t : World) (gm : Nat), Below v4.heap.size v4 t → Rw t gm DA → Calls Tryd.prog 13 #[.agg #[.int .i64 (x : Int), .int .i64 (y : Int), .slice (some ⟨gm, 0, none⟩) DA.length DA.length], .int .i64 (16 * ((x : Int) - (wd : Int)) - px), .int .i64 py, .int .i64 (wd : Int), .int .i64 (ht : Int), .int .i64 (k : Int)] t fun e w' => Fd t w' e MA) := fun t gm htt hr => by
      rw [hMA]; exact HF.out t htt DA _ _ _ _ hr.sl HDAb.out HDAl.out (by omega) (by omega)
    have HFD : Hid (∀ (t : World) (gm : Nat), Below v4.heap.size v4 t → Rw t gm DD → Calls Tryd.prog 13 #[.agg #[.int .i64 (x : Int), .int .i64 (y : Int), .slice (some ⟨gm, 0, none⟩) DD.length DD.length], .int .i64 px, .int .i64 (16 * ((y : Int) - (ht : Int)) - py), .int .i64 (wd : Int), .int .i64 (ht : Int), .int .i64 (k : Int)] t fun e w' => Fd t w' e MD) := fun t gm htt hr => by
      rw [hMD]; exact HF.out t htt DD _ _ _ _ hr.sl HDDb.out HDDl.out (by omega) (by omega)
    have a1 : IntKind.i64.wrap ((x : Int) - (wd : Int)) = (x : Int) - (wd : Int) := by rw [IntKind.wrap_i64]; omega
    have a2 : IntKind.i64.wrap (16 * ((x : Int) - (wd : Int))) = 16 * ((x : Int) - (wd : Int)) := by rw [IntKind.wrap_i64]; omega
    have a3 : IntKind.i64.wrap (16 * ((x : Int) - (wd : Int)) - px) = 16 * ((x : Int) - (wd : Int)) - px := by rw [IntKind.wrap_i64]; omega
    have a4 : IntKind.i64.wrap ((y : Int) - (ht : Int)) = (y : Int) - (ht : Int) := by rw [IntKind.wrap_i64]; omega
    have a5 : IntKind.i64.wrap (16 * ((y : Int) - (ht : Int))) = 16 * ((y : Int) - (ht : Int)) := by rw [IntKind.wrap_i64]; omega
    have a6 : IntKind.i64.wrap (16 * ((y : Int) - (ht : Int)) - py) = 16 * ((y : Int) - (ht : Int)) - py := by rw [IntKind.wrap_i64]; omega
    clear hn nb hDA hDD hL hMA hMD HF
    go_wp2_with fail
    refine HFb.out.mono ?_
    rintro e v5 ⟨g, rfl, hrw, _, hb⟩
    rw [HLl.out]
    have HR5 : Hid (Rw v5 g L) := hrw
    have HBv5 : Hid (Below v4.heap.size v4 v5) := hb
    have HC5 : Hid (Cx v5 u.heap.size (u.heap.size + 1) (x : Int) (y : Int) a C.length c px py (wd : Int) (ht : Int) (k : Int)) := HC4.out.to hb
    clear hrw hb HFb HC4 l0 l1 l2 l3 l4 p0 p1 p2
    have HEA : Hid (∀ t : World, Below v5.heap.size v5 t → t.cell? ⟨u.heap.size, 0, none⟩ = some (.int .i64 (x : Int)) ∧ t.cell? ⟨u.heap.size, 1, none⟩ = some (.int .i64 (y : Int)) ∧ t.cell? ⟨u.heap.size, 2, none⟩ = some (.slice a C.length c) ∧ t.cell? ⟨u.heap.size + 1, 0, none⟩ = some (.int .i64 px) ∧ t.cell? ⟨u.heap.size + 1, 1, none⟩ = some (.int .i64 py) ∧ t.cell? ⟨u.heap.size + 1, 2, none⟩ = some (.int .i64 (wd : Int)) ∧ t.cell? ⟨u.heap.size + 1, 3, none⟩ = some (.int .i64 (ht : Int)) ∧ t.cell? ⟨u.heap.size + 1, 4, none⟩ = some (.int .i64 (k : Int))) := fun t htt => by
      have h := HC5.out.to htt
      exact ⟨h.p0, h.p1, h.p2, h.l.c0, h.l.c1, h.l.c2, h.l.c3, h.l.c4⟩
    have HMiA : Hid (∀ t : World, Below v5.heap.size v5 t → Calls Tryd.prog 22 #[.agg #[.int .i64 (x : Int), .int .i64 (y : Int), .slice a C.length c], .bool true] t fun e w' => Mn t w' e x y DA) := fun t htt => HMA.out t (below_to HBv5.out htt)
    have HFxA : Hid (∀ (t : World) (gm : Nat), Below v5.heap.size v5 t → Rw t gm DA → Calls Tryd.prog 13 #[.agg #[.int .i64 (x : Int), .int .i64 (y : Int), .slice (some ⟨gm, 0, none⟩) DA.length DA.length], .int .i64 (16 * ((x : Int) - (wd : Int)) - px), .int .i64 (py), .int .i64 (wd : Int), .int .i64 (ht : Int), .int .i64 (k : Int)] t fun e w' => Fd t w' e MA) := fun t gm htt hr => HFA.out t gm (below_to HBv5.out htt) hr
    go_upto_region 7 with fail
    go_cut [7, 8] (fun s7 s8 T => ∃ g2, s7 = .slice (some ⟨g2, 0, none⟩) n n ∧ s8 = .int .i64 0 ∧ Rw T g2 MA ∧ Below v5.heap.size v5 T)
    case first =>
      go_region_held3 (fun t => t.cell? ⟨u.heap.size, 0, none⟩ = some (.int .i64 (x : Int)) ∧ t.cell? ⟨u.heap.size, 1, none⟩ = some (.int .i64 (y : Int)) ∧ t.cell? ⟨u.heap.size, 2, none⟩ = some (.slice a C.length c) ∧ t.cell? ⟨u.heap.size + 1, 0, none⟩ = some (.int .i64 px) ∧ t.cell? ⟨u.heap.size + 1, 1, none⟩ = some (.int .i64 py) ∧ t.cell? ⟨u.heap.size + 1, 2, none⟩ = some (.int .i64 (wd : Int)) ∧ t.cell? ⟨u.heap.size + 1, 3, none⟩ = some (.int .i64 (ht : Int)) ∧ t.cell? ⟨u.heap.size + 1, 4, none⟩ = some (.int .i64 (k : Int))) ((exact HEA.out _ (by first | exact below_drew (Below.refl _ _) | exact below_to (below_drew (Below.refl _ _)) hb1 | exact below_to (below_to (below_drew (Below.refl _ _)) hb1) hb2))) ((first | (go_at_call 22; refine (HMiA.out _ (below_drew (Below.refl _ _))).mono ?_; rintro e s1 ⟨gm, rfl, hr1, hb1⟩) | (go_at_call 13; refine (HFxA.out _ _ (below_to (below_drew (Below.refl _ _)) hb1) hr1).mono ?_; rintro e s2 ⟨g2, rfl, hr2, _, hb2⟩; rw [HLMA.out])))
      all_goals
        go_wp2_with fail
        go_meet
        exact ⟨g2, rfl, rfl, hr2, below_to (below_to (below_drew (Below.refl _ _)) hb1) hb2⟩
    obtain ⟨gA, rfl, rfl, hrw, hb⟩ := hcut
    rename World => v6
    have HR6 : Hid (Rw v6 g L) := HR5.out.to hb
    have HA6 : Hid (Rw v6 gA MA) := hrw
    have HBv6 : Hid (Below v4.heap.size v4 v6) := below_to HBv5.out hb
    have HC6 : Hid (Cx v6 u.heap.size (u.heap.size + 1) (x : Int) (y : Int) a C.length c px py (wd : Int) (ht : Int) (k : Int)) := HC5.out.to hb
    clear hrw hb HEA HMiA HFxA HR5 HBv5 HC5
    have HED : Hid (∀ t : World, Below v6.heap.size v6 t → t.cell? ⟨u.heap.size, 0, none⟩ = some (.int .i64 (x : Int)) ∧ t.cell? ⟨u.heap.size, 1, none⟩ = some (.int .i64 (y : Int)) ∧ t.cell? ⟨u.heap.size, 2, none⟩ = some (.slice a C.length c) ∧ t.cell? ⟨u.heap.size + 1, 0, none⟩ = some (.int .i64 px) ∧ t.cell? ⟨u.heap.size + 1, 1, none⟩ = some (.int .i64 py) ∧ t.cell? ⟨u.heap.size + 1, 2, none⟩ = some (.int .i64 (wd : Int)) ∧ t.cell? ⟨u.heap.size + 1, 3, none⟩ = some (.int .i64 (ht : Int)) ∧ t.cell? ⟨u.heap.size + 1, 4, none⟩ = some (.int .i64 (k : Int))) := fun t htt => by
      have h := HC6.out.to htt
      exact ⟨h.p0, h.p1, h.p2, h.l.c0, h.l.c1, h.l.c2, h.l.c3, h.l.c4⟩
    have HMiD : Hid (∀ t : World, Below v6.heap.size v6 t → Calls Tryd.prog 22 #[.agg #[.int .i64 (x : Int), .int .i64 (y : Int), .slice a C.length c], .bool false] t fun e w' => Mn t w' e x y DD) := fun t htt => HMD.out t (below_to HBv6.out htt)
    have HFxD : Hid (∀ (t : World) (gm : Nat), Below v6.heap.size v6 t → Rw t gm DD → Calls Tryd.prog 13 #[.agg #[.int .i64 (x : Int), .int .i64 (y : Int), .slice (some ⟨gm, 0, none⟩) DD.length DD.length], .int .i64 (px), .int .i64 (16 * ((y : Int) - (ht : Int)) - py), .int .i64 (wd : Int), .int .i64 (ht : Int), .int .i64 (k : Int)] t fun e w' => Fd t w' e MD) := fun t gm htt hr => HFD.out t gm (below_to HBv6.out htt) hr
    go_upto_region 8 with fail
    go_cut [9, 10] (fun s7 s8 T => ∃ g2, s7 = .slice (some ⟨g2, 0, none⟩) n n ∧ s8 = .int .i64 0 ∧ Rw T g2 MD ∧ Below v6.heap.size v6 T)
    case first =>
      go_region_held3 (fun t => t.cell? ⟨u.heap.size, 0, none⟩ = some (.int .i64 (x : Int)) ∧ t.cell? ⟨u.heap.size, 1, none⟩ = some (.int .i64 (y : Int)) ∧ t.cell? ⟨u.heap.size, 2, none⟩ = some (.slice a C.length c) ∧ t.cell? ⟨u.heap.size + 1, 0, none⟩ = some (.int .i64 px) ∧ t.cell? ⟨u.heap.size + 1, 1, none⟩ = some (.int .i64 py) ∧ t.cell? ⟨u.heap.size + 1, 2, none⟩ = some (.int .i64 (wd : Int)) ∧ t.cell? ⟨u.heap.size + 1, 3, none⟩ = some (.int .i64 (ht : Int)) ∧ t.cell? ⟨u.heap.size + 1, 4, none⟩ = some (.int .i64 (k : Int))) ((exact HED.out _ (by first | exact below_drew (Below.refl _ _) | exact below_to (below_drew (Below.refl _ _)) hb1 | exact below_to (below_to (below_drew (Below.refl _ _)) hb1) hb2))) ((first | (go_at_call 22; refine (HMiD.out _ (below_drew (Below.refl _ _))).mono ?_; rintro e s1 ⟨gm, rfl, hr1, hb1⟩) | (go_at_call 13; refine (HFxD.out _ _ (below_to (below_drew (Below.refl _ _)) hb1) hr1).mono ?_; rintro e s2 ⟨g2, rfl, hr2, _, hb2⟩; rw [HLMD.out])))
      all_goals
        go_wp2_with fail
        go_meet
        exact ⟨g2, rfl, rfl, hr2, below_to (below_to (below_drew (Below.refl _ _)) hb1) hb2⟩
    obtain ⟨gD, rfl, rfl, hrw, hb⟩ := hcut
    rename World => v7
    have HR7 : Hid (Rw v7 g L) := HR6.out.to hb
    have HA7 : Hid (Rw v7 gA MA) := HA6.out.to hb
    have HD7 : Hid (Rw v7 gD MD) := hrw
    have HB7 : Hid (Below u.heap.size u v7) := below_to HB4.out (below_to HBv6.out hb)
    have HC7 : Hid (Cx v7 u.heap.size (u.heap.size + 1) (x : Int) (y : Int) a C.length c px py (wd : Int) (ht : Int) (k : Int)) := HC6.out.to hb
    clear hrw hb HED HMiD HFxD HR6 HA6 HBv6 HC6 HB4 HMA HMD HFA HFD a1 a2 a3 a4 a5 a6
    have l0 := HC7.out.l.c0
    have l1 := HC7.out.l.c1
    have l2 := HC7.out.l.c2
    have l3 := HC7.out.l.c3
    have l4 := HC7.out.l.c4
    have p0 := HC7.out.p0
    have p1 := HC7.out.p1
    have p2 := HC7.out.p2
    go_wp2_with fail
    clear l0 l1 l2 l3 l4 p0 p1 p2
    go_loopw [11] (fun i wr => ∃ j m : Nat, j ≤ n ∧ i = .int .i64 j ∧ wr = v7.drewN m) (fun i _ => n - (intOf i).toNat)
    case atStart => exact ⟨0, 0, by omega, rfl, rfl⟩
    case round =>
      obtain ⟨j, m, hj, rfl, hwv⟩ := hrel
      by_cases hlt : j < n
      · have j0 : (0 : Int) ≤ (j : Int) := by omega
        have j1 : (j : Int) < (n : Int) := by omega
        obtain ⟨r, hr⟩ : ∃ r, r = j % wd := ⟨_, rfl⟩
        obtain ⟨d, hd⟩ : ∃ d, d = j / wd := ⟨_, rfl⟩
        have hrx : r < wd := by rw [hr]; exact Nat.mod_lt _ (by omega)
        have hdy : d < ht := by rw [hd]; exact div_of (by rw [← HN.out]; exact hlt)
        have hjj : j = d * wd + r := by rw [hd, hr]; exact (parts j wd (by omega)).1
        have m1 : (j : Int).tmod (wd : Int) = (r : Int) := by rw [hr, Int.tmod_eq_emod_of_nonneg (by omega)]; rfl
        have m2 : (j : Int).tdiv (wd : Int) = (d : Int) := by rw [hd, Int.tdiv_eq_ediv_of_nonneg (by omega)]; rfl
        have m3 : (j : Int) % (wd : Int) = (r : Int) := by rw [hr]; rfl
        have m4 : (j : Int) / (wd : Int) = (d : Int) := by rw [hd]; rfl
        have m5 : ¬ (wd : Int) = 0 := by omega
        have m6 : ¬ wd = 0 := by omega
        have m7 : IntKind.i64.wrap (d : Int) = (d : Int) := by rw [IntKind.wrap_i64]; omega
        have m8 : IntKind.i64.wrap (r : Int) = (r : Int) := by rw [IntKind.wrap_i64]; omega
        have r1 : (r : Int) < (wd : Int) := by omega
        have d1 : (d : Int) < (ht : Int) := by omega
        obtain ⟨z, hz⟩ : ∃ z, z = d * wd := ⟨_, rfl⟩
        obtain ⟨y2, hy2⟩ : ∃ y2, y2 = (ht - 1 - d) * wd := ⟨_, rfl⟩
        obtain ⟨qa, hqa⟩ : ∃ qa, qa = z + (wd - 1 - r) := ⟨_, rfl⟩
        obtain ⟨qd, hqd⟩ : ∃ qd, qd = y2 + r := ⟨_, rfl⟩
        have hqan : qa < n := by rw [hqa, hz, HN.out]; exact at_lt hdy (by omega)
        have hqdn : qd < n := by rw [hqd, hy2, HN.out]; exact at_lt (by omega) hrx
        have va := HVA.out r d hrx hdy
        have vd := HVD.out r d hrx hdy
        rw [← hz, ← hqa, hz, ← hjj] at va
        rw [← hy2, ← hqd, ← hjj] at vd
        have c0 : v7.cell? ⟨g, j, none⟩ = some (.int .u8 (L.getD j 0 : Nat)) := HR7.out.cell j (by rw [HLl.out]; exact hlt)
        have c1 : v7.cell? ⟨gA, qa, none⟩ = some (.int .u8 (MA.getD qa 0 : Nat)) := HA7.out.cell qa (by rw [HLMA.out]; exact hqan)
        have c2 : v7.cell? ⟨gD, qd, none⟩ = some (.int .u8 (MD.getD qd 0 : Nat)) := HD7.out.cell qd (by rw [HLMD.out]; exact hqdn)
        rw [va] at c1
        rw [vd] at c2
        have l2 := HC7.out.l.c2
        have l3 := HC7.out.l.c3
        have e1 : (ht : Int) - 1 - (d : Int) = ((ht - 1 - d : Nat) : Int) := by omega
        have t1 : IntKind.i64.wrap ((d : Int) * (wd : Int)) = (z : Int) := by rw [← Int.natCast_mul, ← hz, IntKind.wrap_i64]; omega
        have t2 : IntKind.i64.wrap ((z : Int) + (wd : Int)) = (z : Int) + (wd : Int) := by rw [IntKind.wrap_i64]; omega
        have t3 : IntKind.i64.wrap ((z : Int) + (wd : Int) - 1) = (z : Int) + (wd : Int) - 1 := by rw [IntKind.wrap_i64]; omega
        have t4 : IntKind.i64.wrap ((z : Int) + (wd : Int) - 1 - (r : Int)) = (qa : Int) := by rw [IntKind.wrap_i64]; omega
        have t5 : IntKind.i64.wrap ((ht : Int) - 1) = (ht : Int) - 1 := by rw [IntKind.wrap_i64]; omega
        have t6 : IntKind.i64.wrap ((ht : Int) - 1 - (d : Int)) = ((ht - 1 - d : Nat) : Int) := by rw [IntKind.wrap_i64]; omega
        have t7 : IntKind.i64.wrap (((ht - 1 - d : Nat) : Int) * (wd : Int)) = (y2 : Int) := by rw [← Int.natCast_mul, ← hy2, IntKind.wrap_i64]; omega
        have t8 : IntKind.i64.wrap ((y2 : Int) + (r : Int)) = (qd : Int) := by rw [IntKind.wrap_i64]; omega
        have qa0 : (0 : Int) ≤ (qa : Int) := by omega
        have qa1 : (qa : Int) < (n : Int) := by omega
        have qd0 : (0 : Int) ≤ (qd : Int) := by omega
        have qd1 : (qd : Int) < (n : Int) := by omega
        generalize L.getD j 0 = s at *
        have hss : ((s : Int) != (s : Int)) = false := by simp
        generalize ht - 1 - d = hd' at *
        have HCs : Hid (v7.cell? ⟨g, j, none⟩ = some (.int .u8 (s : Nat)) ∧ v7.cell? ⟨gA, qa, none⟩ = some (.int .u8 (s : Nat)) ∧ v7.cell? ⟨gD, qd, none⟩ = some (.int .u8 (s : Nat)) ∧ v7.cell? ⟨u.heap.size + 1, 2, none⟩ = some (.int .i64 (wd : Int)) ∧ v7.cell? ⟨u.heap.size + 1, 3, none⟩ = some (.int .i64 (ht : Int))) := ⟨c0, c1, c2, l2, l3⟩
        clear hr hd hrx hdy hz hy2 hqa hqd hqan hqdn va vd e1 c0 c1 c2 l2 l3 hjj
        have HCw : Hid (∀ q, (wr.drewN q).cell? ⟨g, j, none⟩ = some (.int .u8 (s : Nat)) ∧ (wr.drewN q).cell? ⟨gA, qa, none⟩ = some (.int .u8 (s : Nat)) ∧ (wr.drewN q).cell? ⟨gD, qd, none⟩ = some (.int .u8 (s : Nat)) ∧ (wr.drewN q).cell? ⟨u.heap.size + 1, 2, none⟩ = some (.int .i64 (wd : Int)) ∧ (wr.drewN q).cell? ⟨u.heap.size + 1, 3, none⟩ = some (.int .i64 (ht : Int))) := fun q => by rw [hwv]; exact HCs.out
        have HWv : Hid (wr = v7.drewN m) := hwv
        clear hwv HCs
        have l2 : wr.cell? ⟨u.heap.size + 1, 2, none⟩ = some (.int .i64 (wd : Int)) := (HCw.out 0).2.2.2.1
        go_wp2_with fail
        go_quiet (fail)
        obtain ⟨c0, c1, c2, l2', l3⟩ := HCw.out nq
        have HWq : Hid (wr.drewN nq = v7.drewN (m + nq)) := by show _ = _; rw [HWv.out]; exact drewN_drewN _ _ _
        generalize m + nq = m2 at *
        generalize wr.drewN nq = wq at *
        clear HCw HWv l2
        go_wp2_with fail
        go_quiet (fail)
        go_wp2_with fail
        go_roundw
        case rel => exact ⟨j + 1, m2 + nq, by omega, by go_num, by rw [HWq.out]; exact drewN_drewN _ _ _⟩
        case measure => simp [intOf]; omega
      · have HB8 : Hid (Below u.heap.size u wr) := by show Below _ _ _; rw [hwv]; exact below_drewN HB7.out m
        clear hwv
        go_wp2_with fail
        go_ret
        exact ⟨rfl, HB8.out⟩
  · rw [ck_no hp]
    have HPn : Hid (¬ POk W H C) := hp
    have p0 := HC2.out.p0
    have p1 := HC2.out.p1
    have p2 := HC2.out.p2
    clear hp
    go_wp2_with fail
    refine check_any.mono ?_
    rintro e v3 ⟨rfl, hb⟩
    rw [ck_no HPn.out]
    have HB3 : Hid (Below u.heap.size u v3) := below_to HB2.out hb
    clear hb
    go_wp2_with fail
    go_ret
    exact ⟨rfl, HB3.out⟩

end Go.Proofs.YtgmdanipcnkhdaaDoor
