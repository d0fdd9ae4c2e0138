/- DERIVED. The walk of SubpelWhole. -/
import Derived.Test.YtgmdanipcnkhdaaDoorHa
import Derived.Deep.DeepCutAuto
namespace Go.Proofs.YtgmdanipcnkhdaaDoor
open Go.RowKit

/-- what one round reads -/
structure Sw (w : World) (pb lb : Nat) (W H : Int) (a : Option Addr) (n c : Nat) (la lbb lc : Int) (g j s : Nat) : Prop where
  p0 : w.cell? ⟨pb, 0, none⟩ = some (.int .i64 W)
  p1 : w.cell? ⟨pb, 1, none⟩ = some (.int .i64 H)
  p2 : w.cell? ⟨pb, 2, none⟩ = some (.slice a n c)
  c0 : w.cell? ⟨lb, 0, none⟩ = some (.int .i64 la)
  c1 : w.cell? ⟨lb, 1, none⟩ = some (.int .i64 lbb)
  c2 : w.cell? ⟨lb, 2, none⟩ = some (.int .i64 lc)
  b : w.cell? ⟨g, j, none⟩ = some (.int .u8 (s : Nat))
  pl : pb < w.heap.size
  ll : lb < w.heap.size
  gl : g < w.heap.size
theorem Sw.to {w w' : World} {pb lb : Nat} {W H : Int} {a : Option Addr} {n c : Nat} {la lbb lc : Int} {g j s : Nat} (h : Sw w pb lb W H a n c la lbb lc g j s) (hb : Below w.heap.size w w') : Sw w' pb lb W H a n c la lbb lc g j s := by
  refine ⟨?_, ?_, ?_, ?_, ?_, ?_, ?_, Nat.lt_of_lt_of_le h.pl hb.size, Nat.lt_of_lt_of_le h.ll hb.size, Nat.lt_of_lt_of_le h.gl hb.size⟩
  · rw [newCell hb _ _ h.pl]; exact h.p0
  · rw [newCell hb _ _ h.pl]; exact h.p1
  · rw [newCell hb _ _ h.pl]; exact h.p2
  · rw [newCell hb _ _ h.ll]; exact h.c0
  · rw [newCell hb _ _ h.ll]; exact h.c1
  · rw [newCell hb _ _ h.ll]; exact h.c2
  · rw [newCell hb _ _ h.gl]; exact h.b
theorem Sw.drew {w : World} {pb lb : Nat} {W H : Int} {a : Option Addr} {n c : Nat} {la lbb lc : Int} {g j s : Nat} (h : Sw w pb lb W H a n c la lbb lc g j s) : Sw w.drew pb lb W H a n c la lbb lc g j s := h.to (below_drew (Below.refl _ _))
theorem Sw.all {w : World} {pb lb : Nat} {W H : Int} {a : Option Addr} {n c : Nat} {la lbb lc : Int} {g j s : Nat} (h : Sw w pb lb W H a n c la lbb lc g j s) : w.cell? ⟨pb, 0, none⟩ = some (.int .i64 W) ∧ w.cell? ⟨pb, 1, none⟩ = some (.int .i64 H) ∧ w.cell? ⟨pb, 2, none⟩ = some (.slice a n c) ∧ w.cell? ⟨lb, 0, none⟩ = some (.int .i64 la) ∧ w.cell? ⟨lb, 1, none⟩ = some (.int .i64 lbb) ∧ w.cell? ⟨lb, 2, none⟩ = some (.int .i64 lc) ∧ w.cell? ⟨g, j, none⟩ = some (.int .u8 (s : Nat)) := ⟨h.p0, h.p1, h.p2, h.c0, h.c1, h.c2, h.b⟩

set_option maxRecDepth 100000 in
set_option maxHeartbeats 4000000 in
theorem whole_walk {u : World} {a : Option Addr} {c : Nat} {C : List Nat} {W H la lb lc ld le : Int} (hg : Gt u) (hin : PlIn u W H a c C) :
    Calls Tryd.prog 6 #[.agg #[.int .i64 W, .int .i64 H, .slice a C.length c], .agg #[.int .i64 la, .int .i64 lb, .int .i64 lc, .int .i64 ld, .int .i64 le]] u fun e w' => e = .returned (.bool true) ∧ Below u.heap.size u w' := by
  have HG : Hid (Gt u) := hg
  have HI : Hid (PlIn u W H a c C) := hin
  clear hg hin
  go_enter Tryd.func6, Tryd.ntmps6
  go_wp2_with fail
  have HB0 : Hid (Below u.heap.size u ((u.alloc (.cells #[.int .i64 W, .int .i64 H, .slice a C.length c] 30)).alloc (.cells #[.int .i64 la, .int .i64 lb, .int .i64 lc, .int .i64 ld, .int .i64 le] 32))) := to_alloc (from_alloc _ _) _
  have HC0 : Hid (Cx ((u.alloc (.cells #[.int .i64 W, .int .i64 H, .slice a C.length c] 30)).alloc (.cells #[.int .i64 la, .int .i64 lb, .int .i64 lc, .int .i64 ld, .int .i64 le] 32)) u.heap.size (u.heap.size + 1) W H a C.length c la lb lc ld le) := Cx.start u W H a C.length c la lb lc ld le
  generalize (u.alloc (.cells #[.int .i64 W, .int .i64 H, .slice a C.length c] 30)).alloc (.cells #[.int .i64 la, .int .i64 lb, .int .i64 lc, .int .i64 ld, .int .i64 le] 32) = v0 at *
  refine (works_true (HG.out.to HB0.out)).mono ?_
  rintro e v1 ⟨rfl, hb⟩
  have HB1 : Hid (Below u.heap.size u v1) := below_to HB0.out hb
  have HC1 : Hid (Cx v1 u.heap.size (u.heap.size + 1) W H a C.length c la lb lc ld le) := HC0.out.to hb
  have p0 := HC1.out.p0
  have p1 := HC1.out.p1
  have p2 := HC1.out.p2
  clear hb HB0 HC0
  go_wp2_with fail
  refine check_any.mono ?_
  rintro e v2 ⟨rfl, hb⟩
  have HB2 : Hid (Below u.heap.size u v2) := below_to HB1.out hb
  have HC2 : Hid (Cx v2 u.heap.size (u.heap.size + 1) W H a C.length c la lb lc ld le) := HC1.out.to hb
  clear hb HB1 HC1 p0 p1 p2
  by_cases hp : POk W H C
  · rw [ck_ok hp]
    obtain ⟨x, y, rfl, rfl, x0, x1, y0, y1, hxy⟩ := hp.nat
    have HP : Hid (POk (x : Int) (y : Int) C) := hp
    have HX : Hid (1 ≤ x ∧ x ≤ 512 ∧ 1 ≤ y ∧ y ≤ 512 ∧ C.length = x * y) := ⟨x0, x1, y0, y1, hxy⟩
    have l0 := HC2.out.l.c0
    have l1 := HC2.out.l.c1
    have l2 := HC2.out.l.c2
    have l3 := HC2.out.l.c3
    have l4 := HC2.out.l.c4
    clear hp x0 x1 y0 y1 hxy
    go_wp2_with fail
    refine may_any.mono ?_
    rintro e v3 ⟨rfl, hb⟩
    obtain ⟨px, hpx⟩ : ∃ px, px = la % 2000 - 500 := ⟨_, rfl⟩
    obtain ⟨py, hpy⟩ : ∃ py, py = lb % 2000 - 500 := ⟨_, rfl⟩
    obtain ⟨wd, hwd⟩ : ∃ wd : Nat, (wd : Int) = 4 + lc % 13 := ⟨(4 + lc % 13).toNat, by omega⟩
    obtain ⟨ht, hht⟩ : ∃ ht : Nat, (ht : Int) = 4 + ld % 13 := ⟨(4 + ld % 13).toNat, by omega⟩
    obtain ⟨k, hk⟩ : ∃ k : Nat, (k : Int) = le % 3 := ⟨(le % 3).toNat, by omega⟩
    rw [← hpx, ← hpy, ← hwd, ← hht, ← hk]
    have X0 : -500 ≤ px := by omega
    have X1 : px ≤ 1499 := by omega
    have Y0 : -500 ≤ py := by omega
    have Y1 : py ≤ 1499 := by omega
    have W0 : 4 ≤ (wd : Int) := by omega
    have W1 : (wd : Int) ≤ 16 := by omega
    have H0 : 4 ≤ (ht : Int) := by omega
    have H1 : (ht : Int) ≤ 16 := by omega
    have K0 : 0 ≤ (k : Int) := by omega
    have K1 : (k : Int) ≤ 2 := by omega
    clear hpx hpy hwd hht hk
    have HB3 : Hid (Below u.heap.size u v3) := below_to HB2.out hb
    have HC3 : Hid (Cx v3 u.heap.size (u.heap.size + 1) (x : Int) (y : Int) a C.length c la lb lc ld le) := HC2.out.to hb
    clear hb HB2 HC2 l0 l1 l2 l3 l4
    have l0 := HC3.out.l.c0
    have l1 := HC3.out.l.c1
    have l2 := HC3.out.l.c2
    have l3 := HC3.out.l.c3
    have l4 := HC3.out.l.c4
    have f0 := HC3.out.fr 0
    have f1 := HC3.out.fr 1
    have f2 := HC3.out.fr 2
    have f3 := HC3.out.fr 3
    have f4 := HC3.out.fr 4
    have p0 := HC3.out.p0
    have p1 := HC3.out.p1
    have p2 := HC3.out.p2
    go_upto_region 7 with fail
    have HC4 : Hid (Cx (((((v3.setCell ⟨u.heap.size + 1, 0, none⟩ (.int .i64 px)).setCell ⟨u.heap.size + 1, 1, none⟩ (.int .i64 py)).setCell ⟨u.heap.size + 1, 2, none⟩ (.int .i64 (wd : Int))).setCell ⟨u.heap.size + 1, 3, none⟩ (.int .i64 (ht : Int))).setCell ⟨u.heap.size + 1, 4, none⟩ (.int .i64 (k : Int))) u.heap.size (u.heap.size + 1) (x : Int) (y : Int) a C.length c px py (wd : Int) (ht : Int) (k : Int)) := HC3.out.put (by omega) px py (wd : Int) (ht : Int) (k : Int)
    have HB4 : Hid (Below u.heap.size u (((((v3.setCell ⟨u.heap.size + 1, 0, none⟩ (.int .i64 px)).setCell ⟨u.heap.size + 1, 1, none⟩ (.int .i64 py)).setCell ⟨u.heap.size + 1, 2, none⟩ (.int .i64 (wd : Int))).setCell ⟨u.heap.size + 1, 3, none⟩ (.int .i64 (ht : Int))).setCell ⟨u.heap.size + 1, 4, none⟩ (.int .i64 (k : Int)))) := below_set5 HB3.out (by omega)
    generalize (((((v3.setCell ⟨u.heap.size + 1, 0, none⟩ (.int .i64 px)).setCell ⟨u.heap.size + 1, 1, none⟩ (.int .i64 py)).setCell ⟨u.heap.size + 1, 2, none⟩ (.int .i64 (wd : Int))).setCell ⟨u.heap.size + 1, 3, none⟩ (.int .i64 (ht : Int))).setCell ⟨u.heap.size + 1, 4, none⟩ (.int .i64 (k : Int))) = v4 at *
    clear HB3 HC3 l0 l1 l2 l3 l4 f0 f1 f2 f3 f4 p0 p1 p2
    have l0 := HC4.out.l.c0
    have l1 := HC4.out.l.c1
    have l2 := HC4.out.l.c2
    have l3 := HC4.out.l.c3
    have l4 := HC4.out.l.c4
    have p0 := HC4.out.p0
    have p1 := HC4.out.p1
    have p2 := HC4.out.p2
    have HF : Hid (Calls Tryd.prog 13 #[.agg #[.int .i64 (x : Int), .int .i64 (y : Int), .slice a C.length c], .int .i64 (px / 16 * 16), .int .i64 (py / 16 * 16), .int .i64 (wd : Int), .int .i64 (ht : Int), .int .i64 (k : Int)] v4 fun e w' => Fd v4 w' e (fe C x y (px / 16 * 16) (py / 16 * 16) wd ht k)) :=
      fetch_ok (HG.out.to HB4.out) (HI.out.sl.to HB4.out) HI.out.byt ⟨HP.out, by omega, by omega, by omega, by omega, by omega⟩
    obtain ⟨n, hn⟩ : ∃ n, n = wd * ht := ⟨_, rfl⟩
    have HN : Hid (n = wd * ht) := hn
    have en : (wd : Int) * (ht : Int) = (n : Int) := by rw [← Int.natCast_mul, hn]
    have nb : n ≤ 16 * 16 := by rw [hn]; exact Nat.mul_le_mul (by omega) (by omega)
    have n1 : (n : Int) ≤ 256 := by omega
    have HL : Hid ((fe C x y (px / 16 * 16) (py / 16 * 16) wd ht k).length = n) := by show _ = _; rw [fe_len, hn]
    have HV : Hid (∀ i, i < n → (fe C x y (px / 16 * 16) (py / 16 * 16) wd ht k).getD i 0 = sp C x y (px / 16 + ((i % wd : Nat) : Int)) (py / 16 + ((i / wd : Nat) : Int))) := fun i hi => fe_whole HI.out.byt (by omega) (by rw [← hn]; exact hi)
    clear hn nb
    generalize hX : px / 16 = X at *
    generalize hY : py / 16 = Y at *
    generalize fe C x y (X * 16) (Y * 16) wd ht k = L at *
    have X2 : -32 ≤ X := by omega
    have X3 : X ≤ 100 := by omega
    have Y2 : -32 ≤ Y := by omega
    have Y3 : Y ≤ 100 := by omega
    have hne : ((n : Int) != (n : Int)) = false := by simp
    go_wp2_with fail
    refine HF.out.mono ?_
    rintro e v5 ⟨g, rfl, hr, _, hb⟩
    rw [HL.out]
    have HR5 : Hid (Rw v5 g L) := hr
    have HB5 : Hid (Below u.heap.size u v5) := below_to HB4.out hb
    have HC5 : Hid (Cx v5 u.heap.size (u.heap.size + 1) (x : Int) (y : Int) a C.length c px py (wd : Int) (ht : Int) (k : Int)) := HC4.out.to hb
    clear hr hb HF HC4 HB4 l0 l1 l2 l3 l4 p0 p1 p2
    have l0 := HC5.out.l.c0
    have l1 := HC5.out.l.c1
    have l2 := HC5.out.l.c2
    have l3 := HC5.out.l.c3
    have l4 := HC5.out.l.c4
    have p0 := HC5.out.p0
    have p1 := HC5.out.p1
    have p2 := HC5.out.p2
    go_wp2_with fail
    go_loopw [9] (fun i wr => ∃ j : Nat, j ≤ n ∧ i = .int .i64 j ∧ Below v5.heap.size v5 wr) (fun i _ => n - (intOf i).toNat)
    case atStart => exact ⟨0, by omega, rfl, Below.refl _ _⟩
    case round =>
      clear l0 l1 l2 l3 l4 p0 p1 p2
      obtain ⟨j, hj, rfl, hbr⟩ := hrel
      have HBr : Hid (Below v5.heap.size v5 wr) := hbr
      by_cases hlt : j < n
      · have j0 : (0 : Int) ≤ (j : Int) := by omega
        have j1 : (j : Int) < (n : Int) := by omega
        have HCw : Hid (Cx wr u.heap.size (u.heap.size + 1) (x : Int) (y : Int) a C.length c px py (wd : Int) (ht : Int) (k : Int)) := HC5.out.to hbr
        have HRw : Hid (Rw wr g L) := HR5.out.to hbr
        have HS : Hid (Sw wr u.heap.size (u.heap.size + 1) (x : Int) (y : Int) a C.length c px py (wd : Int) g j (L.getD j 0)) := ⟨HCw.out.p0, HCw.out.p1, HCw.out.p2, HCw.out.l.c0, HCw.out.l.c1, HCw.out.l.c2, HRw.out.cell j (by rw [HL.out]; exact hlt), HCw.out.pl, HCw.out.ll, HRw.out.lt⟩
        have hv := HV.out j hlt
        have HA : Hid (∀ t : World, Below wr.heap.size wr t → Calls Tryd.prog 20 #[.agg #[.int .i64 (x : Int), .int .i64 (y : Int), .slice a C.length c], .int .i64 (X + ((j % wd : Nat) : Int)), .int .i64 (Y + ((j / wd : Nat) : Int))] t fun e w' => e = .returned (.int .u8 (L.getD j 0 : Nat)) ∧ Below t.heap.size t w') := fun t ht => by
          rw [hv]
          obtain ⟨q0, q1, q2, q3, q4⟩ := HX.out
          exact at_ok ((HI.out.sl.to (below_to HB5.out hbr)).to ht) q0 q1 q2 q3 q4
        have m1 : (j : Int).tmod (wd : Int) = ((j % wd : Nat) : Int) := by rw [Int.tmod_eq_emod_of_nonneg (by omega)]; rfl
        have m2 : (j : Int).tdiv (wd : Int) = ((j / wd : Nat) : Int) := by rw [Int.tdiv_eq_ediv_of_nonneg (by omega)]; rfl
        have m3 : ((j % wd : Nat) : Int) ≤ 16 := by have := Nat.mod_lt j (show wd > 0 by omega); omega
        have m4 : ((j / wd : Nat) : Int) ≤ 256 := by have := Nat.div_le_self j wd; omega
        have m5 : (j : Int) % (wd : Int) = ((j % wd : Nat) : Int) := by rfl
        have m6 : (j : Int) / (wd : Int) = ((j / wd : Nat) : Int) := by rfl
        have wz : ¬ (wd : Int) = 0 := by omega
        have wz2 : ¬ wd = 0 := by omega
        generalize j % wd = p at *
        generalize j / wd = q at *
        have t6 : IntKind.i64.wrap (q : Int) = (q : Int) := by rw [IntKind.wrap_i64]; omega
        have t7 : IntKind.i64.wrap (p : Int) = (p : Int) := by rw [IntKind.wrap_i64]; omega
        have t8 : IntKind.i64.wrap (X + (p : Int)) = X + (p : Int) := by rw [IntKind.wrap_i64]; omega
        have t9 : IntKind.i64.wrap (Y + (q : Int)) = Y + (q : Int) := by rw [IntKind.wrap_i64]; omega
        clear hv hbr
        generalize L.getD j 0 = s at *
        have hss : ((s : Int) != (s : Int)) = false := by simp
        go_wp2_with fail
        go_region_held3 (fun t => t.cell? ⟨u.heap.size, 0, none⟩ = some (.int .i64 (x : Int)) ∧ t.cell? ⟨u.heap.size, 1, none⟩ = some (.int .i64 (y : Int)) ∧ t.cell? ⟨u.heap.size, 2, none⟩ = some (.slice a C.length c) ∧ t.cell? ⟨u.heap.size + 1, 0, none⟩ = some (.int .i64 px) ∧ t.cell? ⟨u.heap.size + 1, 1, none⟩ = some (.int .i64 py) ∧ t.cell? ⟨u.heap.size + 1, 2, none⟩ = some (.int .i64 (wd : Int)) ∧ t.cell? ⟨g, j, none⟩ = some (.int .u8 (s : Nat))) ((first | (with_reducible exact HS.out.drew.all) | (with_reducible exact (HS.out.drew.to hb6).all))) ((go_at_call 20; refine (HA.out _ (below_drew (Below.refl _ _))).mono ?_; rintro e w6 ⟨rfl, hb6⟩))
        all_goals
          have HB6 : Hid (Below v5.heap.size v5 w6) := below_to (below_drew HBr.out) hb6
          go_wp2_with fail
          go_roundw
          case rel => exact ⟨j + 1, by omega, by go_num, HB6.out⟩
          case measure => simp [intOf]; omega
      · obtain rfl : j = n := by omega
        have HB6 : Hid (Below u.heap.size u wr) := below_to HB5.out hbr
        have HC6 : Hid (Cx wr u.heap.size (u.heap.size + 1) (x : Int) (y : Int) a C.length c px py (wd : Int) (ht : Int) (k : Int)) := HC5.out.to hbr
        clear hbr HBr HR5 HC5 HV HL
        have HT : Hid (∀ t : World, Below wr.heap.size wr t → ∀ f : Nat, f < 16 → Calls Tryd.prog 9 #[.int .i64 (k : Int), .int .i64 (f : Int)] t fun e w' => e = .returned (.tuple #[tv (tp k f), .int .i64 0]) ∧ Below t.heap.size t w') := fun t ht f hf => taps_ok ((HG.out.to HB6.out).to ht) (by omega) hf
        have HK : Hid (k < 3) := by show _ < _; omega
        rename World => wq
        go_wp2_with fail
        go_loopw [10] (fun i wv => ∃ f : Nat, f ≤ 16 ∧ i = .int .i64 f ∧ Below wq.heap.size wq wv) (fun i _ => 16 - (intOf i).toNat)
        case atStart => exact ⟨0, by omega, rfl, Below.refl _ _⟩
        case round =>
          obtain ⟨f, hf, rfl, hbr⟩ := hrel
          by_cases hlf : f < 16
          · have f0 : (0 : Int) ≤ (f : Int) := by omega
            have f1 : (f : Int) < 16 := by omega
            have l4 := (HC6.out.to hbr).l.c4
            have HTf : Hid (Calls Tryd.prog 9 #[.int .i64 (k : Int), .int .i64 (f : Int)] wr fun e w' => e = .returned (.tuple #[tv (tp k f), .int .i64 0]) ∧ Below wr.heap.size wr w') := HT.out _ hbr f hlf
            obtain ⟨t0, t1, t2, t3, t4, t5, t6, t7, hT⟩ := eight (tp_len k HK.out f hlf)
            have HTs : Hid (dt [t0, t1, t2, t3, t4, t5, t6, t7] (fun _ => 1) 8 = 128) := by show _ = _; rw [← hT]; exact tp_sum k HK.out f hlf
            have HTl : Hid (Tk [t0, t1, t2, t3, t4, t5, t6, t7]) := by show Tk _; rw [← hT]; exact tp_tk HK.out hlf
            rw [hT, tv8] at HTf
            have HBr : Hid _ := hbr
            clear hT hbr
            go_wp2_with fail
            refine HTf.out.mono ?_
            rintro e w7 ⟨rfl, hb7⟩
            have HB7 : Hid (Below wq.heap.size wq w7) := below_to HBr.out hb7
            clear hb7 HTf HBr l4
            go_upto_region 19 with fail
            have HR8 : Hid (Ri 22 (w7.alloc (.cells #[.int .i64 t0, .int .i64 t1, .int .i64 t2, .int .i64 t3, .int .i64 t4, .int .i64 t5, .int .i64 t6, .int .i64 t7] 22)) w7.heap.size [t0, t1, t2, t3, t4, t5, t6, t7]) := Ri.built 22 w7 [t0, t1, t2, t3, t4, t5, t6, t7] rfl
            have HB8 : Hid (Below wq.heap.size wq (w7.alloc (.cells #[.int .i64 t0, .int .i64 t1, .int .i64 t2, .int .i64 t3, .int .i64 t4, .int .i64 t5, .int .i64 t6, .int .i64 t7] 22))) := to_alloc HB7.out _
            generalize (w7.alloc (.cells #[.int .i64 t0, .int .i64 t1, .int .i64 t2, .int .i64 t3, .int .i64 t4, .int .i64 t5, .int .i64 t6, .int .i64 t7] 22)) = w8 at *
            generalize [t0, t1, t2, t3, t4, t5, t6, t7] = T at *
            generalize w7.heap.size = tb at *
            go_wp2_with fail
            go_loopw [14, 13] (fun i s wv => ∃ q : Nat, q ≤ 8 ∧ i = .int .i64 q ∧ s = .int .i64 (dt T (fun _ => 1) q) ∧ wv = w8) (fun i _ _ => 8 - (intOf i).toNat)
            case atStart => exact ⟨0, by omega, rfl, rfl, rfl⟩
            case round =>
              obtain ⟨q, hq, rfl, rfl, rfl⟩ := hrel
              by_cases hlq : q < 8
              · have q0 : (0 : Int) ≤ (q : Int) := by omega
                have q1 : (q : Int) < 8 := by omega
                have c0 := HR8.out.cell q (by rw [HTl.out.len]; exact hlq)
                have HS : Hid (dt T (fun _ => 1) (q + 1) = dt T (fun _ => 1) q + T.getD q 0) := by show _ = _; rw [dt_succ, Int.mul_one]
                have hd := dt_le HTl.out (f := fun _ => 1) (M := 1) (fun j => by omega) q
                have hd2 : (q : Int) * (128 * 1) ≤ 8 * (128 * 1) := Int.mul_le_mul_of_nonneg_right (by omega) (by omega)
                have d0 : -1024 ≤ dt T (fun _ => 1) q := by omega
                have d1 : dt T (fun _ => 1) q ≤ 1024 := by omega
                obtain ⟨x0, x1⟩ := HTl.out.lim q
                generalize dt T (fun _ => 1) q = S at *
                generalize T.getD q 0 = z at *
                clear hd hd2
                go_wp2_with fail
                go_roundw
                case rel => exact ⟨q + 1, by omega, by go_num, by rw [HS.out], trivial⟩
                case measure => simp [intOf]; omega
              · obtain rfl : q = 8 := by omega
                rw [HTs.out]
                go_wp2_with fail
                go_roundw
                case rel => exact ⟨f + 1, by omega, by go_num, HB8.out⟩
                case measure => simp [intOf]; omega
          · have HBr : Hid _ := below_to HB6.out hbr
            clear hbr
            go_wp2_with fail
            go_ret
            exact ⟨rfl, HBr.out⟩
  · rw [ck_no hp]
    have HP : Hid (¬ POk W H C) := hp
    have p0 := HC2.out.p0
    have p1 := HC2.out.p1
    have p2 := HC2.out.p2
    clear hp
    go_wp2_with fail
    refine (fetch_no (fun h => HP.out h.pl)).mono ?_
    rintro e v3 ⟨rfl, hb⟩
    have HB3 : Hid (Below u.heap.size u v3) := below_to HB2.out hb
    clear hb HB2 HC2 p0 p1 p2
    go_wp2_with fail
    go_ret
    exact ⟨rfl, HB3.out⟩

end Go.Proofs.YtgmdanipcnkhdaaDoor
