/- DERIVED. The walk of SubpelFlat. -/
import Derived.Test.YtgmdanipcnkhdaaDoorHa
import Derived.Test.YtgmdanipcnkhdaaDoorPm
import Derived.Deep.DeepCutAuto
import Derived.Deep.Light
namespace Go.Proofs.YtgmdanipcnkhdaaDoor
open Go.RowKit

theorem dt_const (T : List Int) (v : Int) : ∀ k, dt T (fun _ => v) k = dt T (fun _ => 1) k * v
  | 0 => by simp [dt]
  | k + 1 => by rw [dt_succ, dt_succ, dt_const T v k, Int.mul_one, Int.add_mul]
theorem sp_flat {x y v : Nat} (hx : 1 ≤ x) (hy : 1 ≤ y) (a b : Int) : sp (List.replicate (x * y) v) x y a b = v := rep_get (at_lt (nr_lt hy) (nr_lt hx))
theorem fe_flat {x y v : Nat} (hx : 1 ≤ x) (hy : 1 ≤ y) (hv : v < 256) {px py : Int} {w h k i : Nat} (hk : k < 3) (hi : i < w * h) : (fe (List.replicate (x * y) v) x y px py w h k).getD i 0 = v := by
  rw [fe_get hi]
  have f1 : (px % 16).toNat < 16 := by omega
  have f2 : (py % 16).toNat < 16 := by omega
  generalize (px % 16).toNat = f at *
  generalize (py % 16).toNat = g at *
  have hm : ∀ a b, mm (List.replicate (x * y) v) x y (px / 16) (py / 16) (tp k f) a b = 16 * (v : Int) := fun a b => by
    unfold mm
    rw [dt_eq (g := fun _ => (v : Int)) (fun j _ => by rw [sp_flat hx hy]), dt_const, tp_sum k hk f f1]
    omega
  unfold bk
  rw [dt_eq (g := fun _ => 16 * (v : Int)) (fun j _ => hm _ _), dt_const, tp_sum k hk g f2]
  unfold clp
  rw [if_neg (by omega), if_neg (by omega)]
  omega
theorem rep_byt {n v : Nat} (hv : v < 256) : Byt (List.replicate n v) := fun j => by
  by_cases h : j < n
  · rw [rep_get h]; exact hv
  · rw [List.getD_eq_getElem?_getD, List.getElem?_eq_none (by simp; omega)]; simp

/-- a plane in a new variable -/
structure Xp (w T : World) (X x y g n : Nat) (L : List Nat) : Prop where
  c0 : T.cell? ⟨X, 0, none⟩ = some (.int .i64 (x : Int))
  c1 : T.cell? ⟨X, 1, none⟩ = some (.int .i64 (y : Int))
  c2 : T.cell? ⟨X, 2, none⟩ = some (.slice (some ⟨g, 0, none⟩) n n)
  lt : X < T.heap.size
  rw : Rw T g L
  bel : Below w.heap.size w T
  hX : w.heap.size ≤ X
  hg : w.heap.size ≤ g
theorem newLt {B : Nat} {u u' : World} (h : Below B u u') (i : Nat) (hi : i < u.heap.size) : i < u'.heap.size := Nat.lt_of_lt_of_le hi h.size
theorem newNe {B : Nat} {u u' : World} (h : Below B u u') (i : Nat) (hi : i < u.heap.size) : ¬ i = u'.heap.size := Nat.ne_of_lt (newLt h i hi)
theorem xp_a {w u : World} {x y g n : Nat} {L : List Nat} (hr : Rw u g L) (hg : w.drew.heap.size ≤ g) (hb : Below w.heap.size w u) : Xp w (u.alloc (.cells #[.int .i64 (x : Int), .int .i64 (y : Int), .slice (some ⟨g, 0, none⟩) n n] 30)) u.heap.size x y g n L :=
  ⟨by simp, by simp, by simp, by simp, hr.to (from_alloc _ _), to_alloc hb _, hb.size, hg⟩
theorem xp_b {w u : World} {x y g n : Nat} {L : List Nat} (hr : Rw u g L) (hg : (w.alloc (.cells #[.int .i64 0, .int .i64 0, .slice none 0 0] 30)).drew.heap.size ≤ g) (hb : Below w.heap.size w u) (hc : Below (w.alloc (.cells #[.int .i64 0, .int .i64 0, .slice none 0 0] 30)).drew.heap.size (w.alloc (.cells #[.int .i64 0, .int .i64 0, .slice none 0 0] 30)).drew u) :
    Xp w (((u.setCell ⟨w.heap.size, 0, none⟩ (.int .i64 (x : Int))).setCell ⟨w.heap.size, 1, none⟩ (.int .i64 (y : Int))).setCell ⟨w.heap.size, 2, none⟩ (.slice (some ⟨g, 0, none⟩) n n)) w.heap.size x y g n L := by
  have hs : (w.alloc (.cells #[.int .i64 0, .int .i64 0, .slice none 0 0] 30)).drew.heap.size = w.heap.size + 1 := by show (w.alloc _).heap.size = _; simp
  have hlt : w.heap.size < (w.alloc (.cells #[.int .i64 0, .int .i64 0, .slice none 0 0] 30)).drew.heap.size := by omega
  have cc : ∀ j, (w.alloc (.cells #[.int .i64 0, .int .i64 0, .slice none 0 0] 30)).drew.cell? ⟨w.heap.size, j, none⟩ = (w.alloc (.cells #[.int .i64 0, .int .i64 0, .slice none 0 0] 30)).cell? ⟨w.heap.size, j, none⟩ := fun _ => rfl
  have d0 : u.cell? ⟨w.heap.size, 0, none⟩ = some (.int .i64 0) := by rw [newCell hc _ _ hlt, cc]; simp [go_sem]
  have d1 : u.cell? ⟨w.heap.size, 1, none⟩ = some (.int .i64 0) := by rw [newCell hc _ _ hlt, cc]; simp [go_sem]
  have d2 : u.cell? ⟨w.heap.size, 2, none⟩ = some (.slice none 0 0) := by rw [newCell hc _ _ hlt, cc]; simp [go_sem]
  have hne : g ≠ w.heap.size := by omega
  refine ⟨?_, ?_, ?_, ?_, ((hr.far hne _).far hne _).far hne _, below_set (below_set (below_set hb (Nat.le_refl _) _) (Nat.le_refl _) _) (Nat.le_refl _) _, Nat.le_refl _, by omega⟩
  · rw [set_cell_ne (by omega), set_cell_ne (by omega)]; exact cell_set_same d0
  · rw [set_cell_ne (by omega)]; exact cell_set_same (by rw [set_cell_ne (by omega)]; exact d1)
  · exact cell_set_same (by rw [set_cell_ne (by omega), set_cell_ne (by omega)]; exact d2)
  · simpa using Nat.lt_of_lt_of_le hlt hc.size

set_option maxRecDepth 100000 in
set_option maxHeartbeats 4000000 in
theorem flat_walk {u : World} {v : Nat} {sa sb la lb lc ld le : Int} (hg : Gt u) (hv : v < 256) :
    Calls Tryd.prog 7 #[.int .u8 (v : Int), .agg #[.int .i64 sa, .int .i64 sb], .agg #[.int .i64 la, .int .i64 lb, .int .i64 lc, .int .i64 ld, .int .i64 le]] u fun e w' => e = .returned (.bool true) ∧ Below u.heap.size u w' := by
  have HG : Hid (Gt u) := hg
  have HV : Hid (v < 256) := hv
  have v1 : (v : Int) < 256 := by omega
  clear hg hv
  go_enter Tryd.func7, Tryd.ntmps7
  go_wp2_with fail
  have HB0 : Hid (Below u.heap.size u ((u.alloc (.cells #[.int .i64 sa, .int .i64 sb] 45)).alloc (.cells #[.int .i64 la, .int .i64 lb, .int .i64 lc, .int .i64 ld, .int .i64 le] 32))) := to_alloc (from_alloc _ _) _
  have HP0 : Hid (Ri 45 ((u.alloc (.cells #[.int .i64 sa, .int .i64 sb] 45)).alloc (.cells #[.int .i64 la, .int .i64 lb, .int .i64 lc, .int .i64 ld, .int .i64 le] 32)) u.heap.size [sa, sb]) := (Ri.built 45 u [sa, sb] rfl).to (from_alloc _ _)
  have HL0 : Hid (Ri 32 ((u.alloc (.cells #[.int .i64 sa, .int .i64 sb] 45)).alloc (.cells #[.int .i64 la, .int .i64 lb, .int .i64 lc, .int .i64 ld, .int .i64 le] 32)) (u.heap.size + 1) [la, lb, lc, ld, le]) := Ri.built 32 _ [la, lb, lc, ld, le] (by simp)
  generalize ((u.alloc (.cells #[.int .i64 sa, .int .i64 sb] 45)).alloc (.cells #[.int .i64 la, .int .i64 lb, .int .i64 lc, .int .i64 ld, .int .i64 le] 32)) = v0 at *
  refine (works_true (HG.out.to HB0.out)).mono ?_
  rintro e wr ⟨rfl, hb⟩
  have HB1 : Hid (Below u.heap.size u wr) := below_to HB0.out hb
  have HP1 : Hid (Ri 45 wr u.heap.size [sa, sb]) := HP0.out.to hb
  have HL1 : Hid (Ri 32 wr (u.heap.size + 1) [la, lb, lc, ld, le]) := HL0.out.to hb
  clear hb HB0 HP0 HL0
  obtain ⟨x, hx⟩ : ∃ x : Nat, (x : Int) = 1 + sa % 40 := ⟨(1 + sa % 40).toNat, by omega⟩
  obtain ⟨y, hy⟩ : ∃ y : Nat, (y : Int) = 1 + sb % 40 := ⟨(1 + sb % 40).toNat, by omega⟩
  have x0 : 1 ≤ x := by omega
  have x1 : x ≤ 40 := by omega
  have y0 : 1 ≤ y := by omega
  have y1 : y ≤ 40 := by omega
  have H1 : Hid (∀ t : World, Calls Tryd.prog 17 #[.int .i64 sa, .int .i64 40] t fun e w' => e = .returned (.int .i64 (sa % 40)) ∧ t = w') := fun t => bring_any (by omega) (by omega)
  have H2 : Hid (∀ t : World, Calls Tryd.prog 17 #[.int .i64 sb, .int .i64 40] t fun e w' => e = .returned (.int .i64 (sb % 40)) ∧ t = w') := fun t => bring_any (by omega) (by omega)
  obtain ⟨n, hn⟩ : ∃ n, n = x * y := ⟨_, rfl⟩
  have KB : Hid (∀ t : World, Below wr.heap.size wr t → Calls Tryd.prog 21 #[.int .i64 (x : Int), .int .i64 (y : Int), .int .u8 (v : Int)] t fun e w' => ∃ g, e = .returned (.tuple #[.agg #[.int .i64 (x : Int), .int .i64 (y : Int), .slice (some ⟨g, 0, none⟩) n n], .int .i64 0]) ∧ Rw w' g (List.replicate n v) ∧ t.heap.size ≤ g ∧ Below wr.heap.size wr w' ∧ Below t.heap.size t w') := fun t htt => by
    refine (new_ok x0 (by omega) y0 (by omega)).mono ?_
    rintro e w' ⟨g, rfl, r1, r2, r3⟩
    rw [← hn] at r2
    exact ⟨g, by rw [List.length_replicate, ← hn], r2, r1, below_to htt r3, r3⟩
  have HN : Hid (n = x * y) := hn
  have HXY : Hid (1 ≤ x ∧ x ≤ 40 ∧ 1 ≤ y ∧ y ≤ 40) := ⟨x0, x1, y0, y1⟩
  have HCe : Hid (∀ t : World, Below wr.heap.size wr t → t.cell? ⟨u.heap.size, 0, none⟩ = some (.int .i64 sa) ∧ t.cell? ⟨u.heap.size, 1, none⟩ = some (.int .i64 sb)) := fun t htt => ⟨(HP1.out.to htt).cell 0 (by simp), (HP1.out.to htt).cell 1 (by simp)⟩
  have t1 : IntKind.i64.wrap (1 + sa % 40) = (x : Int) := by rw [IntKind.wrap_i64]; omega
  have t2 : IntKind.i64.wrap (1 + sb % 40) = (y : Int) := by rw [IntKind.wrap_i64]; omega
  have hbd : Below wr.heap.size wr wr.drew := below_drew (Below.refl _ _)
  generalize sa % 40 = sa' at *
  generalize sb % 40 = sb' at *
  clear hn x0 x1 y0 y1 hx hy
  go_upto_region 3 with fail
  go_cut [7, 8] (fun s7 s8 T => ∃ X g, s7 = .pointer (some ⟨X, 0, none⟩) ∧ s8 = .int .i64 0 ∧ Xp wr T X x y g n (List.replicate n v))
  case first =>
    go_region_held3 (fun t => t.cell? ⟨u.heap.size, 0, none⟩ = some (.int .i64 sa) ∧ t.cell? ⟨u.heap.size, 1, none⟩ = some (.int .i64 sb))
      ((exact HCe.out _ (by solve | (repeat (first | with_reducible assumption | with_reducible refine to_alloc ?_ _ | with_reducible refine below_set ?_ ?_ _ | with_reducible refine below_drew ?_ | with_reducible exact Below.refl _ _ | (dsimp only; omega))))))
      ((first | (go_at_call 17; with_reducible refine (H1.out _).mono ?_; rintro e wB ⟨rfl, rfl⟩) | (go_at_call 17; with_reducible refine (H2.out _).mono ?_; rintro e wB ⟨rfl, rfl⟩) | (go_at_call 21; with_reducible refine (KB.out _ ?_).mono ?_; (focus (first | with_reducible assumption | exact below_drew (to_alloc (Below.refl _ _) _) | exact to_alloc (below_drew (Below.refl _ _)) _)); rintro e wA ⟨g, rfl, hrA, hgA, hbA, hcA⟩; have hsA := hbA.size; have hkA := newCell hcA; have hfA := newFrozen hcA; have hqA := newNe hcA; have hzA := newLt hcA)))
    all_goals
      go_wp2_with fail
      go_meet
      go_light
      refine ⟨_, g, rfl, rfl, ?_⟩
      first | exact xp_a hrA hgA hbA | exact xp_b hrA hgA hbA hcA
  obtain ⟨X, g, rfl, rfl, hX⟩ := hcut
  have hlw : u.heap.size + 1 < wr.heap.size := HL1.out.lt
  have HC2 : Hid (Cx wc X (u.heap.size + 1) (x : Int) (y : Int) (some ⟨g, 0, none⟩) n n la lb lc ld le) := ⟨hX.lt, Nat.lt_of_lt_of_le hlw hX.bel.size, hX.c0, hX.c1, hX.c2, ⟨(HL1.out.to hX.bel).cell 0 (by simp), (HL1.out.to hX.bel).cell 1 (by simp), (HL1.out.to hX.bel).cell 2 (by simp), (HL1.out.to hX.bel).cell 3 (by simp), (HL1.out.to hX.bel).cell 4 (by simp)⟩, (HL1.out.to hX.bel).thaw⟩
  have HR2 : Hid (Rw wc g (List.replicate n v)) := hX.rw
  have HB2 : Hid (Below u.heap.size u wc) := below_to HB1.out hX.bel
  have HNe : Hid (X ≠ u.heap.size + 1 ∧ g ≠ u.heap.size + 1) := by
    have h1 := hX.hX
    have h2 := hX.hg
    exact ⟨by omega, by omega⟩
  have HU : Hid (u.heap.size ≤ u.heap.size + 1) := by show _ ≤ _; omega
  clear hX hlw HL1 HP1 HB1 H1 H2 KB HCe hbd t1 t2
  have l0 := HC2.out.l.c0
  have l1 := HC2.out.l.c1
  have l2 := HC2.out.l.c2
  have l3 := HC2.out.l.c3
  have l4 := HC2.out.l.c4
  go_wp2_with fail
  refine may_any.mono ?_
  rintro e v3 ⟨rfl, hb⟩
  obtain ⟨px, hpx⟩ : ∃ px, px = la % 2000 - 500 := ⟨_, rfl⟩
  obtain ⟨py, hpy⟩ : ∃ py, py = lb % 2000 - 500 := ⟨_, rfl⟩
  obtain ⟨wd, hwd⟩ : ∃ wd : Nat, (wd : Int) = 4 + lc % 13 := ⟨(4 + lc % 13).toNat, by omega⟩
  obtain ⟨ht, hht⟩ : ∃ ht : Nat, (ht : Int) = 4 + ld % 13 := ⟨(4 + ld % 13).toNat, by omega⟩
  rw [← hpx, ← hpy, ← hwd, ← hht]
  have X0 : -500 ≤ px := by omega
  have X1 : px ≤ 1499 := by omega
  have Y0 : -500 ≤ py := by omega
  have Y1 : py ≤ 1499 := by omega
  have W0 : 4 ≤ (wd : Int) := by omega
  have W1 : (wd : Int) ≤ 16 := by omega
  have H0 : 4 ≤ (ht : Int) := by omega
  have H1 : (ht : Int) ≤ 16 := by omega
  generalize le % 3 = lf at *
  clear hpx hpy hwd hht
  have HB3 : Hid (Below u.heap.size u v3) := below_to HB2.out hb
  have HC3 : Hid (Cx v3 X (u.heap.size + 1) (x : Int) (y : Int) (some ⟨g, 0, none⟩) n n la lb lc ld le) := HC2.out.to hb
  have HR3 : Hid (Rw v3 g (List.replicate n v)) := HR2.out.to hb
  clear hb HB2 HC2 HR2 l0 l1 l2 l3 l4
  have l0 := HC3.out.l.c0
  have l1 := HC3.out.l.c1
  have l2 := HC3.out.l.c2
  have l3 := HC3.out.l.c3
  have l4 := HC3.out.l.c4
  have f0 := HC3.out.fr 0
  have f1 := HC3.out.fr 1
  have f2 := HC3.out.fr 2
  have f3 := HC3.out.fr 3
  have f4 := HC3.out.fr 4
  go_upto_region 5 with fail
  have HC4 : Hid (Cx (((((v3.setCell ⟨u.heap.size + 1, 0, none⟩ (.int .i64 px)).setCell ⟨u.heap.size + 1, 1, none⟩ (.int .i64 py)).setCell ⟨u.heap.size + 1, 2, none⟩ (.int .i64 (wd : Int))).setCell ⟨u.heap.size + 1, 3, none⟩ (.int .i64 (ht : Int))).setCell ⟨u.heap.size + 1, 4, none⟩ (.int .i64 lf)) X (u.heap.size + 1) (x : Int) (y : Int) (some ⟨g, 0, none⟩) n n px py (wd : Int) (ht : Int) lf) := HC3.out.put HNe.out.1 px py (wd : Int) (ht : Int) lf
  have HR4 : Hid (Rw (((((v3.setCell ⟨u.heap.size + 1, 0, none⟩ (.int .i64 px)).setCell ⟨u.heap.size + 1, 1, none⟩ (.int .i64 py)).setCell ⟨u.heap.size + 1, 2, none⟩ (.int .i64 (wd : Int))).setCell ⟨u.heap.size + 1, 3, none⟩ (.int .i64 (ht : Int))).setCell ⟨u.heap.size + 1, 4, none⟩ (.int .i64 lf)) g (List.replicate n v)) := ((((HR3.out.far HNe.out.2 _).far HNe.out.2 _).far HNe.out.2 _).far HNe.out.2 _).far HNe.out.2 _
  have HB4 : Hid (Below u.heap.size u (((((v3.setCell ⟨u.heap.size + 1, 0, none⟩ (.int .i64 px)).setCell ⟨u.heap.size + 1, 1, none⟩ (.int .i64 py)).setCell ⟨u.heap.size + 1, 2, none⟩ (.int .i64 (wd : Int))).setCell ⟨u.heap.size + 1, 3, none⟩ (.int .i64 (ht : Int))).setCell ⟨u.heap.size + 1, 4, none⟩ (.int .i64 lf))) := below_set5 HB3.out HU.out
  generalize (((((v3.setCell ⟨u.heap.size + 1, 0, none⟩ (.int .i64 px)).setCell ⟨u.heap.size + 1, 1, none⟩ (.int .i64 py)).setCell ⟨u.heap.size + 1, 2, none⟩ (.int .i64 (wd : Int))).setCell ⟨u.heap.size + 1, 3, none⟩ (.int .i64 (ht : Int))).setCell ⟨u.heap.size + 1, 4, none⟩ (.int .i64 lf)) = v4 at *
  clear HB3 HC3 HR3 l0 l1 l2 l3 l4 f0 f1 f2 f3 f4
  obtain ⟨z, hz⟩ : ∃ z, z = wd * ht := ⟨_, rfl⟩
  have HZ : Hid (z = wd * ht) := hz
  have ez : (wd : Int) * (ht : Int) = (z : Int) := by rw [← Int.natCast_mul, hz]
  have zb : z ≤ 16 * 16 := by rw [hz]; exact Nat.mul_le_mul (by omega) (by omega)
  have z1 : (z : Int) ≤ 256 := by omega
  have hne : ((z : Int) != (z : Int)) = false := by simp
  have HF : Hid (∀ t : World, Below v4.heap.size v4 t → ∀ k : Nat, k < 3 → Calls Tryd.prog 13 #[.agg #[.int .i64 (x : Int), .int .i64 (y : Int), .slice (some ⟨g, 0, none⟩) n n], .int .i64 px, .int .i64 py, .int .i64 (wd : Int), .int .i64 (ht : Int), .int .i64 (k : Int)] t fun e w' => ∃ g', e = .returned (.tuple #[.slice (some ⟨g', 0, none⟩) z z, .int .i64 0]) ∧ (∀ j, j < z → w'.cell? ⟨g', j, none⟩ = some (.int .u8 (v : Int))) ∧ Below t.heap.size t w') := fun t htt k hk => by
    obtain ⟨q0, q1, q2, q3⟩ := HXY.out
    have hnn := HN.out
    have := fetch_ok (u := t) (c := n) (wd := wd) (ht := ht) (k := k) (px := px) (py := py) (x := x) (y := y) ((HG.out.to HB4.out).to htt) (HR4.out.to htt).sl (rep_byt HV.out) ⟨⟨by omega, by omega, by omega, by omega, by rw [List.length_replicate, hnn, Int.natCast_mul]⟩, by omega, by omega, by omega, by omega, by omega⟩
    rw [List.length_replicate] at this
    refine this.mono ?_
    rintro e w' ⟨g', rfl, hr, _, hb⟩
    refine ⟨g', by rw [fe_len, hz], fun j hj => ?_, hb⟩
    rw [hr.cell j (by rw [fe_len, ← hz]; exact hj), hnn, fe_flat q0 q2 HV.out hk (by rw [← hz]; exact hj)]
  clear hz zb
  go_wp2_with fail
  go_loopw [9] (fun i wv => ∃ k : Nat, k ≤ 3 ∧ i = .int .i64 k ∧ Below v4.heap.size v4 wv) (fun i _ => 3 - (intOf i).toNat)
  case atStart => exact ⟨0, by omega, rfl, Below.refl _ _⟩
  case round =>
    rename World => wq
    obtain ⟨k, hk, rfl, hbr⟩ := hrel
    have HBr : Hid (Below v4.heap.size v4 wq) := hbr
    by_cases hlk : k < 3
    · have k0 : (0 : Int) ≤ (k : Int) := by omega
      have k1 : (k : Int) < 3 := by omega
      have hcx := HC4.out.to hbr
      have l0 := hcx.l.c0
      have l1 := hcx.l.c1
      have l2 := hcx.l.c2
      have l3 := hcx.l.c3
      have p0 := hcx.p0
      have p1 := hcx.p1
      have p2 := hcx.p2
      have HFk : Hid (Calls Tryd.prog 13 #[.agg #[.int .i64 (x : Int), .int .i64 (y : Int), .slice (some ⟨g, 0, none⟩) n n], .int .i64 px, .int .i64 py, .int .i64 (wd : Int), .int .i64 (ht : Int), .int .i64 (k : Int)] wq fun e w' => ∃ g', e = .returned (.tuple #[.slice (some ⟨g', 0, none⟩) z z, .int .i64 0]) ∧ (∀ j, j < z → w'.cell? ⟨g', j, none⟩ = some (.int .u8 (v : Int))) ∧ Below wq.heap.size wq w') := HF.out _ hbr k hlk
      clear hcx hbr
      go_wp2_with fail
      refine HFk.out.mono ?_
      rintro e w5 ⟨g', rfl, hcc, hb⟩
      have HCc : Hid _ := hcc
      have HB5 : Hid (Below v4.heap.size v4 w5) := below_to HBr.out hb
      clear hcc hb HFk HBr l0 l1 l2 l3 p0 p1 p2
      have hcx := HC4.out.to HB5.out
      have l2 := hcx.l.c2
      have l3 := hcx.l.c3
      clear hcx
      go_wp2_with fail
      go_loopw [12] (fun i wv => ∃ j : Nat, j ≤ z ∧ i = .int .i64 j ∧ wv = w5) (fun i _ => z - (intOf i).toNat)
      case atStart => exact ⟨0, by omega, rfl, rfl⟩
      case round =>
        obtain ⟨j, hj, rfl, rfl⟩ := hrel
        by_cases hlj : j < z
        · have j0 : (0 : Int) ≤ (j : Int) := by omega
          have j1 : (j : Int) < (z : Int) := by omega
          have c0 := HCc.out j hlj
          have hvv : ((v : Int) != (v : Int)) = false := by simp
          go_wp2_with fail
          go_roundw
          case rel => exact ⟨j + 1, by omega, by go_num, trivial⟩
          case measure => simp [intOf]; omega
        · go_wp2_with fail
          go_roundw
          case rel => exact ⟨k + 1, by omega, by go_num, HB5.out⟩
          case measure => simp [intOf]; omega
    · have HB6 : Hid (Below u.heap.size u wq) := below_to HB4.out hbr
      clear hbr
      go_wp2_with fail
      go_ret
      exact ⟨rfl, HB6.out⟩

end Go.Proofs.YtgmdanipcnkhdaaDoor
