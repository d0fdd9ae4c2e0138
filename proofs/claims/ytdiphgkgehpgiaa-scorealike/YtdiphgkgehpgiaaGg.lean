/- DERIVED. The walk of ScoreAlike. -/
import Derived.Test.YtdiphgkgehpgiaaGd
import Derived.Test.YtdiphgkgehpgiaaFp
import Derived.Test.YtdiphgkgehpgiaaOp
namespace Go.Proofs.Ytdiphgkgehpgiaa
open Go.RowKit Ieee

/-- a plane in a variable of its own, its samples in a row of their own -/
structure One (V T : World) (y g cc : Nat) (W H : Int) (C : List Nat) : Prop where
  c0 : T.cell? ⟨y, 0, none⟩ = some (.int .i64 W)
  c1 : T.cell? ⟨y, 1, none⟩ = some (.int .i64 H)
  c2 : T.cell? ⟨y, 2, none⟩ = some (.slice (some ⟨g, 0, none⟩) C.length cc)
  wp : Wp T g C
  ly : y < T.heap.size
  ne : y ≠ g
  ny : V.heap.size ≤ y
  ng : V.heap.size ≤ g
  bel : Below V.heap.size V T
theorem Wp.allocs {w : World} {g : Nat} {C : List Nat} (h : Wp w g C) (o : Obj) : Wp (w.alloc o) g C := h.to (from_alloc w o)
theorem one_a {V w : World} {g cc : Nat} {W H : Int} {C : List Nat} (hg : V.heap.size ≤ g) (hw : Wp w g C) (hb : Below V.heap.size V w) : One V (w.alloc (.cells #[.int .i64 W, .int .i64 H, .slice (some ⟨g, 0, none⟩) C.length cc] 24)) w.heap.size g cc W H C :=
  ⟨by simp, by simp, by simp, hw.allocs _, by simp, fun e => by have := hw.lt; omega, hb.size, hg, to_alloc hb _⟩
theorem one_b {V w : World} {g cc : Nat} {W H : Int} {C : List Nat} (hg : (V.alloc (.cells #[.int .i64 0, .int .i64 0, .slice none 0 0] 24)).drew.heap.size ≤ g) (hw : Wp w g C) (hb : Below V.heap.size V w) (hc : Below (V.alloc (.cells #[.int .i64 0, .int .i64 0, .slice none 0 0] 24)).drew.heap.size (V.alloc (.cells #[.int .i64 0, .int .i64 0, .slice none 0 0] 24)).drew w) :
    One V (((w.setCell ⟨V.heap.size, 0, none⟩ (.int .i64 W)).setCell ⟨V.heap.size, 1, none⟩ (.int .i64 H)).setCell ⟨V.heap.size, 2, none⟩ (.slice (some ⟨g, 0, none⟩) C.length cc)) V.heap.size g cc W H C := by
  simp at hg
  have hz := hc.size
  simp at hz
  have k0 : w.cell? ⟨V.heap.size, 0, none⟩ = some (.int .i64 0) := by rw [newCell hc _ _ (by simp)]; simp
  have k1 : w.cell? ⟨V.heap.size, 1, none⟩ = some (.int .i64 0) := by rw [newCell hc _ _ (by simp)]; simp
  have k2 : w.cell? ⟨V.heap.size, 2, none⟩ = some (.slice none 0 0) := by rw [newCell hc _ _ (by simp)]; simp
  have ne : g ≠ V.heap.size := by omega
  refine ⟨?_, ?_, ?_, ?_, by simp; omega, by omega, Nat.le_refl _, by omega, below_set (below_set (below_set hb (Nat.le_refl _) _) (Nat.le_refl _) _) (Nat.le_refl _) _⟩
  · rw [World.cell?_setCell_other _ _ _ _ (by simp), World.cell?_setCell_other _ _ _ _ (by simp)]; exact World.cell?_setCell_same _ _ _ k0
  · rw [World.cell?_setCell_other _ _ _ _ (by simp)]; exact World.cell?_setCell_same _ _ _ (by rw [World.cell?_setCell_other _ _ _ _ (by simp)]; exact k1)
  · exact World.cell?_setCell_same _ _ _ (by rw [World.cell?_setCell_other _ _ _ _ (by simp), World.cell?_setCell_other _ _ _ _ (by simp)]; exact k2)
  · exact ((hw.far ne _).far ne _).far ne _
def AlInv (V : World) (g : Nat) (C D : List Nat) (iv : Value) (wr : World) : Prop := ∃ (k : Nat) (E : List Nat), k ≤ C.length ∧ iv = .int .i64 k ∧ E.length = C.length ∧ (∀ j, E.getD j 0 = C.getD j 0 ∨ E.getD j 0 = D.getD j 0) ∧ Wp wr g E ∧ Kf g V wr
theorem mix_set {C D E : List Nat} {k : Nat} (h : ∀ j, E.getD j 0 = C.getD j 0 ∨ E.getD j 0 = D.getD j 0) : ∀ j, (E.set k (D.getD k 0)).getD j 0 = C.getD j 0 ∨ (E.set k (D.getD k 0)).getD j 0 = D.getD j 0 := fun j => by
  rw [List.getD_eq_getElem?_getD, List.getElem?_set]
  split
  · rename_i e
    subst e
    split
    · exact Or.inr rfl
    · have := h k
      rw [List.getD_eq_getElem?_getD (l := E), List.getElem?_eq_none (by omega)] at this
      exact this
  · exact h j
theorem class_nan {x : Nat} (hn : Nan x) (w : World) : Calls Try.prog 21 #[.float .f64 x] w fun e w' => e = .returned (.string ⟨#[110, 111, 110, 101]⟩) ∧ w' = w := by
  have e1 : nanB x = true := decide_eq_true hn
  clear hn
  go_enter Try.func21, Try.ntmps21
  go_wp2_with (go_at_call 33; refine (isNaN_any _ _).mono ?_; rintro e w' ⟨rfl, rfl⟩)
  go_ret
  exact ⟨rfl, rfl⟩
theorem APk.symm {W H W' H' : Int} {C D : List Nat} (h : APk W H C W' H' D) : APk W' H' D W H C := ⟨h.2.1, h.1, h.2.2.1.symm, h.2.2.2.symm⟩
theorem APk.len {W H W' H' : Int} {C D : List Nat} (h : APk W H C W' H' D) : C.length = D.length := by
  have h1 := h.1.len
  have h2 := h.2.1.len
  rw [h.2.2.1, h.2.2.2] at h1
  omega
theorem APk.size {W H W' H' : Int} {C D : List Nat} (h : APk W H C W' H' D) : 1 ≤ C.length ∧ C.length ≤ 262144 := by
  obtain ⟨x, y, rfl, rfl, h0, h1, h2, h3, hl⟩ := h.1.nat
  have := prod_le h1 h3
  have := Nat.mul_pos h0 h2
  omega
theorem rat_yes {W H W' H' : Int} {C D : List Nat} (h : APk W H C W' H' D) (hC : Byt C) (hD : Byt D) : ratO W H C W' H' D = some (double.word false (rr (65025 * C.length) (apS C D C.length))) ∧ rr (65025 * C.length) (apS C D C.length) ≤ inf := by
  obtain ⟨s1, s2⟩ := h.size
  have hap := apS_le hC hD C.length
  have e : ratO W H C W' H' D = floatBits .quo .f64 (fi (65025 * (C.length : Int))) (fi (apS C D C.length : Nat)) := if_pos h
  rw [e, show (65025 * (C.length : Int)) = ((65025 * C.length : Nat) : Int) from by omega]
  exact rr_some (by omega) (by omega) (by omega)
/-- the class of a ratio -/
theorem cls_high {x : Nat} (h1 : 4607182418800017408 ≤ x) (h2 : x < inf) : cls (double.word false x) = sHigh := by
  have hw := rung_word false (Nat.le_of_lt h2)
  unfold cls
  rw [if_neg (nan_word _ (Nat.le_of_lt h2)), hw, sgn_word _ (Nat.le_of_lt h2), if_neg (by omega), if_neg (by omega), if_neg (by simp), if_neg (by omega)]
theorem cls_inf : cls (double.word false inf) = sInf := by decide +kernel
theorem word_lt64 {x : Nat} (h : x ≤ inf) : double.word false x < 18446744073709551616 := by
  have : inf < 18446744073709551616 := by decide +kernel
  show x < _
  omega

set_option maxRecDepth 100000 in
set_option maxHeartbeats 4000000 in
theorem alike_walk {u : World} {a b m : Option Addr} {c d mn mc : Nat} {C D : List Nat} {W H W' H' : Int} {B : Nat → Bool} (hs : Sl u .u8 a C) (hs2 : Sl u .u8 b D) (hC : Byt C) (hD : Byt D) (hl : C.length ≤ 140737488355328) (_hl2 : D.length ≤ 140737488355328) (hm : Bl u m mn B) (_hmn : mn ≤ 9223372036854775807) :
    Calls Try.prog 6 #[.agg #[.int .i64 W, .int .i64 H, .slice a C.length c], .agg #[.int .i64 W', .int .i64 H', .slice b D.length d], .slice m mn mc] u fun e w' => e = .returned (.bool true) ∧ Below u.heap.size u w' := by
  have HB0 : Hid (Below u.heap.size u ((u.alloc (.cells #[.int .i64 W, .int .i64 H, .slice a C.length c] 24)).alloc (.cells #[.int .i64 W', .int .i64 H', .slice b D.length d] 24))) := to_alloc (from_alloc _ _) _
  have S1 : Hid (Sl u .u8 a C) := hs
  have S2 : Hid (Sl u .u8 b D) := hs2
  have HC : Hid (Byt C) := hC
  have HD : Hid (Byt D) := hD
  have HM : Hid (Bl u m mn B) := hm
  clear hs hs2 hC hD hm
  go_enter Try.func6, Try.ntmps6
  go_wp2_with fail
  refine (works_true _).mono ?_
  rintro e v0 ⟨rfl, hb⟩
  have HK : Hid (∀ t : World, Below v0.heap.size v0 t → (t.cell? ⟨u.heap.size, 0, none⟩ = some (.int .i64 W) ∧ t.cell? ⟨u.heap.size, 1, none⟩ = some (.int .i64 H) ∧ t.cell? ⟨u.heap.size, 2, none⟩ = some (.slice a C.length c) ∧ t.cell? ⟨u.heap.size + 1, 0, none⟩ = some (.int .i64 W') ∧ t.cell? ⟨u.heap.size + 1, 1, none⟩ = some (.int .i64 H') ∧ t.cell? ⟨u.heap.size + 1, 2, none⟩ = some (.slice b D.length d) ∧ Below v0.heap.size v0 t)) := fun t ht => by
    have hz := hb.size
    simp at hz
    refine ⟨?_, ?_, ?_, ?_, ?_, ?_, ht⟩
    all_goals (rw [newCell ht _ _ (by omega), newCell hb _ _ (by simp <;> omega)]; simp)
  have HB : Hid (Below u.heap.size u v0) := below_to HB0.out hb
  clear hb
  by_cases hp : APk W H C W' H' D
  · have hlen := hp.len
    obtain ⟨n1, n2⟩ := hp.size
    obtain ⟨hr1, hr2⟩ := rat_yes hp HC.out HD.out
    obtain ⟨hr3, _⟩ := rat_yes hp.symm HD.out HC.out
    rw [← hlen, apS_comm D C] at hr3
    have e1 : apE W H C W' H' D = 0 := if_pos hp
    have hap := apS_le HC.out HD.out C.length
    have HMono : Hid (∀ E : List Nat, E.length = C.length → (∀ j, E.getD j 0 = C.getD j 0 ∨ E.getD j 0 = D.getD j 0) → Byt E → ∃ y, ratO W H E W' H' D = some (double.word false y) ∧ rr (65025 * C.length) (apS C D C.length) ≤ y ∧ y ≤ inf) := fun E hE hj hB => by
      have hpE : APk W H E W' H' D := ⟨⟨hp.1.w0, hp.1.w1, hp.1.h0, hp.1.h1, by rw [hE]; exact hp.1.len⟩, hp.2⟩
      obtain ⟨k1, k2⟩ := rat_yes hpE hB HD.out
      rw [hE] at k1 k2
      exact ⟨_, k1, rr_mono (by omega) (by omega) (by omega) (apS_less hj _), k2⟩
    have hx1 : (FloatKind.f64.format.order (double.word false (rr (65025 * C.length) (apS C D C.length))) 4607182418800017408 == some .lt) = false := by
      rw [ord_fmt, ord_lt]
      refine decide_eq_false (fun k => ?_)
      have := k.2.2
      rw [key_word hr2, one_ok.2] at this
      by_cases hz : apS C D C.length = 0
      · rw [hz, rr_inf (by omega) (by omega), inf_int] at this; omega
      · have := (rr_one (A := 65025 * C.length) (by omega) (by omega) hz (by omega)).1; omega
    have hx2 : (FloatKind.f64.format.order (double.word false (rr (65025 * C.length) (apS C D C.length))) (double.word false (rr (65025 * C.length) (apS C D C.length))) != some .eq) = false := by rw [nan_ne]; exact decide_eq_false (nan_word _ hr2)
    have KT : Hid ((∀ w, Calls Try.prog 21 #[.float .f64 (double.word false (rr (65025 * C.length) (apS C D C.length)))] w fun e w' => e = .returned (.string ⟨#[105, 110, 102]⟩) ∧ w' = w) ∧ C = D ∨ (∀ w, Calls Try.prog 21 #[.float .f64 (double.word false (rr (65025 * C.length) (apS C D C.length)))] w fun e w' => e = .returned (.string ⟨#[104, 105, 103, 104]⟩) ∧ w' = w) ∧ C ≠ D) := by
      unfold Hid
      by_cases hz : apS C D C.length = 0
      · left
        refine ⟨fun w => ?_, list_eq_of_getD hlen fun j hj => apS_zero hz j hj⟩
        have := class_any (word_lt64 hr2) w
        rw [hz, rr_inf (by omega) (by omega), cls_inf] at this
        rw [hz, rr_inf (by omega) (by omega)]
        exact this
      · right
        refine ⟨fun w => ?_, fun e => hz (by rw [← e]; exact apS_self _ _)⟩
        have := class_any (word_lt64 hr2) w
        obtain ⟨o1, o2⟩ := rr_one (A := 65025 * C.length) (by omega) (by omega) hz (by omega)
        rw [cls_high o1 o2] at this
        exact this
    have HR1 : Hid _ := hr1
    have HR3 : Hid _ := hr3
    have HXI : Hid (rr (65025 * C.length) (apS C D C.length) ≤ inf) := hr2
    have hd1 : (D.length : Int) = (C.length : Int) := by omega
    have n3 : (C.length : Int) ≤ 262144 := by omega
    have HLN : Hid (C.length = D.length) := hlen
    have HWH : Hid (W = W' ∧ H = H') := hp.2.2
    clear hr1 hr2 hr3 hap hp hlen hd1
    generalize rr (65025 * C.length) (apS C D C.length) = x at *
    generalize hX : double.word false x = X at *
    have HX : Hid (double.word false x = X) := hX
    clear hX
    obtain ⟨p0, p1, p2, p3, p4, p5, _⟩ := HK.out v0 (Below.refl _ _)
    go_wp2_with fail
    refine (ratio_any (S1.out.to HB.out) (S2.out.to HB.out) HC.out HD.out).mono ?_
    rintro e v1 ⟨r, rfl, hr, hb1⟩
    rw [HR1.out] at hr
    obtain rfl : r = X := hr
    have B1 : Hid (Below v0.heap.size v0 v1) := hb1
    clear p0 p1 p2 p3 p4 p5 hb1
    obtain ⟨p0, p1, p2, p3, p4, p5, _⟩ := HK.out v1 B1.out
    go_wp2_with fail
    refine (apart_any ((S1.out.to HB.out).to B1.out) ((S2.out.to HB.out).to B1.out) HC.out HD.out).mono ?_
    rintro e v2 ⟨rfl, hb2⟩
    have B2 : Hid (Below v0.heap.size v0 v2) := below_to B1.out hb2
    rw [e1]
    clear p0 p1 p2 p3 p4 p5 hb2 e1
    obtain ⟨p0, p1, p2, p3, p4, p5, _⟩ := HK.out v2 B2.out
    go_wp2_with fail
    refine (ratio_any ((S2.out.to HB.out).to B2.out) ((S1.out.to HB.out).to B2.out) HD.out HC.out).mono ?_
    rintro e v3 ⟨r2, rfl, hr, hb3⟩
    rw [HR3.out] at hr
    obtain rfl : r2 = r := hr
    have B3 : Hid (Below v0.heap.size v0 v3) := below_to B2.out hb3
    clear p0 p1 p2 p3 p4 p5 hb3
    have KS : Hid (∀ t : World, Below v0.heap.size v0 t → Calls Try.prog 24 #[.agg #[.int .i64 W, .int .i64 H, .slice a C.length c], .agg #[.int .i64 W', .int .i64 H', .slice b D.length d]] t fun e w' => e = .returned (.bool (eqB C D)) ∧ Below v0.heap.size v0 w') := fun t ht => (same_any ((S1.out.to HB.out).to ht) ((S2.out.to HB.out).to ht) (Or.inr ⟨HC.out, HD.out⟩)).mono (by
      rintro e w' ⟨rfl, hb⟩
      obtain ⟨rfl, rfl⟩ := HWH.out
      exact ⟨by rw [smB_eq], below_to ht hb⟩)
    obtain ⟨p0, p1, p2, p3, p4, p5, _⟩ := HK.out v3 B3.out
    have hbd : Below v0.heap.size v0 v3.drew := below_drew B3.out
    go_wp2_with fail
    go_cut [52] (fun s52 T => s52 = .bool false ∧ Below v0.heap.size v0 T)
    case first =>
      rcases KT.out with ⟨KC, hE⟩ | ⟨KC, hE⟩
      all_goals
        first | rw [eqB_yes hE] at KS | rw [eqB_no hE] at KS
        have KC2 : Hid _ := KC
        clear hE KC
        go_region_held3 (fun t => t.cell? ⟨u.heap.size, 0, none⟩ = some (.int .i64 W) ∧ t.cell? ⟨u.heap.size, 1, none⟩ = some (.int .i64 H) ∧ t.cell? ⟨u.heap.size, 2, none⟩ = some (.slice a C.length c) ∧ t.cell? ⟨u.heap.size + 1, 0, none⟩ = some (.int .i64 W') ∧ t.cell? ⟨u.heap.size + 1, 1, none⟩ = some (.int .i64 H') ∧ t.cell? ⟨u.heap.size + 1, 2, none⟩ = some (.slice b D.length d) ∧ Below v0.heap.size v0 t)
          ((exact HK.out _ (by with_reducible assumption)))
          ((first
            | (go_at_call 21; refine (KC2.out _).mono ?_; rintro e wC ⟨rfl, rfl⟩)
            | (go_at_call 24; with_reducible refine (KS.out _ ?_).mono ?_; (with_reducible assumption); rintro e wS ⟨rfl, hbS⟩)))
        all_goals
          go_wp2_with fail
          go_meet
          exact ⟨rfl, hbS⟩
    obtain ⟨rfl, hbc⟩ := hcut
    generalize wc = v4 at *
    have BC : Hid (Below v0.heap.size v0 v4) := hbc
    clear p0 p1 p2 p3 p4 p5 hbd hbc KT KS
    obtain ⟨p0, p1, p2, p3, p4, p5, _⟩ := HK.out v4 BC.out
    have KB : Hid (∀ t : World, Below v4.heap.size v4 t → Calls Try.prog 25 #[.slice a C.length c] t fun e w' => ∃ g c', e = .returned (.slice (some ⟨g, 0, none⟩) C.length c') ∧ t.heap.size ≤ g ∧ Wp w' g C ∧ Below v4.heap.size v4 w' ∧ Below t.heap.size t w') := fun t ht => (copyBytes_any (((S1.out.to HB.out).to BC.out).to ht) hl).mono (by
      rintro e w' ⟨a', c', rfl, hn, hb⟩
      obtain ⟨g, rfl, hw⟩ := hn.wp (by omega)
      exact ⟨g, c', rfl, hn.new _ _ _ rfl, hw, below_to ht hb, hb⟩)
    have HK3 : Hid (∀ t : World, Below v4.heap.size v4 t → (t.cell? ⟨u.heap.size, 0, none⟩ = some (.int .i64 W) ∧ t.cell? ⟨u.heap.size, 1, none⟩ = some (.int .i64 H) ∧ t.cell? ⟨u.heap.size, 2, none⟩ = some (.slice a C.length c) ∧ Below v4.heap.size v4 t)) := fun t ht => by
      obtain ⟨q0, q1, q2, _⟩ := HK.out t (below_to BC.out ht)
      exact ⟨q0, q1, q2, ht⟩
    have hbd : Below v4.heap.size v4 v4.drew := below_drew (Below.refl _ _)
    have hl3 : C.length ≤ 262144 := n2
    go_wp2_with fail
    go_cut [11] (fun s11 T => ∃ y g cc, s11 = .pointer (some ⟨y, 0, none⟩) ∧ One v4 T y g cc W H C)
    case first =>
      go_region_held3 (fun t => t.cell? ⟨u.heap.size, 0, none⟩ = some (.int .i64 W) ∧ t.cell? ⟨u.heap.size, 1, none⟩ = some (.int .i64 H) ∧ t.cell? ⟨u.heap.size, 2, none⟩ = some (.slice a C.length c) ∧ Below v4.heap.size v4 t)
        ((exact HK3.out _ (by solve | (repeat (first | with_reducible assumption | with_reducible refine to_alloc ?_ _ | with_reducible refine below_set ?_ ?_ _ | with_reducible refine below_drew ?_ | with_reducible exact Below.refl _ _ | (dsimp only; omega))))))
        ((first | (go_at_call 25; with_reducible refine (KB.out _ ?_).mono ?_; (focus (first | with_reducible assumption | exact below_drew (to_alloc (Below.refl _ _) _) | exact to_alloc (below_drew (Below.refl _ _)) _)); rintro e wA ⟨gA, cA, rfl, hgA, hwA, hbA, hcA⟩; have hsA := hbA.size; have hkA := newCell hcA; have hfA := newFrozen hcA; have hqA := newNe hcA; have hzA := newLt hcA)))
      all_goals
        go_wp2_with fail
        go_meet
        go_light
        refine ⟨_, gA, cA, rfl, ?_⟩
        first | exact one_a hgA hwA hbA | exact one_b hgA hwA hbA hcA
    obtain ⟨y, g, cc, rfl, hO⟩ := hcut
    have O : Hid (One v4 wc y g cc W H C) := hO
    have BD : Hid (Below v0.heap.size v0 wc) := below_to BC.out hO.bel
    have hyg := hO.ne
    have hly := hO.ly
    have hz1 : u.heap.size + 1 < v0.heap.size := by
      refine Nat.lt_of_not_le fun hc => ?_
      obtain ⟨_, _, _, q3, _, _, _⟩ := HK.out v0 (Below.refl _ _)
      have := World.block_lt_of_cell? v0 _ q3
      simp at this
      omega
    have hz2 : v0.heap.size ≤ v4.heap.size := BC.out.size
    have hz3 : v4.heap.size ≤ wc.heap.size := hO.bel.size
    have hg4 := hO.ng
    have hbl : ∀ b' o', b = some ⟨b', o', none⟩ → 0 < D.length → b' < u.heap.size := fun b' o' e h => by
      obtain ⟨b2, o2, e2, h2, _⟩ := S2.out.form h
      rw [e] at e2
      simp only [Option.some.injEq, Addr.mk.injEq] at e2
      obtain ⟨rfl, _, _⟩ := e2
      exact h2
    have hzu : u.heap.size ≤ v0.heap.size := HB.out.size
    obtain ⟨bb, bo, rfl, hbb, _⟩ := S2.out.form (by have := HLN.out; omega)
    have HKT : Hid (∀ t : World, Kf g wc t → (t.cell? ⟨y, 0, none⟩ = some (.int .i64 W) ∧ t.cell? ⟨y, 1, none⟩ = some (.int .i64 H) ∧ t.cell? ⟨y, 2, none⟩ = some (.slice (some ⟨g, 0, none⟩) C.length cc) ∧ t.cell? ⟨u.heap.size + 1, 0, none⟩ = some (.int .i64 W') ∧ t.cell? ⟨u.heap.size + 1, 1, none⟩ = some (.int .i64 H') ∧ t.cell? ⟨u.heap.size + 1, 2, none⟩ = some (.slice (some ⟨bb, bo, none⟩) D.length d) ∧ (∀ j, j < D.length → t.cell? ⟨bb, bo + j, none⟩ = some (.int .u8 (D.getD j 0 : Nat))))) := fun t ht => by
      obtain ⟨_, _, _, q3, q4, q5, _⟩ := HK.out wc BD.out
      obtain ⟨b2, o2, e2, h2, h3⟩ := ((S2.out.to HB.out).to BD.out).form (by have := HLN.out; omega)
      simp only [Option.some.injEq, Addr.mk.injEq] at e2
      obtain ⟨rfl, rfl, _⟩ := e2
      refine ⟨?_, ?_, ?_, ?_, ?_, ?_, fun j hj => ?_⟩
      · rw [ht.cell _ _ hly hyg]; exact O.out.c0
      · rw [ht.cell _ _ hly hyg]; exact O.out.c1
      · rw [ht.cell _ _ hly hyg]; exact O.out.c2
      · rw [ht.cell _ _ (by omega) (by omega)]; exact q3
      · rw [ht.cell _ _ (by omega) (by omega)]; exact q4
      · rw [ht.cell _ _ (by omega) (by omega)]; exact q5
      · rw [ht.cell _ _ (by omega) (by omega)]; exact h3 j hj
    have HMT : Hid (∀ t : World, Kf g wc t → Bl t m mn B) := fun t ht => by
      rcases HM.out with h | ⟨b', o', rfl, h2, h3⟩
      · exact Or.inl h
      · refine Or.inr ⟨b', o', rfl, by have := ht.size; omega, fun j hj => ?_⟩
        rw [ht.cell _ _ (by omega) (by omega), newCell BD.out _ _ (by omega), newCell HB.out _ _ h2]
        exact h3 j hj
    have HBU : Hid (Below u.heap.size u wc) := below_to HB.out BD.out
    have hzg : u.heap.size ≤ g := by omega
    have hlg : g < wc.heap.size := O.out.wp.lt
    clear hO p0 p1 p2 p3 p4 p5 hbd KB HK3 hz1 hz2 hz3 hg4 hbl hzu hyg hly
    have hdl : (D.length : Int) ≤ 262144 := by have := HLN.out; omega
    go_wp2_with fail
    go_loopw [12] (fun iv wr => AlInv wc g C D iv wr) (fun iv _ => C.length - (intOf iv).toNat)
    case atStart => exact ⟨0, C, Nat.zero_le _, rfl, rfl, fun j => Or.inl rfl, O.out.wp, Kf.refl _ _⟩
    case round =>
      obtain ⟨k, E, hk, rfl, hE, hmix, hwp, hkf⟩ := hrel
      obtain ⟨c0, c1, c2, c3, c4, c5, c6⟩ := HKT.out wr hkf
      have HW : Hid (Wp wr g E) := hwp
      have HK5 : Hid (Kf g wc wr) := hkf
      have HE : Hid (E.length = C.length) := hE
      have HMX : Hid (∀ j, E.getD j 0 = C.getD j 0 ∨ E.getD j 0 = D.getD j 0) := hmix
      have HC6 : Hid _ := c6
      have hBl := HMT.out wr hkf
      by_cases hlt : k < C.length ∧ k < mn
      · obtain ⟨hlt1, hlt2⟩ := hlt
        have d1 := c6 k (by have := HLN.out; omega)
        have t1 := hwp.cell k (by omega)
        have t2 := hwp.th k
        have b0 : 0 ≤ (k : Int) := by omega
        have b1 : (k : Int) < (C.length : Int) := by omega
        have b2 : (k : Int) < (D.length : Int) := by have := HLN.out; omega
        have b3 : (k : Int) < (mn : Int) := by omega
        rcases hBl with h | ⟨mb, mo, rfl, _, hmc⟩
        · exfalso; omega
        have m1 := hmc k hlt2
        clear hwp hkf hE hmix c6 hmc
        cases hB : B k
        · rw [hB] at m1
          clear hB d1 t1 t2
          go_wp2_with fail
          go_roundw
          case rel => exact ⟨k + 1, E, by omega, by go_num, HE.out, HMX.out, HW.out, HK5.out⟩
          case measure => simp [intOf]; omega
        · rw [hB] at m1
          clear hB
          obtain ⟨dk, hdk⟩ : ∃ z, z = D.getD k 0 := ⟨_, rfl⟩
          rw [← hdk] at d1
          have HDK : Hid (dk = D.getD k 0) := hdk
          clear hdk
          generalize E.getD k 0 = old at t1
          go_wp2_with fail
          go_region
          all_goals
            go_wp2_with fail
            go_roundw
            case rel =>
              refine ⟨k + 1, E.set k dk, by omega, by go_num, ?_, ?_, HW.out.drew.set (by rw [HE.out]; exact hlt1) dk, HK5.out.drew.kb (Kb.setCell _ _ _ _)⟩
              · rw [List.length_set]; exact HE.out
              · rw [HDK.out]; exact mix_set HMX.out
            case measure => simp [intOf]; omega
      · have hBE : Byt E := fun j => by rcases hmix j with h | h <;> rw [h]; exact HC.out j; exact HD.out j
        obtain ⟨yv, hy1, hy2, hy3⟩ := HMono.out E hE hmix hBE
        have HKK : Hid (Calls Try.prog 11 #[.agg #[.int .i64 W, .int .i64 H, .slice (some ⟨g, 0, none⟩) C.length cc], .agg #[.int .i64 W', .int .i64 H', .slice (some ⟨bb, bo, none⟩) D.length d]] wr fun e w' => e = .returned (.float .f64 (double.word false yv)) ∧ Below wr.heap.size wr w') := by
          have := ratio_any (u := wr) (c := cc) (d := d) (W := W) (H := H) (W' := W') (H' := H') hwp.sl (Or.inr ⟨bb, bo, rfl, by have := hkf.size; have := HBU.out.size; omega, c6⟩) hBE HD.out
          rw [hE] at this
          exact this.mono (by
            rintro e w' ⟨r, rfl, hr, hb⟩
            rw [hy1] at hr
            obtain rfl : r = _ := hr
            exact ⟨rfl, hb⟩)
        have hge : (FloatKind.f64.format.order (double.word false yv) r2 == some .gt || FloatKind.f64.format.order (double.word false yv) r2 == some .eq) = true := by
          rw [← HX.out, ord_fmt, ord_ge]
          exact decide_eq_true ⟨nan_word _ HXI.out, nan_word _ hy3, by rw [key_word HXI.out, key_word hy3]; omega⟩
        generalize double.word false yv = Y at *
        have HBW : Hid (Below u.heap.size u wr) := ⟨hkf.os.trans HBU.out.os, hkf.tape.trans HBU.out.tape, hkf.output.trans HBU.out.output, Nat.le_trans HBU.out.size hkf.size, fun i hi => (hkf.block i (Nat.lt_of_lt_of_le hi HBU.out.size) (by omega)).trans (HBU.out.block i hi)⟩
        clear hBE hy1 hy2 hy3 hwp hkf hE hmix c6 hBl
        by_cases h1 : k < C.length
        · have b0 : (k : Int) < (C.length : Int) := by omega
          have b1 : ¬ (k : Int) < (mn : Int) := by omega
          have b2 : decide ((k : Int) < (mn : Int)) = false := decide_eq_false b1
          go_wp2_with fail
          refine HKK.out.mono ?_
          rintro e v9 ⟨rfl, hb9⟩
          go_wp2_with fail
          go_ret
          exact ⟨rfl, below_to HBW.out hb9⟩
        · have b1 : ¬ (k : Int) < (C.length : Int) := by omega
          have b2 : decide ((k : Int) < (C.length : Int)) = false := decide_eq_false b1
          go_wp2_with fail
          refine HKK.out.mono ?_
          rintro e v9 ⟨rfl, hb9⟩
          go_wp2_with fail
          go_ret
          exact ⟨rfl, below_to HBW.out hb9⟩
  · have e1 : apE W H C W' H' D = 2 := if_neg hp
    have e3 : Hid (ratO W H C W' H' D = none) := if_neg hp
    clear hp
    obtain ⟨p0, p1, p2, p3, p4, p5, _⟩ := HK.out v0 (Below.refl _ _)
    go_wp2_with fail
    refine (ratio_any (S1.out.to HB.out) (S2.out.to HB.out) HC.out HD.out).mono ?_
    rintro e v1 ⟨r, rfl, hr, hb1⟩
    have HR : Hid (Nan r) := by have := hr; rw [e3.out] at this; exact this
    have B1 : Hid (Below v0.heap.size v0 v1) := hb1
    clear p0 p1 p2 p3 p4 p5 hr hb1
    obtain ⟨p0, p1, p2, p3, p4, p5, _⟩ := HK.out v1 B1.out
    go_wp2_with fail
    refine (apart_any ((S1.out.to HB.out).to B1.out) ((S2.out.to HB.out).to B1.out) HC.out HD.out).mono ?_
    rintro e v2 ⟨rfl, hb2⟩
    have B2 : Hid (Below v0.heap.size v0 v2) := below_to B1.out hb2
    rw [e1]
    clear p0 p1 p2 p3 p4 p5 hb2 e1
    have q1 : (FloatKind.f64.format.order r r != some .eq) = true := by rw [nan_ne]; exact decide_eq_true HR.out
    go_wp2_with fail
    refine (class_nan HR.out _).mono ?_
    rintro e v3 ⟨rfl, rfl⟩
    go_wp2_with fail
    go_ret
    exact ⟨rfl, below_to HB.out B2.out⟩

end Go.Proofs.Ytdiphgkgehpgiaa
