/- DERIVED. The document's Lay. -/
import Derived.Test.YtlgfkkegehpllaaRc
import Derived.Test.YtlgfkkegehpllaaRa
namespace Go.Proofs.Ytlgfkkegehpllaa
open Go.RowKit

/-- a plane in a variable of its own, its samples in a row of their own -/
structure One (V T : World) (y g cc : Nat) (W H : Int) (C : List Nat) : Prop where
  c0 : T.cell? ⟨y, 0, none⟩ = some (.int .i64 W)
  c1 : T.cell? ⟨y, 1, none⟩ = some (.int .i64 H)
  c2 : T.cell? ⟨y, 2, none⟩ = some (.slice (some ⟨g, 0, none⟩) C.length cc)
  wp : Wp T g C
  ly : y < T.heap.size
  ne : y ≠ g
  ny : V.heap.size ≤ y
  ng : V.heap.size ≤ g
  bel : Below V.heap.size V T
theorem Wp.allocs {w : World} {g : Nat} {C : List Nat} (h : Wp w g C) (o : Obj) : Wp (w.alloc o) g C := h.to (from_alloc w o)
theorem one_a {V w : World} {g cc : Nat} {W H : Int} {C : List Nat} (hg : V.heap.size ≤ g) (hw : Wp w g C) (hb : Below V.heap.size V w) : One V (w.alloc (.cells #[.int .i64 W, .int .i64 H, .slice (some ⟨g, 0, none⟩) C.length cc] 24)) w.heap.size g cc W H C :=
  ⟨by simp, by simp, by simp, hw.allocs _, by simp, fun e => by have := hw.lt; omega, hb.size, hg, to_alloc hb _⟩
theorem one_b {V w : World} {g cc : Nat} {W H : Int} {C : List Nat} (hg : (V.alloc (.cells #[.int .i64 0, .int .i64 0, .slice none 0 0] 24)).drew.heap.size ≤ g) (hw : Wp w g C) (hb : Below V.heap.size V w) (hc : Below (V.alloc (.cells #[.int .i64 0, .int .i64 0, .slice none 0 0] 24)).drew.heap.size (V.alloc (.cells #[.int .i64 0, .int .i64 0, .slice none 0 0] 24)).drew w) :
    One V (((w.setCell ⟨V.heap.size, 0, none⟩ (.int .i64 W)).setCell ⟨V.heap.size, 1, none⟩ (.int .i64 H)).setCell ⟨V.heap.size, 2, none⟩ (.slice (some ⟨g, 0, none⟩) C.length cc)) V.heap.size g cc W H C := by
  simp at hg
  have hz := hc.size
  simp at hz
  have k0 : w.cell? ⟨V.heap.size, 0, none⟩ = some (.int .i64 0) := by rw [newCell hc _ _ (by simp)]; simp
  have k1 : w.cell? ⟨V.heap.size, 1, none⟩ = some (.int .i64 0) := by rw [newCell hc _ _ (by simp)]; simp
  have k2 : w.cell? ⟨V.heap.size, 2, none⟩ = some (.slice none 0 0) := by rw [newCell hc _ _ (by simp)]; simp
  have ne : g ≠ V.heap.size := by omega
  refine ⟨?_, ?_, ?_, ?_, by simp; omega, by omega, Nat.le_refl _, by omega, below_set (below_set (below_set hb (Nat.le_refl _) _) (Nat.le_refl _) _) (Nat.le_refl _) _⟩
  · rw [World.cell?_setCell_other _ _ _ _ (by simp), World.cell?_setCell_other _ _ _ _ (by simp)]; exact World.cell?_setCell_same _ _ _ k0
  · rw [World.cell?_setCell_other _ _ _ _ (by simp)]; exact World.cell?_setCell_same _ _ _ (by rw [World.cell?_setCell_other _ _ _ _ (by simp)]; exact k1)
  · exact World.cell?_setCell_same _ _ _ (by rw [World.cell?_setCell_other _ _ _ _ (by simp), World.cell?_setCell_other _ _ _ _ (by simp)]; exact k2)
  · exact ((hw.far ne _).far ne _).far ne _

/-- a plane with the first n samples laid -/
def layQ (W : Nat) (C : List Nat) (X Y w ht : Nat) (B : List Nat) (n i : Nat) : Nat := if X ≤ i % W ∧ i % W < X + w ∧ Y ≤ i / W ∧ i / W < Y + ht ∧ (i / W - Y) * w + (i % W - X) < n then B.getD ((i / W - Y) * w + (i % W - X)) 0 else C.getD i 0
theorem layQ_zero {W : Nat} {C : List Nat} {X Y w ht : Nat} {B : List Nat} {i : Nat} : layQ W C X Y w ht B 0 i = C.getD i 0 := if_neg (by omega)
theorem layQ_all {W : Nat} {C : List Nat} {X Y w ht : Nat} {B : List Nat} {i : Nat} : layQ W C X Y w ht B (w * ht) i = layF W C X Y w B ht i := by
  unfold layQ layF
  by_cases h : X ≤ i % W ∧ i % W < X + w ∧ Y ≤ i / W ∧ i / W < Y + ht
  · rw [if_pos h, if_pos ⟨h.1, h.2.1, h.2.2.1, h.2.2.2, at_lt (by omega) (by omega)⟩]
  · rw [if_neg h, if_neg (fun k => h ⟨k.1, k.2.1, k.2.2.1, k.2.2.2.1⟩)]
theorem layQ_step {W : Nat} {C : List Nat} {X Y w ht : Nat} {B : List Nat} {n d r t : Nat} (hw : 1 ≤ w) (hX : X + w ≤ W) (hd : d = n / w) (hr : r = n % w) (hdl : d < ht) (ht' : t = (Y + d) * W + X + r) {E : List Nat} (hE : E.length = C.length) (hin : t < C.length) (h : ∀ i, i < C.length → E.getD i 0 = layQ W C X Y w ht B n i) : ∀ i, i < C.length → (E.set t (B.getD n 0)).getD i 0 = layQ W C X Y w ht B (n + 1) i := by
  intro i hi
  have hrw : r < w := by rw [hr]; exact Nat.mod_lt _ hw
  have hn : d * w + r = n := by rw [hd, hr, Nat.mul_comm]; exact Nat.div_add_mod n w
  by_cases e : i = t
  · subst e
    have h1 : i / W = Y + d := by rw [ht', Nat.add_assoc, Nat.add_comm, Nat.add_mul_div_right _ _ (by omega), Nat.div_eq_of_lt (by omega), Nat.zero_add]
    have h2 : i % W = X + r := by rw [ht', Nat.add_assoc, Nat.add_comm, Nat.add_mul_mod_self_right, Nat.mod_eq_of_lt (by omega)]
    rw [List.getD_eq_getElem?_getD, List.getElem?_set_self (by omega)]
    unfold layQ
    rw [h1, h2, show Y + d - Y = d by omega, show X + r - X = r by omega, hn, if_pos ⟨by omega, by omega, by omega, by omega, by omega⟩]
    rfl
  · rw [List.getD_eq_getElem?_getD, List.getElem?_set_ne (by omega), ← List.getD_eq_getElem?_getD, h i hi]
    unfold layQ
    by_cases c : X ≤ i % W ∧ i % W < X + w ∧ Y ≤ i / W ∧ i / W < Y + ht
    · have hne : (i / W - Y) * w + (i % W - X) ≠ n := fun q => e (by
        obtain ⟨d2, h4⟩ : ∃ d2, d2 = i / W - Y := ⟨_, rfl⟩
        obtain ⟨r2, h5⟩ : ∃ r2, r2 = i % W - X := ⟨_, rfl⟩
        rw [← h4, ← h5] at q
        have h6 : n / w = d2 := by rw [← q, Nat.add_comm, Nat.add_mul_div_right _ _ (by omega), Nat.div_eq_of_lt (by omega), Nat.zero_add]
        have h7 : n % w = r2 := by rw [← q, Nat.add_comm, Nat.add_mul_mod_self_right, Nat.mod_eq_of_lt (by omega)]
        have h8 := Nat.div_add_mod i W
        rw [ht', hd, hr, h6, h7, show Y + d2 = i / W by omega, Nat.mul_comm]
        omega)
      by_cases g : (i / W - Y) * w + (i % W - X) < n
      · rw [if_pos ⟨c.1, c.2.1, c.2.2.1, c.2.2.2, g⟩, if_pos ⟨c.1, c.2.1, c.2.2.1, c.2.2.2, by omega⟩]
      · rw [if_neg (fun k => g k.2.2.2.2), if_neg (fun k => by have := k.2.2.2.2; omega)]
    · rw [if_neg (fun k => c ⟨k.1, k.2.1, k.2.2.1, k.2.2.2.1⟩), if_neg (fun k => c ⟨k.1, k.2.1, k.2.2.1, k.2.2.2.1⟩)]
def LqInv (V : World) (g : Nat) (F : Nat → Nat → Nat) (m n : Nat) (iv : Value) (wr : World) : Prop := ∃ (k : Nat) (E : List Nat), k ≤ n ∧ iv = .int .i64 k ∧ E.length = m ∧ (∀ i, i < m → E.getD i 0 = F k i) ∧ Wp wr g E ∧ Kf g V wr

set_option maxRecDepth 100000 in
set_option maxHeartbeats 2000000 in
theorem rlay_ok {u : World} {a ab : Option Addr} {c cb : Nat} {C B : List Nat} {x y X Y w ht : Nat} (hs : Sl u .u8 a C) (hx0 : 1 ≤ x) (hx1 : x ≤ 512) (hy0 : 1 ≤ y) (hy1 : y ≤ 512) (hl : C.length = x * y) (hw : 1 ≤ w) (hh : 1 ≤ ht) (hX : X + w ≤ x) (hY : Y + ht ≤ y) (hsB : Sl u .u8 ab B) (hlB : B.length = w * ht) :
    Calls Try.prog 27 #[.agg #[.int .i64 (x : Int), .int .i64 (y : Int), .slice a C.length c], .agg #[.int .i64 (X : Int), .int .i64 (Y : Int), .int .i64 (w : Int), .int .i64 (ht : Int)], .slice ab B.length cb] u fun e w' => ∃ a' cc, e = .returned (.tuple #[.agg #[.int .i64 (x : Int), .int .i64 (y : Int), .slice a' C.length cc], .int .i64 0]) ∧ Sl w' .u8 a' (layL x C X Y w B ht) ∧ Below u.heap.size u w' := by
  have hck : ck (x : Int) (y : Int) C = 0 := ck_ok (POk.of hx0 hx1 hy0 hy1 hl)
  have HW : Hid (Win (x : Int) (y : Int) (X : Int) (Y : Int) (w : Int) (ht : Int)) := ⟨by omega, by omega, by omega, by omega, by omega, by omega⟩
  have hp := prod_le hx1 hy1
  have hwh : w * ht ≤ 262144 := prod_le (by omega) (by omega)
  have hB0 : 0 < B.length := by rw [hlB]; exact Nat.mul_pos hw hh
  have hC0 : 0 < C.length := by rw [hl]; exact Nat.mul_pos hx0 hy0
  have en : (w : Int) * (ht : Int) = (B.length : Int) := by rw [← Int.natCast_mul, hlB]
  have n1 : (B.length : Int) ≤ 262144 := by omega
  have n2 : ((B.length : Int) != (B.length : Int)) = false := by simp
  have n3 : (C.length : Int) ≤ 262144 := by omega
  obtain ⟨b, o, rfl, hbl, hcell⟩ := hs.form hC0
  obtain ⟨bb, ob, rfl, hblB, hcellB⟩ := hsB.form hB0
  have HSL : Hid (Sl u .u8 (some ⟨b, o, none⟩) C) := hs
  have HSB : Hid (∀ t : World, Below u.heap.size u t → ∀ j, j < B.length → t.cell? ⟨bb, ob + j, none⟩ = some (.int .u8 (B.getD j 0 : Nat))) := fun t hb j hj => by rw [newCell hb _ _ hblB]; exact hcellB j hj
  have HL : Hid (C.length = x * y) := hl
  have HLB : Hid (B.length = w * ht) := hlB
  have hCl : C.length ≤ 262144 := by omega
  have hBl : B.length ≤ 262144 := by omega
  have i1 : (x : Int) ≤ 512 := by omega
  have i2 : (y : Int) ≤ 512 := by omega
  have i5 : (Y : Int) + (ht : Int) ≤ 512 := by omega
  have i6 : (X : Int) + (w : Int) ≤ 512 := by omega
  clear hs hl hsB hlB hcell hcellB hp hwh
  go_enter Try.func27, Try.ntmps27
  go_wp2_with fail
  refine rcheck_any.mono ?_
  rintro e w1 ⟨rfl, hb⟩
  rw [hck]
  have d0 : w1.cell? ⟨u.heap.size, 0, none⟩ = some (.int .i64 (x : Int)) := by rw [newCell hb _ _ (by simp <;> omega)]; simp [go_sem]
  have d1 : w1.cell? ⟨u.heap.size, 1, none⟩ = some (.int .i64 (y : Int)) := by rw [newCell hb _ _ (by simp <;> omega)]; simp [go_sem]
  have d2 : w1.cell? ⟨u.heap.size, 2, none⟩ = some (.slice (some ⟨b, o, none⟩) C.length c) := by rw [newCell hb _ _ (by simp <;> omega)]; simp [go_sem]
  have d3 : w1.cell? ⟨u.heap.size + 1, 0, none⟩ = some (.int .i64 (X : Int)) := by rw [newCell hb _ _ (by simp <;> omega)]; simp [go_sem]
  have d4 : w1.cell? ⟨u.heap.size + 1, 1, none⟩ = some (.int .i64 (Y : Int)) := by rw [newCell hb _ _ (by simp <;> omega)]; simp [go_sem]
  have d5 : w1.cell? ⟨u.heap.size + 1, 2, none⟩ = some (.int .i64 (w : Int)) := by rw [newCell hb _ _ (by simp <;> omega)]; simp [go_sem]
  have d6 : w1.cell? ⟨u.heap.size + 1, 3, none⟩ = some (.int .i64 (ht : Int)) := by rw [newCell hb _ _ (by simp <;> omega)]; simp [go_sem]
  have d7 : w1.cell? ⟨u.heap.size + 1 + 1, 0, none⟩ = some (.int .i64 0) := by rw [newCell hb _ _ (by simp <;> omega)]; simp [go_sem]
  have d8 : w1.cell? ⟨u.heap.size + 1 + 1, 1, none⟩ = some (.int .i64 0) := by rw [newCell hb _ _ (by simp <;> omega)]; simp [go_sem]
  have d9 : w1.cell? ⟨u.heap.size + 1 + 1, 2, none⟩ = some (.slice none 0 0) := by rw [newCell hb _ _ (by simp <;> omega)]; simp [go_sem]
  have f0 : ∀ o, w1.frozen? ⟨u.heap.size + 1 + 1, o, none⟩ = false := fun o => by rw [newFrozen hb _ _ (by simp)]; simp [go_sem]
  have hz : u.heap.size + 3 ≤ w1.heap.size := by have := hb.size; simp at this; omega
  have HB : Hid (Below u.heap.size u w1) := below_to (to_alloc (to_alloc (from_alloc u _) _) _) hb
  clear hb hck
  go_wp2_with fail
  refine (rwithin_yes HW.out (by omega) (by omega)).mono ?_
  rintro e V ⟨rfl, hb⟩
  have HBV : Hid (Below u.heap.size u V) := below_to HB.out hb
  have hzV : u.heap.size + 3 ≤ V.heap.size := Nat.le_trans hz hb.size
  have HF : Hid (∀ t : World, Below V.heap.size V t → (t.cell? ⟨u.heap.size, 0, none⟩ = some (.int .i64 (x : Int)) ∧ t.cell? ⟨u.heap.size, 1, none⟩ = some (.int .i64 (y : Int)) ∧ t.cell? ⟨u.heap.size, 2, none⟩ = some (.slice (some ⟨b, o, none⟩) C.length c) ∧ t.cell? ⟨u.heap.size + 1, 0, none⟩ = some (.int .i64 (X : Int)) ∧ t.cell? ⟨u.heap.size + 1, 1, none⟩ = some (.int .i64 (Y : Int)) ∧ t.cell? ⟨u.heap.size + 1, 2, none⟩ = some (.int .i64 (w : Int)) ∧ t.cell? ⟨u.heap.size + 1, 3, none⟩ = some (.int .i64 (ht : Int)) ∧ t.cell? ⟨u.heap.size + 1 + 1, 0, none⟩ = some (.int .i64 0) ∧ t.cell? ⟨u.heap.size + 1 + 1, 1, none⟩ = some (.int .i64 0) ∧ t.cell? ⟨u.heap.size + 1 + 1, 2, none⟩ = some (.slice none 0 0) ∧ (∀ o, t.frozen? ⟨u.heap.size + 1 + 1, o, none⟩ = false) ∧ Below V.heap.size V t)) := fun t ht' => by
    refine ⟨?_, ?_, ?_, ?_, ?_, ?_, ?_, ?_, ?_, ?_, fun o => ?_, ht'⟩
    all_goals first | rw [newCell ht' _ _ (by omega), newCell hb _ _ (by omega)] | rw [newFrozen ht' _ _ (by omega), newFrozen hb _ _ (by omega)]
    all_goals first | assumption | exact f0 o
  clear hb HB d0 d1 d2 d3 d4 d5 d6 d7 d8 d9 f0
  obtain ⟨p0, p1, p2, r0, r1, r2, r3, _, _, _, _, _⟩ := HF.out V (Below.refl _ _)
  have KB : Hid (∀ t : World, Below V.heap.size V t → Calls Try.prog 22 #[.slice (some ⟨b, o, none⟩) C.length c] t fun e w' => ∃ g c', e = .returned (.slice (some ⟨g, 0, none⟩) C.length c') ∧ t.heap.size ≤ g ∧ Wp w' g C ∧ Below V.heap.size V w' ∧ Below t.heap.size t w') := fun t ht => (copyBytes_any ((HSL.out.to HBV.out).to ht) (by omega)).mono (by
    rintro e w' ⟨a', c', rfl, hn, hb⟩
    obtain ⟨g, rfl, hw⟩ := hn.wp (by omega)
    exact ⟨g, c', rfl, hn.new _ _ _ rfl, hw, below_to ht hb, hb⟩)
  have HK3 : Hid (∀ t : World, Below V.heap.size V t → (t.cell? ⟨u.heap.size, 0, none⟩ = some (.int .i64 (x : Int)) ∧ t.cell? ⟨u.heap.size, 1, none⟩ = some (.int .i64 (y : Int)) ∧ t.cell? ⟨u.heap.size, 2, none⟩ = some (.slice (some ⟨b, o, none⟩) C.length c) ∧ Below V.heap.size V t)) := fun t ht => by
    obtain ⟨q0, q1, q2, _⟩ := HF.out t ht
    exact ⟨q0, q1, q2, ht⟩
  have hbd : Below V.heap.size V V.drew := below_drew (Below.refl _ _)
  go_wp2_with fail
  clear r0 r1 r2 r3
  go_cut [8] (fun s8 T => ∃ yb g cc, s8 = .pointer (some ⟨yb, 0, none⟩) ∧ One V T yb g cc (x : Int) (y : Int) C)
  case first =>
    go_region_held3 (fun t => t.cell? ⟨u.heap.size, 0, none⟩ = some (.int .i64 (x : Int)) ∧ t.cell? ⟨u.heap.size, 1, none⟩ = some (.int .i64 (y : Int)) ∧ t.cell? ⟨u.heap.size, 2, none⟩ = some (.slice (some ⟨b, o, none⟩) C.length c) ∧ Below V.heap.size V t)
      ((exact HK3.out _ (by solve | (repeat (first | with_reducible assumption | with_reducible refine to_alloc ?_ _ | with_reducible refine below_set ?_ ?_ _ | with_reducible refine below_drew ?_ | with_reducible exact Below.refl _ _ | (dsimp only; omega))))))
      ((first | (go_at_call 22; with_reducible refine (KB.out _ ?_).mono ?_; (focus (first | with_reducible assumption | exact below_drew (to_alloc (Below.refl _ _) _) | exact to_alloc (below_drew (Below.refl _ _)) _)); rintro e wA ⟨gA, cA, rfl, hgA, hwA, hbA, hcA⟩; have hsA := hbA.size; have hkA := newCell hcA; have hfA := newFrozen hcA; have hqA := newNe hcA; have hzA := newLt hcA)))
    all_goals
      go_wp2_with fail
      go_meet
      go_light
      refine ⟨_, gA, cA, rfl, ?_⟩
      first | exact one_a hgA hwA hbA | exact one_b hgA hwA hbA hcA
  obtain ⟨yb, g, cc, rfl, hO⟩ := hcut
  have O : Hid (One V wc yb g cc (x : Int) (y : Int) C) := hO
  have hyg := hO.ne
  have hly := hO.ly
  have hny := hO.ny
  have hng := hO.ng
  have hzw : V.heap.size ≤ wc.heap.size := hO.bel.size
  have hzu : u.heap.size ≤ V.heap.size := HBV.out.size
  have HKT : Hid (∀ t : World, Kf g wc t → (t.cell? ⟨yb, 0, none⟩ = some (.int .i64 (x : Int)) ∧ t.cell? ⟨yb, 1, none⟩ = some (.int .i64 (y : Int)) ∧ t.cell? ⟨yb, 2, none⟩ = some (.slice (some ⟨g, 0, none⟩) C.length cc) ∧ t.cell? ⟨u.heap.size, 0, none⟩ = some (.int .i64 (x : Int)) ∧ t.cell? ⟨u.heap.size + 1, 0, none⟩ = some (.int .i64 (X : Int)) ∧ t.cell? ⟨u.heap.size + 1, 1, none⟩ = some (.int .i64 (Y : Int)) ∧ t.cell? ⟨u.heap.size + 1, 2, none⟩ = some (.int .i64 (w : Int)) ∧ t.cell? ⟨u.heap.size + 1 + 1, 0, none⟩ = some (.int .i64 0) ∧ t.cell? ⟨u.heap.size + 1 + 1, 1, none⟩ = some (.int .i64 0) ∧ t.cell? ⟨u.heap.size + 1 + 1, 2, none⟩ = some (.slice none 0 0) ∧ (∀ o, t.frozen? ⟨u.heap.size + 1 + 1, o, none⟩ = false) ∧ (∀ j, j < B.length → t.cell? ⟨bb, ob + j, none⟩ = some (.int .u8 (B.getD j 0 : Nat))))) := fun t ht => by
    obtain ⟨q0, q1, q2, q3, q4, q5, q6, q7, q8, q9, q10, _⟩ := HF.out wc O.out.bel
    refine ⟨?_, ?_, ?_, ?_, ?_, ?_, ?_, ?_, ?_, ?_, fun o => ?_, fun j hj => ?_⟩
    · rw [ht.cell _ _ hly hyg]; exact O.out.c0
    · rw [ht.cell _ _ hly hyg]; exact O.out.c1
    · rw [ht.cell _ _ hly hyg]; exact O.out.c2
    · rw [ht.cell _ _ (by omega) (by omega)]; exact q0
    · rw [ht.cell _ _ (by omega) (by omega)]; exact q3
    · rw [ht.cell _ _ (by omega) (by omega)]; exact q4
    · rw [ht.cell _ _ (by omega) (by omega)]; exact q5
    · rw [ht.cell _ _ (by omega) (by omega)]; exact q7
    · rw [ht.cell _ _ (by omega) (by omega)]; exact q8
    · rw [ht.cell _ _ (by omega) (by omega)]; exact q9
    · rw [ht.frozen _ _ (by omega) (by omega)]; exact q10 o
    · rw [ht.cell _ _ (by omega) (by omega)]; exact HSB.out wc (below_to HBV.out O.out.bel) j hj
  have HBU : Hid (Below u.heap.size u wc) := below_to HBV.out O.out.bel
  have hlg : g < wc.heap.size := O.out.wp.lt
  have hgu : u.heap.size + 1 + 1 < g := by omega
  clear hO p0 p1 p2 hbd KB HK3 HF hly hny hyg
  go_wp2_with fail
  go_loopw [9] (fun iv wr => LqInv wc g (fun k i => layQ x C X Y w ht B k i) C.length B.length iv wr) (fun iv _ => B.length - (intOf iv).toNat)
  case atStart => exact ⟨0, C, Nat.zero_le _, rfl, rfl, fun i _ => layQ_zero.symm, O.out.wp, Kf.refl _ _⟩
  case round =>
    obtain ⟨k, E, hk, rfl, hE, hgE, hwp, hkf⟩ := hrel
    obtain ⟨c0, c1, c2, c3, c4, c5, c6, c7, c8, c9, c10, c11⟩ := HKT.out wr hkf
    have HWp : Hid (Wp wr g E) := hwp
    have HK5 : Hid (Kf g wc wr) := hkf
    have HE : Hid (E.length = C.length) := hE
    by_cases hlt : k < B.length
    · obtain ⟨d, hd⟩ : ∃ d, d = k / w := ⟨_, rfl⟩
      obtain ⟨r, hr⟩ : ∃ r, r = k % w := ⟨_, rfl⟩
      have hrw : r < w := by rw [hr]; exact Nat.mod_lt _ hw
      have hdl : d < ht := by rw [hd]; exact Nat.div_lt_of_lt_mul (by rw [← HLB.out]; exact hlt)
      obtain ⟨q, hq⟩ : ∃ q, q = Y + d := ⟨_, rfl⟩
      obtain ⟨z1, hz1⟩ : ∃ z, z = q * x := ⟨_, rfl⟩
      obtain ⟨z2, hz2⟩ : ∃ z, z = z1 + X := ⟨_, rfl⟩
      obtain ⟨z3, hz3⟩ : ∃ z, z = z2 + r := ⟨_, rfl⟩
      have hin : z3 < C.length := by rw [HL.out, hz3, hz2, hz1, Nat.add_assoc]; exact at_lt (by omega) (by omega)
      have HST : Hid _ := layQ_step (t := z3) hw hX hd hr hdl (by rw [hz3, hz2, hz1, hq]) hE hin hgE
      have t1 : (k : Int).tmod (w : Int) = (r : Int) := by rw [hr]; rfl
      have t2 : (k : Int).tdiv (w : Int) = (d : Int) := by rw [hd]; rfl
      have t3 : (k : Int) % (w : Int) = (r : Int) := by rw [hr]; rfl
      have t4 : (k : Int) / (w : Int) = (d : Int) := by rw [hd]; rfl
      have t5 : ¬ (w : Int) = 0 := by omega
      have t6 : IntKind.i64.wrap (d : Int) = (d : Int) := by rw [IntKind.wrap_i64]; omega
      have t7 : ¬ w = 0 := by omega
      have t8 : IntKind.i64.wrap ((Y : Int) + (d : Int)) = (q : Int) := by rw [IntKind.wrap_i64]; omega
      have t9 : IntKind.i64.wrap ((q : Int) * (x : Int)) = (z1 : Int) := by rw [← Int.natCast_mul, ← hz1, IntKind.wrap_i64]; omega
      have t10 : IntKind.i64.wrap ((z1 : Int) + (X : Int)) = (z2 : Int) := by rw [IntKind.wrap_i64]; omega
      have t11 : IntKind.i64.wrap ((z2 : Int) + (r : Int)) = (z3 : Int) := by rw [IntKind.wrap_i64]; omega
      have m1 := c11 k hlt
      have s1 := hwp.cell z3 (by omega)
      have s2 := hwp.th z3
      have b0 : 0 ≤ (k : Int) := by omega
      have b1 : (k : Int) < (B.length : Int) := by omega
      have b2 : 0 ≤ (z3 : Int) := by omega
      have b3 : (z3 : Int) < (C.length : Int) := by omega
      have HKP : Hid (∀ t : World, Kf g wc t → (t.cell? ⟨yb, 2, none⟩ = some (.slice (some ⟨g, 0, none⟩) C.length cc) ∧ t.cell? ⟨u.heap.size, 0, none⟩ = some (.int .i64 (x : Int)) ∧ t.cell? ⟨u.heap.size + 1, 0, none⟩ = some (.int .i64 (X : Int)) ∧ t.cell? ⟨u.heap.size + 1, 1, none⟩ = some (.int .i64 (Y : Int)) ∧ t.cell? ⟨u.heap.size + 1, 2, none⟩ = some (.int .i64 (w : Int)) ∧ t.cell? ⟨bb, ob + k, none⟩ = some (.int .u8 (B.getD k 0 : Nat)))) := fun t ht => by
        obtain ⟨_, _, e2, e3, e4, e5, e6, _, _, _, _, e11⟩ := HKT.out t ht
        exact ⟨e2, e3, e4, e5, e6, e11 k hlt⟩
      generalize B.getD k 0 = val at m1 HST HKP
      generalize E.getD z3 0 = old at s1
      have HIN : Hid (z3 < C.length) := hin
      clear hwp hkf hE hgE c11 hd hr hq hz1 hz2 hz3 hin hdl hrw
      have HHK : Hid (k ≤ B.length) := hk
      have HLT : Hid (k < B.length) := hlt
      clear c1 c7 c8 c9 c10 i1 i2 i5 i6 n2 n3 en hC0 hB0 hCl hBl hzw hzu hlg hgu hzV hX hY hx0 hx1 hy0 hy1 hw hh hz hk HKT HBU HSL HSB HL HLB O HW HBV hblB hbl hng
      go_wp2_with fail
      go_region_held3 (fun t => t.cell? ⟨yb, 2, none⟩ = some (.slice (some ⟨g, 0, none⟩) C.length cc) ∧ t.cell? ⟨u.heap.size, 0, none⟩ = some (.int .i64 (x : Int)) ∧ t.cell? ⟨u.heap.size + 1, 0, none⟩ = some (.int .i64 (X : Int)) ∧ t.cell? ⟨u.heap.size + 1, 1, none⟩ = some (.int .i64 (Y : Int)) ∧ t.cell? ⟨u.heap.size + 1, 2, none⟩ = some (.int .i64 (w : Int)) ∧ t.cell? ⟨bb, ob + k, none⟩ = some (.int .u8 (val : Nat)))
        ((exact HKP.out _ (by first | exact HK5.out.drew | exact HK5.out.drew.kb (Kb.setCell _ _ _ _))))
        ((fail))
      all_goals
        have hlt := HLT.out
        go_wp2_with fail
        go_roundw
        case rel => exact ⟨k + 1, E.set z3 val, by omega, by go_num, by rw [List.length_set]; exact HE.out, HST.out, HWp.out.drew.set (by rw [HE.out]; exact HIN.out) val, HK5.out.drew.kb (Kb.setCell _ _ _ _)⟩
        case measure => simp [intOf]; omega
    · obtain rfl : k = B.length := by omega
      have HGE : Hid _ := hgE
      clear hwp hkf hE hgE c11
      have l1 : ¬ ((B.length : Int) < (B.length : Int)) := by omega
      go_wp2_with fail
      refine bodyPost_ret (v := .tuple #[.agg #[.int .i64 (x : Int), .int .i64 (y : Int), .slice (some ⟨g, 0, none⟩) C.length cc], .int .i64 0]) (by simp [results, Try.results27, go_sem, c7, c8, c9]) rfl ?_
      have hEq : E = layL x C X Y w B ht := eq_tab HE.out fun j hj => by rw [HGE.out j hj, HLB.out]; exact layQ_all
      have hgu' : g ≠ u.heap.size + 1 + 1 := by omega
      refine ⟨some ⟨g, 0, none⟩, ⟨cc, rfl⟩, ?_, ?_⟩
      · rw [← hEq]; exact (((HWp.out.far hgu' _).far hgu' _).far hgu' _).sl
      · exact (HBU.out.trans (HK5.out.below (by omega) (by omega))).trans ((Kb.set (Kb.set (Kb.set (Kb.refl (u.heap.size + 1 + 1) _) 0 (.int .i64 (x : Int))) 1 (.int .i64 (y : Int))) 2 (.slice (some ⟨g, 0, none⟩) C.length cc)).below (by omega))

end Go.Proofs.Ytlgfkkegehpllaa
