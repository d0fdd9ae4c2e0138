/- DERIVED. The walk of the statement PlaneApart. -/
import Derived.Test.YtlgfkkegehpllaaPt
namespace Go.Proofs.Ytlgfkkegehpllaa
open Go.RowKit

set_option maxHeartbeats 1000000 in
theorem apart_bad {u : World} {a b : Option Addr} {c d : Nat} {C D : List Nat} {W H W' H' : Int} (hn : ¬ POk W H C) :
    Calls Try.prog 16 #[.agg #[.int .i64 W, .int .i64 H, .slice a C.length c], .agg #[.int .i64 W', .int .i64 H', .slice b D.length d]] u fun e w' => e = .returned (.tuple #[.int .u64 0, .int .i64 2]) ∧ Below u.heap.size u w' := by
  have hck : ck W H C = 2 := ck_no hn
  clear hn
  go_enter Try.func16, Try.ntmps16
  go_wp2_with fail
  refine check_any.mono ?_
  rintro e w1 ⟨rfl, hb⟩
  rw [hck]
  have HB : Hid (Below u.heap.size u w1) := below_to (to_alloc (from_alloc u _) _) hb
  clear hb hck
  go_wp2_with fail
  go_ret2
  exact ⟨rfl, HB.out⟩

set_option maxHeartbeats 1000000 in
theorem solid_yes {u : World} {a : Option Addr} {c : Nat} {C : List Nat} {x y : Nat} (hx0 : 1 ≤ x) (hx1 : x ≤ 512) (hy0 : 1 ≤ y) (hy1 : y ≤ 512) (hl : C.length = x * y) :
    Calls Try.prog 42 #[.agg #[.int .i64 (x : Int), .int .i64 (y : Int), .slice a C.length c]] u fun e w' => e = .returned (.bool true) ∧ Below u.heap.size u w' := by
  have hp := prod_le hx1 hy1
  have en : (x : Int) * (y : Int) = (C.length : Int) := by rw [← Int.natCast_mul, hl]
  have n1 : (C.length : Int) ≤ 262144 := by omega
  have n2 : ((C.length : Int) == (C.length : Int)) = true := by simp
  have i1 : (1 : Int) ≤ (x : Int) := by omega
  have i2 : (x : Int) ≤ 512 := by omega
  have i3 : (1 : Int) ≤ (y : Int) := by omega
  have i4 : (y : Int) ≤ 512 := by omega
  clear hl hp
  go_enter Try.func42, Try.ntmps42
  go_wp2
  go_ret
  exact ⟨rfl, from_alloc _ _⟩

theorem layL_one {x i v : Nat} {C : List Nat} (hx : 1 ≤ x) (hi : i < C.length) : layL x C (i % x) (i / x) 1 [v] 1 = C.set i v := by
  refine list_eq_of_getD (by rw [layL_len, List.length_set]) fun j hj => ?_
  rw [layL_len] at hj
  rw [layL_get hj, List.getD_eq_getElem?_getD, List.getElem?_set]
  unfold layF
  obtain ⟨p1, _⟩ := parts i x (by omega)
  obtain ⟨p2, _⟩ := parts j x (by omega)
  by_cases e : i = j
  · subst e
    rw [if_pos (by omega), if_pos rfl, if_pos hi]
    rw [Nat.sub_self, Nat.sub_self]; rfl
  · rw [if_neg e, ← List.getD_eq_getElem?_getD, if_neg]
    intro h
    have e1 : j % x = i % x := by omega
    have e2 : j / x = i / x := by omega
    rw [e1, e2] at p2
    omega
theorem set_get {C : List Nat} {i v j : Nat} (hi : i < C.length) : (C.set i v).getD j 0 = if i = j then v else C.getD j 0 := by
  rw [List.getD_eq_getElem?_getD, List.getElem?_set]
  by_cases e : i = j
  · rw [if_pos e, if_pos hi, if_pos e]; rfl
  · rw [if_neg e, if_neg e, ← List.getD_eq_getElem?_getD]
theorem apS_set {C : List Nat} {i v : Nat} (hi : i < C.length) : ∀ n, apS C (C.set i v) n = if i < n then sqd (C.getD i 0) v else 0
  | 0 => by simp [apS]
  | n + 1 => by
    simp only [apS]
    rw [apS_set hi n, set_get hi]
    by_cases e : i = n
    · subst e; rw [if_neg (Nat.lt_irrefl _), if_pos rfl, if_pos (by omega)]; omega
    · rw [if_neg e, sqd_self]
      by_cases g : i < n
      · rw [if_pos g, if_pos (by omega)]; rfl
      · rw [if_neg g, if_neg (by omega)]
theorem set_self {C : List Nat} {i : Nat} (hi : i < C.length) : C.set i (C.getD i 0) = C := list_eq_of_getD (by simp) fun j _ => by
  rw [set_get hi]
  by_cases e : i = j
  · rw [if_pos e, e]
  · rw [if_neg e]
theorem byt_set {C : List Nat} {i v : Nat} (hi : i < C.length) (hC : Byt C) (hv : v < 256) : Byt (C.set i v) := fun j => by
  rw [set_get hi]
  by_cases e : i = j
  · rw [if_pos e]; exact hv
  · rw [if_neg e]; exact hC j
/-- whether nothing parts them, and whether they are the same -/
theorem apart_same {C : List Nat} {i v : Nat} (hi : i < C.length) : (sqd (C.getD i 0) v = 0) ↔ C = C.set i v := by
  constructor
  · intro h
    have e := sqd_zero h
    subst e
    exact (set_self hi).symm
  · intro h
    have := congrArg (fun l : List Nat => l.getD i 0) h
    rw [set_get hi, if_pos rfl] at this
    rw [this, sqd_self]

set_option maxRecDepth 100000 in
set_option maxHeartbeats 4000000 in
theorem apart_walk {u : World} {a : Option Addr} {c v : Nat} {C : List Nat} {W H at' : Int} (hs : Sl u .u8 a C) (hC : Byt C) (hc : C.length ≤ c) (hv : v < 256) :
    Calls Try.prog 8 #[.agg #[.int .i64 W, .int .i64 H, .slice a C.length c], .int .i64 at', .int .u8 (v : Int)] u fun e w' => e = .returned (.bool true) ∧ Below u.heap.size u w' := by
  have HSL : Hid (Sl u .u8 a C) := hs
  have HC : Hid (Byt C) := hC
  have HCC : Hid (C.length ≤ c) := hc
  have HV : Hid (v < 256) := hv
  clear hs hC hc hv
  go_enter Try.func8, Try.ntmps8
  go_wp2_with fail
  refine works_true.mono ?_
  rintro e w1 ⟨rfl, hb⟩
  have d0 : w1.cell? ⟨u.heap.size, 0, none⟩ = some (.int .i64 W) := by rw [newCell hb _ _ (by simp)]; simp
  have d1 : w1.cell? ⟨u.heap.size, 1, none⟩ = some (.int .i64 H) := by rw [newCell hb _ _ (by simp)]; simp
  have d2 : w1.cell? ⟨u.heap.size, 2, none⟩ = some (.slice a C.length c) := by rw [newCell hb _ _ (by simp)]; simp
  have HB1 : Hid (Below u.heap.size u w1) := below_to (from_alloc u _) hb
  have hz1 : u.heap.size < w1.heap.size := by have := hb.size; simp at this; omega
  clear hb
  go_wp2_with fail
  refine check_any.mono ?_
  rintro e w2 ⟨rfl, hb⟩
  have c0 : w2.cell? ⟨u.heap.size, 0, none⟩ = some (.int .i64 W) := by rw [newCell hb _ _ (by omega)]; exact d0
  have c1 : w2.cell? ⟨u.heap.size, 1, none⟩ = some (.int .i64 H) := by rw [newCell hb _ _ (by omega)]; exact d1
  have c2 : w2.cell? ⟨u.heap.size, 2, none⟩ = some (.slice a C.length c) := by rw [newCell hb _ _ (by omega)]; exact d2
  have HB2 : Hid (Below u.heap.size u w2) := below_to HB1.out hb
  have hz2 : u.heap.size < w2.heap.size := Nat.lt_of_lt_of_le hz1 hb.size
  clear hb d0 d1 d2 hz1 HB1
  by_cases hp : POk W H C
  · rw [ck_ok hp]
    obtain ⟨x, y, rfl, rfl, hx0, hx1, hy0, hy1, hl⟩ := hp.nat
    have hpr := prod_le hx1 hy1
    have h0 : 0 < C.length := by rw [hl]; exact Nat.mul_pos hx0 hy0
    have hn : (C.length : Int) ≤ 262144 := by omega
    obtain ⟨b, o, rfl, hbl, hcell⟩ := HSL.out.form h0
    have HL : Hid (C.length = x * y) := hl
    have HP : Hid (POk (x : Int) (y : Int) C) := hp
    have HCE : Hid (∀ j, j < C.length → u.cell? ⟨b, o + j, none⟩ = some (.int .u8 (C.getD j 0 : Nat))) := hcell
    clear hl hp hpr hcell
    go_wp2_with fail
    refine (solid_yes hx0 hx1 hy0 hy1 HL.out).mono ?_
    rintro e w3 ⟨rfl, hb⟩
    have d0 : w3.cell? ⟨u.heap.size, 0, none⟩ = some (.int .i64 (x : Int)) := by rw [newCell hb _ _ (by omega)]; exact c0
    have d1 : w3.cell? ⟨u.heap.size, 1, none⟩ = some (.int .i64 (y : Int)) := by rw [newCell hb _ _ (by omega)]; exact c1
    have d2 : w3.cell? ⟨u.heap.size, 2, none⟩ = some (.slice (some ⟨b, o, none⟩) C.length c) := by rw [newCell hb _ _ (by omega)]; exact c2
    have HB3 : Hid (Below u.heap.size u w3) := below_to HB2.out hb
    have hz3 : u.heap.size < w3.heap.size := Nat.lt_of_lt_of_le hz2 hb.size
    clear hb c0 c1 c2 hz2 HB2
    have hbr := br_in (i := at') (n := (C.length : Int)) (by omega)
    obtain ⟨i, hi⟩ : ∃ i : Nat, br at' (C.length : Int) = (i : Int) := ⟨(br at' (C.length : Int)).toNat, by omega⟩
    rw [hi] at hbr
    have HBR : Hid (Calls Try.prog 30 #[.int .i64 at', .int .i64 (C.length : Int)] w3 fun e w' => e = .returned (.int .i64 (i : Int)) ∧ w' = w3) := by
      have := bring_any (u := w3) (i := at') (n := (C.length : Int)) (by omega)
      rwa [hi] at this
    have hilt : i < C.length := by omega
    obtain ⟨X, hX⟩ : ∃ X, X = i % x := ⟨_, rfl⟩
    obtain ⟨Y, hY⟩ : ∃ Y, Y = i / x := ⟨_, rfl⟩
    have hXl : X < x := by rw [hX]; exact Nat.mod_lt _ hx0
    have hYl : Y < y := by rw [hY]; exact div_of (by rw [← HL.out]; exact hilt)
    have t1 : (i : Int).tmod (x : Int) = (X : Int) := by rw [hX]; rfl
    have t2 : (i : Int).tdiv (x : Int) = (Y : Int) := by rw [hY]; rfl
    have t3 : (i : Int) % (x : Int) = (X : Int) := by rw [hX]; rfl
    have t4 : (i : Int) / (x : Int) = (Y : Int) := by rw [hY]; rfl
    have t5 : ¬ (x : Int) = 0 := by omega
    have HX : Hid _ := hX
    have HY : Hid _ := hY
    clear hi hbr hX hY
    go_wp2_with fail
    refine HBR.out.mono ?_
    rintro e w4 ⟨rfl, hw4⟩
    replace hw4 := hw4.symm
    subst hw4
    clear HBR
    go_wp2_with fail
    have HK : Hid (∀ t : World, Below w3.heap.size w3 t → (t.cell? ⟨u.heap.size, 0, none⟩ = some (.int .i64 (x : Int)) ∧ t.cell? ⟨u.heap.size, 1, none⟩ = some (.int .i64 (y : Int)) ∧ t.cell? ⟨u.heap.size, 2, none⟩ = some (.slice (some ⟨b, o, none⟩) C.length c) ∧ Below w3.heap.size w3 t)) := fun t ht => ⟨by rw [newCell ht _ _ hz3]; exact d0, by rw [newCell ht _ _ hz3]; exact d1, by rw [newCell ht _ _ hz3]; exact d2, ht⟩
    obtain ⟨D, hD⟩ : ∃ D, D = C.set i v := ⟨_, rfl⟩
    have hDl : D.length = C.length := by rw [hD]; simp
    have HLy : ∀ (t : World) (s : Nat), Below w3.heap.size w3 t → Rw t s [v] → Calls Try.prog 26 #[.agg #[.int .i64 (x : Int), .int .i64 (y : Int), .slice (some ⟨b, o, none⟩) C.length c], .agg #[.int .i64 (X : Int), .int .i64 (Y : Int), .int .i64 1, .int .i64 1], .slice (some ⟨s, 0, none⟩) 1 1] t fun e w' => Pn t w' e x y D := fun t s ht hr => by
      have := lay_ok (u := t) (X := X) (Y := Y) (w := 1) (ht := 1) (B := [v]) (cb := 1) (c := c) ((HSL.out.to HB3.out).to ht) hx0 hx1 hy0 hy1 HL.out (by omega) (by omega) (by omega) (by omega) hr.sl rfl (by simp)
      rw [HX.out, HY.out, layL_one hx0 hilt, ← hD] at this
      rw [HX.out, HY.out]
      exact this
    have KA : Hid (Calls Try.prog 26 #[.agg #[.int .i64 (x : Int), .int .i64 (y : Int), .slice (some ⟨b, o, none⟩) C.length c], .agg #[.int .i64 (X : Int), .int .i64 (Y : Int), .int .i64 1, .int .i64 1], .slice (some ⟨w3.heap.size, 0, none⟩) 1 1] (w3.alloc (.cells #[.int .u8 (v : Int)] 5)).drew fun e w' => Pn (w3.alloc (.cells #[.int .u8 (v : Int)] 5)).drew w' e x y D) := HLy _ _ (below_drew (from_alloc _ _)) (Rw.ofAlloc rfl (by simp [ns])).drew
    have KB : Hid (Calls Try.prog 26 #[.agg #[.int .i64 (x : Int), .int .i64 (y : Int), .slice (some ⟨b, o, none⟩) C.length c], .agg #[.int .i64 (X : Int), .int .i64 (Y : Int), .int .i64 1, .int .i64 1], .slice (some ⟨w3.heap.size, 0, none⟩) 1 1] ((w3.alloc (.cells #[.int .u8 (v : Int)] 5)).alloc (.cells #[.int .i64 0, .int .i64 0, .slice none 0 0] 24)).drew fun e w' => Pn ((w3.alloc (.cells #[.int .u8 (v : Int)] 5)).alloc (.cells #[.int .i64 0, .int .i64 0, .slice none 0 0] 24)).drew w' e x y D) := HLy _ _ (below_drew (to_alloc (from_alloc _ _) _)) ((Rw.ofAlloc rfl (by simp [ns])).to (from_alloc _ _)).drew
    have KC : Hid (Calls Try.prog 26 #[.agg #[.int .i64 (x : Int), .int .i64 (y : Int), .slice (some ⟨b, o, none⟩) C.length c], .agg #[.int .i64 (X : Int), .int .i64 (Y : Int), .int .i64 1, .int .i64 1], .slice (some ⟨w3.heap.size + 1, 0, none⟩) 1 1] ((w3.alloc (.cells #[.int .i64 0, .int .i64 0, .slice none 0 0] 24)).alloc (.cells #[.int .u8 (v : Int)] 5)).drew fun e w' => Pn ((w3.alloc (.cells #[.int .i64 0, .int .i64 0, .slice none 0 0] 24)).alloc (.cells #[.int .u8 (v : Int)] 5)).drew w' e x y D) := HLy _ _ (below_drew (to_alloc (from_alloc _ _) _)) (Rw.ofAlloc (by simp) (by simp [ns])).drew
    have HD : Hid _ := hD
    have HDL : Hid _ := hDl
    clear HLy hD hDl
    have t6 : IntKind.i64.wrap (Y : Int) = (Y : Int) := by rw [IntKind.wrap_i64]; omega
    have t7 : ¬ x = 0 := by omega
    go_region_held3 (fun t => t.cell? ⟨u.heap.size, 0, none⟩ = some (.int .i64 (x : Int)) ∧ t.cell? ⟨u.heap.size, 1, none⟩ = some (.int .i64 (y : Int)) ∧ t.cell? ⟨u.heap.size, 2, none⟩ = some (.slice (some ⟨b, o, none⟩) C.length c) ∧ Below w3.heap.size w3 t)
      ((exact HK.out _ (by go_grown)))
      ((go_at_call 26; first
        | ((with_reducible refine KA.out.mono ?_); rintro e w5 ⟨g, rfl, hlo, hr, hb5⟩; have hB5 : Below w3.heap.size w3 w5 := below_to (below_drew (from_alloc _ _)) hb5; have hz5 := hB5.size)
        | ((with_reducible refine KB.out.mono ?_); rintro e w5 ⟨g, rfl, hlo, hr, hb5⟩; have hB5 : Below w3.heap.size w3 w5 := below_to (below_drew (to_alloc (from_alloc _ _) _)) hb5; have hz5 := hB5.size; have k0 : w5.cell? ⟨w3.heap.size + 1, 0, none⟩ = some (.int .i64 0) := (by rw [newCell hb5 _ _ (by simp)]; simp); have k1 : w5.cell? ⟨w3.heap.size + 1, 1, none⟩ = some (.int .i64 0) := (by rw [newCell hb5 _ _ (by simp)]; simp); have k2 : w5.cell? ⟨w3.heap.size + 1, 2, none⟩ = some (.slice none 0 0) := (by rw [newCell hb5 _ _ (by simp)]; simp); have k3 : ∀ o, w5.frozen? ⟨w3.heap.size + 1, o, none⟩ = false := (fun o => by rw [newFrozen hb5 _ _ (by simp)]; simp))
        | ((with_reducible refine KC.out.mono ?_); rintro e w5 ⟨g, rfl, hlo, hr, hb5⟩; have hB5 : Below w3.heap.size w3 w5 := below_to (below_drew (to_alloc (from_alloc _ _) _)) hb5; have hz5 := hB5.size; have k0 : w5.cell? ⟨w3.heap.size, 0, none⟩ = some (.int .i64 0) := (by rw [newCell hb5 _ _ (by simp; omega)]; simp [go_sem]); have k1 : w5.cell? ⟨w3.heap.size, 1, none⟩ = some (.int .i64 0) := (by rw [newCell hb5 _ _ (by simp; omega)]; simp [go_sem]); have k2 : w5.cell? ⟨w3.heap.size, 2, none⟩ = some (.slice none 0 0) := (by rw [newCell hb5 _ _ (by simp; omega)]; simp [go_sem]); have k3 : ∀ o, w5.frozen? ⟨w3.heap.size, o, none⟩ = false := (fun o => by rw [newFrozen hb5 _ _ (by simp; omega)]; simp [go_sem]))))
    · have hBT : Below w3.heap.size w3 (w5.alloc (.cells #[.int .i64 (x : Int), .int .i64 (y : Int), .slice (some ⟨g, 0, none⟩) D.length D.length] 24)) := hB5.trans ((from_alloc w5 _).mono hz5)
      have q0 : (w5.alloc (.cells #[.int .i64 (x : Int), .int .i64 (y : Int), .slice (some ⟨g, 0, none⟩) D.length D.length] 24)).cell? ⟨w5.heap.size, 0, none⟩ = some (.int .i64 (x : Int)) := by simp
      have q1 : (w5.alloc (.cells #[.int .i64 (x : Int), .int .i64 (y : Int), .slice (some ⟨g, 0, none⟩) D.length D.length] 24)).cell? ⟨w5.heap.size, 1, none⟩ = some (.int .i64 (y : Int)) := by simp
      have q2 : (w5.alloc (.cells #[.int .i64 (x : Int), .int .i64 (y : Int), .slice (some ⟨g, 0, none⟩) D.length D.length] 24)).cell? ⟨w5.heap.size, 2, none⟩ = some (.slice (some ⟨g, 0, none⟩) D.length D.length) := by simp
      have hqz : w5.heap.size < (w5.alloc (.cells #[.int .i64 (x : Int), .int .i64 (y : Int), .slice (some ⟨g, 0, none⟩) D.length D.length] 24)).heap.size := by simp
      have HRT : Hid (Rw (w5.alloc (.cells #[.int .i64 (x : Int), .int .i64 (y : Int), .slice (some ⟨g, 0, none⟩) D.length D.length] 24)) g D) := hr.to (from_alloc _ _)
      clear hlo hr hb5 hB5 hz5
      obtain ⟨r0, r1, r2, _⟩ := HK.out _ hBT
      have HBT : Hid (Below u.heap.size u (w5.alloc (.cells #[.int .i64 (x : Int), .int .i64 (y : Int), .slice (some ⟨g, 0, none⟩) D.length D.length] 24))) := HB3.out.trans (hBT.mono (Nat.le_of_lt hz3))
      have huz : u.heap.size < (w5.alloc (.cells #[.int .i64 (x : Int), .int .i64 (y : Int), .slice (some ⟨g, 0, none⟩) D.length D.length] 24)).heap.size := Nat.lt_of_lt_of_le hz3 hBT.size
      clear hBT
      generalize (w5.alloc (.cells #[.int .i64 (x : Int), .int .i64 (y : Int), .slice (some ⟨g, 0, none⟩) D.length D.length] 24)) = T at *
      generalize w5.heap.size = qb at *
      obtain ⟨s, hs⟩ : ∃ s, s = sqd (C.getD i 0) v := ⟨_, rfl⟩
      have hsl := HSL.out.to HBT.out
      have hPD : POk (x : Int) (y : Int) D := by have := HP.out; exact ⟨this.w0, this.w1, this.h0, this.h1, by rw [HDL.out]; exact this.len⟩
      have hbD : Byt D := by rw [HD.out]; exact byt_set hilt HC.out HV.out
      have hap : apS C D C.length = s := by rw [HD.out, apS_set hilt, if_pos hilt, hs]
      have hap2 : apS D C D.length = s := by rw [apS_comm, HDL.out, hap]
      have K1 : Hid (∀ t : World, Below T.heap.size T t → Calls Try.prog 16 #[.agg #[.int .i64 (x : Int), .int .i64 (y : Int), .slice (some ⟨b, o, none⟩) C.length c], .agg #[.int .i64 (x : Int), .int .i64 (y : Int), .slice (some ⟨g, 0, none⟩) D.length D.length]] t fun e w' => e = .returned (.tuple #[.int .u64 (s : Nat), .int .i64 0]) ∧ Below t.heap.size t w') := fun t ht => by
        have := apart_ok (u := t) (c := c) (d := D.length) (hsl.to ht) (HRT.out.to ht).sl HP.out hPD HC.out hbD
        rwa [hap] at this
      have K2 : Hid (∀ t : World, Below T.heap.size T t → Calls Try.prog 16 #[.agg #[.int .i64 (x : Int), .int .i64 (y : Int), .slice (some ⟨g, 0, none⟩) D.length D.length], .agg #[.int .i64 (x : Int), .int .i64 (y : Int), .slice (some ⟨b, o, none⟩) C.length c]] t fun e w' => e = .returned (.tuple #[.int .u64 (s : Nat), .int .i64 0]) ∧ Below t.heap.size t w') := fun t ht => by
        have := apart_ok (u := t) (c := D.length) (d := c) (HRT.out.to ht).sl (hsl.to ht) hPD HP.out hbD HC.out
        rwa [hap2] at this
      have K3 : Hid (∀ t : World, Below T.heap.size T t → Calls Try.prog 16 #[.agg #[.int .i64 (x : Int), .int .i64 (y : Int), .slice (some ⟨b, o, none⟩) C.length c], .agg #[.int .i64 (x : Int), .int .i64 (y : Int), .slice (some ⟨b, o, none⟩) C.length c]] t fun e w' => e = .returned (.tuple #[.int .u64 0, .int .i64 0]) ∧ Below t.heap.size t w') := fun t ht => by
        have := apart_ok (u := t) (c := c) (d := c) (hsl.to ht) (hsl.to ht) HP.out HP.out HC.out HC.out
        rwa [apS_self] at this
      have K4 : Hid (∀ t : World, Below T.heap.size T t → Calls Try.prog 12 #[.agg #[.int .i64 (x : Int), .int .i64 (y : Int), .slice (some ⟨b, o, none⟩) C.length c], .agg #[.int .i64 (x : Int), .int .i64 (y : Int), .slice (some ⟨g, 0, none⟩) D.length D.length]] t fun e w' => e = .returned (.bool (eqB C D)) ∧ Below t.heap.size t w') := fun t ht => by
        have := same_any (w := t) (W := (x : Int)) (H := (y : Int)) (W' := (x : Int)) (H' := (y : Int)) (c := c) (d := D.length) (hsl.to ht) (HRT.out.to ht).sl (Or.inr ⟨HC.out, hbD⟩)
        rwa [smB_eq] at this
      have hsq := sqd_int v (C.getD i 0)
      rw [sqd_comm, ← hs] at hsq
      have hsb : s ≤ 65025 := by rw [hs]; exact sqd_le (HC.out i) HV.out
      have HAS : Hid (s = 0 ↔ C = D) := by unfold Hid; rw [hs, HD.out]; exact apart_same hilt
      have hci : ∀ t : World, Below T.heap.size T t → t.cell? ⟨b, o + i, none⟩ = some (.int .u8 (C.getD i 0 : Nat)) := fun t ht => by
        obtain ⟨b', o', e, _, hcc⟩ := (hsl.to ht).form h0
        simp only [Option.some.injEq, Addr.mk.injEq] at e
        obtain ⟨rfl, rfl, _⟩ := e
        exact hcc i hilt
      have HCI : Hid _ := hci
      have p4 : C.getD i 0 < 256 := HC.out i
      clear hs hap hap2 hsl hPD hbD hci
      go_wp2_with fail
      refine (K1.out _ (Below.refl _ _)).mono ?_
      rintro e v1 ⟨rfl, hb1⟩
      have B1 : Hid (Below T.heap.size T v1) := hb1
      have s0 : v1.cell? ⟨qb, 0, none⟩ = some (.int .i64 (x : Int)) := by rw [newCell hb1 _ _ hqz]; exact q0
      have s1 : v1.cell? ⟨qb, 1, none⟩ = some (.int .i64 (y : Int)) := by rw [newCell hb1 _ _ hqz]; exact q1
      have s2 : v1.cell? ⟨qb, 2, none⟩ = some (.slice (some ⟨g, 0, none⟩) D.length D.length) := by rw [newCell hb1 _ _ hqz]; exact q2
      have s3 : v1.cell? ⟨u.heap.size, 0, none⟩ = some (.int .i64 (x : Int)) := by rw [newCell hb1 _ _ huz]; exact r0
      have s4 : v1.cell? ⟨u.heap.size, 1, none⟩ = some (.int .i64 (y : Int)) := by rw [newCell hb1 _ _ huz]; exact r1
      have s5 : v1.cell? ⟨u.heap.size, 2, none⟩ = some (.slice (some ⟨b, o, none⟩) C.length c) := by rw [newCell hb1 _ _ huz]; exact r2
      clear hb1
      go_wp2_with fail
      refine (K2.out _ B1.out).mono ?_
      rintro e v2 ⟨rfl, hb2⟩
      have B2 : Hid (Below T.heap.size T v2) := below_to B1.out hb2
      clear hb2 s0 s1 s2 s3 s4 s5
      have s3 : v2.cell? ⟨u.heap.size, 0, none⟩ = some (.int .i64 (x : Int)) := by rw [newCell B2.out _ _ huz]; exact r0
      have s4 : v2.cell? ⟨u.heap.size, 1, none⟩ = some (.int .i64 (y : Int)) := by rw [newCell B2.out _ _ huz]; exact r1
      have s5 : v2.cell? ⟨u.heap.size, 2, none⟩ = some (.slice (some ⟨b, o, none⟩) C.length c) := by rw [newCell B2.out _ _ huz]; exact r2
      go_wp2_with fail
      refine (K3.out _ B2.out).mono ?_
      rintro e v3 ⟨rfl, hb3⟩
      have B3 : Hid (Below T.heap.size T v3) := below_to B2.out hb3
      clear hb3 s3 s4 s5
      have s0 : v3.cell? ⟨qb, 0, none⟩ = some (.int .i64 (x : Int)) := by rw [newCell B3.out _ _ hqz]; exact q0
      have s1 : v3.cell? ⟨qb, 1, none⟩ = some (.int .i64 (y : Int)) := by rw [newCell B3.out _ _ hqz]; exact q1
      have s2 : v3.cell? ⟨qb, 2, none⟩ = some (.slice (some ⟨g, 0, none⟩) D.length D.length) := by rw [newCell B3.out _ _ hqz]; exact q2
      have s3 : v3.cell? ⟨u.heap.size, 0, none⟩ = some (.int .i64 (x : Int)) := by rw [newCell B3.out _ _ huz]; exact r0
      have s4 : v3.cell? ⟨u.heap.size, 1, none⟩ = some (.int .i64 (y : Int)) := by rw [newCell B3.out _ _ huz]; exact r1
      have s5 : v3.cell? ⟨u.heap.size, 2, none⟩ = some (.slice (some ⟨b, o, none⟩) C.length c) := by rw [newCell B3.out _ _ huz]; exact r2
      have s6 := HCI.out _ B3.out
      have i1 : (0 : Int) ≤ (i : Int) := by omega
      have i2 : (i : Int) < (C.length : Int) := by omega
      have hv' := HV.out
      generalize C.getD i 0 = p1 at *
      have p5 : (p1 : Int) ≤ 255 := by omega
      have p6 : (v : Int) ≤ 255 := by omega
      have p7 : (s : Int) ≤ 65025 := by omega
      have p8 : ((s : Int) == (s : Int)) = true := by simp
      clear q0 q1 q2 r0 r1 r2 hv' p4 hsb
      by_cases hs0 : s = 0
      · have hE : eqB C D = true := eqB_yes (HAS.out.1 hs0)
        subst hs0
        go_wp2_with fail
        refine (K4.out _ B3.out).mono ?_
        rintro e v4 ⟨rfl, hb4⟩
        have B4 : Hid (Below T.heap.size T v4) := below_to B3.out hb4
        rw [hE]
        go_wp2_with fail
        go_ret
        exact ⟨rfl, below_to HBT.out B4.out⟩
      · have hE : eqB C D = false := eqB_no (fun e => hs0 (HAS.out.2 e))
        have hs1 : ((s : Int) == 0) = false := by simp; omega
        go_wp2_with fail
        refine (K4.out _ B3.out).mono ?_
        rintro e v4 ⟨rfl, hb4⟩
        have B4 : Hid (Below T.heap.size T v4) := below_to B3.out hb4
        rw [hE]
        go_wp2_with fail
        go_ret
        exact ⟨rfl, below_to HBT.out B4.out⟩
    · have hBT : Below w3.heap.size w3 (((w5.setCell ⟨w3.heap.size + 1, 0, none⟩ (.int .i64 (x : Int))).setCell ⟨w3.heap.size + 1, 1, none⟩ (.int .i64 (y : Int))).setCell ⟨w3.heap.size + 1, 2, none⟩ (.slice (some ⟨g, 0, none⟩) D.length D.length)) := below_set (below_set (below_set hB5 (by simp) _) (by simp) _) (by simp) _
      have q0 : (((w5.setCell ⟨w3.heap.size + 1, 0, none⟩ (.int .i64 (x : Int))).setCell ⟨w3.heap.size + 1, 1, none⟩ (.int .i64 (y : Int))).setCell ⟨w3.heap.size + 1, 2, none⟩ (.slice (some ⟨g, 0, none⟩) D.length D.length)).cell? ⟨w3.heap.size + 1, 0, none⟩ = some (.int .i64 (x : Int)) := by rw [set_cell_ne (by omega), set_cell_ne (by omega)]; exact World.cell?_setCell_same _ _ _ k0
      have q1 : (((w5.setCell ⟨w3.heap.size + 1, 0, none⟩ (.int .i64 (x : Int))).setCell ⟨w3.heap.size + 1, 1, none⟩ (.int .i64 (y : Int))).setCell ⟨w3.heap.size + 1, 2, none⟩ (.slice (some ⟨g, 0, none⟩) D.length D.length)).cell? ⟨w3.heap.size + 1, 1, none⟩ = some (.int .i64 (y : Int)) := by rw [set_cell_ne (by omega)]; exact World.cell?_setCell_same _ _ _ (by rw [set_cell_ne (by omega)]; exact k1)
      have q2 : (((w5.setCell ⟨w3.heap.size + 1, 0, none⟩ (.int .i64 (x : Int))).setCell ⟨w3.heap.size + 1, 1, none⟩ (.int .i64 (y : Int))).setCell ⟨w3.heap.size + 1, 2, none⟩ (.slice (some ⟨g, 0, none⟩) D.length D.length)).cell? ⟨w3.heap.size + 1, 2, none⟩ = some (.slice (some ⟨g, 0, none⟩) D.length D.length) := World.cell?_setCell_same _ _ _ (by rw [set_cell_ne (by omega), set_cell_ne (by omega)]; exact k2)
      have hqz : w3.heap.size + 1 < (((w5.setCell ⟨w3.heap.size + 1, 0, none⟩ (.int .i64 (x : Int))).setCell ⟨w3.heap.size + 1, 1, none⟩ (.int .i64 (y : Int))).setCell ⟨w3.heap.size + 1, 2, none⟩ (.slice (some ⟨g, 0, none⟩) D.length D.length)).heap.size := by have := hb5.size; simp at this ⊢; omega
      have hgq : g ≠ w3.heap.size + 1 := by simp at hlo; omega
      have HRT : Hid (Rw (((w5.setCell ⟨w3.heap.size + 1, 0, none⟩ (.int .i64 (x : Int))).setCell ⟨w3.heap.size + 1, 1, none⟩ (.int .i64 (y : Int))).setCell ⟨w3.heap.size + 1, 2, none⟩ (.slice (some ⟨g, 0, none⟩) D.length D.length)) g D) := ((hr.far (a := ⟨w3.heap.size + 1, 0, none⟩) hgq _).far (a := ⟨w3.heap.size + 1, 1, none⟩) hgq _).far (a := ⟨w3.heap.size + 1, 2, none⟩) hgq _
      clear hlo hr hb5 hB5 hz5 k0 k1 k2 k3 hgq
      obtain ⟨r0, r1, r2, _⟩ := HK.out _ hBT
      have HBT : Hid (Below u.heap.size u (((w5.setCell ⟨w3.heap.size + 1, 0, none⟩ (.int .i64 (x : Int))).setCell ⟨w3.heap.size + 1, 1, none⟩ (.int .i64 (y : Int))).setCell ⟨w3.heap.size + 1, 2, none⟩ (.slice (some ⟨g, 0, none⟩) D.length D.length))) := HB3.out.trans (hBT.mono (Nat.le_of_lt hz3))
      have huz : u.heap.size < (((w5.setCell ⟨w3.heap.size + 1, 0, none⟩ (.int .i64 (x : Int))).setCell ⟨w3.heap.size + 1, 1, none⟩ (.int .i64 (y : Int))).setCell ⟨w3.heap.size + 1, 2, none⟩ (.slice (some ⟨g, 0, none⟩) D.length D.length)).heap.size := Nat.lt_of_lt_of_le hz3 hBT.size
      clear hBT
      generalize (((w5.setCell ⟨w3.heap.size + 1, 0, none⟩ (.int .i64 (x : Int))).setCell ⟨w3.heap.size + 1, 1, none⟩ (.int .i64 (y : Int))).setCell ⟨w3.heap.size + 1, 2, none⟩ (.slice (some ⟨g, 0, none⟩) D.length D.length)) = T at *
      generalize w3.heap.size + 1 = qb at *
      obtain ⟨s, hs⟩ : ∃ s, s = sqd (C.getD i 0) v := ⟨_, rfl⟩
      have hsl := HSL.out.to HBT.out
      have hPD : POk (x : Int) (y : Int) D := by have := HP.out; exact ⟨this.w0, this.w1, this.h0, this.h1, by rw [HDL.out]; exact this.len⟩
      have hbD : Byt D := by rw [HD.out]; exact byt_set hilt HC.out HV.out
      have hap : apS C D C.length = s := by rw [HD.out, apS_set hilt, if_pos hilt, hs]
      have hap2 : apS D C D.length = s := by rw [apS_comm, HDL.out, hap]
      have K1 : Hid (∀ t : World, Below T.heap.size T t → Calls Try.prog 16 #[.agg #[.int .i64 (x : Int), .int .i64 (y : Int), .slice (some ⟨b, o, none⟩) C.length c], .agg #[.int .i64 (x : Int), .int .i64 (y : Int), .slice (some ⟨g, 0, none⟩) D.length D.length]] t fun e w' => e = .returned (.tuple #[.int .u64 (s : Nat), .int .i64 0]) ∧ Below t.heap.size t w') := fun t ht => by
        have := apart_ok (u := t) (c := c) (d := D.length) (hsl.to ht) (HRT.out.to ht).sl HP.out hPD HC.out hbD
        rwa [hap] at this
      have K2 : Hid (∀ t : World, Below T.heap.size T t → Calls Try.prog 16 #[.agg #[.int .i64 (x : Int), .int .i64 (y : Int), .slice (some ⟨g, 0, none⟩) D.length D.length], .agg #[.int .i64 (x : Int), .int .i64 (y : Int), .slice (some ⟨b, o, none⟩) C.length c]] t fun e w' => e = .returned (.tuple #[.int .u64 (s : Nat), .int .i64 0]) ∧ Below t.heap.size t w') := fun t ht => by
        have := apart_ok (u := t) (c := D.length) (d := c) (HRT.out.to ht).sl (hsl.to ht) hPD HP.out hbD HC.out
        rwa [hap2] at this
      have K3 : Hid (∀ t : World, Below T.heap.size T t → Calls Try.prog 16 #[.agg #[.int .i64 (x : Int), .int .i64 (y : Int), .slice (some ⟨b, o, none⟩) C.length c], .agg #[.int .i64 (x : Int), .int .i64 (y : Int), .slice (some ⟨b, o, none⟩) C.length c]] t fun e w' => e = .returned (.tuple #[.int .u64 0, .int .i64 0]) ∧ Below t.heap.size t w') := fun t ht => by
        have := apart_ok (u := t) (c := c) (d := c) (hsl.to ht) (hsl.to ht) HP.out HP.out HC.out HC.out
        rwa [apS_self] at this
      have K4 : Hid (∀ t : World, Below T.heap.size T t → Calls Try.prog 12 #[.agg #[.int .i64 (x : Int), .int .i64 (y : Int), .slice (some ⟨b, o, none⟩) C.length c], .agg #[.int .i64 (x : Int), .int .i64 (y : Int), .slice (some ⟨g, 0, none⟩) D.length D.length]] t fun e w' => e = .returned (.bool (eqB C D)) ∧ Below t.heap.size t w') := fun t ht => by
        have := same_any (w := t) (W := (x : Int)) (H := (y : Int)) (W' := (x : Int)) (H' := (y : Int)) (c := c) (d := D.length) (hsl.to ht) (HRT.out.to ht).sl (Or.inr ⟨HC.out, hbD⟩)
        rwa [smB_eq] at this
      have hsq := sqd_int v (C.getD i 0)
      rw [sqd_comm, ← hs] at hsq
      have hsb : s ≤ 65025 := by rw [hs]; exact sqd_le (HC.out i) HV.out
      have HAS : Hid (s = 0 ↔ C = D) := by unfold Hid; rw [hs, HD.out]; exact apart_same hilt
      have hci : ∀ t : World, Below T.heap.size T t → t.cell? ⟨b, o + i, none⟩ = some (.int .u8 (C.getD i 0 : Nat)) := fun t ht => by
        obtain ⟨b', o', e, _, hcc⟩ := (hsl.to ht).form h0
        simp only [Option.some.injEq, Addr.mk.injEq] at e
        obtain ⟨rfl, rfl, _⟩ := e
        exact hcc i hilt
      have HCI : Hid _ := hci
      have p4 : C.getD i 0 < 256 := HC.out i
      clear hs hap hap2 hsl hPD hbD hci
      go_wp2_with fail
      refine (K1.out _ (Below.refl _ _)).mono ?_
      rintro e v1 ⟨rfl, hb1⟩
      have B1 : Hid (Below T.heap.size T v1) := hb1
      have s0 : v1.cell? ⟨qb, 0, none⟩ = some (.int .i64 (x : Int)) := by rw [newCell hb1 _ _ hqz]; exact q0
      have s1 : v1.cell? ⟨qb, 1, none⟩ = some (.int .i64 (y : Int)) := by rw [newCell hb1 _ _ hqz]; exact q1
      have s2 : v1.cell? ⟨qb, 2, none⟩ = some (.slice (some ⟨g, 0, none⟩) D.length D.length) := by rw [newCell hb1 _ _ hqz]; exact q2
      have s3 : v1.cell? ⟨u.heap.size, 0, none⟩ = some (.int .i64 (x : Int)) := by rw [newCell hb1 _ _ huz]; exact r0
      have s4 : v1.cell? ⟨u.heap.size, 1, none⟩ = some (.int .i64 (y : Int)) := by rw [newCell hb1 _ _ huz]; exact r1
      have s5 : v1.cell? ⟨u.heap.size, 2, none⟩ = some (.slice (some ⟨b, o, none⟩) C.length c) := by rw [newCell hb1 _ _ huz]; exact r2
      clear hb1
      go_wp2_with fail
      refine (K2.out _ B1.out).mono ?_
      rintro e v2 ⟨rfl, hb2⟩
      have B2 : Hid (Below T.heap.size T v2) := below_to B1.out hb2
      clear hb2 s0 s1 s2 s3 s4 s5
      have s3 : v2.cell? ⟨u.heap.size, 0, none⟩ = some (.int .i64 (x : Int)) := by rw [newCell B2.out _ _ huz]; exact r0
      have s4 : v2.cell? ⟨u.heap.size, 1, none⟩ = some (.int .i64 (y : Int)) := by rw [newCell B2.out _ _ huz]; exact r1
      have s5 : v2.cell? ⟨u.heap.size, 2, none⟩ = some (.slice (some ⟨b, o, none⟩) C.length c) := by rw [newCell B2.out _ _ huz]; exact r2
      go_wp2_with fail
      refine (K3.out _ B2.out).mono ?_
      rintro e v3 ⟨rfl, hb3⟩
      have B3 : Hid (Below T.heap.size T v3) := below_to B2.out hb3
      clear hb3 s3 s4 s5
      have s0 : v3.cell? ⟨qb, 0, none⟩ = some (.int .i64 (x : Int)) := by rw [newCell B3.out _ _ hqz]; exact q0
      have s1 : v3.cell? ⟨qb, 1, none⟩ = some (.int .i64 (y : Int)) := by rw [newCell B3.out _ _ hqz]; exact q1
      have s2 : v3.cell? ⟨qb, 2, none⟩ = some (.slice (some ⟨g, 0, none⟩) D.length D.length) := by rw [newCell B3.out _ _ hqz]; exact q2
      have s3 : v3.cell? ⟨u.heap.size, 0, none⟩ = some (.int .i64 (x : Int)) := by rw [newCell B3.out _ _ huz]; exact r0
      have s4 : v3.cell? ⟨u.heap.size, 1, none⟩ = some (.int .i64 (y : Int)) := by rw [newCell B3.out _ _ huz]; exact r1
      have s5 : v3.cell? ⟨u.heap.size, 2, none⟩ = some (.slice (some ⟨b, o, none⟩) C.length c) := by rw [newCell B3.out _ _ huz]; exact r2
      have s6 := HCI.out _ B3.out
      have i1 : (0 : Int) ≤ (i : Int) := by omega
      have i2 : (i : Int) < (C.length : Int) := by omega
      have hv' := HV.out
      generalize C.getD i 0 = p1 at *
      have p5 : (p1 : Int) ≤ 255 := by omega
      have p6 : (v : Int) ≤ 255 := by omega
      have p7 : (s : Int) ≤ 65025 := by omega
      have p8 : ((s : Int) == (s : Int)) = true := by simp
      clear q0 q1 q2 r0 r1 r2 hv' p4 hsb
      by_cases hs0 : s = 0
      · have hE : eqB C D = true := eqB_yes (HAS.out.1 hs0)
        subst hs0
        go_wp2_with fail
        refine (K4.out _ B3.out).mono ?_
        rintro e v4 ⟨rfl, hb4⟩
        have B4 : Hid (Below T.heap.size T v4) := below_to B3.out hb4
        rw [hE]
        go_wp2_with fail
        go_ret
        exact ⟨rfl, below_to HBT.out B4.out⟩
      · have hE : eqB C D = false := eqB_no (fun e => hs0 (HAS.out.2 e))
        have hs1 : ((s : Int) == 0) = false := by simp; omega
        go_wp2_with fail
        refine (K4.out _ B3.out).mono ?_
        rintro e v4 ⟨rfl, hb4⟩
        have B4 : Hid (Below T.heap.size T v4) := below_to B3.out hb4
        rw [hE]
        go_wp2_with fail
        go_ret
        exact ⟨rfl, below_to HBT.out B4.out⟩
    · have hBT : Below w3.heap.size w3 (((w5.setCell ⟨w3.heap.size, 0, none⟩ (.int .i64 (x : Int))).setCell ⟨w3.heap.size, 1, none⟩ (.int .i64 (y : Int))).setCell ⟨w3.heap.size, 2, none⟩ (.slice (some ⟨g, 0, none⟩) D.length D.length)) := below_set (below_set (below_set hB5 (by simp) _) (by simp) _) (by simp) _
      have q0 : (((w5.setCell ⟨w3.heap.size, 0, none⟩ (.int .i64 (x : Int))).setCell ⟨w3.heap.size, 1, none⟩ (.int .i64 (y : Int))).setCell ⟨w3.heap.size, 2, none⟩ (.slice (some ⟨g, 0, none⟩) D.length D.length)).cell? ⟨w3.heap.size, 0, none⟩ = some (.int .i64 (x : Int)) := by rw [set_cell_ne (by omega), set_cell_ne (by omega)]; exact World.cell?_setCell_same _ _ _ k0
      have q1 : (((w5.setCell ⟨w3.heap.size, 0, none⟩ (.int .i64 (x : Int))).setCell ⟨w3.heap.size, 1, none⟩ (.int .i64 (y : Int))).setCell ⟨w3.heap.size, 2, none⟩ (.slice (some ⟨g, 0, none⟩) D.length D.length)).cell? ⟨w3.heap.size, 1, none⟩ = some (.int .i64 (y : Int)) := by rw [set_cell_ne (by omega)]; exact World.cell?_setCell_same _ _ _ (by rw [set_cell_ne (by omega)]; exact k1)
      have q2 : (((w5.setCell ⟨w3.heap.size, 0, none⟩ (.int .i64 (x : Int))).setCell ⟨w3.heap.size, 1, none⟩ (.int .i64 (y : Int))).setCell ⟨w3.heap.size, 2, none⟩ (.slice (some ⟨g, 0, none⟩) D.length D.length)).cell? ⟨w3.heap.size, 2, none⟩ = some (.slice (some ⟨g, 0, none⟩) D.length D.length) := World.cell?_setCell_same _ _ _ (by rw [set_cell_ne (by omega), set_cell_ne (by omega)]; exact k2)
      have hqz : w3.heap.size < (((w5.setCell ⟨w3.heap.size, 0, none⟩ (.int .i64 (x : Int))).setCell ⟨w3.heap.size, 1, none⟩ (.int .i64 (y : Int))).setCell ⟨w3.heap.size, 2, none⟩ (.slice (some ⟨g, 0, none⟩) D.length D.length)).heap.size := by have := hb5.size; simp at this ⊢; omega
      have hgq : g ≠ w3.heap.size := by simp at hlo; omega
      have HRT : Hid (Rw (((w5.setCell ⟨w3.heap.size, 0, none⟩ (.int .i64 (x : Int))).setCell ⟨w3.heap.size, 1, none⟩ (.int .i64 (y : Int))).setCell ⟨w3.heap.size, 2, none⟩ (.slice (some ⟨g, 0, none⟩) D.length D.length)) g D) := ((hr.far (a := ⟨w3.heap.size, 0, none⟩) hgq _).far (a := ⟨w3.heap.size, 1, none⟩) hgq _).far (a := ⟨w3.heap.size, 2, none⟩) hgq _
      clear hlo hr hb5 hB5 hz5 k0 k1 k2 k3 hgq
      obtain ⟨r0, r1, r2, _⟩ := HK.out _ hBT
      have HBT : Hid (Below u.heap.size u (((w5.setCell ⟨w3.heap.size, 0, none⟩ (.int .i64 (x : Int))).setCell ⟨w3.heap.size, 1, none⟩ (.int .i64 (y : Int))).setCell ⟨w3.heap.size, 2, none⟩ (.slice (some ⟨g, 0, none⟩) D.length D.length))) := HB3.out.trans (hBT.mono (Nat.le_of_lt hz3))
      have huz : u.heap.size < (((w5.setCell ⟨w3.heap.size, 0, none⟩ (.int .i64 (x : Int))).setCell ⟨w3.heap.size, 1, none⟩ (.int .i64 (y : Int))).setCell ⟨w3.heap.size, 2, none⟩ (.slice (some ⟨g, 0, none⟩) D.length D.length)).heap.size := Nat.lt_of_lt_of_le hz3 hBT.size
      clear hBT
      generalize (((w5.setCell ⟨w3.heap.size, 0, none⟩ (.int .i64 (x : Int))).setCell ⟨w3.heap.size, 1, none⟩ (.int .i64 (y : Int))).setCell ⟨w3.heap.size, 2, none⟩ (.slice (some ⟨g, 0, none⟩) D.length D.length)) = T at *
      generalize w3.heap.size = qb at *
      obtain ⟨s, hs⟩ : ∃ s, s = sqd (C.getD i 0) v := ⟨_, rfl⟩
      have hsl := HSL.out.to HBT.out
      have hPD : POk (x : Int) (y : Int) D := by have := HP.out; exact ⟨this.w0, this.w1, this.h0, this.h1, by rw [HDL.out]; exact this.len⟩
      have hbD : Byt D := by rw [HD.out]; exact byt_set hilt HC.out HV.out
      have hap : apS C D C.length = s := by rw [HD.out, apS_set hilt, if_pos hilt, hs]
      have hap2 : apS D C D.length = s := by rw [apS_comm, HDL.out, hap]
      have K1 : Hid (∀ t : World, Below T.heap.size T t → Calls Try.prog 16 #[.agg #[.int .i64 (x : Int), .int .i64 (y : Int), .slice (some ⟨b, o, none⟩) C.length c], .agg #[.int .i64 (x : Int), .int .i64 (y : Int), .slice (some ⟨g, 0, none⟩) D.length D.length]] t fun e w' => e = .returned (.tuple #[.int .u64 (s : Nat), .int .i64 0]) ∧ Below t.heap.size t w') := fun t ht => by
        have := apart_ok (u := t) (c := c) (d := D.length) (hsl.to ht) (HRT.out.to ht).sl HP.out hPD HC.out hbD
        rwa [hap] at this
      have K2 : Hid (∀ t : World, Below T.heap.size T t → Calls Try.prog 16 #[.agg #[.int .i64 (x : Int), .int .i64 (y : Int), .slice (some ⟨g, 0, none⟩) D.length D.length], .agg #[.int .i64 (x : Int), .int .i64 (y : Int), .slice (some ⟨b, o, none⟩) C.length c]] t fun e w' => e = .returned (.tuple #[.int .u64 (s : Nat), .int .i64 0]) ∧ Below t.heap.size t w') := fun t ht => by
        have := apart_ok (u := t) (c := D.length) (d := c) (HRT.out.to ht).sl (hsl.to ht) hPD HP.out hbD HC.out
        rwa [hap2] at this
      have K3 : Hid (∀ t : World, Below T.heap.size T t → Calls Try.prog 16 #[.agg #[.int .i64 (x : Int), .int .i64 (y : Int), .slice (some ⟨b, o, none⟩) C.length c], .agg #[.int .i64 (x : Int), .int .i64 (y : Int), .slice (some ⟨b, o, none⟩) C.length c]] t fun e w' => e = .returned (.tuple #[.int .u64 0, .int .i64 0]) ∧ Below t.heap.size t w') := fun t ht => by
        have := apart_ok (u := t) (c := c) (d := c) (hsl.to ht) (hsl.to ht) HP.out HP.out HC.out HC.out
        rwa [apS_self] at this
      have K4 : Hid (∀ t : World, Below T.heap.size T t → Calls Try.prog 12 #[.agg #[.int .i64 (x : Int), .int .i64 (y : Int), .slice (some ⟨b, o, none⟩) C.length c], .agg #[.int .i64 (x : Int), .int .i64 (y : Int), .slice (some ⟨g, 0, none⟩) D.length D.length]] t fun e w' => e = .returned (.bool (eqB C D)) ∧ Below t.heap.size t w') := fun t ht => by
        have := same_any (w := t) (W := (x : Int)) (H := (y : Int)) (W' := (x : Int)) (H' := (y : Int)) (c := c) (d := D.length) (hsl.to ht) (HRT.out.to ht).sl (Or.inr ⟨HC.out, hbD⟩)
        rwa [smB_eq] at this
      have hsq := sqd_int v (C.getD i 0)
      rw [sqd_comm, ← hs] at hsq
      have hsb : s ≤ 65025 := by rw [hs]; exact sqd_le (HC.out i) HV.out
      have HAS : Hid (s = 0 ↔ C = D) := by unfold Hid; rw [hs, HD.out]; exact apart_same hilt
      have hci : ∀ t : World, Below T.heap.size T t → t.cell? ⟨b, o + i, none⟩ = some (.int .u8 (C.getD i 0 : Nat)) := fun t ht => by
        obtain ⟨b', o', e, _, hcc⟩ := (hsl.to ht).form h0
        simp only [Option.some.injEq, Addr.mk.injEq] at e
        obtain ⟨rfl, rfl, _⟩ := e
        exact hcc i hilt
      have HCI : Hid _ := hci
      have p4 : C.getD i 0 < 256 := HC.out i
      clear hs hap hap2 hsl hPD hbD hci
      go_wp2_with fail
      refine (K1.out _ (Below.refl _ _)).mono ?_
      rintro e v1 ⟨rfl, hb1⟩
      have B1 : Hid (Below T.heap.size T v1) := hb1
      have s0 : v1.cell? ⟨qb, 0, none⟩ = some (.int .i64 (x : Int)) := by rw [newCell hb1 _ _ hqz]; exact q0
      have s1 : v1.cell? ⟨qb, 1, none⟩ = some (.int .i64 (y : Int)) := by rw [newCell hb1 _ _ hqz]; exact q1
      have s2 : v1.cell? ⟨qb, 2, none⟩ = some (.slice (some ⟨g, 0, none⟩) D.length D.length) := by rw [newCell hb1 _ _ hqz]; exact q2
      have s3 : v1.cell? ⟨u.heap.size, 0, none⟩ = some (.int .i64 (x : Int)) := by rw [newCell hb1 _ _ huz]; exact r0
      have s4 : v1.cell? ⟨u.heap.size, 1, none⟩ = some (.int .i64 (y : Int)) := by rw [newCell hb1 _ _ huz]; exact r1
      have s5 : v1.cell? ⟨u.heap.size, 2, none⟩ = some (.slice (some ⟨b, o, none⟩) C.length c) := by rw [newCell hb1 _ _ huz]; exact r2
      clear hb1
      go_wp2_with fail
      refine (K2.out _ B1.out).mono ?_
      rintro e v2 ⟨rfl, hb2⟩
      have B2 : Hid (Below T.heap.size T v2) := below_to B1.out hb2
      clear hb2 s0 s1 s2 s3 s4 s5
      have s3 : v2.cell? ⟨u.heap.size, 0, none⟩ = some (.int .i64 (x : Int)) := by rw [newCell B2.out _ _ huz]; exact r0
      have s4 : v2.cell? ⟨u.heap.size, 1, none⟩ = some (.int .i64 (y : Int)) := by rw [newCell B2.out _ _ huz]; exact r1
      have s5 : v2.cell? ⟨u.heap.size, 2, none⟩ = some (.slice (some ⟨b, o, none⟩) C.length c) := by rw [newCell B2.out _ _ huz]; exact r2
      go_wp2_with fail
      refine (K3.out _ B2.out).mono ?_
      rintro e v3 ⟨rfl, hb3⟩
      have B3 : Hid (Below T.heap.size T v3) := below_to B2.out hb3
      clear hb3 s3 s4 s5
      have s0 : v3.cell? ⟨qb, 0, none⟩ = some (.int .i64 (x : Int)) := by rw [newCell B3.out _ _ hqz]; exact q0
      have s1 : v3.cell? ⟨qb, 1, none⟩ = some (.int .i64 (y : Int)) := by rw [newCell B3.out _ _ hqz]; exact q1
      have s2 : v3.cell? ⟨qb, 2, none⟩ = some (.slice (some ⟨g, 0, none⟩) D.length D.length) := by rw [newCell B3.out _ _ hqz]; exact q2
      have s3 : v3.cell? ⟨u.heap.size, 0, none⟩ = some (.int .i64 (x : Int)) := by rw [newCell B3.out _ _ huz]; exact r0
      have s4 : v3.cell? ⟨u.heap.size, 1, none⟩ = some (.int .i64 (y : Int)) := by rw [newCell B3.out _ _ huz]; exact r1
      have s5 : v3.cell? ⟨u.heap.size, 2, none⟩ = some (.slice (some ⟨b, o, none⟩) C.length c) := by rw [newCell B3.out _ _ huz]; exact r2
      have s6 := HCI.out _ B3.out
      have i1 : (0 : Int) ≤ (i : Int) := by omega
      have i2 : (i : Int) < (C.length : Int) := by omega
      have hv' := HV.out
      generalize C.getD i 0 = p1 at *
      have p5 : (p1 : Int) ≤ 255 := by omega
      have p6 : (v : Int) ≤ 255 := by omega
      have p7 : (s : Int) ≤ 65025 := by omega
      have p8 : ((s : Int) == (s : Int)) = true := by simp
      clear q0 q1 q2 r0 r1 r2 hv' p4 hsb
      by_cases hs0 : s = 0
      · have hE : eqB C D = true := eqB_yes (HAS.out.1 hs0)
        subst hs0
        go_wp2_with fail
        refine (K4.out _ B3.out).mono ?_
        rintro e v4 ⟨rfl, hb4⟩
        have B4 : Hid (Below T.heap.size T v4) := below_to B3.out hb4
        rw [hE]
        go_wp2_with fail
        go_ret
        exact ⟨rfl, below_to HBT.out B4.out⟩
      · have hE : eqB C D = false := eqB_no (fun e => hs0 (HAS.out.2 e))
        have hs1 : ((s : Int) == 0) = false := by simp; omega
        go_wp2_with fail
        refine (K4.out _ B3.out).mono ?_
        rintro e v4 ⟨rfl, hb4⟩
        have B4 : Hid (Below T.heap.size T v4) := below_to B3.out hb4
        rw [hE]
        go_wp2_with fail
        go_ret
        exact ⟨rfl, below_to HBT.out B4.out⟩
  · rw [ck_no hp]
    have HP : Hid (¬ POk W H C) := hp
    clear hp
    go_wp2_with fail
    refine (apart_bad HP.out).mono ?_
    rintro e w3 ⟨rfl, hb⟩
    have HB3 : Hid (Below u.heap.size u w3) := below_to HB2.out hb
    clear hb
    go_wp2_with fail
    go_ret
    exact ⟨rfl, HB3.out⟩

end Go.Proofs.Ytlgfkkegehpllaa
