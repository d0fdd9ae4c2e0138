/- DERIVED. The walks of more, first, below. -/
import Derived.Test.YtkmnpechhdendaaDoorYc
namespace Go.Proofs.YtkmnpechhdendaaDoor
open Go.RowKit L3

theorem Gd.si {m : Pm} {K : List Int} {O : Nat → Prop} {s : Cs} {u : World} (h : Gd m K O s u) : L10.Si u (some ⟨m.kb, 0, none⟩) K := Or.inr ⟨m.kb, 0, rfl, h.bb.kn.lt, fun j hj => by rw [Nat.zero_add]; exact h.bb.kn.cell j hj⟩
theorem more_gd {m : Pm} {K : List Int} {O : Nat → Prop} {s : Cs} {u : World} (h : Gd m K O s u) {p : Nat} (hp : p < m.q) :
    Calls Tryd.prog 73 #[.slice (some ⟨m.kb, 0, none⟩) m.q m.q, .int .i64 m.z, .int .i64 (p : Int)] u fun e w' => e = .returned (.tuple #[.int .i64 (L10.mor K m.n p), .int .i64 0]) ∧ Gd m K O s w' ∧ Below u.heap.size u w' := by
  refine (L10.more_yes h.nt h.sz h.si h.bb.kl h.hq hp).mono ?_
  rintro e w' ⟨rfl, k, rfl⟩
  exact ⟨rfl, h.to (L10.below_drewN (Below.refl _ _) k), L10.below_drewN (Below.refl _ _) k⟩
theorem base_gd {m : Pm} {K : List Int} {O : Nat → Prop} {s : Cs} {u : World} (h : Gd m K O s u) {p : Nat} (hp : p < m.q) :
    Calls Tryd.prog 72 #[.slice (some ⟨m.kb, 0, none⟩) m.q m.q, .int .i64 m.z, .int .i64 (p : Int)] u fun e w' => e = .returned (.tuple #[.int .i64 (L10.bas K m.n p), .int .i64 0]) ∧ Gd m K O s w' ∧ Below u.heap.size u w' := by
  refine (L10.base_yes h.nt h.sz h.si h.bb.kl h.hq hp).mono ?_
  rintro e w' ⟨rfl, k, rfl⟩
  exact ⟨rfl, h.to (L10.below_drewN (Below.refl _ _) k), L10.below_drewN (Below.refl _ _) k⟩
theorem Gd.drew {m : Pm} {K : List Int} {O : Nat → Prop} {s : Cs} {u : World} (h : Gd m K O s u) : Gd m K O s u.drew := h.to (L10.below_drew (Below.refl _ _))
theorem symbol_gd {m : Pm} {K : List Int} {O : Nat → Prop} {s : Cs} {w : World} (h : Gd m K O s w) {kk cx : Nat} {z : Int} (hv : kk < 32 ∧ cx < sC kk ∧ s.n ≤ 1000000000 ∧ (s.W = true → 0 ≤ z ∧ z < (sV kk : Int))) :
    Calls Tryd.prog 54 #[.pointer (some ⟨m.x, 0, none⟩), .int .i64 kk, .int .i64 cx, .int .i64 z] w fun e w' => e = .returned (.tuple #[.int .i64 (syA s kk cx z : Nat), .int .i64 0]) ∧ Mv m K O w w' (syN s kk cx (syA s kk cx z)) := by
  refine (symbol_cd h.cd h.sh hv).mono ?_
  rintro e w' ⟨rfl, hg⟩
  exact ⟨rfl, Mv.of h hg⟩
theorem bits_gd {m : Pm} {K : List Int} {O : Nat → Prop} {s : Cs} {w : World} (h : Gd m K O s w) {n : Nat} {z : Int} (hv : n ≤ 30 ∧ s.n ≤ 1000000000 ∧ (s.W = true → 0 ≤ z ∧ z < 2 ^ n)) :
    Calls Tryd.prog 24 #[.pointer (some ⟨m.x, 0, none⟩), .int .i64 n, .int .i64 z] w fun e w' => e = .returned (.tuple #[.int .i64 (biA s n z : Nat), .int .i64 0]) ∧ Mv m K O w w' (biN s n (biA s n z)) := by
  refine (bits_cd h.cd hv).mono ?_
  rintro e w' ⟨rfl, hg⟩
  exact ⟨rfl, Mv.of h hg⟩
theorem ctx_name {k col M : Nat} {x : Int} (hk : k ≤ 10) (hc : col ≤ 1) (hx : 0 ≤ x) (hM : x ≤ M) (h10 : M ≤ 10) : ∃ c d : Nat, k * col = c ∧ c + x.toNat = d ∧ (k : Int) * (col : Int) = (c : Int) ∧ (c : Int) + x = (d : Int) ∧ (c : Int) ≤ 10 ∧ (d : Int) ≤ 20 := by
  have h1 : k * col ≤ k * 1 := Nat.mul_le_mul_left k hc
  exact ⟨k * col, k * col + x.toNat, rfl, rfl, by simp, by omega, by omega, by omega⟩
theorem wrap_small {x : Int} (h0 : -4611686018427387904 ≤ x) (h1 : x ≤ 4611686018427387904) : IntKind.i64.wrap x = x := by rw [IntKind.wrap_i64]; omega

theorem Mv.behind {m : Pm} {K : List Int} {O : Nat → Prop} {w u w' : World} {s : Cs} (hl : m.lo ≤ w.heap.size) (hb : Below w.heap.size w u) (h : Mv m K O u w' s) : Mv m K O w w' s := Mv.trans (Trn.of hb) (hb.mono hl) h
/-- the cells of a block -/
def Cb (m : Pm) (u : World) : Prop := u.cell? ⟨m.b, 0, none⟩ = some (.pointer (some ⟨m.x, 0, none⟩)) ∧ u.cell? ⟨m.b, 1, none⟩ = some (.int .i64 m.z) ∧ u.cell? ⟨m.b, 2, none⟩ = some (.int .i64 (m.col : Int)) ∧ u.cell? ⟨m.b, 3, none⟩ = some (.int .i64 (m.sg : Int)) ∧ u.cell? ⟨m.b, 5, none⟩ = some (.slice (some ⟨m.kb, 0, none⟩) m.q m.q)
theorem Gd.cb {m : Pm} {K : List Int} {O : Nat → Prop} {s : Cs} {u : World} (h : Gd m K O s u) : Cb m u := ⟨h.bb.c0, h.bb.c1, h.bb.c2, h.bb.c3, h.bb.c5⟩

set_option maxRecDepth 100000 in
set_option maxHeartbeats 2000000 in
theorem more_any {m : Pm} {K : List Int} {O : Nat → Prop} {s : Cs} {w : World} (h : Gd m K O s w) {p : Nat} (hp : p < m.q) {a : Int} (hok : (morP m.col (L10.mor K m.n p).toNat a).Ok s) :
    Calls Tryd.prog 60 #[.pointer (some ⟨m.b, 0, none⟩), .int .i64 (p : Int), .int .i64 a] w fun e w' => Ans m K O w vi ((morP m.col (L10.mor K m.n p).toNat a).run s) e w' := by
  have hM := mor_le K m.n p
  obtain ⟨c, d, e1, e2, e3', e4, e5, e6⟩ := ctx_name (k := 7) (M := 6) (by omega) h.hc hM.1 hM.2 (by omega)
  have e3 : (7 : Int) * (m.col : Int) = (c : Int) := e3'
  clear e3'
  have HMo : Hid (∀ u, Gd m K O s u → Calls Tryd.prog 73 #[.slice (some ⟨m.kb, 0, none⟩) m.q m.q, .int .i64 m.z, .int .i64 (p : Int)] u fun e w' => e = .returned (.tuple #[.int .i64 (L10.mor K m.n p), .int .i64 0]) ∧ Gd m K O s w' ∧ Below u.heap.size u w') := fun u hu => more_gd hu hp
  have hv := hok.1
  rw [e1, e2] at hv
  have HSy : Hid (∀ u, Gd m K O s u → Calls Tryd.prog 54 #[.pointer (some ⟨m.x, 0, none⟩), .int .i64 (29 : Nat), .int .i64 (d : Nat), .int .i64 (min 3 a)] u fun e w' => e = .returned (.tuple #[.int .i64 (syA s 29 d (min 3 a) : Nat), .int .i64 0]) ∧ Mv m K O u w' (syN s 29 d (syA s 29 d (min 3 a)))) := fun u hu => symbol_gd hu hv
  have HR : Hid ((morP m.col (L10.mor K m.n p).toNat a).run s = (some ((syA s 29 d (min 3 a) : Nat) : Int), syN s 29 d (syA s 29 d (min 3 a)))) := by
    show (morP m.col (L10.mor K m.n p).toNat a).run s = _
    unfold morP
    rw [e1, e2]
    rfl
  clear hv hok e1 e2
  generalize L10.mor K m.n p = M at *
  have HKp : Hid (∀ u, Gd m K O s u → (u.cell? ⟨m.b, 0, none⟩ = some (.pointer (some ⟨m.x, 0, none⟩)) ∧ u.cell? ⟨m.b, 1, none⟩ = some (.int .i64 m.z) ∧ u.cell? ⟨m.b, 2, none⟩ = some (.int .i64 (m.col : Int)) ∧ u.cell? ⟨m.b, 5, none⟩ = some (.slice (some ⟨m.kb, 0, none⟩) m.q m.q) ∧ Gd m K O s u)) := fun u hu => ⟨hu.bb.c0, hu.bb.c1, hu.bb.c2, hu.bb.c5, hu⟩
  have hw1 := wrap_small (x := (c : Int)) (by omega) (by omega)
  have hw2 := wrap_small (x := (d : Int)) (by omega) (by omega)
  have HG : Hid (Gd m K O s w.drew) := h.drew
  have HLo : Hid (m.lo ≤ w.heap.size) := lo_le h
  have HB : Hid (Below w.heap.size w w.drew) := L10.below_drew (Below.refl _ _)
  clear h hp
  go_enter Tryd.func60, Tryd.ntmps60
  go_wp2_with fail
  obtain ⟨f0, f1, f2, f5, fG⟩ := HKp.out _ HG.out
  go_region_held3 (fun u => (u.cell? ⟨m.b, 0, none⟩ = some (.pointer (some ⟨m.x, 0, none⟩)) ∧ u.cell? ⟨m.b, 1, none⟩ = some (.int .i64 m.z) ∧ u.cell? ⟨m.b, 2, none⟩ = some (.int .i64 (m.col : Int)) ∧ u.cell? ⟨m.b, 5, none⟩ = some (.slice (some ⟨m.kb, 0, none⟩) m.q m.q) ∧ Gd m K O s u) ∧ Below w.heap.size w u)
    ((exact ⟨HKp.out _ (by assumption), (by assumption)⟩))
    (first
      | (go_at_call 73; refine (HMo.out _ (by assumption)).mono ?_; rintro e wA ⟨rfl, hgA, hbA⟩; have hzA : Below w.heap.size w wA := L10.below_to (by assumption) hbA)
      | (go_at_call 53; refine told_ok.mono ?_; rintro e wB ⟨rfl, rfl⟩))
  have HG2 : Hid (Gd m K O s wB) := by assumption
  have HB2 : Hid (Below w.heap.size w wB) := by assumption
  go_wp2_with fail
  refine (HSy.out _ HG2.out).mono ?_
  rintro e w3 ⟨rfl, hm⟩
  have HM : Hid (Mv m K O w w3 (syN s 29 d (syA s 29 d (min 3 a)))) := Mv.behind HLo.out HB2.out hm
  clear hm
  generalize syA s 29 d (min 3 a) = v at *
  go_wp2_with fail
  refine told_ok.mono ?_
  rintro e w4 ⟨rfl, rfl⟩
  go_wp2_with fail
  go_ret
  show Ans m K O w vi _ _ _
  rw [HR.out]
  exact ⟨Tel.some, HM.out⟩

set_option maxRecDepth 100000 in
set_option maxHeartbeats 2000000 in
theorem first_base {m : Pm} {K : List Int} {O : Nat → Prop} {s : Cs} {w : World} (h : Gd m K O s w) {p : Nat} (hp : p < m.q) {a : Int} (hok : (fstP m.col (L10.bas K m.n p).toNat false a).Ok s) :
    Calls Tryd.prog 58 #[.pointer (some ⟨m.b, 0, none⟩), .int .i64 (p : Int), .int .i64 a, .bool false] w fun e w' => Ans m K O w vi ((fstP m.col (L10.bas K m.n p).toNat false a).run s) e w' := by
  have hM := bas_le K m.n p
  obtain ⟨c, d, e1, e2, e3', e4, e5, e6⟩ := ctx_name (k := 5) (M := 4) (by omega) h.hc hM.1 hM.2 (by omega)
  have e3 : (5 : Int) * (m.col : Int) = (c : Int) := e3'
  clear e3'
  have HMo : Hid (∀ u, Gd m K O s u → Calls Tryd.prog 72 #[.slice (some ⟨m.kb, 0, none⟩) m.q m.q, .int .i64 m.z, .int .i64 (p : Int)] u fun e w' => e = .returned (.tuple #[.int .i64 (L10.bas K m.n p), .int .i64 0]) ∧ Gd m K O s w' ∧ Below u.heap.size u w') := fun u hu => base_gd hu hp
  have hv := hok.1
  rw [e1, e2] at hv
  have HSy : Hid (∀ u, Gd m K O s u → Calls Tryd.prog 54 #[.pointer (some ⟨m.x, 0, none⟩), .int .i64 (28 : Nat), .int .i64 (d : Nat), .int .i64 (min 3 a)] u fun e w' => e = .returned (.tuple #[.int .i64 (syA s 28 d (min 3 a) : Nat), .int .i64 0]) ∧ Mv m K O u w' (syN s 28 d (syA s 28 d (min 3 a)))) := fun u hu => symbol_gd hu hv
  have HR : Hid ((fstP m.col (L10.bas K m.n p).toNat false a).run s = (some ((syA s 28 d (min 3 a) : Nat) : Int), syN s 28 d (syA s 28 d (min 3 a)))) := by
    show (fstP m.col (L10.bas K m.n p).toNat false a).run s = _
    unfold fstP
    rw [if_neg (by decide), e1, e2]
    rfl
  clear hv hok e1 e2
  generalize L10.bas K m.n p = M at *
  have HKp : Hid (∀ u, Gd m K O s u → (u.cell? ⟨m.b, 0, none⟩ = some (.pointer (some ⟨m.x, 0, none⟩)) ∧ u.cell? ⟨m.b, 1, none⟩ = some (.int .i64 m.z) ∧ u.cell? ⟨m.b, 2, none⟩ = some (.int .i64 (m.col : Int)) ∧ u.cell? ⟨m.b, 5, none⟩ = some (.slice (some ⟨m.kb, 0, none⟩) m.q m.q) ∧ Gd m K O s u)) := fun u hu => ⟨hu.bb.c0, hu.bb.c1, hu.bb.c2, hu.bb.c5, hu⟩
  have hw1 := wrap_small (x := (c : Int)) (by omega) (by omega)
  have hw2 := wrap_small (x := (d : Int)) (by omega) (by omega)
  have HG : Hid (Gd m K O s w.drew) := h.drew
  have HLo : Hid (m.lo ≤ w.heap.size) := lo_le h
  have HB : Hid (Below w.heap.size w w.drew) := L10.below_drew (Below.refl _ _)
  clear h hp
  go_enter Tryd.func58, Tryd.ntmps58
  go_wp2_with fail
  obtain ⟨f0, f1, f2, f5, fG⟩ := HKp.out _ HG.out
  go_region_held3 (fun u => (u.cell? ⟨m.b, 0, none⟩ = some (.pointer (some ⟨m.x, 0, none⟩)) ∧ u.cell? ⟨m.b, 1, none⟩ = some (.int .i64 m.z) ∧ u.cell? ⟨m.b, 2, none⟩ = some (.int .i64 (m.col : Int)) ∧ u.cell? ⟨m.b, 5, none⟩ = some (.slice (some ⟨m.kb, 0, none⟩) m.q m.q) ∧ Gd m K O s u) ∧ Below w.heap.size w u)
    ((exact ⟨HKp.out _ (by assumption), (by assumption)⟩))
    (first
      | (go_at_call 72; refine (HMo.out _ (by assumption)).mono ?_; rintro e wA ⟨rfl, hgA, hbA⟩; have hzA : Below w.heap.size w wA := L10.below_to (by assumption) hbA)
      | (go_at_call 53; refine told_ok.mono ?_; rintro e wB ⟨rfl, rfl⟩))
  have HG2 : Hid (Gd m K O s wB) := by assumption
  have HB2 : Hid (Below w.heap.size w wB) := by assumption
  go_wp2_with fail
  refine (HSy.out _ HG2.out).mono ?_
  rintro e w3 ⟨rfl, hm⟩
  have HM : Hid (Mv m K O w w3 (syN s 28 d (syA s 28 d (min 3 a)))) := Mv.behind HLo.out HB2.out hm
  clear hm
  generalize syA s 28 d (min 3 a) = v at *
  go_wp2_with fail
  refine told_ok.mono ?_
  rintro e w4 ⟨rfl, rfl⟩
  go_wp2_with fail
  go_ret
  show Ans m K O w vi _ _ _
  rw [HR.out]
  exact ⟨Tel.some, HM.out⟩

set_option maxRecDepth 100000 in
set_option maxHeartbeats 2000000 in
theorem first_last {m : Pm} {K : List Int} {O : Nat → Prop} {s : Cs} {w : World} (h : Gd m K O s w) {p base : Nat} {a : Int} (ha0 : -2000000 ≤ a) (hok : (fstP m.col base true a).Ok s) :
    Calls Tryd.prog 58 #[.pointer (some ⟨m.b, 0, none⟩), .int .i64 (p : Int), .int .i64 a, .bool true] w fun e w' => Ans m K O w vi ((fstP m.col base true a).run s) e w' := by
  have hv := hok.1
  have HV : Hid (syA s 27 m.col (min 3 a - 1) < 3) := sy_lt h.cd.so hv.1 hv.2.1 hv.2.2.2
  have HSy : Hid (∀ u, Gd m K O s u → Calls Tryd.prog 54 #[.pointer (some ⟨m.x, 0, none⟩), .int .i64 (27 : Nat), .int .i64 (m.col : Nat), .int .i64 (min 3 a - 1)] u fun e w' => e = .returned (.tuple #[.int .i64 (syA s 27 m.col (min 3 a - 1) : Nat), .int .i64 0]) ∧ Mv m K O u w' (syN s 27 m.col (syA s 27 m.col (min 3 a - 1)))) := fun u hu => symbol_gd hu hv
  have HR : Hid ((fstP m.col base true a).run s = (some ((syA s 27 m.col (min 3 a - 1) : Nat) + 1 : Int), syN s 27 m.col (syA s 27 m.col (min 3 a - 1)))) := by
    show (fstP m.col base true a).run s = _
    unfold fstP
    rw [if_pos rfl]
    rfl
  clear hv hok
  have hw1 := wrap_small (x := min 3 a - 1) (by omega) (by omega)
  have hw2 := wrap_small (x := ((syA s 27 m.col (min 3 a - 1) : Nat) : Int) + 1) (by omega) (by have := HV.out; omega)
  have HG : Hid (Gd m K O s w.drew) := h.drew
  have HLo : Hid (m.lo ≤ w.heap.size) := lo_le h
  have HB : Hid (Below w.heap.size w w.drew) := L10.below_drew (Below.refl _ _)
  have HC : Hid (∀ O' s' u, Gd m K O' s' u → (u.cell? ⟨m.b, 0, none⟩ = some (.pointer (some ⟨m.x, 0, none⟩)) ∧ u.cell? ⟨m.b, 2, none⟩ = some (.int .i64 (m.col : Int)))) := fun O' s' u hu => ⟨hu.bb.c0, hu.bb.c2⟩
  clear h
  generalize syA s 27 m.col (min 3 a - 1) = v at *
  go_enter Tryd.func58, Tryd.ntmps58
  go_wp2_with fail
  have fG := HG.out
  obtain ⟨f0, f2⟩ := HC.out _ _ _ fG
  go_region_held3 (fun u => u.cell? ⟨m.b, 0, none⟩ = some (.pointer (some ⟨m.x, 0, none⟩)) ∧ u.cell? ⟨m.b, 2, none⟩ = some (.int .i64 (m.col : Int)))
    ((exact HC.out _ _ _ (by assumption)))
    (first
      | (go_at_call 54; refine (HSy.out _ (by assumption)).mono ?_; rintro e wA ⟨rfl, hmA⟩; have HM : Hid (Mv m K O w wA (syN s 27 m.col v)) := Mv.behind HLo.out HB.out hmA; obtain ⟨OA, gA, tA, bA⟩ := hmA)
      | (go_at_call 53; refine told_ok.mono ?_; rintro e wB ⟨rfl, rfl⟩))
  go_wp2_with fail
  go_ret
  show Ans m K O w vi _ _ _
  rw [HR.out]
  exact ⟨Tel.some, HM.out⟩

theorem fst_any {m : Pm} {K : List Int} {O : Nat → Prop} {s : Cs} {w : World} (h : Gd m K O s w) {p : Nat} (hp : p < m.q) {last : Bool} {a : Int} (ha0 : -2000000 ≤ a) (hok : (fstP m.col (L10.bas K m.n p).toNat last a).Ok s) :
    Calls Tryd.prog 58 #[.pointer (some ⟨m.b, 0, none⟩), .int .i64 (p : Int), .int .i64 a, .bool last] w fun e w' => Ans m K O w vi ((fstP m.col (L10.bas K m.n p).toNat last a).run s) e w' := by
  cases last
  · exact first_base h hp hok
  · exact first_last h ha0 hok
def vb (b : Bool) : Value := .bool b

set_option maxRecDepth 100000 in
set_option maxHeartbeats 2000000 in
theorem below_dc {m : Pm} {K : List Int} {O : Nat → Prop} {s : Cs} {w : World} (h : Gd m K O s w) {a : Int} (hok : (blwP m.col m.sg 0 a).Ok s) :
    Calls Tryd.prog 42 #[.pointer (some ⟨m.b, 0, none⟩), .int .i64 0, .int .i64 a] w fun e w' => Ans m K O w vb ((blwP m.col m.sg 0 a).run s) e w' := by
  have hv := hok.1
  obtain ⟨c, d, e1, e2, e3', e4, e5, e6⟩ := ctx_name (k := 3) (M := 2) (x := (m.sg : Int)) (by omega) h.hc (by omega) (by have := h.hs; omega) (by omega)
  have e3 : (3 : Int) * (m.col : Int) = (c : Int) := e3'
  clear e3'
  rw [Int.toNat_natCast] at e2
  rw [e1, e2] at hv
  have HSy : Hid (∀ u, Gd m K O s u → Calls Tryd.prog 54 #[.pointer (some ⟨m.x, 0, none⟩), .int .i64 (30 : Nat), .int .i64 (d : Nat), .int .i64 (bt (a < 0))] u fun e w' => e = .returned (.tuple #[.int .i64 (syA s 30 d (bt (a < 0)) : Nat), .int .i64 0]) ∧ Mv m K O u w' (syN s 30 d (syA s 30 d (bt (a < 0))))) := fun u hu => symbol_gd hu hv
  have HR : Hid ((blwP m.col m.sg 0 a).run s = (some (syA s 30 d (bt (a < 0)) == 1), syN s 30 d (syA s 30 d (bt (a < 0))))) := by
    show (blwP m.col m.sg 0 a).run s = _
    unfold blwP
    rw [if_pos rfl, e1, e2]
    rfl
  clear hv hok
  have HBt : Hid (bt (decide (a < 0) = true) = bt (a < 0)) := by show bt _ = bt _; unfold bt; simp
  have hw1 := wrap_small (x := (c : Int)) (by omega) (by omega)
  have hw2 := wrap_small (x := (d : Int)) (by omega) (by omega)
  have HG : Hid (Gd m K O s w.drew) := h.drew
  have HLo : Hid (m.lo ≤ w.heap.size) := lo_le h
  have HB : Hid (Below w.heap.size w w.drew) := L10.below_drew (Below.refl _ _)
  have HC : Hid (∀ O' s' u, Gd m K O' s' u → (u.cell? ⟨m.b, 0, none⟩ = some (.pointer (some ⟨m.x, 0, none⟩)) ∧ u.cell? ⟨m.b, 2, none⟩ = some (.int .i64 (m.col : Int)) ∧ u.cell? ⟨m.b, 3, none⟩ = some (.int .i64 (m.sg : Int)))) := fun O' s' u hu => ⟨hu.bb.c0, hu.bb.c2, hu.bb.c3⟩
  clear h e1 e2
  generalize syA s 30 d (bt (a < 0)) = v at *
  generalize bt (a < 0) = z at *
  go_enter Tryd.func42, Tryd.ntmps42
  go_wp2_with fail
  have fG := HG.out
  obtain ⟨f0, f2, f3⟩ := HC.out _ _ _ fG
  go_region_held3 (fun u => u.cell? ⟨m.b, 0, none⟩ = some (.pointer (some ⟨m.x, 0, none⟩)) ∧ u.cell? ⟨m.b, 2, none⟩ = some (.int .i64 (m.col : Int)) ∧ u.cell? ⟨m.b, 3, none⟩ = some (.int .i64 (m.sg : Int)))
    ((exact HC.out _ _ _ (by assumption)))
    (first
      | (go_at_call 55; refine bit_any.mono ?_; rintro e wC ⟨rfl, rfl⟩; rw [HBt.out])
      | (go_at_call 54; refine (HSy.out _ (by assumption)).mono ?_; rintro e wA ⟨rfl, hmA⟩; have HM : Hid (Mv m K O w wA (syN s 30 d v)) := Mv.behind HLo.out HB.out hmA; obtain ⟨OA, gA, tA, bA⟩ := hmA)
      | (go_at_call 53; refine told_ok.mono ?_; rintro e wB ⟨rfl, rfl⟩))
  go_wp2_with fail
  go_ret
  show Ans m K O w vb _ _ _
  rw [HR.out]
  have hbb : ((v : Int) == 1) = (v == 1) := by
    by_cases e : v = 1
    · subst e; rfl
    · rw [beq_eq_false_iff_ne.2 e, beq_eq_false_iff_ne.2 (by omega)]
  rw [hbb]
  exact ⟨Tel.some, HM.out⟩

set_option maxRecDepth 100000 in
set_option maxHeartbeats 2000000 in
theorem below_ac {m : Pm} {K : List Int} {O : Nat → Prop} {s : Cs} {w : World} (h : Gd m K O s w) {p : Nat} (hp : p ≠ 0) {a : Int} (hok : (blwP m.col m.sg p a).Ok s) :
    Calls Tryd.prog 42 #[.pointer (some ⟨m.b, 0, none⟩), .int .i64 (p : Int), .int .i64 a] w fun e w' => Ans m K O w vb ((blwP m.col m.sg p a).run s) e w' := by
  unfold blwP at hok ⊢
  rw [if_neg hp] at hok ⊢
  have hv := hok.1
  have HSy : Hid (∀ u, Gd m K O s u → Calls Tryd.prog 24 #[.pointer (some ⟨m.x, 0, none⟩), .int .i64 (1 : Nat), .int .i64 (bt (a < 0))] u fun e w' => e = .returned (.tuple #[.int .i64 (biA s 1 (bt (a < 0)) : Nat), .int .i64 0]) ∧ Mv m K O u w' (biN s 1 (biA s 1 (bt (a < 0))))) := fun u hu => bits_gd hu hv
  have HR : Hid ((Prg.bits 1 (bt (a < 0)) fun u => .ret (u == 1)).run s = (some (biA s 1 (bt (a < 0)) == 1), biN s 1 (biA s 1 (bt (a < 0))))) := rfl
  clear hv hok
  have HBt : Hid (bt (decide (a < 0) = true) = bt (a < 0)) := by show bt _ = bt _; unfold bt; simp
  have hp1 : ((p : Int) == 0) = false := by rw [beq_eq_false_iff_ne]; omega
  have HG : Hid (Gd m K O s w.drew) := h.drew
  have HLo : Hid (m.lo ≤ w.heap.size) := lo_le h
  have HB : Hid (Below w.heap.size w w.drew) := L10.below_drew (Below.refl _ _)
  have HC : Hid (∀ O' s' u, Gd m K O' s' u → (u.cell? ⟨m.b, 0, none⟩ = some (.pointer (some ⟨m.x, 0, none⟩)))) := fun O' s' u hu => hu.bb.c0
  clear h hp
  generalize biA s 1 (bt (a < 0)) = v at *
  generalize bt (a < 0) = z at *
  go_enter Tryd.func42, Tryd.ntmps42
  go_wp2_with fail
  have fG := HG.out
  have f0 := HC.out _ _ _ fG
  go_region_held3 (fun u => u.cell? ⟨m.b, 0, none⟩ = some (.pointer (some ⟨m.x, 0, none⟩)))
    ((exact HC.out _ _ _ (by assumption)))
    (first
      | (go_at_call 55; refine bit_any.mono ?_; rintro e wC ⟨rfl, rfl⟩; rw [HBt.out])
      | (go_at_call 24; refine (HSy.out _ (by assumption)).mono ?_; rintro e wA ⟨rfl, hmA⟩; have HM : Hid (Mv m K O w wA (biN s 1 v)) := Mv.behind HLo.out HB.out hmA; obtain ⟨OA, gA, tA, bA⟩ := hmA)
      | (go_at_call 53; refine told_ok.mono ?_; rintro e wB ⟨rfl, rfl⟩))
  go_wp2_with fail
  go_ret
  show Ans m K O w vb _ _ _
  rw [HR.out]
  have hbb : ((v : Int) == 1) = (v == 1) := by
    by_cases e : v = 1
    · subst e; rfl
    · rw [beq_eq_false_iff_ne.2 e, beq_eq_false_iff_ne.2 (by omega)]
  rw [hbb]
  exact ⟨Tel.some, HM.out⟩

theorem below_any {m : Pm} {K : List Int} {O : Nat → Prop} {s : Cs} {w : World} (h : Gd m K O s w) {p : Nat} {a : Int} (hok : (blwP m.col m.sg p a).Ok s) :
    Calls Tryd.prog 42 #[.pointer (some ⟨m.b, 0, none⟩), .int .i64 (p : Int), .int .i64 a] w fun e w' => Ans m K O w vb ((blwP m.col m.sg p a).run s) e w' := by
  by_cases e : p = 0
  · subst e; exact below_dc h hok
  · exact below_ac h e hok

end Go.Proofs.YtkmnpechhdendaaDoor
