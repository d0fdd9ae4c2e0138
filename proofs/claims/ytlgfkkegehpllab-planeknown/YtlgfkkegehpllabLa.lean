/- DERIVED. The walk of the statement PlaneApart. -/
import Derived.Test.YtlgfkkegehpllabPt
namespace Go.Proofs.Ytlgfkkegehpllab
open Go.RowKit

set_option maxHeartbeats 1000000 in
theorem apart_bad {u : World} {a b : Option Addr} {c d : Nat} {C D : List Nat} {W H W' H' : Int} (hn : ¬ POk W H C) :
    Calls Try.prog 8 #[.agg #[.int .i64 W, .int .i64 H, .slice a C.length c], .agg #[.int .i64 W', .int .i64 H', .slice b D.length d]] u fun e w' => e = .returned (.tuple #[.int .u64 0, .int .i64 2]) ∧ Below u.heap.size u w' := by
  have hck : ck W H C = 2 := ck_no hn
  clear hn
  go_enter Try.func8, Try.ntmps8
  go_wp2_with fail
  refine check_any.mono ?_
  rintro e w1 ⟨rfl, hb⟩
  rw [hck]
  have HB : Hid (Below u.heap.size u w1) := below_to (to_alloc (from_alloc u _) _) hb
  clear hb hck
  go_wp2_with fail
  go_ret2
  exact ⟨rfl, HB.out⟩

set_option maxHeartbeats 1000000 in
theorem layL_one {x i v : Nat} {C : List Nat} (hx : 1 ≤ x) (hi : i < C.length) : layL x C (i % x) (i / x) 1 [v] 1 = C.set i v := by
  refine list_eq_of_getD (by rw [layL_len, List.length_set]) fun j hj => ?_
  rw [layL_len] at hj
  rw [layL_get hj, List.getD_eq_getElem?_getD, List.getElem?_set]
  unfold layF
  obtain ⟨p1, _⟩ := parts i x (by omega)
  obtain ⟨p2, _⟩ := parts j x (by omega)
  by_cases e : i = j
  · subst e
    rw [if_pos (by omega), if_pos rfl, if_pos hi]
    rw [Nat.sub_self, Nat.sub_self]; rfl
  · rw [if_neg e, ← List.getD_eq_getElem?_getD, if_neg]
    intro h
    have e1 : j % x = i % x := by omega
    have e2 : j / x = i / x := by omega
    rw [e1, e2] at p2
    omega
theorem set_get {C : List Nat} {i v j : Nat} (hi : i < C.length) : (C.set i v).getD j 0 = if i = j then v else C.getD j 0 := by
  rw [List.getD_eq_getElem?_getD, List.getElem?_set]
  by_cases e : i = j
  · rw [if_pos e, if_pos hi, if_pos e]; rfl
  · rw [if_neg e, if_neg e, ← List.getD_eq_getElem?_getD]
theorem apS_set {C : List Nat} {i v : Nat} (hi : i < C.length) : ∀ n, apS C (C.set i v) n = if i < n then sqd (C.getD i 0) v else 0
  | 0 => by simp [apS]
  | n + 1 => by
    simp only [apS]
    rw [apS_set hi n, set_get hi]
    by_cases e : i = n
    · subst e; rw [if_neg (Nat.lt_irrefl _), if_pos rfl, if_pos (by omega)]; omega
    · rw [if_neg e, sqd_self]
      by_cases g : i < n
      · rw [if_pos g, if_pos (by omega)]; rfl
      · rw [if_neg g, if_neg (by omega)]
theorem set_self {C : List Nat} {i : Nat} (hi : i < C.length) : C.set i (C.getD i 0) = C := list_eq_of_getD (by simp) fun j _ => by
  rw [set_get hi]
  by_cases e : i = j
  · rw [if_pos e, e]
  · rw [if_neg e]
theorem byt_set {C : List Nat} {i v : Nat} (hi : i < C.length) (hC : Byt C) (hv : v < 256) : Byt (C.set i v) := fun j => by
  rw [set_get hi]
  by_cases e : i = j
  · rw [if_pos e]; exact hv
  · rw [if_neg e]; exact hC j
/-- whether nothing parts them, and whether they are the same -/
theorem apart_same {C : List Nat} {i v : Nat} (hi : i < C.length) : (sqd (C.getD i 0) v = 0) ↔ C = C.set i v := by
  constructor
  · intro h
    have e := sqd_zero h
    subst e
    exact (set_self hi).symm
  · intro h
    have := congrArg (fun l : List Nat => l.getD i 0) h
    rw [set_get hi, if_pos rfl] at this
    rw [this, sqd_self]


end Go.Proofs.Ytlgfkkegehpllab
