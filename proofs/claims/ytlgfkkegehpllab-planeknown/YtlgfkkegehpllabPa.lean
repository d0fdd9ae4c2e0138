/- DERIVED. A row of samples in memory; the walks of Check and nearest. -/
import Derived.Test.YtlgfkkegehpllabRows
import Derived.Test.YtlgfkkegehpllabGa
import Derived.Deep.OwnRows
namespace Go.Proofs.Ytlgfkkegehpllab
open Go.RowKit

theorem Try.info5 : (Try.prog.info? 5).map (fun i => (i.zero, i.size, i.bytes)) = some (some (.int .u8 0), 1, 1) := by kernel_rfl
theorem Try.size5 : (Try.prog.info? 5).map (·.size) = some 1 := by kernel_rfl
theorem addr_add (g k j : Nat) : (⟨g, k, none⟩ : Addr).add j = ⟨g, k + j, none⟩ := by unfold Addr.add; split <;> simp_all
theorem from_alloc (w : World) (o : Obj) : Below w.heap.size w (w.alloc o) := (Below.refl _ _).alloc (Nat.le_refl _) _
theorem to_alloc {w u : World} (h : Below w.heap.size w u) (o : Obj) : Below w.heap.size w (u.alloc o) := below_alloc h (Nat.le_refl _) o
theorem below_drew {B : Nat} {w u : World} (h : Below B w u) : Below B w u.drew := ⟨h.os, h.tape, h.output, h.size, h.block⟩

/-- a row of samples, alone in its block -/
structure Rw (w : World) (g : Nat) (C : List Nat) : Prop where
  heap : w.heap[g]? = some (.cells (ns .u8 C).toArray 5 (0, 0))
theorem Rw.lt {w : World} {g : Nat} {C : List Nat} (h : Rw w g C) : g < w.heap.size := (Array.getElem?_eq_some_iff.1 h.heap).1
theorem Rw.cell {w : World} {g : Nat} {C : List Nat} (h : Rw w g C) (j : Nat) (hj : j < C.length) : w.cell? ⟨g, j, none⟩ = some (.int .u8 (C.getD j 0 : Nat)) := by
  simp only [World.cell?, h.heap]
  have := ns_get .u8 C j hj
  simpa using this
theorem Rw.thaw {w : World} {g : Nat} {C : List Nat} (h : Rw w g C) (j : Nat) : w.frozen? ⟨g, j, none⟩ = false := by simp [World.frozen?, h.heap]
theorem Rw.carry {w w' : World} {g : Nat} {C : List Nat} (h : Rw w g C) (hb : w'.heap[g]? = w.heap[g]?) : Rw w' g C := ⟨by rw [hb]; exact h.heap⟩
theorem Rw.below {w w' : World} {g B : Nat} {C : List Nat} (h : Rw w g C) (hb : Below B w w') (hg : g < B) : Rw w' g C := h.carry (hb.block g hg)
theorem Rw.to {w w' : World} {g : Nat} {C : List Nat} (h : Rw w g C) (hb : Below w.heap.size w w') : Rw w' g C := h.below hb h.lt
theorem Rw.far {w : World} {g : Nat} {C : List Nat} (h : Rw w g C) {a : Addr} (ha : g ≠ a.block) (u : Value) : Rw (w.setCell a u) g C := h.carry (Below.heap_setCell _ _ _ _ (fun e => ha (by rw [e])))
theorem Rw.set {w : World} {g : Nat} {C : List Nat} (h : Rw w g C) (k x : Nat) : Rw (w.setCell ⟨g, k, none⟩ (.int .u8 (x : Int))) g (C.set k x) := by
  refine ⟨?_⟩
  rw [setCell_eq_setRow w g k _ _ _ _ h.heap, setRow_heap w g _ _ _ _ h.heap, ns_set]
  simp
theorem Rw.drew {w : World} {g : Nat} {C : List Nat} (h : Rw w g C) : Rw w.drew g C := ⟨h.heap⟩
theorem Rw.sl {w : World} {g : Nat} {C : List Nat} (h : Rw w g C) : Sl w .u8 (some ⟨g, 0, none⟩) C := Or.inr ⟨g, 0, rfl, h.lt, fun j hj => by rw [Nat.zero_add]; exact h.cell j hj⟩
theorem Sl.seg {w : World} {k : IntKind} {b o : Nat} {C : List Nat} (h : Sl w k (some ⟨b, o, none⟩) C) (p n : Nat) (hp : p + n ≤ C.length) : Sl w k (some ⟨b, o + p, none⟩) (seg C p n) := by
  by_cases h0 : n = 0
  · left; exact List.eq_nil_of_length_eq_zero (by rw [seg_len]; exact h0)
  · obtain ⟨b', o', e, h2, h3⟩ := h.form (by omega)
    simp only [Option.some.injEq, Addr.mk.injEq] at e
    obtain ⟨rfl, rfl, _⟩ := e
    refine Or.inr ⟨b, o + p, rfl, h2, fun j hj => ?_⟩
    rw [seg_len] at hj
    rw [seg_get _ _ _ hj, Nat.add_assoc]
    exact h3 (p + j) (by omega)
theorem Sl.drew {w : World} {k : IntKind} {a : Option Addr} {C : List Nat} (h : Sl w k a C) : Sl w.drew k a C := h.below (B := w.heap.size) (below_drew (Below.refl _ _)) (Nat.le_refl _)
theorem rep_cells (n : Nat) : madeCells #[.int .u8 0] n = (ns .u8 (List.replicate n 0)).toArray := by
  refine Array.ext (by simp [madeCells, ns]) fun j h1 h2 => ?_
  simp [madeCells, ns, Nat.mod_one]
theorem Rw.made (w : World) (n : Nat) : Rw (w.alloc (.cells (madeCells #[.int .u8 0] n) 5)) w.heap.size (List.replicate n 0) := ⟨by rw [rep_cells]; exact heap_alloc_new w _⟩

/-- a plane that may be -/
structure POk (W H : Int) (C : List Nat) : Prop where
  w0 : 1 ≤ W
  w1 : W ≤ 512
  h0 : 1 ≤ H
  h1 : H ≤ 512
  len : (C.length : Int) = W * H
/-- what Check answers -/
noncomputable def ck (W H : Int) (C : List Nat) : Int := open Classical in if POk W H C then 0 else 2
theorem ck_ok {W H : Int} {C : List Nat} (h : POk W H C) : ck W H C = 0 := by unfold ck; rw [if_pos h]
theorem ck_no {W H : Int} {C : List Nat} (h : ¬ POk W H C) : ck W H C = 2 := by unfold ck; rw [if_neg h]
/-- in whole numbers -/
theorem POk.nat {W H : Int} {C : List Nat} (h : POk W H C) : ∃ x y : Nat, W = (x : Int) ∧ H = (y : Int) ∧ 1 ≤ x ∧ x ≤ 512 ∧ 1 ≤ y ∧ y ≤ 512 ∧ C.length = x * y := by
  refine ⟨W.toNat, H.toNat, ?_, ?_, ?_, ?_, ?_, ?_, ?_⟩
  · have := h.w0; omega
  · have := h.h0; omega
  · have := h.w0; omega
  · have := h.w1; omega
  · have := h.h0; omega
  · have := h.h1; omega
  · have e := h.len
    rw [show W = ((W.toNat : Nat) : Int) from by have := h.w0; omega, show H = ((H.toNat : Nat) : Int) from by have := h.h0; omega, ← Int.natCast_mul] at e
    simpa using Int.ofNat.inj e
theorem POk.of {x y : Nat} {C : List Nat} (h0 : 1 ≤ x) (h1 : x ≤ 512) (h2 : 1 ≤ y) (h3 : y ≤ 512) (hl : C.length = x * y) : POk (x : Int) (y : Int) C := ⟨by omega, by omega, by omega, by omega, by rw [hl, Int.natCast_mul]⟩
theorem prod_le {x y : Nat} (h1 : x ≤ 512) (h3 : y ≤ 512) : x * y ≤ 262144 := Nat.mul_le_mul h1 h3

set_option maxHeartbeats 1000000 in
theorem check_any {w : World} {a : Option Addr} {c : Nat} {C : List Nat} {W H : Int} :
    Calls Try.prog 9 #[.agg #[.int .i64 W, .int .i64 H, .slice a C.length c]] w fun e w' => e = .returned (.int .i64 (ck W H C)) ∧ Below w.heap.size w w' := by
  by_cases h0 : W < 1
  · rw [ck_no (fun k => by have := k.w0; omega)]
    go_enter Try.func9, Try.ntmps9
    go_wp2
    go_ret
    exact ⟨rfl, from_alloc _ _⟩
  by_cases h1 : 512 < W
  · rw [ck_no (fun k => by have := k.w1; omega)]
    go_enter Try.func9, Try.ntmps9
    go_wp2
    go_ret
    exact ⟨rfl, from_alloc _ _⟩
  by_cases h2 : H < 1
  · rw [ck_no (fun k => by have := k.h0; omega)]
    go_enter Try.func9, Try.ntmps9
    go_wp2
    go_ret
    exact ⟨rfl, from_alloc _ _⟩
  by_cases h3 : 512 < H
  · rw [ck_no (fun k => by have := k.h1; omega)]
    go_enter Try.func9, Try.ntmps9
    go_wp2
    go_ret
    exact ⟨rfl, from_alloc _ _⟩
  have i0 : 1 ≤ W := by omega
  have i1 : W ≤ 512 := by omega
  have i2 : 1 ≤ H := by omega
  have i3 : H ≤ 512 := by omega
  have p0 : 0 ≤ W * H := Int.mul_nonneg (by omega) (by omega)
  have p1 : W * H ≤ 512 * 512 := Int.mul_le_mul i1 i3 (by omega) (by omega)
  have p2 : W * H ≤ 262144 := p1
  clear h0 h1 h2 h3 p1
  by_cases h4 : (C.length : Int) = W * H
  · rw [ck_ok ⟨i0, i1, i2, i3, h4⟩]
    have h4' : ((C.length : Int) != W * H) = false := by simp [h4]
    have H4 : Hid _ := h4
    clear h4
    go_enter Try.func9, Try.ntmps9
    go_wp2
    go_ret
    exact ⟨rfl, from_alloc _ _⟩
  · rw [ck_no (fun k => h4 k.len)]
    have h4' : ((C.length : Int) != W * H) = true := by simp [h4]
    go_enter Try.func9, Try.ntmps9
    go_wp2
    go_ret
    exact ⟨rfl, from_alloc _ _⟩

/-- the nearest place -/
def nr (i : Int) (n : Nat) : Nat := if i < 0 then 0 else min i.toNat (n - 1)
theorem nr_nat (i n : Nat) : nr (i : Int) n = min i (n - 1) := by unfold nr; rw [if_neg (by omega)]; simp
theorem nr_lt {i : Int} {n : Nat} (h : 1 ≤ n) : nr i n < n := by unfold nr; split <;> omega

set_option maxHeartbeats 1000000 in
theorem nearest_any {w : World} {i : Int} {n : Nat} (h0 : 1 ≤ n) (h1 : n ≤ 512) :
    Calls Try.prog 18 #[.int .i64 i, .int .i64 (n : Int)] w fun e w' => e = .returned (.int .i64 (nr i n : Nat)) ∧ w' = w := by
  have i0 : (1 : Int) ≤ (n : Int) := by omega
  have i1 : (n : Int) ≤ 512 := by omega
  go_enter Try.func18, Try.ntmps18
  go_wp2
  all_goals (go_ret; refine ⟨ret_int ?_, rfl⟩; unfold nr; (try split) <;> omega)

end Go.Proofs.Ytlgfkkegehpllab
