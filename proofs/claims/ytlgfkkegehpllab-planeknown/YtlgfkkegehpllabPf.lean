/- DERIVED. Cut refused; the walk of Lay. -/
import Derived.Test.YtlgfkkegehpllabPe
namespace Go.Proofs.Ytlgfkkegehpllab
open Go.RowKit

set_option maxHeartbeats 1000000 in
theorem cut_bad {u : World} {a : Option Addr} {c : Nat} {C : List Nat} {W H X Y w h : Int} (hn : ¬ POk W H C) :
    Calls Try.prog 6 #[.agg #[.int .i64 W, .int .i64 H, .slice a C.length c], .agg #[.int .i64 X, .int .i64 Y, .int .i64 w, .int .i64 h]] u fun e w' => e = .returned (.tuple #[.slice none 0 0, .int .i64 2]) ∧ Below u.heap.size u w' := by
  have hck : ck W H C = 2 := ck_no hn
  clear hn
  go_enter Try.func6, Try.ntmps6
  go_wp2_with fail
  refine check_any.mono ?_
  rintro e w1 ⟨rfl, hb⟩
  rw [hck]
  have HB : Hid (Below u.heap.size u w1) := below_to (to_alloc (from_alloc u _) _) hb
  clear hb hck
  go_wp2_with fail
  go_ret2
  exact ⟨rfl, HB.out⟩

set_option maxHeartbeats 1000000 in
theorem cut_out {u : World} {a : Option Addr} {c : Nat} {C : List Nat} {W H X Y w h : Int} (hp : POk W H C) (hn : ¬ Win W H X Y w h) (bX : X ≤ 9223372036854775807) (bY : Y ≤ 9223372036854775807) :
    Calls Try.prog 6 #[.agg #[.int .i64 W, .int .i64 H, .slice a C.length c], .agg #[.int .i64 X, .int .i64 Y, .int .i64 w, .int .i64 h]] u fun e w' => e = .returned (.tuple #[.slice none 0 0, .int .i64 2]) ∧ Below u.heap.size u w' := by
  have hck : ck W H C = 0 := ck_ok hp
  have HP : Hid (POk W H C) := hp
  have HN : Hid (¬ Win W H X Y w h) := hn
  have BX : Bx (X ≤ 9223372036854775807) := ⟨bX⟩
  have BY : Bx (Y ≤ 9223372036854775807) := ⟨bY⟩
  clear hn hp bX bY
  go_enter Try.func6, Try.ntmps6
  go_wp2_with fail
  refine check_any.mono ?_
  rintro e w1 ⟨rfl, hb⟩
  rw [hck]
  have d0 : w1.cell? ⟨u.heap.size, 0, none⟩ = some (.int .i64 W) := by rw [newCell hb _ _ (by simp; omega)]; simp
  have d1 : w1.cell? ⟨u.heap.size, 1, none⟩ = some (.int .i64 H) := by rw [newCell hb _ _ (by simp; omega)]; simp
  have d2 : w1.cell? ⟨u.heap.size, 2, none⟩ = some (.slice a C.length c) := by rw [newCell hb _ _ (by simp; omega)]; simp
  have d3 : w1.cell? ⟨u.heap.size + 1, 0, none⟩ = some (.int .i64 X) := by rw [newCell hb _ _ (by simp)]; simp
  have d4 : w1.cell? ⟨u.heap.size + 1, 1, none⟩ = some (.int .i64 Y) := by rw [newCell hb _ _ (by simp)]; simp
  have d5 : w1.cell? ⟨u.heap.size + 1, 2, none⟩ = some (.int .i64 w) := by rw [newCell hb _ _ (by simp)]; simp
  have d6 : w1.cell? ⟨u.heap.size + 1, 3, none⟩ = some (.int .i64 h) := by rw [newCell hb _ _ (by simp)]; simp
  have HB : Hid (Below u.heap.size u w1) := below_to (to_alloc (from_alloc u _) _) hb
  clear hb hck
  go_wp2_with fail
  refine (within_no HN.out HP.out.w0 HP.out.w1 HP.out.h0 HP.out.h1 BX.out BY.out).mono ?_
  rintro e w2 ⟨rfl, hb⟩
  have HB2 : Hid (Below u.heap.size u w2) := below_to HB.out hb
  clear hb
  go_wp2_with fail
  go_ret2
  exact ⟨rfl, HB2.out⟩

/-- of the blocks of v only g has turned -/
structure Kf (g : Nat) (v w : World) : Prop where
  os : w.os = v.os
  tape : w.tape = v.tape
  output : w.output = v.output
  size : v.heap.size ≤ w.heap.size
  block : ∀ i, i < v.heap.size → i ≠ g → w.heap[i]? = v.heap[i]?
theorem Kf.refl (g : Nat) (v : World) : Kf g v v := ⟨rfl, rfl, rfl, Nat.le_refl _, fun _ _ _ => rfl⟩
theorem Kf.step {g : Nat} {v w w' : World} (h : Kf g v w) (hb : Below w.heap.size w w') : Kf g v w' := ⟨hb.os.trans h.os, hb.tape.trans h.tape, hb.output.trans h.output, Nat.le_trans h.size hb.size, fun i hi hg => (hb.block i (Nat.lt_of_lt_of_le hi h.size)).trans (h.block i hi hg)⟩
theorem Kf.kb {g : Nat} {v w w' : World} (h : Kf g v w) (k : Kb g w w') : Kf g v w' := ⟨k.os.trans h.os, k.tape.trans h.tape, k.output.trans h.output, by rw [k.size]; exact h.size, fun i hi hg => (k.block i hg).trans (h.block i hi hg)⟩
theorem Kf.drew {g : Nat} {v w : World} (h : Kf g v w) : Kf g v w.drew := ⟨h.os, h.tape, h.output, h.size, h.block⟩
theorem Kf.drewN {g : Nat} {v w : World} (h : Kf g v w) (n : Nat) : Kf g v (w.drewN n) := ⟨h.os, h.tape, h.output, h.size, h.block⟩
theorem Kf.cell {g : Nat} {v w : World} (h : Kf g v w) (i o : Nat) (hi : i < v.heap.size) (hg : i ≠ g) : w.cell? ⟨i, o, none⟩ = v.cell? ⟨i, o, none⟩ := World.cell?_of_block (w := v) (a := ⟨i, o, none⟩) (h.block i hi hg)
theorem Kf.frozen {g : Nat} {v w : World} (h : Kf g v w) (i o : Nat) (hi : i < v.heap.size) (hg : i ≠ g) : w.frozen? ⟨i, o, none⟩ = v.frozen? ⟨i, o, none⟩ := World.frozen?_of_block (w := v) (a := ⟨i, o, none⟩) (h.block i hi hg)
theorem Kf.below {g B : Nat} {v w : World} (h : Kf g v w) (h1 : B ≤ g) (h2 : B ≤ v.heap.size) : Below B v w := ⟨h.os, h.tape, h.output, h.size, fun i hi => h.block i (by omega) (by omega)⟩
theorem Rw.kf {g i : Nat} {C : List Nat} {v w : World} (h : Rw v i C) (k : Kf g v w) (hi : i ≠ g) : Rw w i C := h.carry (k.block i h.lt hi)
/-- a slice that does not lie in block g -/
theorem Sl.kf {g : Nat} {v w : World} {k : IntKind} {a : Option Addr} {C : List Nat} (h : Sl v k a C) (f : Kf g v w) (hg : ∀ b o, a = some ⟨b, o, none⟩ → b ≠ g) : Sl w k a C := by
  rcases h with h | ⟨b, o, h1, h2, h3⟩
  · exact Or.inl h
  · exact Or.inr ⟨b, o, h1, Nat.lt_of_lt_of_le h2 f.size, fun j hj => by rw [f.cell b _ h2 (hg b o h1)]; exact h3 j hj⟩
theorem Sl.low {u v w : World} {k : IntKind} {a : Option Addr} {C : List Nat} {g : Nat} (h : Sl u k a C) (hb : Below u.heap.size u v) (f : Kf g v w) (hg : u.heap.size ≤ g) : Sl w k a C := by
  rcases h with h | ⟨b, o, h1, h2, h3⟩
  · exact Or.inl h
  · have h4 := hb.size
    exact Or.inr ⟨b, o, h1, by have := f.size; omega, fun j hj => by rw [f.cell b _ (by omega) (by omega), newCell hb _ _ h2]; exact h3 j hj⟩

end Go.Proofs.Ytlgfkkegehpllab
