/- DERIVED. (*bits.Reader).Rest of whatever reader; the walks of Bring and of the statements' own 'read'. -/
import Derived.Test.YtiheldakkpbkgaaNwA
import Derived.Test.YtiheldakkpbkgaaRdG
namespace Go.Proofs.Ytiheldakkpbkgaa
open Go.RowKit

set_option maxHeartbeats 1000000 in
theorem rest_nil {w : World} {r : Nat} (hm : w.cell? ⟨r, 0, none⟩ = some (.bool true)) (hd : w.cell? ⟨r, 1, none⟩ = some (.slice none 0 0)) (hp : w.cell? ⟨r, 2, none⟩ = some (.int .i64 0)) :
    Calls Try.prog 16 #[.pointer (some ⟨r, 0, none⟩)] w fun e w' => e = .returned (.slice none 0 0) ∧ Below w.heap.size w w' := by
  have HNN : Hid (∀ x : World, x.cell? ⟨r, 2, none⟩ = some (.int .i64 0) → Calls Try.prog 50 #[.pointer (some ⟨r, 0, none⟩)] x fun e w' => e = .returned (.int .i64 0) ∧ w' = x) := fun x hw => rnext_any r 0 x hw (by omega)
  have hB : Below w.heap.size w w := Below.refl _ _
  go_enter Try.func16, Try.ntmps16
  go_wp2_with fail
  refine (rnone_made _ _ hm).mono ?_; rintro e w' ⟨rfl, rfl⟩
  go_wp2_with fail
  go_region_held3 (fun x => x.cell? ⟨r, 1, none⟩ = some (.slice none 0 0) ∧ x.cell? ⟨r, 2, none⟩ = some (.int .i64 0) ∧ Below w'.heap.size w' x) (((try dsimp only); refine ⟨?_, ?_, ?_⟩ <;> first | assumption | exact Below.drew (by assumption) | go_keep)) (first | (go_at_call 50; refine (HNN.out _ ?_).mono ?_; (simp [*]); rintro e w2 ⟨rfl, rfl⟩) | (go_at_call 42; refine (clone_nil _).mono ?_; rintro e w3 ⟨rfl, rfl⟩))
  go_wp2
  go_ret
  exact ⟨rfl, hB.drew⟩

theorem Rd.below {w w' : World} {r : Nat} {v : Value} {zs : List Nat} {p : Nat} (h : Rd w r v zs p) (hb : Below w.heap.size w w') : Rd w' r v zs p :=
  h.carry (hb.block r h.low) (fun g hg => hb.block g (h.own_lt g hg).1) hb.size

theorem rest_rd {w : World} {r : Nat} {v : Value} {zs : List Nat} {p : Nat} (h : Rd w r v zs p) :
    Calls Try.prog 16 #[.pointer (some ⟨r, 0, none⟩)] w fun e w' => ∃ a c, e = .returned (.slice a (zs.length - (p + 7) / 8) c) ∧ w'.ownsRow w.heap.size 5 1 (.slice a (zs.length - (p + 7) / 8) c) (zs.length - (p + 7) / 8) (bs (zs.drop ((p + 7) / 8))) ∧ Below w.heap.size w w' := by
  rcases h.cells with ⟨rfl, rfl⟩ | ⟨g, c, h1, h2, h3, rfl, h5⟩
  · have hb := h.bnd
    simp at hb
    subst hb
    refine (rest_nil h.made h.data h.place).mono ?_
    rintro e w' ⟨rfl, hb⟩
    exact ⟨_, _, rfl, World.ownsRow_nil _ _ _ _, hb⟩
  · exact rest_some h h3 h2 h5

/-- a number brought to one below five -/
def bring5 (i : Int) : Nat := (i % 5).toNat
theorem bring5_lt (i : Int) : bring5 i < 5 := by unfold bring5; omega
theorem tmod_five (i : Int) : (0 ≤ i.tmod 5 → i.tmod 5 = i % 5) ∧ (i.tmod 5 < 0 → i.tmod 5 + 5 = i % 5) ∧ -4 ≤ i.tmod 5 ∧ i.tmod 5 ≤ 4 := by
  by_cases h : 0 ≤ i
  · rw [Int.tmod_eq_emod_of_nonneg h]; omega
  · obtain ⟨j, rfl⟩ : ∃ j, i = -j := ⟨-i, by omega⟩
    rw [Int.neg_tmod, Int.tmod_eq_emod_of_nonneg (by omega)]; omega
set_option maxHeartbeats 400000 in
theorem bring_five (i : Int) (w : World) : Calls Try.prog 23 #[.int .i64 i, .int .i64 5] w fun e w' => e = .returned (.int .i64 (bring5 i)) ∧ w' = w := by
  obtain ⟨h1, h2, h3, h4⟩ := tmod_five i
  have H1 : Hid (0 ≤ i.tmod 5 → i.tmod 5 = i % 5) := h1
  have H2 : Hid (i.tmod 5 < 0 → i.tmod 5 + 5 = i % 5) := h2
  clear h1 h2
  by_cases h : Int.tmod i 5 < 0
  · go_enter Try.func23, Try.ntmps23
    go_wp2
    go_ret
    exact ⟨ret_int (by unfold bring5; rw [← H2.out h]; omega), rfl⟩
  · go_enter Try.func23, Try.ntmps23
    go_wp2
    go_ret
    exact ⟨ret_int (by unfold bring5; rw [← H1.out (by omega)]; omega), rfl⟩

/-- of the blocks that were there r alone may have turned -/
structure Kq (r : Nat) (w w' : World) : Prop where
  os : w'.os = w.os
  tape : w'.tape = w.tape
  output : w'.output = w.output
  size : w.heap.size ≤ w'.heap.size
  block : ∀ k, k < w.heap.size → k ≠ r → w'.heap[k]? = w.heap[k]?
theorem Kq.trans {r : Nat} {a b c : World} (h : Kq r a b) (k : Kq r b c) : Kq r a c :=
  ⟨k.os.trans h.os, k.tape.trans h.tape, k.output.trans h.output, Nat.le_trans h.size k.size, fun i hi hr => (k.block i (Nat.lt_of_lt_of_le hi h.size) hr).trans (h.block i hi hr)⟩
theorem Kp.kq {r : Nat} {w w' : World} (h : Kp r w w') : Kq r w w' := ⟨h.os, h.tape, h.output, Nat.le_of_eq h.size.symm, fun k _ hk => h.block k hk⟩
theorem Kq.below {r : Nat} {w w' : World} (h : Below w.heap.size w w') : Kq r w w' := ⟨h.os, h.tape, h.output, h.size, fun k hk _ => h.block k hk⟩
theorem Kq.toBelow {r B : Nat} {w w' : World} (h : Kq r w w') (hB : B ≤ r) (hs : B ≤ w.heap.size) : Below B w w' := ⟨h.os, h.tape, h.output, h.size, fun k hk => h.block k (by omega) (by omega)⟩

/-- what a call of the statements' tells of a reader: value, error, place -/
def rdOne (zs : List Nat) (p : Nat) (kind n : Int) : Nat × Nat × Nat :=
  match bring5 kind with
  | 0 => rFixed zs p n
  | 1 => (((rSigned zs p n).1 % 4294967296).toNat, (rSigned zs p n).2.1, (rSigned zs p n).2.2)
  | 2 => rUvlc zs p
  | 3 => rLeb zs p
  | _ => (0, (rAlign zs p).1, (rAlign zs p).2)

set_option maxHeartbeats 1000000 in
theorem read_rd {r : Nat} {v : Value} {zs : List Nat} {p : Nat} {w : World} (h : Rd w r v zs p) (kind n V : Int) :
    Calls Try.prog 12 #[.pointer (some ⟨r, 0, none⟩), .agg #[.int .i64 kind, .int .i64 n, .int .u32 V]] w fun e w' => e = .returned (.tuple #[.int .u32 (rdOne zs p kind n).1, .int .i64 (rdOne zs p kind n).2.1]) ∧ Rd w' r v zs (rdOne zs p kind n).2.2 ∧ Kq r w w' := by
  have hb : Below w.heap.size w (w.alloc (.cells #[.int .i64 kind, .int .i64 n, .int .u32 V] 34)) := (Below.refl _ _).alloc (Nat.le_refl _) _
  have h1 := h.below hb
  have hq : Kq r w (w.alloc (.cells #[.int .i64 kind, .int .i64 n, .int .u32 V] 34)) := Kq.below hb
  clear hb
  unfold rdOne
  have hlt := bring5_lt kind
  obtain hc | hc | hc | hc | hc : bring5 kind = 0 ∨ bring5 kind = 1 ∨ bring5 kind = 2 ∨ bring5 kind = 3 ∨ bring5 kind = 4 := by omega
  · rw [hc]
    go_enter Try.func12, Try.ntmps12
    go_wp2_with fail
    refine (bring_five kind _).mono ?_; rintro e w1 ⟨rfl, rfl⟩
    rw [hc]
    go_wp2_with fail
    refine (fixed_rd h1 n).mono ?_; rintro e w2 ⟨rfl, hr2, hk2⟩
    go_wp2_with fail
    go_ret2
    exact ⟨rfl, hr2, hq.trans hk2.kq⟩
  · rw [hc]
    go_enter Try.func12, Try.ntmps12
    go_wp2_with fail
    refine (bring_five kind _).mono ?_; rintro e w1 ⟨rfl, rfl⟩
    rw [hc]
    go_wp2_with fail
    refine (signed_rd h1 n).mono ?_; rintro e w2 ⟨rfl, hr2, hk2⟩
    go_wp2_with fail
    go_ret2
    exact ⟨ret_two (by omega) rfl, hr2, hq.trans hk2.kq⟩
  · rw [hc]
    go_enter Try.func12, Try.ntmps12
    go_wp2_with fail
    refine (bring_five kind _).mono ?_; rintro e w1 ⟨rfl, rfl⟩
    rw [hc]
    go_wp2_with fail
    refine (uvlc_rd h1).mono ?_; rintro e w2 ⟨rfl, hr2, hk2⟩
    go_wp2_with fail
    go_ret2
    exact ⟨rfl, hr2, hq.trans hk2.kq⟩
  · rw [hc]
    go_enter Try.func12, Try.ntmps12
    go_wp2_with fail
    refine (bring_five kind _).mono ?_; rintro e w1 ⟨rfl, rfl⟩
    rw [hc]
    go_wp2_with fail
    refine (leb_rd h1).mono ?_; rintro e w2 ⟨rfl, hr2, hk2⟩
    go_wp2_with fail
    go_ret2
    exact ⟨rfl, hr2, hq.trans hk2.kq⟩
  · rw [hc]
    go_enter Try.func12, Try.ntmps12
    go_wp2_with fail
    refine (bring_five kind _).mono ?_; rintro e w1 ⟨rfl, rfl⟩
    rw [hc]
    go_wp2_with fail
    refine (align_rd h1).mono ?_; rintro e w2 ⟨rfl, hr2, hk2⟩
    go_wp2_with fail
    go_ret2
    exact ⟨rfl, hr2, hq.trans hk2.kq⟩

end Go.Proofs.Ytiheldakkpbkgaa
