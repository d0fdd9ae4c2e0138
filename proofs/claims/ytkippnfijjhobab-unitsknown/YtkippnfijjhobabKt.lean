/- DERIVED. told. -/
import Derived.Test.YtkippnfijjhobabTe
namespace Go.Proofs.Ytkippnfijjhobab
open Go.RowKit

/-- what told answers of bytes -/
def tdL (b : List Nat) : Value := .agg #[.int .i64 ((splitP b).1.length : Nat), .int .i64 ((splitP b).2.1 : Nat), .int .i64 ((splitP b).2.2 : Nat)]
set_option maxHeartbeats 4000000 in
set_option maxRecDepth 100000 in
theorem told_any {w : World} {N : Nat} {v : Value} {b : List Nat} (h : By w N v b) (hN : N ≤ w.heap.size) (hL : b.length ≤ 1099511627776) :
    Calls Try.prog 4 #[v] w fun e w' => e = .returned (tdL b) ∧ Below w.heap.size w w' := by
  have HS : Hid (∀ u : World, Below w.heap.size w u → Calls Try.prog 11 #[v] u fun e w' => SplQ u.heap.size u (splitP b) e w') := fun u hu => split_any (h.below hu hN) (Nat.le_trans hN hu.size) hL
  clear h
  unfold tdL
  generalize splitP b = R at *
  obtain ⟨P, q, er⟩ := R
  go_enter Try.func4, Try.ntmps4
  go_wp2_with fail
  refine (HS.out _ (from_alloc _ _)).mono ?_
  rintro e w1 ⟨v1, rfl, hol, hb1⟩
  obtain ⟨a1, c1, rfl, _⟩ := hol.sl
  have hb2 : Below (w.heap.size + 1) (w.alloc (.cells #[.int .i64 0, .int .i64 0, .int .i64 0] 22)) w1 := by simpa using hb1
  have HB : Hid (Below w.heap.size w w1) := (from_alloc _ _).trans (hb2.mono (by omega))
  have z0 : w1.cell? ⟨w.heap.size, 0, none⟩ = some (.int .i64 0) := by rw [newCell hb2 _ _ (by omega)]; simp
  have z1 : w1.cell? ⟨w.heap.size, 1, none⟩ = some (.int .i64 0) := by rw [newCell hb2 _ _ (by omega)]; simp
  have z2 : w1.cell? ⟨w.heap.size, 2, none⟩ = some (.int .i64 0) := by rw [newCell hb2 _ _ (by omega)]; simp
  have f0 : w1.frozen? ⟨w.heap.size, 0, none⟩ = false := by rw [newFrozen hb2 _ _ (by omega)]; simp
  have f1 : w1.frozen? ⟨w.heap.size, 1, none⟩ = false := by rw [newFrozen hb2 _ _ (by omega)]; simp
  have f2 : w1.frozen? ⟨w.heap.size, 2, none⟩ = false := by rw [newFrozen hb2 _ _ (by omega)]; simp
  clear hol hb1 hb2
  simp only
  go_wp2_with fail
  (try simp only [Exit.inBlock, Exit.then])
  refine bodyPost_ret (v := .agg #[.int .i64 (P.length : Nat), .int .i64 (q : Nat), .int .i64 (er : Nat)]) (by simp [results, Try.results4, go_sem, z0, z1, z2]; try rfl) rfl ⟨rfl, ?_⟩
  exact below_set (below_set (below_set HB.out (Nat.le_refl _) _) (Nat.le_refl _) _) (Nat.le_refl _) _
end Go.Proofs.Ytkippnfijjhobab
