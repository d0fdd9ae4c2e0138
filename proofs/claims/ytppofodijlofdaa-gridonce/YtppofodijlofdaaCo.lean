/- DERIVED. vecOf. -/
import Derived.Test.YtppofodijlofdaaCn
namespace Go.Proofs.Ytppofodijlofdaa
open Go.RowKit

def vx (o : Option (Int × Int)) : Int := (o.getD (0, 0)).1
def vy (o : Option (Int × Int)) : Int := (o.getD (0, 0)).2
theorem Bc.vec {w : World} {z : Nat} {b : Bl} (h : Bc w z 0 b) : w.cell? ⟨z, 5, none⟩ = some (.bool b.it) ∧ w.cell? ⟨z, 13, none⟩ = some (.bool b.cp) ∧ w.cell? ⟨z, 14, none⟩ = some (.int .i64 b.r0) ∧ w.cell? ⟨z, 15, none⟩ = some (.int .i64 b.r1) ∧ w.cell? ⟨z, 17, none⟩ = some (.int .i64 b.u0) ∧ w.cell? ⟨z, 18, none⟩ = some (.int .i64 b.u1) ∧ w.cell? ⟨z, 19, none⟩ = some (.int .i64 b.u2) ∧ w.cell? ⟨z, 20, none⟩ = some (.int .i64 b.u3) := by
  have e : ∀ j, (⟨z, 0 + j, none⟩ : Addr) = ⟨z, j, none⟩ := fun j => by rw [Nat.zero_add]
  exact ⟨by rw [← e]; exact h.at 5 _ rfl, by rw [← e]; exact h.at 13 _ rfl, by rw [← e]; exact h.at 14 _ rfl, by rw [← e]; exact h.at 15 _ rfl, by rw [← e]; exact h.at 17 _ rfl, by rw [← e]; exact h.at 18 _ rfl, by rw [← e]; exact h.at 19 _ rfl, by rw [← e]; exact h.at 20 _ rfl⟩
set_option maxRecDepth 100000 in
set_option maxHeartbeats 2000000 in
theorem vecOf_any {w : World} {b : Bl} {r : Int} : Calls Try.prog 38 #[.agg b.cs.toArray, .int .i64 r] w fun e w' => e = .returned (.tuple #[.agg #[.int .i64 (vx (vo b r)), .int .i64 (vy (vo b r))], .bool (vo b r).isSome]) ∧ Below w.heap.size w w' := by
  have HB : Hid (Below w.heap.size w ((w.alloc (.cells b.cs.toArray 40)).alloc (.cells #[.int .i64 0, .int .i64 0] 37))) := to_alloc (from_alloc _ _) _
  have HZ : Hid ((w.alloc (.cells b.cs.toArray 40)).heap.size = w.heap.size + 1) := by show _ = _; simp
  have HC : Hid (Bc ((w.alloc (.cells b.cs.toArray 40)).alloc (.cells #[.int .i64 0, .int .i64 0] 37)) w.heap.size 0 b) := (Bc.box w b).to (from_alloc _ _)
  have k0 : ((w.alloc (.cells b.cs.toArray 40)).alloc (.cells #[.int .i64 0, .int .i64 0] 37)).cell? ⟨w.heap.size + 1, 0, none⟩ = some (.int .i64 0) := by rw [← HZ.out]; simp [go_sem]
  have k1 : ((w.alloc (.cells b.cs.toArray 40)).alloc (.cells #[.int .i64 0, .int .i64 0] 37)).cell? ⟨w.heap.size + 1, 1, none⟩ = some (.int .i64 0) := by rw [← HZ.out]; simp [go_sem]
  have f0 : ((w.alloc (.cells b.cs.toArray 40)).alloc (.cells #[.int .i64 0, .int .i64 0] 37)).frozen? ⟨w.heap.size + 1, 0, none⟩ = false := by rw [← HZ.out]; simp [go_sem]
  have f1 : ((w.alloc (.cells b.cs.toArray 40)).alloc (.cells #[.int .i64 0, .int .i64 0] 37)).frozen? ⟨w.heap.size + 1, 1, none⟩ = false := by rw [← HZ.out]; simp [go_sem]
  obtain ⟨o, ho⟩ : ∃ o, o = vo b r := ⟨_, rfl⟩
  have HO : Hid (o = if b.it = true then (if b.r0 = r then some (b.u0, b.u1) else if b.cp = true ∧ b.r1 = r then some (b.u2, b.u3) else none) else none) := ho
  rw [← ho]
  clear ho
  go_enter Try.func38, Try.ntmps38
  go_upto_region 1 with fail

  generalize ((w.alloc (.cells b.cs.toArray 40)).alloc (.cells #[.int .i64 0, .int .i64 0] 37)) = V at *
  obtain ⟨c5, c13, c14, c15, c17, c18, c19, c20⟩ := HC.out.vec
  clear HC HZ
  generalize hP : w.heap.size = z at *
  have HP : Hid (w.heap.size = z) := hP
  clear hP
  cases h1 : b.it
  · rw [h1] at c5 HO
    have HQ : Hid (o = none) := HO.out
    clear HO h1
    go_wp2_with fail
    refine bodyPost_ret (v := .tuple #[.agg #[.int .i64 0, .int .i64 0], .bool false]) (by rw [results_cell_tmp Try.results38]; simp [go_sem, k0, k1]) rfl ?_
    exact ⟨by rw [HQ.out]; rfl, by rw [HP.out]; exact below_set (below_set HB.out (by show z ≤ z + 1; omega) _) (by show z ≤ z + 1; omega) _⟩
  · rw [h1] at c5 HO
    by_cases h2 : b.r0 = r
    · have HQ : Hid (o = some (b.u0, b.u1)) := by show _ = _; rw [HO.out, if_pos rfl, if_pos h2]
      clear HO h1
      go_wp2_with fail
      refine bodyPost_ret (v := .tuple #[.agg #[.int .i64 b.u0, .int .i64 b.u1], .bool true]) (by rw [results_cell_tmp Try.results38]; simp [go_sem, k0, k1]) rfl ?_
      exact ⟨by rw [HQ.out]; rfl, by rw [HP.out]; exact below_set (below_set HB.out (by show z ≤ z + 1; omega) _) (by show z ≤ z + 1; omega) _⟩
    · have h2' : (b.r0 == r) = false := by rw [beq_eq_false_iff_ne]; exact h2
      cases h3 : b.cp
      · rw [h3] at c13 HO
        have HQ : Hid (o = none) := by show _ = _; rw [HO.out, if_pos rfl, if_neg h2]; rfl
        clear HO h1 h3 h2
        go_wp2_with fail
        refine bodyPost_ret (v := .tuple #[.agg #[.int .i64 0, .int .i64 0], .bool false]) (by rw [results_cell_tmp Try.results38]; simp [go_sem, k0, k1]) rfl ?_
        exact ⟨by rw [HQ.out]; rfl, by rw [HP.out]; exact below_set (below_set HB.out (by show z ≤ z + 1; omega) _) (by show z ≤ z + 1; omega) _⟩
      · rw [h3] at c13 HO
        by_cases h4 : b.r1 = r
        · have HQ : Hid (o = some (b.u2, b.u3)) := by show _ = _; rw [HO.out, if_pos rfl, if_neg h2, if_pos ⟨rfl, h4⟩]
          clear HO h1 h3 h2
          go_wp2_with fail
          refine bodyPost_ret (v := .tuple #[.agg #[.int .i64 b.u2, .int .i64 b.u3], .bool true]) (by rw [results_cell_tmp Try.results38]; simp [go_sem, k0, k1]) rfl ?_
          exact ⟨by rw [HQ.out]; rfl, by rw [HP.out]; exact below_set (below_set HB.out (by show z ≤ z + 1; omega) _) (by show z ≤ z + 1; omega) _⟩
        · have h4' : (b.r1 == r) = false := by rw [beq_eq_false_iff_ne]; exact h4
          have HQ : Hid (o = none) := by show _ = _; rw [HO.out, if_pos rfl, if_neg h2, if_neg (fun q => h4 q.2)]
          clear HO h1 h3 h2 h4
          go_wp2_with fail
          refine bodyPost_ret (v := .tuple #[.agg #[.int .i64 0, .int .i64 0], .bool false]) (by rw [results_cell_tmp Try.results38]; simp [go_sem, k0, k1]) rfl ?_
          exact ⟨by rw [HQ.out]; rfl, by rw [HP.out]; exact below_set (below_set HB.out (by show z ≤ z + 1; omega) _) (by show z ≤ z + 1; omega) _⟩
end Go.Proofs.Ytppofodijlofdaa
