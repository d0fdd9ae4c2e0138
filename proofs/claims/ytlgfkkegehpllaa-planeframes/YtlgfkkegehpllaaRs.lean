/- DERIVED. SameFrame of the document, toldFrame of the statements. -/
import Derived.Test.YtlgfkkegehpllaaRl
namespace Go.Proofs.Ytlgfkkegehpllaa
open Go.RowKit

set_option maxRecDepth 100000 in
set_option maxHeartbeats 2000000 in
theorem sameFrame_true {u : World} {W0 H0 W1 H1 W2 H2 : Int} {a0 a1 a2 b0 b1 b2 : Option Addr} {c0 c1 c2 d0 d1 d2 : Nat} {C0 C1 C2 : List Nat} (s0 : Sl u .u8 a0 C0) (s1 : Sl u .u8 a1 C1) (s2 : Sl u .u8 a2 C2) (t0 : Sl u .u8 b0 C0) (t1 : Sl u .u8 b1 C1) (t2 : Sl u .u8 b2 C2) (l0 : C0.length ≤ 140737488355328) (l1 : C1.length ≤ 140737488355328) (l2 : C2.length ≤ 140737488355328) :
    Calls Try.prog 41 #[.agg #[.int .i64 W0, .int .i64 H0, .slice a0 C0.length c0, .int .i64 W1, .int .i64 H1, .slice a1 C1.length c1, .int .i64 W2, .int .i64 H2, .slice a2 C2.length c2], .agg #[.int .i64 W0, .int .i64 H0, .slice b0 C0.length d0, .int .i64 W1, .int .i64 H1, .slice b1 C1.length d1, .int .i64 W2, .int .i64 H2, .slice b2 C2.length d2]] u fun e w' => e = .returned (.bool true) ∧ Below u.heap.size u w' := by
  have HB : Hid (Below u.heap.size u ((u.alloc (.cells #[.int .i64 W0, .int .i64 H0, .slice a0 C0.length c0, .int .i64 W1, .int .i64 H1, .slice a1 C1.length c1, .int .i64 W2, .int .i64 H2, .slice a2 C2.length c2] 51)).alloc (.cells #[.int .i64 W0, .int .i64 H0, .slice b0 C0.length d0, .int .i64 W1, .int .i64 H1, .slice b1 C1.length d1, .int .i64 W2, .int .i64 H2, .slice b2 C2.length d2] 51))) := to_alloc (from_alloc _ _) _
  have hz : ((u.alloc (.cells #[.int .i64 W0, .int .i64 H0, .slice a0 C0.length c0, .int .i64 W1, .int .i64 H1, .slice a1 C1.length c1, .int .i64 W2, .int .i64 H2, .slice a2 C2.length c2] 51)).alloc (.cells #[.int .i64 W0, .int .i64 H0, .slice b0 C0.length d0, .int .i64 W1, .int .i64 H1, .slice b1 C1.length d1, .int .i64 W2, .int .i64 H2, .slice b2 C2.length d2] 51)).heap.size = u.heap.size + 2 := by simp
  have x0 : ((u.alloc (.cells #[.int .i64 W0, .int .i64 H0, .slice a0 C0.length c0, .int .i64 W1, .int .i64 H1, .slice a1 C1.length c1, .int .i64 W2, .int .i64 H2, .slice a2 C2.length c2] 51)).alloc (.cells #[.int .i64 W0, .int .i64 H0, .slice b0 C0.length d0, .int .i64 W1, .int .i64 H1, .slice b1 C1.length d1, .int .i64 W2, .int .i64 H2, .slice b2 C2.length d2] 51)).cell? ⟨u.heap.size, 0, none⟩ = some (.int .i64 W0) := by simp [go_sem]
  have x1 : ((u.alloc (.cells #[.int .i64 W0, .int .i64 H0, .slice a0 C0.length c0, .int .i64 W1, .int .i64 H1, .slice a1 C1.length c1, .int .i64 W2, .int .i64 H2, .slice a2 C2.length c2] 51)).alloc (.cells #[.int .i64 W0, .int .i64 H0, .slice b0 C0.length d0, .int .i64 W1, .int .i64 H1, .slice b1 C1.length d1, .int .i64 W2, .int .i64 H2, .slice b2 C2.length d2] 51)).cell? ⟨u.heap.size, 1, none⟩ = some (.int .i64 H0) := by simp [go_sem]
  have x2 : ((u.alloc (.cells #[.int .i64 W0, .int .i64 H0, .slice a0 C0.length c0, .int .i64 W1, .int .i64 H1, .slice a1 C1.length c1, .int .i64 W2, .int .i64 H2, .slice a2 C2.length c2] 51)).alloc (.cells #[.int .i64 W0, .int .i64 H0, .slice b0 C0.length d0, .int .i64 W1, .int .i64 H1, .slice b1 C1.length d1, .int .i64 W2, .int .i64 H2, .slice b2 C2.length d2] 51)).cell? ⟨u.heap.size, 2, none⟩ = some (.slice a0 C0.length c0) := by simp [go_sem]
  have x3 : ((u.alloc (.cells #[.int .i64 W0, .int .i64 H0, .slice a0 C0.length c0, .int .i64 W1, .int .i64 H1, .slice a1 C1.length c1, .int .i64 W2, .int .i64 H2, .slice a2 C2.length c2] 51)).alloc (.cells #[.int .i64 W0, .int .i64 H0, .slice b0 C0.length d0, .int .i64 W1, .int .i64 H1, .slice b1 C1.length d1, .int .i64 W2, .int .i64 H2, .slice b2 C2.length d2] 51)).cell? ⟨u.heap.size, 3, none⟩ = some (.int .i64 W1) := by simp [go_sem]
  have x4 : ((u.alloc (.cells #[.int .i64 W0, .int .i64 H0, .slice a0 C0.length c0, .int .i64 W1, .int .i64 H1, .slice a1 C1.length c1, .int .i64 W2, .int .i64 H2, .slice a2 C2.length c2] 51)).alloc (.cells #[.int .i64 W0, .int .i64 H0, .slice b0 C0.length d0, .int .i64 W1, .int .i64 H1, .slice b1 C1.length d1, .int .i64 W2, .int .i64 H2, .slice b2 C2.length d2] 51)).cell? ⟨u.heap.size, 4, none⟩ = some (.int .i64 H1) := by simp [go_sem]
  have x5 : ((u.alloc (.cells #[.int .i64 W0, .int .i64 H0, .slice a0 C0.length c0, .int .i64 W1, .int .i64 H1, .slice a1 C1.length c1, .int .i64 W2, .int .i64 H2, .slice a2 C2.length c2] 51)).alloc (.cells #[.int .i64 W0, .int .i64 H0, .slice b0 C0.length d0, .int .i64 W1, .int .i64 H1, .slice b1 C1.length d1, .int .i64 W2, .int .i64 H2, .slice b2 C2.length d2] 51)).cell? ⟨u.heap.size, 5, none⟩ = some (.slice a1 C1.length c1) := by simp [go_sem]
  have x6 : ((u.alloc (.cells #[.int .i64 W0, .int .i64 H0, .slice a0 C0.length c0, .int .i64 W1, .int .i64 H1, .slice a1 C1.length c1, .int .i64 W2, .int .i64 H2, .slice a2 C2.length c2] 51)).alloc (.cells #[.int .i64 W0, .int .i64 H0, .slice b0 C0.length d0, .int .i64 W1, .int .i64 H1, .slice b1 C1.length d1, .int .i64 W2, .int .i64 H2, .slice b2 C2.length d2] 51)).cell? ⟨u.heap.size, 6, none⟩ = some (.int .i64 W2) := by simp [go_sem]
  have x7 : ((u.alloc (.cells #[.int .i64 W0, .int .i64 H0, .slice a0 C0.length c0, .int .i64 W1, .int .i64 H1, .slice a1 C1.length c1, .int .i64 W2, .int .i64 H2, .slice a2 C2.length c2] 51)).alloc (.cells #[.int .i64 W0, .int .i64 H0, .slice b0 C0.length d0, .int .i64 W1, .int .i64 H1, .slice b1 C1.length d1, .int .i64 W2, .int .i64 H2, .slice b2 C2.length d2] 51)).cell? ⟨u.heap.size, 7, none⟩ = some (.int .i64 H2) := by simp [go_sem]
  have x8 : ((u.alloc (.cells #[.int .i64 W0, .int .i64 H0, .slice a0 C0.length c0, .int .i64 W1, .int .i64 H1, .slice a1 C1.length c1, .int .i64 W2, .int .i64 H2, .slice a2 C2.length c2] 51)).alloc (.cells #[.int .i64 W0, .int .i64 H0, .slice b0 C0.length d0, .int .i64 W1, .int .i64 H1, .slice b1 C1.length d1, .int .i64 W2, .int .i64 H2, .slice b2 C2.length d2] 51)).cell? ⟨u.heap.size, 8, none⟩ = some (.slice a2 C2.length c2) := by simp [go_sem]
  have y0 : ((u.alloc (.cells #[.int .i64 W0, .int .i64 H0, .slice a0 C0.length c0, .int .i64 W1, .int .i64 H1, .slice a1 C1.length c1, .int .i64 W2, .int .i64 H2, .slice a2 C2.length c2] 51)).alloc (.cells #[.int .i64 W0, .int .i64 H0, .slice b0 C0.length d0, .int .i64 W1, .int .i64 H1, .slice b1 C1.length d1, .int .i64 W2, .int .i64 H2, .slice b2 C2.length d2] 51)).cell? ⟨u.heap.size + 1, 0, none⟩ = some (.int .i64 W0) := by simp [go_sem]
  have y1 : ((u.alloc (.cells #[.int .i64 W0, .int .i64 H0, .slice a0 C0.length c0, .int .i64 W1, .int .i64 H1, .slice a1 C1.length c1, .int .i64 W2, .int .i64 H2, .slice a2 C2.length c2] 51)).alloc (.cells #[.int .i64 W0, .int .i64 H0, .slice b0 C0.length d0, .int .i64 W1, .int .i64 H1, .slice b1 C1.length d1, .int .i64 W2, .int .i64 H2, .slice b2 C2.length d2] 51)).cell? ⟨u.heap.size + 1, 1, none⟩ = some (.int .i64 H0) := by simp [go_sem]
  have y2 : ((u.alloc (.cells #[.int .i64 W0, .int .i64 H0, .slice a0 C0.length c0, .int .i64 W1, .int .i64 H1, .slice a1 C1.length c1, .int .i64 W2, .int .i64 H2, .slice a2 C2.length c2] 51)).alloc (.cells #[.int .i64 W0, .int .i64 H0, .slice b0 C0.length d0, .int .i64 W1, .int .i64 H1, .slice b1 C1.length d1, .int .i64 W2, .int .i64 H2, .slice b2 C2.length d2] 51)).cell? ⟨u.heap.size + 1, 2, none⟩ = some (.slice b0 C0.length d0) := by simp [go_sem]
  have y3 : ((u.alloc (.cells #[.int .i64 W0, .int .i64 H0, .slice a0 C0.length c0, .int .i64 W1, .int .i64 H1, .slice a1 C1.length c1, .int .i64 W2, .int .i64 H2, .slice a2 C2.length c2] 51)).alloc (.cells #[.int .i64 W0, .int .i64 H0, .slice b0 C0.length d0, .int .i64 W1, .int .i64 H1, .slice b1 C1.length d1, .int .i64 W2, .int .i64 H2, .slice b2 C2.length d2] 51)).cell? ⟨u.heap.size + 1, 3, none⟩ = some (.int .i64 W1) := by simp [go_sem]
  have y4 : ((u.alloc (.cells #[.int .i64 W0, .int .i64 H0, .slice a0 C0.length c0, .int .i64 W1, .int .i64 H1, .slice a1 C1.length c1, .int .i64 W2, .int .i64 H2, .slice a2 C2.length c2] 51)).alloc (.cells #[.int .i64 W0, .int .i64 H0, .slice b0 C0.length d0, .int .i64 W1, .int .i64 H1, .slice b1 C1.length d1, .int .i64 W2, .int .i64 H2, .slice b2 C2.length d2] 51)).cell? ⟨u.heap.size + 1, 4, none⟩ = some (.int .i64 H1) := by simp [go_sem]
  have y5 : ((u.alloc (.cells #[.int .i64 W0, .int .i64 H0, .slice a0 C0.length c0, .int .i64 W1, .int .i64 H1, .slice a1 C1.length c1, .int .i64 W2, .int .i64 H2, .slice a2 C2.length c2] 51)).alloc (.cells #[.int .i64 W0, .int .i64 H0, .slice b0 C0.length d0, .int .i64 W1, .int .i64 H1, .slice b1 C1.length d1, .int .i64 W2, .int .i64 H2, .slice b2 C2.length d2] 51)).cell? ⟨u.heap.size + 1, 5, none⟩ = some (.slice b1 C1.length d1) := by simp [go_sem]
  have y6 : ((u.alloc (.cells #[.int .i64 W0, .int .i64 H0, .slice a0 C0.length c0, .int .i64 W1, .int .i64 H1, .slice a1 C1.length c1, .int .i64 W2, .int .i64 H2, .slice a2 C2.length c2] 51)).alloc (.cells #[.int .i64 W0, .int .i64 H0, .slice b0 C0.length d0, .int .i64 W1, .int .i64 H1, .slice b1 C1.length d1, .int .i64 W2, .int .i64 H2, .slice b2 C2.length d2] 51)).cell? ⟨u.heap.size + 1, 6, none⟩ = some (.int .i64 W2) := by simp [go_sem]
  have y7 : ((u.alloc (.cells #[.int .i64 W0, .int .i64 H0, .slice a0 C0.length c0, .int .i64 W1, .int .i64 H1, .slice a1 C1.length c1, .int .i64 W2, .int .i64 H2, .slice a2 C2.length c2] 51)).alloc (.cells #[.int .i64 W0, .int .i64 H0, .slice b0 C0.length d0, .int .i64 W1, .int .i64 H1, .slice b1 C1.length d1, .int .i64 W2, .int .i64 H2, .slice b2 C2.length d2] 51)).cell? ⟨u.heap.size + 1, 7, none⟩ = some (.int .i64 H2) := by simp [go_sem]
  have y8 : ((u.alloc (.cells #[.int .i64 W0, .int .i64 H0, .slice a0 C0.length c0, .int .i64 W1, .int .i64 H1, .slice a1 C1.length c1, .int .i64 W2, .int .i64 H2, .slice a2 C2.length c2] 51)).alloc (.cells #[.int .i64 W0, .int .i64 H0, .slice b0 C0.length d0, .int .i64 W1, .int .i64 H1, .slice b1 C1.length d1, .int .i64 W2, .int .i64 H2, .slice b2 C2.length d2] 51)).cell? ⟨u.heap.size + 1, 8, none⟩ = some (.slice b2 C2.length d2) := by simp [go_sem]
  have HS0 : Hid (Sl u .u8 a0 C0) := s0
  have HT0 : Hid (Sl u .u8 b0 C0) := t0
  have HS1 : Hid (Sl u .u8 a1 C1) := s1
  have HT1 : Hid (Sl u .u8 b1 C1) := t1
  have HS2 : Hid (Sl u .u8 a2 C2) := s2
  have HT2 : Hid (Sl u .u8 b2 C2) := t2
  clear s0 s1 s2 t0 t1 t2
  go_enter Try.func41, Try.ntmps41
  go_wp2_with fail
  generalize ((u.alloc (.cells #[.int .i64 W0, .int .i64 H0, .slice a0 C0.length c0, .int .i64 W1, .int .i64 H1, .slice a1 C1.length c1, .int .i64 W2, .int .i64 H2, .slice a2 C2.length c2] 51)).alloc (.cells #[.int .i64 W0, .int .i64 H0, .slice b0 C0.length d0, .int .i64 W1, .int .i64 H1, .slice b1 C1.length d1, .int .i64 W2, .int .i64 H2, .slice b2 C2.length d2] 51)) = V at *
  refine (rsame_any (HS0.out.to HB.out) (HT0.out.to HB.out) l0 l0).mono ?_
  rintro e w1 ⟨rfl, hb1⟩
  rw [smB_self]
  have HB1 : Hid (Below u.heap.size u w1) := below_to HB.out hb1
  have p0 : w1.cell? ⟨u.heap.size, 0, none⟩ = some (.int .i64 W0) := by rw [newCell hb1 _ _ (by omega)]; exact x0
  have p1 : w1.cell? ⟨u.heap.size, 1, none⟩ = some (.int .i64 H0) := by rw [newCell hb1 _ _ (by omega)]; exact x1
  have p2 : w1.cell? ⟨u.heap.size, 2, none⟩ = some (.slice a0 C0.length c0) := by rw [newCell hb1 _ _ (by omega)]; exact x2
  have p3 : w1.cell? ⟨u.heap.size, 3, none⟩ = some (.int .i64 W1) := by rw [newCell hb1 _ _ (by omega)]; exact x3
  have p4 : w1.cell? ⟨u.heap.size, 4, none⟩ = some (.int .i64 H1) := by rw [newCell hb1 _ _ (by omega)]; exact x4
  have p5 : w1.cell? ⟨u.heap.size, 5, none⟩ = some (.slice a1 C1.length c1) := by rw [newCell hb1 _ _ (by omega)]; exact x5
  have p6 : w1.cell? ⟨u.heap.size, 6, none⟩ = some (.int .i64 W2) := by rw [newCell hb1 _ _ (by omega)]; exact x6
  have p7 : w1.cell? ⟨u.heap.size, 7, none⟩ = some (.int .i64 H2) := by rw [newCell hb1 _ _ (by omega)]; exact x7
  have p8 : w1.cell? ⟨u.heap.size, 8, none⟩ = some (.slice a2 C2.length c2) := by rw [newCell hb1 _ _ (by omega)]; exact x8
  have q0 : w1.cell? ⟨u.heap.size + 1, 0, none⟩ = some (.int .i64 W0) := by rw [newCell hb1 _ _ (by omega)]; exact y0
  have q1 : w1.cell? ⟨u.heap.size + 1, 1, none⟩ = some (.int .i64 H0) := by rw [newCell hb1 _ _ (by omega)]; exact y1
  have q2 : w1.cell? ⟨u.heap.size + 1, 2, none⟩ = some (.slice b0 C0.length d0) := by rw [newCell hb1 _ _ (by omega)]; exact y2
  have q3 : w1.cell? ⟨u.heap.size + 1, 3, none⟩ = some (.int .i64 W1) := by rw [newCell hb1 _ _ (by omega)]; exact y3
  have q4 : w1.cell? ⟨u.heap.size + 1, 4, none⟩ = some (.int .i64 H1) := by rw [newCell hb1 _ _ (by omega)]; exact y4
  have q5 : w1.cell? ⟨u.heap.size + 1, 5, none⟩ = some (.slice b1 C1.length d1) := by rw [newCell hb1 _ _ (by omega)]; exact y5
  have q6 : w1.cell? ⟨u.heap.size + 1, 6, none⟩ = some (.int .i64 W2) := by rw [newCell hb1 _ _ (by omega)]; exact y6
  have q7 : w1.cell? ⟨u.heap.size + 1, 7, none⟩ = some (.int .i64 H2) := by rw [newCell hb1 _ _ (by omega)]; exact y7
  have q8 : w1.cell? ⟨u.heap.size + 1, 8, none⟩ = some (.slice b2 C2.length d2) := by rw [newCell hb1 _ _ (by omega)]; exact y8
  have hz1 : u.heap.size + 2 ≤ w1.heap.size := by have := hb1.size; omega
  clear hb1 x0 y0 x1 y1 x2 y2 x3 y3 x4 y4 x5 y5 x6 y6 x7 y7 x8 y8
  go_wp2_with fail
  refine (rsame_any (HS1.out.to HB1.out) (HT1.out.to HB1.out) l1 l1).mono ?_
  rintro e w2 ⟨rfl, hb2⟩
  rw [smB_self]
  have HB2 : Hid (Below u.heap.size u w2) := below_to HB1.out hb2
  have x0 : w2.cell? ⟨u.heap.size, 0, none⟩ = some (.int .i64 W0) := by rw [newCell hb2 _ _ (by omega)]; exact p0
  have x1 : w2.cell? ⟨u.heap.size, 1, none⟩ = some (.int .i64 H0) := by rw [newCell hb2 _ _ (by omega)]; exact p1
  have x2 : w2.cell? ⟨u.heap.size, 2, none⟩ = some (.slice a0 C0.length c0) := by rw [newCell hb2 _ _ (by omega)]; exact p2
  have x3 : w2.cell? ⟨u.heap.size, 3, none⟩ = some (.int .i64 W1) := by rw [newCell hb2 _ _ (by omega)]; exact p3
  have x4 : w2.cell? ⟨u.heap.size, 4, none⟩ = some (.int .i64 H1) := by rw [newCell hb2 _ _ (by omega)]; exact p4
  have x5 : w2.cell? ⟨u.heap.size, 5, none⟩ = some (.slice a1 C1.length c1) := by rw [newCell hb2 _ _ (by omega)]; exact p5
  have x6 : w2.cell? ⟨u.heap.size, 6, none⟩ = some (.int .i64 W2) := by rw [newCell hb2 _ _ (by omega)]; exact p6
  have x7 : w2.cell? ⟨u.heap.size, 7, none⟩ = some (.int .i64 H2) := by rw [newCell hb2 _ _ (by omega)]; exact p7
  have x8 : w2.cell? ⟨u.heap.size, 8, none⟩ = some (.slice a2 C2.length c2) := by rw [newCell hb2 _ _ (by omega)]; exact p8
  have y0 : w2.cell? ⟨u.heap.size + 1, 0, none⟩ = some (.int .i64 W0) := by rw [newCell hb2 _ _ (by omega)]; exact q0
  have y1 : w2.cell? ⟨u.heap.size + 1, 1, none⟩ = some (.int .i64 H0) := by rw [newCell hb2 _ _ (by omega)]; exact q1
  have y2 : w2.cell? ⟨u.heap.size + 1, 2, none⟩ = some (.slice b0 C0.length d0) := by rw [newCell hb2 _ _ (by omega)]; exact q2
  have y3 : w2.cell? ⟨u.heap.size + 1, 3, none⟩ = some (.int .i64 W1) := by rw [newCell hb2 _ _ (by omega)]; exact q3
  have y4 : w2.cell? ⟨u.heap.size + 1, 4, none⟩ = some (.int .i64 H1) := by rw [newCell hb2 _ _ (by omega)]; exact q4
  have y5 : w2.cell? ⟨u.heap.size + 1, 5, none⟩ = some (.slice b1 C1.length d1) := by rw [newCell hb2 _ _ (by omega)]; exact q5
  have y6 : w2.cell? ⟨u.heap.size + 1, 6, none⟩ = some (.int .i64 W2) := by rw [newCell hb2 _ _ (by omega)]; exact q6
  have y7 : w2.cell? ⟨u.heap.size + 1, 7, none⟩ = some (.int .i64 H2) := by rw [newCell hb2 _ _ (by omega)]; exact q7
  have y8 : w2.cell? ⟨u.heap.size + 1, 8, none⟩ = some (.slice b2 C2.length d2) := by rw [newCell hb2 _ _ (by omega)]; exact q8
  clear hb2 p0 q0 p1 q1 p2 q2 p3 q3 p4 q4 p5 q5 p6 q6 p7 q7 p8 q8
  go_wp2_with fail
  refine (rsame_any (HS2.out.to HB2.out) (HT2.out.to HB2.out) l2 l2).mono ?_
  rintro e w3 ⟨rfl, hb3⟩
  rw [smB_self]
  have HB3 : Hid (Below u.heap.size u w3) := below_to HB2.out hb3
  clear hb3
  go_wp2_with fail
  go_ret
  exact ⟨rfl, HB3.out⟩

theorem spoil_far {u0 u : World} {a : Option Addr} {c : Nat} {C : List Nat} {W H : Int} (h : Rn u0 u a C) (hl : C.length ≤ 140737488355328) :
    Calls Try.prog 50 #[.agg #[.int .i64 W, .int .i64 H, .slice a C.length c]] u fun r w' => r = .returned (.tuple #[]) ∧ Ka a u w' := by
  rcases h with ⟨rfl, rfl⟩ | ⟨g, rfl, hg, hr⟩
  · exact spoil_nil.mono (by rintro r w' ⟨rfl, hb⟩; exact ⟨rfl, hb.os, hb.tape, hb.output, hb.size, fun i hi _ => hb.block i hi⟩)
  · exact (spoil_rw hr hl).mono (by rintro r w' ⟨rfl, hb⟩; exact ⟨rfl, hb.os, hb.tape, hb.output, hb.size, fun i hi k => hb.block i hi (k g rfl)⟩)
/-- of the blocks of v only those of three rows have turned -/
structure Kt (a0 a1 a2 : Option Addr) (v w : World) : Prop where
  os : w.os = v.os
  tape : w.tape = v.tape
  output : w.output = v.output
  size : v.heap.size ≤ w.heap.size
  block : ∀ i, i < v.heap.size → (∀ g, a0 = some ⟨g, 0, none⟩ → i ≠ g) → (∀ g, a1 = some ⟨g, 0, none⟩ → i ≠ g) → (∀ g, a2 = some ⟨g, 0, none⟩ → i ≠ g) → w.heap[i]? = v.heap[i]?
theorem Kt.refl (a0 a1 a2 : Option Addr) (v : World) : Kt a0 a1 a2 v v := ⟨rfl, rfl, rfl, Nat.le_refl _, fun _ _ _ _ _ => rfl⟩
theorem Kt.ka {a0 a1 a2 b : Option Addr} {v w x : World} (h : Kt a0 a1 a2 v w) (k : Ka b w x) (hb : b = a0 ∨ b = a1 ∨ b = a2) : Kt a0 a1 a2 v x :=
  ⟨k.os.trans h.os, k.tape.trans h.tape, k.output.trans h.output, Nat.le_trans h.size k.size, fun i hi k0 k1 k2 => by
    rw [k.block i (Nat.lt_of_lt_of_le hi h.size) (fun g e => by rcases hb with rfl | rfl | rfl; exact k0 g e; exact k1 g e; exact k2 g e)]
    exact h.block i hi k0 k1 k2⟩
theorem Kt.from {a0 a1 a2 : Option Addr} {u v w : World} (hb : Below u.heap.size u v) (h : Kt a0 a1 a2 v w) : Kt a0 a1 a2 u w :=
  ⟨h.os.trans hb.os, h.tape.trans hb.tape, h.output.trans hb.output, Nat.le_trans hb.size h.size, fun i hi k0 k1 k2 => by rw [h.block i (Nat.lt_of_lt_of_le hi hb.size) k0 k1 k2]; exact hb.block i hi⟩
theorem Kt.cell {a0 a1 a2 : Option Addr} {v w : World} (h : Kt a0 a1 a2 v w) (i o : Nat) (hi : i < v.heap.size) (k0 : ∀ g, a0 = some ⟨g, 0, none⟩ → i ≠ g) (k1 : ∀ g, a1 = some ⟨g, 0, none⟩ → i ≠ g) (k2 : ∀ g, a2 = some ⟨g, 0, none⟩ → i ≠ g) : w.cell? ⟨i, o, none⟩ = v.cell? ⟨i, o, none⟩ := World.cell?_of_block (w := v) (a := ⟨i, o, none⟩) (h.block i hi k0 k1 k2)
theorem Kt.below {a0 a1 a2 : Option Addr} {B : Nat} {v w : World} (h : Kt a0 a1 a2 v w) (h2 : B ≤ v.heap.size) (k0 : ∀ g, a0 = some ⟨g, 0, none⟩ → B ≤ g) (k1 : ∀ g, a1 = some ⟨g, 0, none⟩ → B ≤ g) (k2 : ∀ g, a2 = some ⟨g, 0, none⟩ → B ≤ g) : Below B v w :=
  ⟨h.os, h.tape, h.output, h.size, fun i hi => h.block i (by omega) (fun g e => by have := k0 g e; omega) (fun g e => by have := k1 g e; omega) (fun g e => by have := k2 g e; omega)⟩
theorem Rn.kt {u v w : World} {a0 a1 a2 b : Option Addr} {L : List Nat} (h : Rn u v b L) (k : Kt a0 a1 a2 v w) (h0 : ∀ g g', a0 = some ⟨g, 0, none⟩ → b = some ⟨g', 0, none⟩ → g' ≠ g) (h1 : ∀ g g', a1 = some ⟨g, 0, none⟩ → b = some ⟨g', 0, none⟩ → g' ≠ g) (h2 : ∀ g g', a2 = some ⟨g, 0, none⟩ → b = some ⟨g', 0, none⟩ → g' ≠ g) : Rn u w b L := by
  rcases h with h | ⟨g, e, h2', h3⟩
  · exact Or.inl h
  · exact Or.inr ⟨g, e, h2', h3.carry (k.block g h3.lt (fun g' x => h0 g' g x e) (fun g' x => h1 g' g x e) (fun g' x => h2 g' g x e))⟩
/-- two rows that are not one -/
def Ap (a b : Option Addr) : Prop := ∀ g g', a = some ⟨g, 0, none⟩ → b = some ⟨g', 0, none⟩ → g' ≠ g

structure TfI (u0 V : World) (a0 a1 a2 : Option Addr) (C0 C1 C2 : List Nat) (iv : Value) (wr : World) : Prop where
  ex : ∃ k : Nat, k ≤ 3 ∧ iv = .int .i64 k ∧ Kt a0 a1 a2 V wr ∧ (k ≤ 0 → Rn u0 wr a0 C0) ∧ (k ≤ 1 → Rn u0 wr a1 C1) ∧ (k ≤ 2 → Rn u0 wr a2 C2)

set_option maxRecDepth 100000 in
set_option maxHeartbeats 4000000 in
theorem toldFrame_any {u0 : World} {u : World} {W0 H0 W1 H1 W2 H2 : Int} {a0 a1 a2 b0 b1 b2 : Option Addr} {c0 c1 c2 d0 d1 d2 : Nat} {C0 C1 C2 : List Nat} {er : Int} (s0 : Rn u0 u a0 C0) (s1 : Rn u0 u a1 C1) (s2 : Rn u0 u a2 C2) (n01 : Ap a0 a1) (n02 : Ap a0 a2) (n12 : Ap a1 a2) (t0 : Sl u .u8 b0 C0) (t1 : Sl u .u8 b1 C1) (t2 : Sl u .u8 b2 C2) (l0 : C0.length ≤ 140737488355328) (l1 : C1.length ≤ 140737488355328) (l2 : C2.length ≤ 140737488355328) :
    Calls Try.prog 40 #[.agg #[.int .i64 W0, .int .i64 H0, .slice a0 C0.length c0, .int .i64 W1, .int .i64 H1, .slice a1 C1.length c1, .int .i64 W2, .int .i64 H2, .slice a2 C2.length c2], .int .i64 er, .agg #[.int .i64 W0, .int .i64 H0, .slice b0 C0.length d0, .int .i64 W1, .int .i64 H1, .slice b1 C1.length d1, .int .i64 W2, .int .i64 H2, .slice b2 C2.length d2], .int .i64 er] u fun e w' => e = .returned (.bool true) ∧ Kt a0 a1 a2 u w' := by
  have HB : Hid (Below u.heap.size u ((u.alloc (.cells #[.int .i64 W0, .int .i64 H0, .slice a0 C0.length c0, .int .i64 W1, .int .i64 H1, .slice a1 C1.length c1, .int .i64 W2, .int .i64 H2, .slice a2 C2.length c2] 51)).alloc (.cells #[.int .i64 W0, .int .i64 H0, .slice b0 C0.length d0, .int .i64 W1, .int .i64 H1, .slice b1 C1.length d1, .int .i64 W2, .int .i64 H2, .slice b2 C2.length d2] 51))) := to_alloc (from_alloc _ _) _
  have hz : ((u.alloc (.cells #[.int .i64 W0, .int .i64 H0, .slice a0 C0.length c0, .int .i64 W1, .int .i64 H1, .slice a1 C1.length c1, .int .i64 W2, .int .i64 H2, .slice a2 C2.length c2] 51)).alloc (.cells #[.int .i64 W0, .int .i64 H0, .slice b0 C0.length d0, .int .i64 W1, .int .i64 H1, .slice b1 C1.length d1, .int .i64 W2, .int .i64 H2, .slice b2 C2.length d2] 51)).heap.size = u.heap.size + 2 := by simp
  have ee : (er == er) = true := by simp
  have HL : Hid ((∀ g, a0 = some ⟨g, 0, none⟩ → g < u.heap.size) ∧ (∀ g, a1 = some ⟨g, 0, none⟩ → g < u.heap.size) ∧ (∀ g, a2 = some ⟨g, 0, none⟩ → g < u.heap.size)) := ⟨fun g e => (s0.lt g e).2, fun g e => (s1.lt g e).2, fun g e => (s2.lt g e).2⟩
  have x0 : ((u.alloc (.cells #[.int .i64 W0, .int .i64 H0, .slice a0 C0.length c0, .int .i64 W1, .int .i64 H1, .slice a1 C1.length c1, .int .i64 W2, .int .i64 H2, .slice a2 C2.length c2] 51)).alloc (.cells #[.int .i64 W0, .int .i64 H0, .slice b0 C0.length d0, .int .i64 W1, .int .i64 H1, .slice b1 C1.length d1, .int .i64 W2, .int .i64 H2, .slice b2 C2.length d2] 51)).cell? ⟨u.heap.size, 0, none⟩ = some (.int .i64 W0) := by simp [go_sem]
  have x1 : ((u.alloc (.cells #[.int .i64 W0, .int .i64 H0, .slice a0 C0.length c0, .int .i64 W1, .int .i64 H1, .slice a1 C1.length c1, .int .i64 W2, .int .i64 H2, .slice a2 C2.length c2] 51)).alloc (.cells #[.int .i64 W0, .int .i64 H0, .slice b0 C0.length d0, .int .i64 W1, .int .i64 H1, .slice b1 C1.length d1, .int .i64 W2, .int .i64 H2, .slice b2 C2.length d2] 51)).cell? ⟨u.heap.size, 1, none⟩ = some (.int .i64 H0) := by simp [go_sem]
  have x2 : ((u.alloc (.cells #[.int .i64 W0, .int .i64 H0, .slice a0 C0.length c0, .int .i64 W1, .int .i64 H1, .slice a1 C1.length c1, .int .i64 W2, .int .i64 H2, .slice a2 C2.length c2] 51)).alloc (.cells #[.int .i64 W0, .int .i64 H0, .slice b0 C0.length d0, .int .i64 W1, .int .i64 H1, .slice b1 C1.length d1, .int .i64 W2, .int .i64 H2, .slice b2 C2.length d2] 51)).cell? ⟨u.heap.size, 2, none⟩ = some (.slice a0 C0.length c0) := by simp [go_sem]
  have x3 : ((u.alloc (.cells #[.int .i64 W0, .int .i64 H0, .slice a0 C0.length c0, .int .i64 W1, .int .i64 H1, .slice a1 C1.length c1, .int .i64 W2, .int .i64 H2, .slice a2 C2.length c2] 51)).alloc (.cells #[.int .i64 W0, .int .i64 H0, .slice b0 C0.length d0, .int .i64 W1, .int .i64 H1, .slice b1 C1.length d1, .int .i64 W2, .int .i64 H2, .slice b2 C2.length d2] 51)).cell? ⟨u.heap.size, 3, none⟩ = some (.int .i64 W1) := by simp [go_sem]
  have x4 : ((u.alloc (.cells #[.int .i64 W0, .int .i64 H0, .slice a0 C0.length c0, .int .i64 W1, .int .i64 H1, .slice a1 C1.length c1, .int .i64 W2, .int .i64 H2, .slice a2 C2.length c2] 51)).alloc (.cells #[.int .i64 W0, .int .i64 H0, .slice b0 C0.length d0, .int .i64 W1, .int .i64 H1, .slice b1 C1.length d1, .int .i64 W2, .int .i64 H2, .slice b2 C2.length d2] 51)).cell? ⟨u.heap.size, 4, none⟩ = some (.int .i64 H1) := by simp [go_sem]
  have x5 : ((u.alloc (.cells #[.int .i64 W0, .int .i64 H0, .slice a0 C0.length c0, .int .i64 W1, .int .i64 H1, .slice a1 C1.length c1, .int .i64 W2, .int .i64 H2, .slice a2 C2.length c2] 51)).alloc (.cells #[.int .i64 W0, .int .i64 H0, .slice b0 C0.length d0, .int .i64 W1, .int .i64 H1, .slice b1 C1.length d1, .int .i64 W2, .int .i64 H2, .slice b2 C2.length d2] 51)).cell? ⟨u.heap.size, 5, none⟩ = some (.slice a1 C1.length c1) := by simp [go_sem]
  have x6 : ((u.alloc (.cells #[.int .i64 W0, .int .i64 H0, .slice a0 C0.length c0, .int .i64 W1, .int .i64 H1, .slice a1 C1.length c1, .int .i64 W2, .int .i64 H2, .slice a2 C2.length c2] 51)).alloc (.cells #[.int .i64 W0, .int .i64 H0, .slice b0 C0.length d0, .int .i64 W1, .int .i64 H1, .slice b1 C1.length d1, .int .i64 W2, .int .i64 H2, .slice b2 C2.length d2] 51)).cell? ⟨u.heap.size, 6, none⟩ = some (.int .i64 W2) := by simp [go_sem]
  have x7 : ((u.alloc (.cells #[.int .i64 W0, .int .i64 H0, .slice a0 C0.length c0, .int .i64 W1, .int .i64 H1, .slice a1 C1.length c1, .int .i64 W2, .int .i64 H2, .slice a2 C2.length c2] 51)).alloc (.cells #[.int .i64 W0, .int .i64 H0, .slice b0 C0.length d0, .int .i64 W1, .int .i64 H1, .slice b1 C1.length d1, .int .i64 W2, .int .i64 H2, .slice b2 C2.length d2] 51)).cell? ⟨u.heap.size, 7, none⟩ = some (.int .i64 H2) := by simp [go_sem]
  have x8 : ((u.alloc (.cells #[.int .i64 W0, .int .i64 H0, .slice a0 C0.length c0, .int .i64 W1, .int .i64 H1, .slice a1 C1.length c1, .int .i64 W2, .int .i64 H2, .slice a2 C2.length c2] 51)).alloc (.cells #[.int .i64 W0, .int .i64 H0, .slice b0 C0.length d0, .int .i64 W1, .int .i64 H1, .slice b1 C1.length d1, .int .i64 W2, .int .i64 H2, .slice b2 C2.length d2] 51)).cell? ⟨u.heap.size, 8, none⟩ = some (.slice a2 C2.length c2) := by simp [go_sem]
  have y0 : ((u.alloc (.cells #[.int .i64 W0, .int .i64 H0, .slice a0 C0.length c0, .int .i64 W1, .int .i64 H1, .slice a1 C1.length c1, .int .i64 W2, .int .i64 H2, .slice a2 C2.length c2] 51)).alloc (.cells #[.int .i64 W0, .int .i64 H0, .slice b0 C0.length d0, .int .i64 W1, .int .i64 H1, .slice b1 C1.length d1, .int .i64 W2, .int .i64 H2, .slice b2 C2.length d2] 51)).cell? ⟨u.heap.size + 1, 0, none⟩ = some (.int .i64 W0) := by simp [go_sem]
  have y1 : ((u.alloc (.cells #[.int .i64 W0, .int .i64 H0, .slice a0 C0.length c0, .int .i64 W1, .int .i64 H1, .slice a1 C1.length c1, .int .i64 W2, .int .i64 H2, .slice a2 C2.length c2] 51)).alloc (.cells #[.int .i64 W0, .int .i64 H0, .slice b0 C0.length d0, .int .i64 W1, .int .i64 H1, .slice b1 C1.length d1, .int .i64 W2, .int .i64 H2, .slice b2 C2.length d2] 51)).cell? ⟨u.heap.size + 1, 1, none⟩ = some (.int .i64 H0) := by simp [go_sem]
  have y2 : ((u.alloc (.cells #[.int .i64 W0, .int .i64 H0, .slice a0 C0.length c0, .int .i64 W1, .int .i64 H1, .slice a1 C1.length c1, .int .i64 W2, .int .i64 H2, .slice a2 C2.length c2] 51)).alloc (.cells #[.int .i64 W0, .int .i64 H0, .slice b0 C0.length d0, .int .i64 W1, .int .i64 H1, .slice b1 C1.length d1, .int .i64 W2, .int .i64 H2, .slice b2 C2.length d2] 51)).cell? ⟨u.heap.size + 1, 2, none⟩ = some (.slice b0 C0.length d0) := by simp [go_sem]
  have y3 : ((u.alloc (.cells #[.int .i64 W0, .int .i64 H0, .slice a0 C0.length c0, .int .i64 W1, .int .i64 H1, .slice a1 C1.length c1, .int .i64 W2, .int .i64 H2, .slice a2 C2.length c2] 51)).alloc (.cells #[.int .i64 W0, .int .i64 H0, .slice b0 C0.length d0, .int .i64 W1, .int .i64 H1, .slice b1 C1.length d1, .int .i64 W2, .int .i64 H2, .slice b2 C2.length d2] 51)).cell? ⟨u.heap.size + 1, 3, none⟩ = some (.int .i64 W1) := by simp [go_sem]
  have y4 : ((u.alloc (.cells #[.int .i64 W0, .int .i64 H0, .slice a0 C0.length c0, .int .i64 W1, .int .i64 H1, .slice a1 C1.length c1, .int .i64 W2, .int .i64 H2, .slice a2 C2.length c2] 51)).alloc (.cells #[.int .i64 W0, .int .i64 H0, .slice b0 C0.length d0, .int .i64 W1, .int .i64 H1, .slice b1 C1.length d1, .int .i64 W2, .int .i64 H2, .slice b2 C2.length d2] 51)).cell? ⟨u.heap.size + 1, 4, none⟩ = some (.int .i64 H1) := by simp [go_sem]
  have y5 : ((u.alloc (.cells #[.int .i64 W0, .int .i64 H0, .slice a0 C0.length c0, .int .i64 W1, .int .i64 H1, .slice a1 C1.length c1, .int .i64 W2, .int .i64 H2, .slice a2 C2.length c2] 51)).alloc (.cells #[.int .i64 W0, .int .i64 H0, .slice b0 C0.length d0, .int .i64 W1, .int .i64 H1, .slice b1 C1.length d1, .int .i64 W2, .int .i64 H2, .slice b2 C2.length d2] 51)).cell? ⟨u.heap.size + 1, 5, none⟩ = some (.slice b1 C1.length d1) := by simp [go_sem]
  have y6 : ((u.alloc (.cells #[.int .i64 W0, .int .i64 H0, .slice a0 C0.length c0, .int .i64 W1, .int .i64 H1, .slice a1 C1.length c1, .int .i64 W2, .int .i64 H2, .slice a2 C2.length c2] 51)).alloc (.cells #[.int .i64 W0, .int .i64 H0, .slice b0 C0.length d0, .int .i64 W1, .int .i64 H1, .slice b1 C1.length d1, .int .i64 W2, .int .i64 H2, .slice b2 C2.length d2] 51)).cell? ⟨u.heap.size + 1, 6, none⟩ = some (.int .i64 W2) := by simp [go_sem]
  have y7 : ((u.alloc (.cells #[.int .i64 W0, .int .i64 H0, .slice a0 C0.length c0, .int .i64 W1, .int .i64 H1, .slice a1 C1.length c1, .int .i64 W2, .int .i64 H2, .slice a2 C2.length c2] 51)).alloc (.cells #[.int .i64 W0, .int .i64 H0, .slice b0 C0.length d0, .int .i64 W1, .int .i64 H1, .slice b1 C1.length d1, .int .i64 W2, .int .i64 H2, .slice b2 C2.length d2] 51)).cell? ⟨u.heap.size + 1, 7, none⟩ = some (.int .i64 H2) := by simp [go_sem]
  have y8 : ((u.alloc (.cells #[.int .i64 W0, .int .i64 H0, .slice a0 C0.length c0, .int .i64 W1, .int .i64 H1, .slice a1 C1.length c1, .int .i64 W2, .int .i64 H2, .slice a2 C2.length c2] 51)).alloc (.cells #[.int .i64 W0, .int .i64 H0, .slice b0 C0.length d0, .int .i64 W1, .int .i64 H1, .slice b1 C1.length d1, .int .i64 W2, .int .i64 H2, .slice b2 C2.length d2] 51)).cell? ⟨u.heap.size + 1, 8, none⟩ = some (.slice b2 C2.length d2) := by simp [go_sem]
  have HS0 : Hid (Rn u0 u a0 C0) := s0
  have HT0 : Hid (Sl u .u8 b0 C0) := t0
  have HS1 : Hid (Rn u0 u a1 C1) := s1
  have HT1 : Hid (Sl u .u8 b1 C1) := t1
  have HS2 : Hid (Rn u0 u a2 C2) := s2
  have HT2 : Hid (Sl u .u8 b2 C2) := t2
  have N01 : Hid (Ap a0 a1) := n01
  have N02 : Hid (Ap a0 a2) := n02
  have N12 : Hid (Ap a1 a2) := n12
  clear s0 s1 s2 t0 t1 t2 n01 n02 n12
  go_enter Try.func40, Try.ntmps40
  go_wp2_with fail
  generalize ((u.alloc (.cells #[.int .i64 W0, .int .i64 H0, .slice a0 C0.length c0, .int .i64 W1, .int .i64 H1, .slice a1 C1.length c1, .int .i64 W2, .int .i64 H2, .slice a2 C2.length c2] 51)).alloc (.cells #[.int .i64 W0, .int .i64 H0, .slice b0 C0.length d0, .int .i64 W1, .int .i64 H1, .slice b1 C1.length d1, .int .i64 W2, .int .i64 H2, .slice b2 C2.length d2] 51)) = V at *
  refine (sameFrame_true (HS0.out.to HB.out).sl (HS1.out.to HB.out).sl (HS2.out.to HB.out).sl (HT0.out.to HB.out) (HT1.out.to HB.out) (HT2.out.to HB.out) l0 l1 l2).mono ?_
  rintro e w1 ⟨rfl, hb1⟩
  have HB1 : Hid (Below u.heap.size u w1) := below_to HB.out hb1
  have p0 : w1.cell? ⟨u.heap.size, 0, none⟩ = some (.int .i64 W0) := by rw [newCell hb1 _ _ (by omega)]; exact x0
  have p1 : w1.cell? ⟨u.heap.size, 1, none⟩ = some (.int .i64 H0) := by rw [newCell hb1 _ _ (by omega)]; exact x1
  have p2 : w1.cell? ⟨u.heap.size, 2, none⟩ = some (.slice a0 C0.length c0) := by rw [newCell hb1 _ _ (by omega)]; exact x2
  have p3 : w1.cell? ⟨u.heap.size, 3, none⟩ = some (.int .i64 W1) := by rw [newCell hb1 _ _ (by omega)]; exact x3
  have p4 : w1.cell? ⟨u.heap.size, 4, none⟩ = some (.int .i64 H1) := by rw [newCell hb1 _ _ (by omega)]; exact x4
  have p5 : w1.cell? ⟨u.heap.size, 5, none⟩ = some (.slice a1 C1.length c1) := by rw [newCell hb1 _ _ (by omega)]; exact x5
  have p6 : w1.cell? ⟨u.heap.size, 6, none⟩ = some (.int .i64 W2) := by rw [newCell hb1 _ _ (by omega)]; exact x6
  have p7 : w1.cell? ⟨u.heap.size, 7, none⟩ = some (.int .i64 H2) := by rw [newCell hb1 _ _ (by omega)]; exact x7
  have p8 : w1.cell? ⟨u.heap.size, 8, none⟩ = some (.slice a2 C2.length c2) := by rw [newCell hb1 _ _ (by omega)]; exact x8
  have hz1 : u.heap.size + 2 ≤ w1.heap.size := by have := hb1.size; omega
  have HC : Hid (∀ t : World, Kt a0 a1 a2 w1 t → ∀ o, t.cell? ⟨u.heap.size, o, none⟩ = w1.cell? ⟨u.heap.size, o, none⟩) := fun t ht o => ht.cell _ _ (by omega) (fun g e => by have := HL.out.1 g e; omega) (fun g e => by have := HL.out.2.1 g e; omega) (fun g e => by have := HL.out.2.2 g e; omega)
  clear hb1 x0 y0 x1 y1 x2 y2 x3 y3 x4 y4 x5 y5 x6 y6 x7 y7 x8 y8
  go_wp2_with fail
  go_loopw [10] (fun i wr => TfI u0 w1 a0 a1 a2 C0 C1 C2 i wr) (fun i _ => 3 - (intOf i).toNat)
  case atStart => exact ⟨0, by omega, rfl, Kt.refl _ _ _ _, fun _ => HS0.out.to HB1.out, fun _ => HS1.out.to HB1.out, fun _ => HS2.out.to HB1.out⟩
  case round =>
    obtain ⟨k, hk, rfl, hkt, r0, r1, r2⟩ := hrel
    have HKT : Hid _ := hkt
    have hc := HC.out wr hkt
    by_cases h3 : k < 3
    · have hks : k = 0 ∨ k = 1 ∨ k = 2 := by omega
      rcases hks with rfl | rfl | rfl
      · have z0 : wr.cell? ⟨u.heap.size, 0, none⟩ = some (.int .i64 W0) := by rw [hc]; exact p0
        have z1 : wr.cell? ⟨u.heap.size, 1, none⟩ = some (.int .i64 H0) := by rw [hc]; exact p1
        have z2 : wr.cell? ⟨u.heap.size, 2, none⟩ = some (.slice a0 C0.length c0) := by rw [hc]; exact p2
        have R0 : Hid (Rn u0 wr a0 C0) := r0 (by omega)
        have HR : Hid (∀ t : World, Ka a0 wr t → TfI u0 w1 a0 a1 a2 C0 C1 C2 (.int .i64 1) t) := fun t ht => ⟨1, by omega, rfl, HKT.out.ka ht (Or.inl rfl), fun h => by omega, fun _ => (r1 (by omega)).ka ht N01.out, fun _ => (r2 (by omega)).ka ht N02.out⟩
        clear hc hkt r0 r1 r2 p0 p1 p2 p3 p4 p5 p6 p7 p8
        go_wp2_with fail
        refine (spoil_far R0.out l0).mono ?_
        rintro e w5 ⟨rfl, hk5⟩
        have HQ := HR.out w5 hk5
        clear hk5
        go_wp2_with fail
        go_roundw
        case rel => exact HQ
        case measure => simp [intOf]
      · have z0 : wr.cell? ⟨u.heap.size, 3, none⟩ = some (.int .i64 W1) := by rw [hc]; exact p3
        have z1 : wr.cell? ⟨u.heap.size, 4, none⟩ = some (.int .i64 H1) := by rw [hc]; exact p4
        have z2 : wr.cell? ⟨u.heap.size, 5, none⟩ = some (.slice a1 C1.length c1) := by rw [hc]; exact p5
        have R0 : Hid (Rn u0 wr a1 C1) := r1 (by omega)
        have HR : Hid (∀ t : World, Ka a1 wr t → TfI u0 w1 a0 a1 a2 C0 C1 C2 (.int .i64 2) t) := fun t ht => ⟨2, by omega, rfl, HKT.out.ka ht (Or.inr (Or.inl rfl)), fun h => by omega, fun h => by omega, fun _ => (r2 (by omega)).ka ht N12.out⟩
        clear hc hkt r0 r1 r2 p0 p1 p2 p3 p4 p5 p6 p7 p8
        go_wp2_with fail
        refine (spoil_far R0.out l1).mono ?_
        rintro e w5 ⟨rfl, hk5⟩
        have HQ := HR.out w5 hk5
        clear hk5
        go_wp2_with fail
        go_roundw
        case rel => exact HQ
        case measure => simp [intOf]
      · have z0 : wr.cell? ⟨u.heap.size, 6, none⟩ = some (.int .i64 W2) := by rw [hc]; exact p6
        have z1 : wr.cell? ⟨u.heap.size, 7, none⟩ = some (.int .i64 H2) := by rw [hc]; exact p7
        have z2 : wr.cell? ⟨u.heap.size, 8, none⟩ = some (.slice a2 C2.length c2) := by rw [hc]; exact p8
        have R0 : Hid (Rn u0 wr a2 C2) := r2 (by omega)
        have HR : Hid (∀ t : World, Ka a2 wr t → TfI u0 w1 a0 a1 a2 C0 C1 C2 (.int .i64 3) t) := fun t ht => ⟨3, by omega, rfl, HKT.out.ka ht (Or.inr (Or.inr rfl)), fun h => by omega, fun h => by omega, fun h => by omega⟩
        clear hc hkt r0 r1 r2 p0 p1 p2 p3 p4 p5 p6 p7 p8
        go_wp2_with fail
        refine (spoil_far R0.out l2).mono ?_
        rintro e w5 ⟨rfl, hk5⟩
        have HQ := HR.out w5 hk5
        clear hk5
        go_wp2_with fail
        go_roundw
        case rel => exact HQ
        case measure => simp [intOf]
    · have HK : Hid (Kt a0 a1 a2 u wr) := Kt.from HB1.out hkt
      clear hc hkt r0 r1 r2
      go_wp2_with fail
      go_ret
      exact ⟨rfl, HK.out⟩

end Go.Proofs.Ytlgfkkegehpllaa
