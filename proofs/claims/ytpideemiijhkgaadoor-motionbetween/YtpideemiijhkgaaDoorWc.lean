/- DERIVED. The document's SameFrame, Within. -/
import Derived.Test.YtpideemiijhkgaaDoorWa
namespace Go.Proofs.YtpideemiijhkgaaDoor
open Go.RowKit


set_option maxRecDepth 100000 in
set_option maxHeartbeats 2000000 in
theorem sameFrame_true {u : World} {W0 H0 W1 H1 W2 H2 : Int} {a0 a1 a2 b0 b1 b2 : Option Addr} {c0 c1 c2 d0 d1 d2 : Nat} {C0 C1 C2 : List Nat} (s0 : Sl u .u8 a0 C0) (s1 : Sl u .u8 a1 C1) (s2 : Sl u .u8 a2 C2) (t0 : Sl u .u8 b0 C0) (t1 : Sl u .u8 b1 C1) (t2 : Sl u .u8 b2 C2) (l0 : C0.length ≤ 140737488355328) (l1 : C1.length ≤ 140737488355328) (l2 : C2.length ≤ 140737488355328) :
    Calls Tryd.prog 13 #[.agg #[.int .i64 W0, .int .i64 H0, .slice a0 C0.length c0, .int .i64 W1, .int .i64 H1, .slice a1 C1.length c1, .int .i64 W2, .int .i64 H2, .slice a2 C2.length c2], .agg #[.int .i64 W0, .int .i64 H0, .slice b0 C0.length d0, .int .i64 W1, .int .i64 H1, .slice b1 C1.length d1, .int .i64 W2, .int .i64 H2, .slice b2 C2.length d2]] u fun e w' => e = .returned (.bool true) ∧ Below u.heap.size u w' := by
  have HB : Hid (Below u.heap.size u ((u.alloc (.cells #[.int .i64 W0, .int .i64 H0, .slice a0 C0.length c0, .int .i64 W1, .int .i64 H1, .slice a1 C1.length c1, .int .i64 W2, .int .i64 H2, .slice a2 C2.length c2] 27)).alloc (.cells #[.int .i64 W0, .int .i64 H0, .slice b0 C0.length d0, .int .i64 W1, .int .i64 H1, .slice b1 C1.length d1, .int .i64 W2, .int .i64 H2, .slice b2 C2.length d2] 27))) := to_alloc (from_alloc _ _) _
  have hz : ((u.alloc (.cells #[.int .i64 W0, .int .i64 H0, .slice a0 C0.length c0, .int .i64 W1, .int .i64 H1, .slice a1 C1.length c1, .int .i64 W2, .int .i64 H2, .slice a2 C2.length c2] 27)).alloc (.cells #[.int .i64 W0, .int .i64 H0, .slice b0 C0.length d0, .int .i64 W1, .int .i64 H1, .slice b1 C1.length d1, .int .i64 W2, .int .i64 H2, .slice b2 C2.length d2] 27)).heap.size = u.heap.size + 2 := by simp
  have x0 : ((u.alloc (.cells #[.int .i64 W0, .int .i64 H0, .slice a0 C0.length c0, .int .i64 W1, .int .i64 H1, .slice a1 C1.length c1, .int .i64 W2, .int .i64 H2, .slice a2 C2.length c2] 27)).alloc (.cells #[.int .i64 W0, .int .i64 H0, .slice b0 C0.length d0, .int .i64 W1, .int .i64 H1, .slice b1 C1.length d1, .int .i64 W2, .int .i64 H2, .slice b2 C2.length d2] 27)).cell? ⟨u.heap.size, 0, none⟩ = some (.int .i64 W0) := by simp [go_sem]
  have x1 : ((u.alloc (.cells #[.int .i64 W0, .int .i64 H0, .slice a0 C0.length c0, .int .i64 W1, .int .i64 H1, .slice a1 C1.length c1, .int .i64 W2, .int .i64 H2, .slice a2 C2.length c2] 27)).alloc (.cells #[.int .i64 W0, .int .i64 H0, .slice b0 C0.length d0, .int .i64 W1, .int .i64 H1, .slice b1 C1.length d1, .int .i64 W2, .int .i64 H2, .slice b2 C2.length d2] 27)).cell? ⟨u.heap.size, 1, none⟩ = some (.int .i64 H0) := by simp [go_sem]
  have x2 : ((u.alloc (.cells #[.int .i64 W0, .int .i64 H0, .slice a0 C0.length c0, .int .i64 W1, .int .i64 H1, .slice a1 C1.length c1, .int .i64 W2, .int .i64 H2, .slice a2 C2.length c2] 27)).alloc (.cells #[.int .i64 W0, .int .i64 H0, .slice b0 C0.length d0, .int .i64 W1, .int .i64 H1, .slice b1 C1.length d1, .int .i64 W2, .int .i64 H2, .slice b2 C2.length d2] 27)).cell? ⟨u.heap.size, 2, none⟩ = some (.slice a0 C0.length c0) := by simp [go_sem]
  have x3 : ((u.alloc (.cells #[.int .i64 W0, .int .i64 H0, .slice a0 C0.length c0, .int .i64 W1, .int .i64 H1, .slice a1 C1.length c1, .int .i64 W2, .int .i64 H2, .slice a2 C2.length c2] 27)).alloc (.cells #[.int .i64 W0, .int .i64 H0, .slice b0 C0.length d0, .int .i64 W1, .int .i64 H1, .slice b1 C1.length d1, .int .i64 W2, .int .i64 H2, .slice b2 C2.length d2] 27)).cell? ⟨u.heap.size, 3, none⟩ = some (.int .i64 W1) := by simp [go_sem]
  have x4 : ((u.alloc (.cells #[.int .i64 W0, .int .i64 H0, .slice a0 C0.length c0, .int .i64 W1, .int .i64 H1, .slice a1 C1.length c1, .int .i64 W2, .int .i64 H2, .slice a2 C2.length c2] 27)).alloc (.cells #[.int .i64 W0, .int .i64 H0, .slice b0 C0.length d0, .int .i64 W1, .int .i64 H1, .slice b1 C1.length d1, .int .i64 W2, .int .i64 H2, .slice b2 C2.length d2] 27)).cell? ⟨u.heap.size, 4, none⟩ = some (.int .i64 H1) := by simp [go_sem]
  have x5 : ((u.alloc (.cells #[.int .i64 W0, .int .i64 H0, .slice a0 C0.length c0, .int .i64 W1, .int .i64 H1, .slice a1 C1.length c1, .int .i64 W2, .int .i64 H2, .slice a2 C2.length c2] 27)).alloc (.cells #[.int .i64 W0, .int .i64 H0, .slice b0 C0.length d0, .int .i64 W1, .int .i64 H1, .slice b1 C1.length d1, .int .i64 W2, .int .i64 H2, .slice b2 C2.length d2] 27)).cell? ⟨u.heap.size, 5, none⟩ = some (.slice a1 C1.length c1) := by simp [go_sem]
  have x6 : ((u.alloc (.cells #[.int .i64 W0, .int .i64 H0, .slice a0 C0.length c0, .int .i64 W1, .int .i64 H1, .slice a1 C1.length c1, .int .i64 W2, .int .i64 H2, .slice a2 C2.length c2] 27)).alloc (.cells #[.int .i64 W0, .int .i64 H0, .slice b0 C0.length d0, .int .i64 W1, .int .i64 H1, .slice b1 C1.length d1, .int .i64 W2, .int .i64 H2, .slice b2 C2.length d2] 27)).cell? ⟨u.heap.size, 6, none⟩ = some (.int .i64 W2) := by simp [go_sem]
  have x7 : ((u.alloc (.cells #[.int .i64 W0, .int .i64 H0, .slice a0 C0.length c0, .int .i64 W1, .int .i64 H1, .slice a1 C1.length c1, .int .i64 W2, .int .i64 H2, .slice a2 C2.length c2] 27)).alloc (.cells #[.int .i64 W0, .int .i64 H0, .slice b0 C0.length d0, .int .i64 W1, .int .i64 H1, .slice b1 C1.length d1, .int .i64 W2, .int .i64 H2, .slice b2 C2.length d2] 27)).cell? ⟨u.heap.size, 7, none⟩ = some (.int .i64 H2) := by simp [go_sem]
  have x8 : ((u.alloc (.cells #[.int .i64 W0, .int .i64 H0, .slice a0 C0.length c0, .int .i64 W1, .int .i64 H1, .slice a1 C1.length c1, .int .i64 W2, .int .i64 H2, .slice a2 C2.length c2] 27)).alloc (.cells #[.int .i64 W0, .int .i64 H0, .slice b0 C0.length d0, .int .i64 W1, .int .i64 H1, .slice b1 C1.length d1, .int .i64 W2, .int .i64 H2, .slice b2 C2.length d2] 27)).cell? ⟨u.heap.size, 8, none⟩ = some (.slice a2 C2.length c2) := by simp [go_sem]
  have y0 : ((u.alloc (.cells #[.int .i64 W0, .int .i64 H0, .slice a0 C0.length c0, .int .i64 W1, .int .i64 H1, .slice a1 C1.length c1, .int .i64 W2, .int .i64 H2, .slice a2 C2.length c2] 27)).alloc (.cells #[.int .i64 W0, .int .i64 H0, .slice b0 C0.length d0, .int .i64 W1, .int .i64 H1, .slice b1 C1.length d1, .int .i64 W2, .int .i64 H2, .slice b2 C2.length d2] 27)).cell? ⟨u.heap.size + 1, 0, none⟩ = some (.int .i64 W0) := by simp [go_sem]
  have y1 : ((u.alloc (.cells #[.int .i64 W0, .int .i64 H0, .slice a0 C0.length c0, .int .i64 W1, .int .i64 H1, .slice a1 C1.length c1, .int .i64 W2, .int .i64 H2, .slice a2 C2.length c2] 27)).alloc (.cells #[.int .i64 W0, .int .i64 H0, .slice b0 C0.length d0, .int .i64 W1, .int .i64 H1, .slice b1 C1.length d1, .int .i64 W2, .int .i64 H2, .slice b2 C2.length d2] 27)).cell? ⟨u.heap.size + 1, 1, none⟩ = some (.int .i64 H0) := by simp [go_sem]
  have y2 : ((u.alloc (.cells #[.int .i64 W0, .int .i64 H0, .slice a0 C0.length c0, .int .i64 W1, .int .i64 H1, .slice a1 C1.length c1, .int .i64 W2, .int .i64 H2, .slice a2 C2.length c2] 27)).alloc (.cells #[.int .i64 W0, .int .i64 H0, .slice b0 C0.length d0, .int .i64 W1, .int .i64 H1, .slice b1 C1.length d1, .int .i64 W2, .int .i64 H2, .slice b2 C2.length d2] 27)).cell? ⟨u.heap.size + 1, 2, none⟩ = some (.slice b0 C0.length d0) := by simp [go_sem]
  have y3 : ((u.alloc (.cells #[.int .i64 W0, .int .i64 H0, .slice a0 C0.length c0, .int .i64 W1, .int .i64 H1, .slice a1 C1.length c1, .int .i64 W2, .int .i64 H2, .slice a2 C2.length c2] 27)).alloc (.cells #[.int .i64 W0, .int .i64 H0, .slice b0 C0.length d0, .int .i64 W1, .int .i64 H1, .slice b1 C1.length d1, .int .i64 W2, .int .i64 H2, .slice b2 C2.length d2] 27)).cell? ⟨u.heap.size + 1, 3, none⟩ = some (.int .i64 W1) := by simp [go_sem]
  have y4 : ((u.alloc (.cells #[.int .i64 W0, .int .i64 H0, .slice a0 C0.length c0, .int .i64 W1, .int .i64 H1, .slice a1 C1.length c1, .int .i64 W2, .int .i64 H2, .slice a2 C2.length c2] 27)).alloc (.cells #[.int .i64 W0, .int .i64 H0, .slice b0 C0.length d0, .int .i64 W1, .int .i64 H1, .slice b1 C1.length d1, .int .i64 W2, .int .i64 H2, .slice b2 C2.length d2] 27)).cell? ⟨u.heap.size + 1, 4, none⟩ = some (.int .i64 H1) := by simp [go_sem]
  have y5 : ((u.alloc (.cells #[.int .i64 W0, .int .i64 H0, .slice a0 C0.length c0, .int .i64 W1, .int .i64 H1, .slice a1 C1.length c1, .int .i64 W2, .int .i64 H2, .slice a2 C2.length c2] 27)).alloc (.cells #[.int .i64 W0, .int .i64 H0, .slice b0 C0.length d0, .int .i64 W1, .int .i64 H1, .slice b1 C1.length d1, .int .i64 W2, .int .i64 H2, .slice b2 C2.length d2] 27)).cell? ⟨u.heap.size + 1, 5, none⟩ = some (.slice b1 C1.length d1) := by simp [go_sem]
  have y6 : ((u.alloc (.cells #[.int .i64 W0, .int .i64 H0, .slice a0 C0.length c0, .int .i64 W1, .int .i64 H1, .slice a1 C1.length c1, .int .i64 W2, .int .i64 H2, .slice a2 C2.length c2] 27)).alloc (.cells #[.int .i64 W0, .int .i64 H0, .slice b0 C0.length d0, .int .i64 W1, .int .i64 H1, .slice b1 C1.length d1, .int .i64 W2, .int .i64 H2, .slice b2 C2.length d2] 27)).cell? ⟨u.heap.size + 1, 6, none⟩ = some (.int .i64 W2) := by simp [go_sem]
  have y7 : ((u.alloc (.cells #[.int .i64 W0, .int .i64 H0, .slice a0 C0.length c0, .int .i64 W1, .int .i64 H1, .slice a1 C1.length c1, .int .i64 W2, .int .i64 H2, .slice a2 C2.length c2] 27)).alloc (.cells #[.int .i64 W0, .int .i64 H0, .slice b0 C0.length d0, .int .i64 W1, .int .i64 H1, .slice b1 C1.length d1, .int .i64 W2, .int .i64 H2, .slice b2 C2.length d2] 27)).cell? ⟨u.heap.size + 1, 7, none⟩ = some (.int .i64 H2) := by simp [go_sem]
  have y8 : ((u.alloc (.cells #[.int .i64 W0, .int .i64 H0, .slice a0 C0.length c0, .int .i64 W1, .int .i64 H1, .slice a1 C1.length c1, .int .i64 W2, .int .i64 H2, .slice a2 C2.length c2] 27)).alloc (.cells #[.int .i64 W0, .int .i64 H0, .slice b0 C0.length d0, .int .i64 W1, .int .i64 H1, .slice b1 C1.length d1, .int .i64 W2, .int .i64 H2, .slice b2 C2.length d2] 27)).cell? ⟨u.heap.size + 1, 8, none⟩ = some (.slice b2 C2.length d2) := by simp [go_sem]
  have HS0 : Hid (Sl u .u8 a0 C0) := s0
  have HT0 : Hid (Sl u .u8 b0 C0) := t0
  have HS1 : Hid (Sl u .u8 a1 C1) := s1
  have HT1 : Hid (Sl u .u8 b1 C1) := t1
  have HS2 : Hid (Sl u .u8 a2 C2) := s2
  have HT2 : Hid (Sl u .u8 b2 C2) := t2
  clear s0 s1 s2 t0 t1 t2
  go_enter Tryd.func13, Tryd.ntmps13
  go_wp2_with fail
  generalize ((u.alloc (.cells #[.int .i64 W0, .int .i64 H0, .slice a0 C0.length c0, .int .i64 W1, .int .i64 H1, .slice a1 C1.length c1, .int .i64 W2, .int .i64 H2, .slice a2 C2.length c2] 27)).alloc (.cells #[.int .i64 W0, .int .i64 H0, .slice b0 C0.length d0, .int .i64 W1, .int .i64 H1, .slice b1 C1.length d1, .int .i64 W2, .int .i64 H2, .slice b2 C2.length d2] 27)) = V at *
  refine (rsame_any (HS0.out.to HB.out) (HT0.out.to HB.out) l0 l0).mono ?_
  rintro e w1 ⟨rfl, hb1⟩
  rw [smB_self]
  have HB1 : Hid (Below u.heap.size u w1) := below_to HB.out hb1
  have p0 : w1.cell? ⟨u.heap.size, 0, none⟩ = some (.int .i64 W0) := by rw [newCell hb1 _ _ (by omega)]; exact x0
  have p1 : w1.cell? ⟨u.heap.size, 1, none⟩ = some (.int .i64 H0) := by rw [newCell hb1 _ _ (by omega)]; exact x1
  have p2 : w1.cell? ⟨u.heap.size, 2, none⟩ = some (.slice a0 C0.length c0) := by rw [newCell hb1 _ _ (by omega)]; exact x2
  have p3 : w1.cell? ⟨u.heap.size, 3, none⟩ = some (.int .i64 W1) := by rw [newCell hb1 _ _ (by omega)]; exact x3
  have p4 : w1.cell? ⟨u.heap.size, 4, none⟩ = some (.int .i64 H1) := by rw [newCell hb1 _ _ (by omega)]; exact x4
  have p5 : w1.cell? ⟨u.heap.size, 5, none⟩ = some (.slice a1 C1.length c1) := by rw [newCell hb1 _ _ (by omega)]; exact x5
  have p6 : w1.cell? ⟨u.heap.size, 6, none⟩ = some (.int .i64 W2) := by rw [newCell hb1 _ _ (by omega)]; exact x6
  have p7 : w1.cell? ⟨u.heap.size, 7, none⟩ = some (.int .i64 H2) := by rw [newCell hb1 _ _ (by omega)]; exact x7
  have p8 : w1.cell? ⟨u.heap.size, 8, none⟩ = some (.slice a2 C2.length c2) := by rw [newCell hb1 _ _ (by omega)]; exact x8
  have q0 : w1.cell? ⟨u.heap.size + 1, 0, none⟩ = some (.int .i64 W0) := by rw [newCell hb1 _ _ (by omega)]; exact y0
  have q1 : w1.cell? ⟨u.heap.size + 1, 1, none⟩ = some (.int .i64 H0) := by rw [newCell hb1 _ _ (by omega)]; exact y1
  have q2 : w1.cell? ⟨u.heap.size + 1, 2, none⟩ = some (.slice b0 C0.length d0) := by rw [newCell hb1 _ _ (by omega)]; exact y2
  have q3 : w1.cell? ⟨u.heap.size + 1, 3, none⟩ = some (.int .i64 W1) := by rw [newCell hb1 _ _ (by omega)]; exact y3
  have q4 : w1.cell? ⟨u.heap.size + 1, 4, none⟩ = some (.int .i64 H1) := by rw [newCell hb1 _ _ (by omega)]; exact y4
  have q5 : w1.cell? ⟨u.heap.size + 1, 5, none⟩ = some (.slice b1 C1.length d1) := by rw [newCell hb1 _ _ (by omega)]; exact y5
  have q6 : w1.cell? ⟨u.heap.size + 1, 6, none⟩ = some (.int .i64 W2) := by rw [newCell hb1 _ _ (by omega)]; exact y6
  have q7 : w1.cell? ⟨u.heap.size + 1, 7, none⟩ = some (.int .i64 H2) := by rw [newCell hb1 _ _ (by omega)]; exact y7
  have q8 : w1.cell? ⟨u.heap.size + 1, 8, none⟩ = some (.slice b2 C2.length d2) := by rw [newCell hb1 _ _ (by omega)]; exact y8
  have hz1 : u.heap.size + 2 ≤ w1.heap.size := by have := hb1.size; omega
  clear hb1 x0 y0 x1 y1 x2 y2 x3 y3 x4 y4 x5 y5 x6 y6 x7 y7 x8 y8
  go_wp2_with fail
  refine (rsame_any (HS1.out.to HB1.out) (HT1.out.to HB1.out) l1 l1).mono ?_
  rintro e w2 ⟨rfl, hb2⟩
  rw [smB_self]
  have HB2 : Hid (Below u.heap.size u w2) := below_to HB1.out hb2
  have x0 : w2.cell? ⟨u.heap.size, 0, none⟩ = some (.int .i64 W0) := by rw [newCell hb2 _ _ (by omega)]; exact p0
  have x1 : w2.cell? ⟨u.heap.size, 1, none⟩ = some (.int .i64 H0) := by rw [newCell hb2 _ _ (by omega)]; exact p1
  have x2 : w2.cell? ⟨u.heap.size, 2, none⟩ = some (.slice a0 C0.length c0) := by rw [newCell hb2 _ _ (by omega)]; exact p2
  have x3 : w2.cell? ⟨u.heap.size, 3, none⟩ = some (.int .i64 W1) := by rw [newCell hb2 _ _ (by omega)]; exact p3
  have x4 : w2.cell? ⟨u.heap.size, 4, none⟩ = some (.int .i64 H1) := by rw [newCell hb2 _ _ (by omega)]; exact p4
  have x5 : w2.cell? ⟨u.heap.size, 5, none⟩ = some (.slice a1 C1.length c1) := by rw [newCell hb2 _ _ (by omega)]; exact p5
  have x6 : w2.cell? ⟨u.heap.size, 6, none⟩ = some (.int .i64 W2) := by rw [newCell hb2 _ _ (by omega)]; exact p6
  have x7 : w2.cell? ⟨u.heap.size, 7, none⟩ = some (.int .i64 H2) := by rw [newCell hb2 _ _ (by omega)]; exact p7
  have x8 : w2.cell? ⟨u.heap.size, 8, none⟩ = some (.slice a2 C2.length c2) := by rw [newCell hb2 _ _ (by omega)]; exact p8
  have y0 : w2.cell? ⟨u.heap.size + 1, 0, none⟩ = some (.int .i64 W0) := by rw [newCell hb2 _ _ (by omega)]; exact q0
  have y1 : w2.cell? ⟨u.heap.size + 1, 1, none⟩ = some (.int .i64 H0) := by rw [newCell hb2 _ _ (by omega)]; exact q1
  have y2 : w2.cell? ⟨u.heap.size + 1, 2, none⟩ = some (.slice b0 C0.length d0) := by rw [newCell hb2 _ _ (by omega)]; exact q2
  have y3 : w2.cell? ⟨u.heap.size + 1, 3, none⟩ = some (.int .i64 W1) := by rw [newCell hb2 _ _ (by omega)]; exact q3
  have y4 : w2.cell? ⟨u.heap.size + 1, 4, none⟩ = some (.int .i64 H1) := by rw [newCell hb2 _ _ (by omega)]; exact q4
  have y5 : w2.cell? ⟨u.heap.size + 1, 5, none⟩ = some (.slice b1 C1.length d1) := by rw [newCell hb2 _ _ (by omega)]; exact q5
  have y6 : w2.cell? ⟨u.heap.size + 1, 6, none⟩ = some (.int .i64 W2) := by rw [newCell hb2 _ _ (by omega)]; exact q6
  have y7 : w2.cell? ⟨u.heap.size + 1, 7, none⟩ = some (.int .i64 H2) := by rw [newCell hb2 _ _ (by omega)]; exact q7
  have y8 : w2.cell? ⟨u.heap.size + 1, 8, none⟩ = some (.slice b2 C2.length d2) := by rw [newCell hb2 _ _ (by omega)]; exact q8
  clear hb2 p0 q0 p1 q1 p2 q2 p3 q3 p4 q4 p5 q5 p6 q6 p7 q7 p8 q8
  go_wp2_with fail
  refine (rsame_any (HS2.out.to HB2.out) (HT2.out.to HB2.out) l2 l2).mono ?_
  rintro e w3 ⟨rfl, hb3⟩
  rw [smB_self]
  have HB3 : Hid (Below u.heap.size u w3) := below_to HB2.out hb3
  clear hb3
  go_wp2_with fail
  go_ret
  exact ⟨rfl, HB3.out⟩

set_option maxHeartbeats 1000000 in
theorem rwithin_yes {u : World} {a : Option Addr} {n c : Nat} {W H X Y w h : Int} (k : Win W H X Y w h) (hW1 : W ≤ 512) (hH1 : H ≤ 512) :
    Calls Tryd.prog 65 #[.agg #[.int .i64 W, .int .i64 H, .slice a n c], .agg #[.int .i64 X, .int .i64 Y, .int .i64 w, .int .i64 h]] u fun e w' => e = .returned (.bool true) ∧ Below u.heap.size u w' := by
  obtain ⟨k1, k2, k3, k4, k5, k6⟩ := k
  have k7 : w ≤ W := by omega
  have k8 : h ≤ H := by omega
  have k9 : X ≤ W - w := by omega
  have k10 : Y ≤ H - h := by omega
  clear k5 k6
  go_enter Tryd.func65, Tryd.ntmps65
  go_wp2
  go_ret
  exact ⟨rfl, to_alloc (from_alloc _ _) _⟩
set_option maxHeartbeats 1000000 in
theorem rwithin_no {u : World} {a : Option Addr} {n c : Nat} {W H X Y w h : Int} (k : ¬ Win W H X Y w h) (hW1 : W ≤ 512) (hH1 : H ≤ 512) :
    Calls Tryd.prog 65 #[.agg #[.int .i64 W, .int .i64 H, .slice a n c], .agg #[.int .i64 X, .int .i64 Y, .int .i64 w, .int .i64 h]] u fun e w' => e = .returned (.bool false) ∧ Below u.heap.size u w' := by
  have KK : Hid _ := k
  clear k
  by_cases k1 : w < 1
  · go_enter Tryd.func65, Tryd.ntmps65
    go_wp2
    go_ret
    exact ⟨rfl, to_alloc (from_alloc _ _) _⟩
  by_cases k2 : h < 1
  · go_enter Tryd.func65, Tryd.ntmps65
    go_wp2
    go_ret
    exact ⟨rfl, to_alloc (from_alloc _ _) _⟩
  by_cases k3 : X < 0
  · go_enter Tryd.func65, Tryd.ntmps65
    go_wp2
    go_ret
    exact ⟨rfl, to_alloc (from_alloc _ _) _⟩
  by_cases k4 : Y < 0
  · go_enter Tryd.func65, Tryd.ntmps65
    go_wp2
    go_ret
    exact ⟨rfl, to_alloc (from_alloc _ _) _⟩
  by_cases k5 : W < w
  · go_enter Tryd.func65, Tryd.ntmps65
    go_wp2
    go_ret
    exact ⟨rfl, to_alloc (from_alloc _ _) _⟩
  by_cases k6 : H < h
  · go_enter Tryd.func65, Tryd.ntmps65
    go_wp2
    go_ret
    exact ⟨rfl, to_alloc (from_alloc _ _) _⟩
  by_cases k7 : W - w < X
  · go_enter Tryd.func65, Tryd.ntmps65
    go_wp2
    go_ret
    exact ⟨rfl, to_alloc (from_alloc _ _) _⟩
  have k8 : H - h < Y := Int.not_le.1 fun g => KK.out ⟨by omega, by omega, by omega, by omega, by omega, by omega⟩
  go_enter Tryd.func65, Tryd.ntmps65
  go_wp2
  go_ret
  refine ⟨?_, to_alloc (from_alloc _ _) _⟩
  show Ending.returned (.bool (decide (Y ≤ H - h))) = .returned (.bool false)
  rw [decide_eq_false (by omega)]

end Go.Proofs.YtpideemiijhkgaaDoor
