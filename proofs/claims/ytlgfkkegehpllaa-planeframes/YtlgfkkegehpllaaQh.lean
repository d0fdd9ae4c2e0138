/- DERIVED. The document's resized. -/
import Derived.Test.YtlgfkkegehpllaaQg
namespace Go.Proofs.Ytlgfkkegehpllaa
open Go.RowKit

/-- a plane is answered alone, in new memory -/
def Sz (v w' : World) (e : Ending) (w h : Nat) (D : List Nat) : Prop := ∃ g, e = .returned (.agg #[.int .i64 (w : Int), .int .i64 (h : Int), .slice (some ⟨g, 0, none⟩) D.length D.length]) ∧ v.heap.size ≤ g ∧ Rw w' g D ∧ Below v.heap.size v w'
/-- a frame is answered alone, in new memory -/
def Fm (u w' : World) (e : Ending) (w0 h0 w1 h1 w2 h2 : Nat) (D0 D1 D2 : List Nat) : Prop := ∃ g0 g1 g2, e = .returned (.agg #[.int .i64 (w0 : Int), .int .i64 (h0 : Int), .slice (some ⟨g0, 0, none⟩) D0.length D0.length, .int .i64 (w1 : Int), .int .i64 (h1 : Int), .slice (some ⟨g1, 0, none⟩) D1.length D1.length, .int .i64 (w2 : Int), .int .i64 (h2 : Int), .slice (some ⟨g2, 0, none⟩) D2.length D2.length]) ∧
  Rw w' g0 D0 ∧ Rw w' g1 D1 ∧ Rw w' g2 D2 ∧ u.heap.size ≤ g0 ∧ u.heap.size ≤ g1 ∧ u.heap.size ≤ g2 ∧ g0 ≠ g1 ∧ g0 ≠ g2 ∧ g1 ≠ g2 ∧ Below u.heap.size u w'

set_option maxRecDepth 100000 in
set_option maxHeartbeats 4000000 in
theorem resized_walk {u : World} {x y x2 y2 w h w2 h2 : Nat} {a0 a1 a2 : Option Addr} {c0 c1 c2 : Nat} {C0 C1 C2 D0 D1 D2 : List Nat} (e1 : w2 = w / 2) (e2 : h2 = h / 2) (bw : w ≤ 512) (bh : h ≤ 512) (s0 : Sl u .u8 a0 C0) (s1 : Sl u .u8 a1 C1) (s2 : Sl u .u8 a2 C2)
    (n0 : ∀ v : World, Sl v .u8 a0 C0 → Calls Try.prog 55 #[.agg #[.int .i64 (x : Int), .int .i64 (y : Int), .slice a0 C0.length c0], .int .i64 (w : Int), .int .i64 (h : Int)] v fun e w' => Sz v w' e w h D0)
    (n1 : ∀ v : World, Sl v .u8 a1 C1 → Calls Try.prog 55 #[.agg #[.int .i64 (x2 : Int), .int .i64 (y2 : Int), .slice a1 C1.length c1], .int .i64 (w2 : Int), .int .i64 (h2 : Int)] v fun e w' => Sz v w' e w2 h2 D1)
    (n2 : ∀ v : World, Sl v .u8 a2 C2 → Calls Try.prog 55 #[.agg #[.int .i64 (x2 : Int), .int .i64 (y2 : Int), .slice a2 C2.length c2], .int .i64 (w2 : Int), .int .i64 (h2 : Int)] v fun e w' => Sz v w' e w2 h2 D2) :
    Calls Try.prog 60 #[.agg #[.int .i64 (x : Int), .int .i64 (y : Int), .slice a0 C0.length c0, .int .i64 (x2 : Int), .int .i64 (y2 : Int), .slice a1 C1.length c1, .int .i64 (x2 : Int), .int .i64 (y2 : Int), .slice a2 C2.length c2], .int .i64 (w : Int), .int .i64 (h : Int)] u fun e w' => Fm u w' e w h w2 h2 w2 h2 D0 D1 D2 := by
  have N0 : Hid (∀ v : World, Sl v .u8 a0 C0 → Calls Try.prog 55 #[.agg #[.int .i64 (x : Int), .int .i64 (y : Int), .slice a0 C0.length c0], .int .i64 (w : Int), .int .i64 (h : Int)] v fun e w' => Sz v w' e w h D0) := n0
  have N1 : Hid (∀ v : World, Sl v .u8 a1 C1 → Calls Try.prog 55 #[.agg #[.int .i64 (x2 : Int), .int .i64 (y2 : Int), .slice a1 C1.length c1], .int .i64 (w2 : Int), .int .i64 (h2 : Int)] v fun e w' => Sz v w' e w2 h2 D1) := n1
  have N2 : Hid (∀ v : World, Sl v .u8 a2 C2 → Calls Try.prog 55 #[.agg #[.int .i64 (x2 : Int), .int .i64 (y2 : Int), .slice a2 C2.length c2], .int .i64 (w2 : Int), .int .i64 (h2 : Int)] v fun e w' => Sz v w' e w2 h2 D2) := n2
  have HS0 : Hid (Sl u .u8 a0 C0) := s0
  have HS1 : Hid (Sl u .u8 a1 C1) := s1
  have HS2 : Hid (Sl u .u8 a2 C2) := s2
  have b1 : (w : Int) / 2 = (w2 : Int) := by omega
  have b2 : (h : Int) / 2 = (h2 : Int) := by omega
  have b3 : (w : Int) ≤ 512 := by omega
  have b4 : (h : Int) ≤ 512 := by omega
  clear n0 n1 n2 s0 s1 s2 e1 e2
  obtain ⟨V, hV⟩ : ∃ V, V = (((u.alloc (.cells #[.int .i64 (x : Int), .int .i64 (y : Int), .slice a0 C0.length c0, .int .i64 (x2 : Int), .int .i64 (y2 : Int), .slice a1 C1.length c1, .int .i64 (x2 : Int), .int .i64 (y2 : Int), .slice a2 C2.length c2] 51)).alloc (.cells #[.int .i64 0, .int .i64 0, .slice none 0 0, .int .i64 0, .int .i64 0, .slice none 0 0, .int .i64 0, .int .i64 0, .slice none 0 0] 51)).alloc (.cells #[.int .i64 0, .int .i64 0, .slice none 0 0, .int .i64 0, .int .i64 0, .slice none 0 0, .int .i64 0, .int .i64 0, .slice none 0 0] 51)) := ⟨_, rfl⟩
  have F0 : Hid (V.cell? ⟨u.heap.size, 0, none⟩ = some (.int .i64 (x : Int))) := by unfold Hid; rw [hV]; simp [go_sem]
  have F1 : Hid (V.cell? ⟨u.heap.size, 1, none⟩ = some (.int .i64 (y : Int))) := by unfold Hid; rw [hV]; simp [go_sem]
  have F2 : Hid (V.cell? ⟨u.heap.size, 2, none⟩ = some (.slice a0 C0.length c0)) := by unfold Hid; rw [hV]; simp [go_sem]
  have F3 : Hid (V.cell? ⟨u.heap.size, 3, none⟩ = some (.int .i64 (x2 : Int))) := by unfold Hid; rw [hV]; simp [go_sem]
  have F4 : Hid (V.cell? ⟨u.heap.size, 4, none⟩ = some (.int .i64 (y2 : Int))) := by unfold Hid; rw [hV]; simp [go_sem]
  have F5 : Hid (V.cell? ⟨u.heap.size, 5, none⟩ = some (.slice a1 C1.length c1)) := by unfold Hid; rw [hV]; simp [go_sem]
  have F6 : Hid (V.cell? ⟨u.heap.size, 6, none⟩ = some (.int .i64 (x2 : Int))) := by unfold Hid; rw [hV]; simp [go_sem]
  have F7 : Hid (V.cell? ⟨u.heap.size, 7, none⟩ = some (.int .i64 (y2 : Int))) := by unfold Hid; rw [hV]; simp [go_sem]
  have F8 : Hid (V.cell? ⟨u.heap.size, 8, none⟩ = some (.slice a2 C2.length c2)) := by unfold Hid; rw [hV]; simp [go_sem]
  have R0 : Hid (V.cell? ⟨u.heap.size + 1, 0, none⟩ = some (.int .i64 0)) := by unfold Hid; rw [hV]; simp [go_sem]
  have R1 : Hid (V.cell? ⟨u.heap.size + 1, 1, none⟩ = some (.int .i64 0)) := by unfold Hid; rw [hV]; simp [go_sem]
  have R2 : Hid (V.cell? ⟨u.heap.size + 1, 2, none⟩ = some (.slice none 0 0)) := by unfold Hid; rw [hV]; simp [go_sem]
  have R3 : Hid (V.cell? ⟨u.heap.size + 1, 3, none⟩ = some (.int .i64 0)) := by unfold Hid; rw [hV]; simp [go_sem]
  have R4 : Hid (V.cell? ⟨u.heap.size + 1, 4, none⟩ = some (.int .i64 0)) := by unfold Hid; rw [hV]; simp [go_sem]
  have R5 : Hid (V.cell? ⟨u.heap.size + 1, 5, none⟩ = some (.slice none 0 0)) := by unfold Hid; rw [hV]; simp [go_sem]
  have R6 : Hid (V.cell? ⟨u.heap.size + 1, 6, none⟩ = some (.int .i64 0)) := by unfold Hid; rw [hV]; simp [go_sem]
  have R7 : Hid (V.cell? ⟨u.heap.size + 1, 7, none⟩ = some (.int .i64 0)) := by unfold Hid; rw [hV]; simp [go_sem]
  have R8 : Hid (V.cell? ⟨u.heap.size + 1, 8, none⟩ = some (.slice none 0 0)) := by unfold Hid; rw [hV]; simp [go_sem]
  have RT : Hid (∀ o, V.frozen? ⟨u.heap.size + 1, o, none⟩ = false) := fun o => by rw [hV]; simp [go_sem]
  have HZ : Hid (V.heap.size = u.heap.size + 3) := by unfold Hid; rw [hV]; simp
  have HBV : Hid (Below u.heap.size u V) := by unfold Hid; rw [hV]; exact to_alloc (to_alloc (from_alloc _ _) _) _
  have HC0 : Hid (Cv V (u.heap.size + 1 + 1) (u.heap.size + 1 + 1 + 1) (sel w w2 w2) (sel h h2 h2) (sel D0 D1 D2) 0 (fun _ => 0)) := by
    have := Cv.start ((u.alloc (.cells #[.int .i64 (x : Int), .int .i64 (y : Int), .slice a0 C0.length c0, .int .i64 (x2 : Int), .int .i64 (y2 : Int), .slice a1 C1.length c1, .int .i64 (x2 : Int), .int .i64 (y2 : Int), .slice a2 C2.length c2] 51)).alloc (.cells #[.int .i64 0, .int .i64 0, .slice none 0 0, .int .i64 0, .int .i64 0, .slice none 0 0, .int .i64 0, .int .i64 0, .slice none 0 0] 51)) (u.heap.size + 1 + 1 + 1) (sel w w2 w2) (sel h h2 h2) (sel D0 D1 D2) (fun _ => 0)
    rw [← hV, show ((u.alloc (.cells #[.int .i64 (x : Int), .int .i64 (y : Int), .slice a0 C0.length c0, .int .i64 (x2 : Int), .int .i64 (y2 : Int), .slice a1 C1.length c1, .int .i64 (x2 : Int), .int .i64 (y2 : Int), .slice a2 C2.length c2] 51)).alloc (.cells #[.int .i64 0, .int .i64 0, .slice none 0 0, .int .i64 0, .int .i64 0, .slice none 0 0, .int .i64 0, .int .i64 0, .slice none 0 0] 51)).heap.size = u.heap.size + 1 + 1 from by simp] at this
    exact this
  have HV : Hid _ := hV
  clear hV
  have hz := HZ.out
  go_enter Try.func60, Try.ntmps60
  go_wp2_with fail
  rw [← HV.out]
  refine (N0.out _ (HS0.out.to (HBV.out))).mono ?_
  rintro e r0 ⟨gg0, rfl, hlo, hr, hb5⟩
  have hC5 := HC0.out.to hb5
  have z0 : r0.cell? ⟨u.heap.size + 1 + 1, 0, none⟩ = some (.int .i64 0) := hC5.z0 0 (Nat.le_refl _) (by omega)
  have z1 : r0.cell? ⟨u.heap.size + 1 + 1, 1, none⟩ = some (.int .i64 0) := hC5.z1 0 (Nat.le_refl _) (by omega)
  have z2 : r0.cell? ⟨u.heap.size + 1 + 1, 2, none⟩ = some (.slice none 0 0) := hC5.z2 0 (Nat.le_refl _) (by omega)
  have th0 := hC5.th 0
  have th1 := hC5.th 1
  have th2 := hC5.th 2
  have hsz : V.heap.size ≤ gg0 := hlo
  have hcl : u.heap.size + 1 + 1 < V.heap.size := HC0.out.lt
  obtain ⟨t0, ht0⟩ : ∃ t, t = ((r0.setCell ⟨u.heap.size + 1 + 1, 0, none⟩ (.int .i64 (w : Int))).setCell ⟨u.heap.size + 1 + 1, 1, none⟩ (.int .i64 (h : Int))).setCell ⟨u.heap.size + 1 + 1, 2, none⟩ (.slice (some ⟨gg0, 0, none⟩) D0.length D0.length) := ⟨_, rfl⟩
  obtain ⟨G1, hG1⟩ : ∃ G, G = (fun j => if j = 0 then gg0 else (fun _ => 0) j) := ⟨_, rfl⟩
  have HC1 : Hid (Cv t0 (u.heap.size + 1 + 1) (u.heap.size + 1 + 1 + 1) (sel w w2 w2) (sel h h2 h2) (sel D0 D1 D2) 1 G1) := by
    unfold Hid; rw [ht0, hG1]; exact hC5.next (by omega) hr (by omega) (by omega) (fun j hj => by have := (HC0.out.rw j hj).lt; omega)
  have HBr : Hid (Below (u.heap.size + 1 + 1) V r0) := Below.trans (Below.refl _ _) (hb5.mono (by omega))
  have HB1 : Hid (Below (u.heap.size + 1 + 1) V t0) := by
    unfold Hid; rw [ht0]; exact below_set (below_set (below_set HBr.out (by simp) _) (by simp) _) (by simp) _
  have HT0 : Hid _ := ht0
  have p0 : r0.cell? ⟨u.heap.size, 3, none⟩ = some (.int .i64 (x2 : Int)) := by rw [newCell HBr.out _ _ (by omega)]; exact F3.out
  have p1 : r0.cell? ⟨u.heap.size, 4, none⟩ = some (.int .i64 (y2 : Int)) := by rw [newCell HBr.out _ _ (by omega)]; exact F4.out
  have p2 : r0.cell? ⟨u.heap.size, 5, none⟩ = some (.slice a1 C1.length c1) := by rw [newCell HBr.out _ _ (by omega)]; exact F5.out
  clear hC5 hb5 hr hlo hsz ht0 hG1
  go_wp2_with fail
  clear p0 p1 p2 z0 z1 z2 th0 th1 th2 HBr
  rw [← HT0.out]
  refine (N1.out _ (HS1.out.to (HBV.out.trans (HB1.out.mono (by omega))))).mono ?_
  rintro e r1 ⟨gg1, rfl, hlo, hr, hb5⟩
  have hC5 := HC1.out.to hb5
  have z0 : r1.cell? ⟨u.heap.size + 1 + 1, 3, none⟩ = some (.int .i64 0) := hC5.z0 1 (Nat.le_refl _) (by omega)
  have z1 : r1.cell? ⟨u.heap.size + 1 + 1, 4, none⟩ = some (.int .i64 0) := hC5.z1 1 (Nat.le_refl _) (by omega)
  have z2 : r1.cell? ⟨u.heap.size + 1 + 1, 5, none⟩ = some (.slice none 0 0) := hC5.z2 1 (Nat.le_refl _) (by omega)
  have th0 := hC5.th 3
  have th1 := hC5.th 4
  have th2 := hC5.th 5
  have hsz : t0.heap.size ≤ gg1 := hlo
  have hcl : u.heap.size + 1 + 1 < t0.heap.size := HC1.out.lt
  obtain ⟨t1, ht1⟩ : ∃ t, t = ((r1.setCell ⟨u.heap.size + 1 + 1, 3, none⟩ (.int .i64 (w2 : Int))).setCell ⟨u.heap.size + 1 + 1, 4, none⟩ (.int .i64 (h2 : Int))).setCell ⟨u.heap.size + 1 + 1, 5, none⟩ (.slice (some ⟨gg1, 0, none⟩) D1.length D1.length) := ⟨_, rfl⟩
  obtain ⟨G2, hG2⟩ : ∃ G, G = (fun j => if j = 1 then gg1 else G1 j) := ⟨_, rfl⟩
  have HC2 : Hid (Cv t1 (u.heap.size + 1 + 1) (u.heap.size + 1 + 1 + 1) (sel w w2 w2) (sel h h2 h2) (sel D0 D1 D2) 2 G2) := by
    unfold Hid; rw [ht1, hG2]; exact hC5.next (by omega) hr (by omega) (by omega) (fun j hj => by have := (HC1.out.rw j hj).lt; omega)
  have HBr : Hid (Below (u.heap.size + 1 + 1) V r1) := Below.trans HB1.out (hb5.mono (by omega))
  have HB2 : Hid (Below (u.heap.size + 1 + 1) V t1) := by
    unfold Hid; rw [ht1]; exact below_set (below_set (below_set HBr.out (by simp) _) (by simp) _) (by simp) _
  have HT1 : Hid _ := ht1
  have p0 : r1.cell? ⟨u.heap.size, 6, none⟩ = some (.int .i64 (x2 : Int)) := by rw [newCell HBr.out _ _ (by omega)]; exact F6.out
  have p1 : r1.cell? ⟨u.heap.size, 7, none⟩ = some (.int .i64 (y2 : Int)) := by rw [newCell HBr.out _ _ (by omega)]; exact F7.out
  have p2 : r1.cell? ⟨u.heap.size, 8, none⟩ = some (.slice a2 C2.length c2) := by rw [newCell HBr.out _ _ (by omega)]; exact F8.out
  clear hC5 hb5 hr hlo hsz ht1 hG2
  go_wp2_with fail
  clear p0 p1 p2 z0 z1 z2 th0 th1 th2 HBr
  rw [← HT1.out]
  refine (N2.out _ (HS2.out.to (HBV.out.trans (HB2.out.mono (by omega))))).mono ?_
  rintro e r2 ⟨gg2, rfl, hlo, hr, hb5⟩
  have hC5 := HC2.out.to hb5
  have z0 : r2.cell? ⟨u.heap.size + 1 + 1, 6, none⟩ = some (.int .i64 0) := hC5.z0 2 (Nat.le_refl _) (by omega)
  have z1 : r2.cell? ⟨u.heap.size + 1 + 1, 7, none⟩ = some (.int .i64 0) := hC5.z1 2 (Nat.le_refl _) (by omega)
  have z2 : r2.cell? ⟨u.heap.size + 1 + 1, 8, none⟩ = some (.slice none 0 0) := hC5.z2 2 (Nat.le_refl _) (by omega)
  have th0 := hC5.th 6
  have th1 := hC5.th 7
  have th2 := hC5.th 8
  have hsz : t1.heap.size ≤ gg2 := hlo
  have hcl : u.heap.size + 1 + 1 < t1.heap.size := HC2.out.lt
  obtain ⟨t2, ht2⟩ : ∃ t, t = ((r2.setCell ⟨u.heap.size + 1 + 1, 6, none⟩ (.int .i64 (w2 : Int))).setCell ⟨u.heap.size + 1 + 1, 7, none⟩ (.int .i64 (h2 : Int))).setCell ⟨u.heap.size + 1 + 1, 8, none⟩ (.slice (some ⟨gg2, 0, none⟩) D2.length D2.length) := ⟨_, rfl⟩
  obtain ⟨G3, hG3⟩ : ∃ G, G = (fun j => if j = 2 then gg2 else G2 j) := ⟨_, rfl⟩
  have HC3 : Hid (Cv t2 (u.heap.size + 1 + 1) (u.heap.size + 1 + 1 + 1) (sel w w2 w2) (sel h h2 h2) (sel D0 D1 D2) 3 G3) := by
    unfold Hid; rw [ht2, hG3]; exact hC5.next (by omega) hr (by omega) (by omega) (fun j hj => by have := (HC2.out.rw j hj).lt; omega)
  have HBr : Hid (Below (u.heap.size + 1 + 1) V r2) := Below.trans HB2.out (hb5.mono (by omega))
  have HB3 : Hid (Below (u.heap.size + 1 + 1) V t2) := by
    unfold Hid; rw [ht2]; exact below_set (below_set (below_set HBr.out (by simp) _) (by simp) _) (by simp) _
  have HT2 : Hid _ := ht2
  have q0 : r2.cell? ⟨u.heap.size + 1 + 1, 0, none⟩ = some (.int .i64 (w : Int)) := hC5.c0 0 (by omega)
  have q1 : r2.cell? ⟨u.heap.size + 1 + 1, 1, none⟩ = some (.int .i64 (h : Int)) := hC5.c1 0 (by omega)
  have q2 : r2.cell? ⟨u.heap.size + 1 + 1, 2, none⟩ = some (.slice (some ⟨G2 0, 0, none⟩) D0.length D0.length) := hC5.c2 0 (by omega)
  have q3 : r2.cell? ⟨u.heap.size + 1 + 1, 3, none⟩ = some (.int .i64 (w2 : Int)) := hC5.c0 1 (by omega)
  have q4 : r2.cell? ⟨u.heap.size + 1 + 1, 4, none⟩ = some (.int .i64 (h2 : Int)) := hC5.c1 1 (by omega)
  have q5 : r2.cell? ⟨u.heap.size + 1 + 1, 5, none⟩ = some (.slice (some ⟨G2 1, 0, none⟩) D1.length D1.length) := hC5.c2 1 (by omega)
  have s0 : r2.cell? ⟨u.heap.size + 1, 0, none⟩ = some (.int .i64 0) := by rw [newCell HBr.out _ _ (by omega)]; exact R0.out
  have s1 : r2.cell? ⟨u.heap.size + 1, 1, none⟩ = some (.int .i64 0) := by rw [newCell HBr.out _ _ (by omega)]; exact R1.out
  have s2 : r2.cell? ⟨u.heap.size + 1, 2, none⟩ = some (.slice none 0 0) := by rw [newCell HBr.out _ _ (by omega)]; exact R2.out
  have s3 : r2.cell? ⟨u.heap.size + 1, 3, none⟩ = some (.int .i64 0) := by rw [newCell HBr.out _ _ (by omega)]; exact R3.out
  have s4 : r2.cell? ⟨u.heap.size + 1, 4, none⟩ = some (.int .i64 0) := by rw [newCell HBr.out _ _ (by omega)]; exact R4.out
  have s5 : r2.cell? ⟨u.heap.size + 1, 5, none⟩ = some (.slice none 0 0) := by rw [newCell HBr.out _ _ (by omega)]; exact R5.out
  have s6 : r2.cell? ⟨u.heap.size + 1, 6, none⟩ = some (.int .i64 0) := by rw [newCell HBr.out _ _ (by omega)]; exact R6.out
  have s7 : r2.cell? ⟨u.heap.size + 1, 7, none⟩ = some (.int .i64 0) := by rw [newCell HBr.out _ _ (by omega)]; exact R7.out
  have s8 : r2.cell? ⟨u.heap.size + 1, 8, none⟩ = some (.slice none 0 0) := by rw [newCell HBr.out _ _ (by omega)]; exact R8.out
  have th : ∀ o, r2.frozen? ⟨u.heap.size + 1, o, none⟩ = false := fun o => by rw [newFrozen HBr.out _ _ (by omega)]; exact RT.out o
  have g0 : G3 0 = G2 0 := by rw [hG3]; rfl
  have g1 : G3 1 = G2 1 := by rw [hG3]; rfl
  have g2 : G3 2 = gg2 := by rw [hG3]; rfl
  have HZ3 : Hid (u.heap.size + 1 + 1 < t2.heap.size) := HC3.out.lt
  clear hC5 hb5 hr hlo hsz ht2 hG3
  go_wp2_with fail
  rw [← HT2.out]
  refine bodyPost_ret (v := .agg #[.int .i64 (w : Int), .int .i64 (h : Int), .slice (some ⟨G2 0, 0, none⟩) D0.length D0.length, .int .i64 (w2 : Int), .int .i64 (h2 : Int), .slice (some ⟨G2 1, 0, none⟩) D1.length D1.length, .int .i64 (w2 : Int), .int .i64 (h2 : Int), .slice (some ⟨gg2, 0, none⟩) D2.length D2.length]) (by rw [HT2.out]; simp [results, Try.results60, go_sem, s0, s1, s2, s3, s4, s5, s6, s7, s8]) rfl ?_
  have hk := Kb.set (Kb.set (Kb.set (Kb.set (Kb.set (Kb.set (Kb.set (Kb.set (Kb.set (Kb.refl (u.heap.size + 1) t2) 0 (.int .i64 (w : Int))) 1 (.int .i64 (h : Int))) 2 (.slice (some ⟨G2 0, 0, none⟩) D0.length D0.length)) 3 (.int .i64 (w2 : Int))) 4 (.int .i64 (h2 : Int))) 5 (.slice (some ⟨G2 1, 0, none⟩) D1.length D1.length)) 6 (.int .i64 (w2 : Int))) 7 (.int .i64 (h2 : Int))) 8 (.slice (some ⟨gg2, 0, none⟩) D2.length D2.length)
  have hm := fun j hj => (HC3.out.lo j hj).1
  have far : ∀ j, j < 3 → G3 j ≠ u.heap.size + 1 := fun j hj e => by have := hm j hj; omega
  rw [← g0, ← g1, ← g2] at hk ⊢
  exact ⟨G3 0, G3 1, G3 2, rfl, (HC3.out.rw 0 (by omega)).carry (hk.block _ (far 0 (by omega))), (HC3.out.rw 1 (by omega)).carry (hk.block _ (far 1 (by omega))), (HC3.out.rw 2 (by omega)).carry (hk.block _ (far 2 (by omega))), by have := hm 0 (by omega); omega, by have := hm 1 (by omega); omega, by have := hm 2 (by omega); omega, HC3.out.inj 0 1 (by omega) (by omega) (by omega), HC3.out.inj 0 2 (by omega) (by omega) (by omega), HC3.out.inj 1 2 (by omega) (by omega) (by omega), (HBV.out.trans (HB3.out.mono (by omega))).trans (hk.below (by omega))⟩

end Go.Proofs.Ytlgfkkegehpllaa
