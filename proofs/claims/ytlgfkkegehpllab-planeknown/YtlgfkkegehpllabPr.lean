/- DERIVED. The walk of Crop. -/
import Derived.Test.YtlgfkkegehpllabPq
namespace Go.Proofs.Ytlgfkkegehpllab
open Go.RowKit

set_option maxRecDepth 100000 in
set_option maxHeartbeats 4000000 in
theorem crop_walk {u : World} {x y x2 y2 w h w2 h2 : Nat} {a0 a1 a2 : Option Addr} {c0 c1 c2 : Nat} {C0 C1 C2 D0 D1 D2 : List Nat} (hfk : fk ⟨(x : Int), (y : Int), a0, c0, C0⟩ ⟨(x2 : Int), (y2 : Int), a1, c1, C1⟩ ⟨(x2 : Int), (y2 : Int), a2, c2, C2⟩ = 0)
    (vw : Vs (w : Int)) (vh : Vs (h : Int)) (lw : w ≤ x) (lh : h ≤ y) (e1 : w2 = w / 2) (e2 : h2 = h / 2) (s0 : Sl u .u8 a0 C0) (s1 : Sl u .u8 a1 C1) (s2 : Sl u .u8 a2 C2)
    (n0 : ∀ v : World, Sl v .u8 a0 C0 → Calls Try.prog 6 #[.agg #[.int .i64 (x : Int), .int .i64 (y : Int), .slice a0 C0.length c0], .agg #[.int .i64 0, .int .i64 0, .int .i64 (w : Int), .int .i64 (h : Int)]] v fun e w' => Sn v w' e D0)
    (n1 : ∀ v : World, Sl v .u8 a1 C1 → Calls Try.prog 6 #[.agg #[.int .i64 (x2 : Int), .int .i64 (y2 : Int), .slice a1 C1.length c1], .agg #[.int .i64 0, .int .i64 0, .int .i64 (w2 : Int), .int .i64 (h2 : Int)]] v fun e w' => Sn v w' e D1)
    (n2 : ∀ v : World, Sl v .u8 a2 C2 → Calls Try.prog 6 #[.agg #[.int .i64 (x2 : Int), .int .i64 (y2 : Int), .slice a2 C2.length c2], .agg #[.int .i64 0, .int .i64 0, .int .i64 (w2 : Int), .int .i64 (h2 : Int)]] v fun e w' => Sn v w' e D2) :
    Calls Try.prog 15 #[.agg #[.int .i64 (x : Int), .int .i64 (y : Int), .slice a0 C0.length c0, .int .i64 (x2 : Int), .int .i64 (y2 : Int), .slice a1 C1.length c1, .int .i64 (x2 : Int), .int .i64 (y2 : Int), .slice a2 C2.length c2], .int .i64 (w : Int), .int .i64 (h : Int)] u fun e w' => Fn u w' e w h w2 h2 w2 h2 D0 D1 D2 := by
  have HN0 : Hid (∀ v : World, Sl v .u8 a0 C0 → Calls Try.prog 6 #[.agg #[.int .i64 (x : Int), .int .i64 (y : Int), .slice a0 C0.length c0], .agg #[.int .i64 0, .int .i64 0, .int .i64 (w : Int), .int .i64 (h : Int)]] v fun e w' => Sn v w' e D0) := n0
  have HN1 : Hid (∀ v : World, Sl v .u8 a1 C1 → Calls Try.prog 6 #[.agg #[.int .i64 (x2 : Int), .int .i64 (y2 : Int), .slice a1 C1.length c1], .agg #[.int .i64 0, .int .i64 0, .int .i64 (w2 : Int), .int .i64 (h2 : Int)]] v fun e w' => Sn v w' e D1) := n1
  have HN2 : Hid (∀ v : World, Sl v .u8 a2 C2 → Calls Try.prog 6 #[.agg #[.int .i64 (x2 : Int), .int .i64 (y2 : Int), .slice a2 C2.length c2], .agg #[.int .i64 0, .int .i64 0, .int .i64 (w2 : Int), .int .i64 (h2 : Int)]] v fun e w' => Sn v w' e D2) := n2
  have HSL0 : Hid (Sl u .u8 a0 C0) := s0
  have HSL1 : Hid (Sl u .u8 a1 C1) := s1
  have HSL2 : Hid (Sl u .u8 a2 C2) := s2
  have i1 := vw.hi
  have i2 := vh.hi
  have HVW : Hid _ := vw
  have HVH : Hid _ := vh
  have j1 : (w : Int) ≤ (x : Int) := by omega
  have j2 : (h : Int) ≤ (y : Int) := by omega
  have HSZ : Hid (∀ v : World, Calls Try.prog 26 #[.int .i64 (w : Int), .int .i64 (h : Int)] v fun e w' => e = .returned (.agg #[.int .i64 (w : Int), .int .i64 (h : Int), .int .i64 (w2 : Int), .int .i64 (h2 : Int), .int .i64 (w2 : Int), .int .i64 (h2 : Int)]) ∧ Below v.heap.size v w') := fun v => sizes_nat (by omega) (by omega) e1 e2
  clear n0 n1 n2 s0 s1 s2 e1 e2 vw vh
  go_enter Try.func15, Try.ntmps15
  go_wp2_with fail
  refine whole_any.mono ?_
  rintro e w1 ⟨rfl, hb⟩
  rw [hfk]
  have G0 : Hid (w1.cell? ⟨u.heap.size, 0, none⟩ = some (.int .i64 (x : Int))) := by unfold Hid; rw [newCell hb _ _ (by simp; omega)]; simp [go_sem]
  have G1 : Hid (w1.cell? ⟨u.heap.size, 1, none⟩ = some (.int .i64 (y : Int))) := by unfold Hid; rw [newCell hb _ _ (by simp; omega)]; simp [go_sem]
  have G2 : Hid (w1.cell? ⟨u.heap.size, 2, none⟩ = some (.slice a0 C0.length c0)) := by unfold Hid; rw [newCell hb _ _ (by simp; omega)]; simp [go_sem]
  have G3 : Hid (w1.cell? ⟨u.heap.size, 3, none⟩ = some (.int .i64 (x2 : Int))) := by unfold Hid; rw [newCell hb _ _ (by simp; omega)]; simp [go_sem]
  have G4 : Hid (w1.cell? ⟨u.heap.size, 4, none⟩ = some (.int .i64 (y2 : Int))) := by unfold Hid; rw [newCell hb _ _ (by simp; omega)]; simp [go_sem]
  have G5 : Hid (w1.cell? ⟨u.heap.size, 5, none⟩ = some (.slice a1 C1.length c1)) := by unfold Hid; rw [newCell hb _ _ (by simp; omega)]; simp [go_sem]
  have G6 : Hid (w1.cell? ⟨u.heap.size, 6, none⟩ = some (.int .i64 (x2 : Int))) := by unfold Hid; rw [newCell hb _ _ (by simp; omega)]; simp [go_sem]
  have G7 : Hid (w1.cell? ⟨u.heap.size, 7, none⟩ = some (.int .i64 (y2 : Int))) := by unfold Hid; rw [newCell hb _ _ (by simp; omega)]; simp [go_sem]
  have G8 : Hid (w1.cell? ⟨u.heap.size, 8, none⟩ = some (.slice a2 C2.length c2)) := by unfold Hid; rw [newCell hb _ _ (by simp; omega)]; simp [go_sem]
  have R0 : Hid (w1.cell? ⟨u.heap.size + 1, 0, none⟩ = some (.int .i64 0)) := by unfold Hid; rw [newCell hb _ _ (by simp)]; simp [go_sem]
  have R1 : Hid (w1.cell? ⟨u.heap.size + 1, 1, none⟩ = some (.int .i64 0)) := by unfold Hid; rw [newCell hb _ _ (by simp)]; simp [go_sem]
  have R2 : Hid (w1.cell? ⟨u.heap.size + 1, 2, none⟩ = some (.slice none 0 0)) := by unfold Hid; rw [newCell hb _ _ (by simp)]; simp [go_sem]
  have R3 : Hid (w1.cell? ⟨u.heap.size + 1, 3, none⟩ = some (.int .i64 0)) := by unfold Hid; rw [newCell hb _ _ (by simp)]; simp [go_sem]
  have R4 : Hid (w1.cell? ⟨u.heap.size + 1, 4, none⟩ = some (.int .i64 0)) := by unfold Hid; rw [newCell hb _ _ (by simp)]; simp [go_sem]
  have R5 : Hid (w1.cell? ⟨u.heap.size + 1, 5, none⟩ = some (.slice none 0 0)) := by unfold Hid; rw [newCell hb _ _ (by simp)]; simp [go_sem]
  have R6 : Hid (w1.cell? ⟨u.heap.size + 1, 6, none⟩ = some (.int .i64 0)) := by unfold Hid; rw [newCell hb _ _ (by simp)]; simp [go_sem]
  have R7 : Hid (w1.cell? ⟨u.heap.size + 1, 7, none⟩ = some (.int .i64 0)) := by unfold Hid; rw [newCell hb _ _ (by simp)]; simp [go_sem]
  have R8 : Hid (w1.cell? ⟨u.heap.size + 1, 8, none⟩ = some (.slice none 0 0)) := by unfold Hid; rw [newCell hb _ _ (by simp)]; simp [go_sem]
  have RT : Hid (∀ o, w1.frozen? ⟨u.heap.size + 1, o, none⟩ = false) := fun o => by rw [newFrozen hb _ _ (by simp)]; simp [go_sem]
  have HB1 : Hid (Below u.heap.size u w1) := below_to (to_alloc (from_alloc u _) _) hb
  have hz1 : u.heap.size + 2 ≤ w1.heap.size := by have := hb.size; simp at this; omega
  have HA1 : Hid (Below w1.heap.size w1 (w1.alloc (.cells #[.int .i64 0, .int .i64 0, .slice none 0 0, .int .i64 0, .int .i64 0, .slice none 0 0, .int .i64 0, .int .i64 0, .slice none 0 0] 48))) := from_alloc _ _
  have p0 : (w1.alloc (.cells #[.int .i64 0, .int .i64 0, .slice none 0 0, .int .i64 0, .int .i64 0, .slice none 0 0, .int .i64 0, .int .i64 0, .slice none 0 0] 48)).cell? ⟨u.heap.size, 0, none⟩ = some (.int .i64 (x : Int)) := by rw [newCell HA1.out _ _ (by omega)]; exact G0.out
  have p1 : (w1.alloc (.cells #[.int .i64 0, .int .i64 0, .slice none 0 0, .int .i64 0, .int .i64 0, .slice none 0 0, .int .i64 0, .int .i64 0, .slice none 0 0] 48)).cell? ⟨u.heap.size, 1, none⟩ = some (.int .i64 (y : Int)) := by rw [newCell HA1.out _ _ (by omega)]; exact G1.out
  have HCS : Hid (Cv (w1.alloc (.cells #[.int .i64 0, .int .i64 0, .slice none 0 0, .int .i64 0, .int .i64 0, .slice none 0 0, .int .i64 0, .int .i64 0, .slice none 0 0] 48)) w1.heap.size (u.heap.size + 2) (sel w w2 w2) (sel h h2 h2) (sel D0 D1 D2) 0 (fun _ => 0)) := Cv.start _ _ _ _ _ _
  clear hb hfk p0 p1
  have p0 : w1.cell? ⟨u.heap.size, 0, none⟩ = some (.int .i64 (x : Int)) := G0.out
  have p1 : w1.cell? ⟨u.heap.size, 1, none⟩ = some (.int .i64 (y : Int)) := G1.out
  go_wp2_with (first | (go_at_call 25; with_reducible refine (vs_yes HVW.out).mono ?_; rintro e w3 ⟨rfl, hw3⟩; replace hw3 := hw3.symm; subst hw3) | (go_at_call 25; with_reducible refine (vs_yes HVH.out).mono ?_; rintro e w4 ⟨rfl, hw4⟩; replace hw4 := hw4.symm; subst hw4))
  refine (HSZ.out _).mono ?_
  rintro e v0 ⟨rfl, hb⟩
  have HC0 : Hid (Cv v0 w1.heap.size (u.heap.size + 2) (sel w w2 w2) (sel h h2 h2) (sel D0 D1 D2) 0 (fun _ => 0)) := HCS.out.to hb
  have HF0 : Hid (v0.cell? ⟨u.heap.size, 0, none⟩ = some (.int .i64 (x : Int))) := by unfold Hid; rw [newCell hb _ _ (by simp; omega), newCell HA1.out _ _ (by omega)]; exact G0.out
  have HF1 : Hid (v0.cell? ⟨u.heap.size, 1, none⟩ = some (.int .i64 (y : Int))) := by unfold Hid; rw [newCell hb _ _ (by simp; omega), newCell HA1.out _ _ (by omega)]; exact G1.out
  have HF2 : Hid (v0.cell? ⟨u.heap.size, 2, none⟩ = some (.slice a0 C0.length c0)) := by unfold Hid; rw [newCell hb _ _ (by simp; omega), newCell HA1.out _ _ (by omega)]; exact G2.out
  have HF3 : Hid (v0.cell? ⟨u.heap.size, 3, none⟩ = some (.int .i64 (x2 : Int))) := by unfold Hid; rw [newCell hb _ _ (by simp; omega), newCell HA1.out _ _ (by omega)]; exact G3.out
  have HF4 : Hid (v0.cell? ⟨u.heap.size, 4, none⟩ = some (.int .i64 (y2 : Int))) := by unfold Hid; rw [newCell hb _ _ (by simp; omega), newCell HA1.out _ _ (by omega)]; exact G4.out
  have HF5 : Hid (v0.cell? ⟨u.heap.size, 5, none⟩ = some (.slice a1 C1.length c1)) := by unfold Hid; rw [newCell hb _ _ (by simp; omega), newCell HA1.out _ _ (by omega)]; exact G5.out
  have HF6 : Hid (v0.cell? ⟨u.heap.size, 6, none⟩ = some (.int .i64 (x2 : Int))) := by unfold Hid; rw [newCell hb _ _ (by simp; omega), newCell HA1.out _ _ (by omega)]; exact G6.out
  have HF7 : Hid (v0.cell? ⟨u.heap.size, 7, none⟩ = some (.int .i64 (y2 : Int))) := by unfold Hid; rw [newCell hb _ _ (by simp; omega), newCell HA1.out _ _ (by omega)]; exact G7.out
  have HF8 : Hid (v0.cell? ⟨u.heap.size, 8, none⟩ = some (.slice a2 C2.length c2)) := by unfold Hid; rw [newCell hb _ _ (by simp; omega), newCell HA1.out _ _ (by omega)]; exact G8.out
  have HS0 : Hid (v0.cell? ⟨u.heap.size + 1, 0, none⟩ = some (.int .i64 0)) := by unfold Hid; rw [newCell hb _ _ (by simp; omega), newCell HA1.out _ _ (by omega)]; exact R0.out
  have HS1 : Hid (v0.cell? ⟨u.heap.size + 1, 1, none⟩ = some (.int .i64 0)) := by unfold Hid; rw [newCell hb _ _ (by simp; omega), newCell HA1.out _ _ (by omega)]; exact R1.out
  have HS2 : Hid (v0.cell? ⟨u.heap.size + 1, 2, none⟩ = some (.slice none 0 0)) := by unfold Hid; rw [newCell hb _ _ (by simp; omega), newCell HA1.out _ _ (by omega)]; exact R2.out
  have HS3 : Hid (v0.cell? ⟨u.heap.size + 1, 3, none⟩ = some (.int .i64 0)) := by unfold Hid; rw [newCell hb _ _ (by simp; omega), newCell HA1.out _ _ (by omega)]; exact R3.out
  have HS4 : Hid (v0.cell? ⟨u.heap.size + 1, 4, none⟩ = some (.int .i64 0)) := by unfold Hid; rw [newCell hb _ _ (by simp; omega), newCell HA1.out _ _ (by omega)]; exact R4.out
  have HS5 : Hid (v0.cell? ⟨u.heap.size + 1, 5, none⟩ = some (.slice none 0 0)) := by unfold Hid; rw [newCell hb _ _ (by simp; omega), newCell HA1.out _ _ (by omega)]; exact R5.out
  have HS6 : Hid (v0.cell? ⟨u.heap.size + 1, 6, none⟩ = some (.int .i64 0)) := by unfold Hid; rw [newCell hb _ _ (by simp; omega), newCell HA1.out _ _ (by omega)]; exact R6.out
  have HS7 : Hid (v0.cell? ⟨u.heap.size + 1, 7, none⟩ = some (.int .i64 0)) := by unfold Hid; rw [newCell hb _ _ (by simp; omega), newCell HA1.out _ _ (by omega)]; exact R7.out
  have HS8 : Hid (v0.cell? ⟨u.heap.size + 1, 8, none⟩ = some (.slice none 0 0)) := by unfold Hid; rw [newCell hb _ _ (by simp; omega), newCell HA1.out _ _ (by omega)]; exact R8.out
  have HTH : Hid (∀ o, v0.frozen? ⟨u.heap.size + 1, o, none⟩ = false) := fun o => by rw [newFrozen hb _ _ (by simp; omega), newFrozen HA1.out _ _ (by omega)]; exact RT.out o
  have HBv : Hid (Below u.heap.size u v0) := below_to (below_to HB1.out HA1.out) hb
  clear hb p0 p1 G0 R0 G1 R1 G2 R2 G3 R3 G4 R4 G5 R5 G6 R6 G7 R7 G8 R8 RT HCS HA1 HB1 HSZ
  generalize w1.heap.size = cv at *
  go_wp2_with fail
  go_loopw [48] (fun i wr => FrInv v0 cv (sel w w2 w2) (sel h h2 h2) (sel D0 D1 D2) (u.heap.size + 2) i wr) (fun i _ => 3 - (intOf i).toNat)
  case atStart => exact ⟨0, _, by omega, rfl, HC0.out, Below.refl _ _⟩
  case round =>
    obtain ⟨k, G, hk, rfl, hC, hb⟩ := hrel
    have HC : Hid _ := hC
    have HBr : Hid (Below cv v0 wr) := hb
    clear hC hb HC0
    have hvz : cv < wr.heap.size := HC.out.lt
    have hvz2 : u.heap.size ≤ v0.heap.size := HBv.out.size
    rcases (show k = 0 ∨ k = 1 ∨ k = 2 ∨ k = 3 by omega) with rfl | rfl | rfl | rfl
    · have hix : ∀ x : World, (Instr.index 62 (.agg #[.int .i64 (w : Int), .int .i64 (h : Int), .int .i64 (w2 : Int), .int .i64 (h2 : Int), .int .i64 (w2 : Int), .int .i64 (h2 : Int)]) (.int .i64 0)).run Try.prog x = .ok (.agg #[.int .i64 (w : Int), .int .i64 (h : Int)]) x := fun x => idx0 _ _ _ _ _ _ x
      have HA : Hid (Below wr.heap.size wr (wr.alloc (.cells #[.int .i64 (w : Int), .int .i64 (h : Int)] 61))) := from_alloc _ _
      have HBV : Hid (Below u.heap.size u (wr.alloc (.cells #[.int .i64 (w : Int), .int .i64 (h : Int)] 61))) := below_to (HBv.out.trans (HBr.out.mono (by omega))) HA.out
      have r0 : (wr.alloc (.cells #[.int .i64 (w : Int), .int .i64 (h : Int)] 61)).cell? ⟨u.heap.size, 0, none⟩ = some (.int .i64 (x : Int)) := by rw [newCell HA.out _ _ (by omega), newCell HBr.out _ _ (by omega)]; exact HF0.out
      have r1 : (wr.alloc (.cells #[.int .i64 (w : Int), .int .i64 (h : Int)] 61)).cell? ⟨u.heap.size, 1, none⟩ = some (.int .i64 (y : Int)) := by rw [newCell HA.out _ _ (by omega), newCell HBr.out _ _ (by omega)]; exact HF1.out
      have r2 : (wr.alloc (.cells #[.int .i64 (w : Int), .int .i64 (h : Int)] 61)).cell? ⟨u.heap.size, 2, none⟩ = some (.slice a0 C0.length c0) := by rw [newCell HA.out _ _ (by omega), newCell HBr.out _ _ (by omega)]; exact HF2.out
      have r3 : (wr.alloc (.cells #[.int .i64 (w : Int), .int .i64 (h : Int)] 61)).cell? ⟨wr.heap.size, 0, none⟩ = some (.int .i64 (w : Int)) := by simp
      have r4 : (wr.alloc (.cells #[.int .i64 (w : Int), .int .i64 (h : Int)] 61)).cell? ⟨wr.heap.size, 1, none⟩ = some (.int .i64 (h : Int)) := by simp
      have HZA : Hid ((wr.alloc (.cells #[.int .i64 (w : Int), .int .i64 (h : Int)] 61)).heap.size = wr.heap.size + 1) := by unfold Hid; simp
      have HK : Hid (∀ t : World, Kf cv (wr.alloc (.cells #[.int .i64 (w : Int), .int .i64 (h : Int)] 61)) t → (t.cell? ⟨u.heap.size, 0, none⟩ = some (.int .i64 (x : Int)) ∧ t.cell? ⟨u.heap.size, 1, none⟩ = some (.int .i64 (y : Int)) ∧ t.cell? ⟨u.heap.size, 2, none⟩ = some (.slice a0 C0.length c0) ∧ t.cell? ⟨wr.heap.size, 0, none⟩ = some (.int .i64 (w : Int)) ∧ t.cell? ⟨wr.heap.size, 1, none⟩ = some (.int .i64 (h : Int)) ∧ Kf cv (wr.alloc (.cells #[.int .i64 (w : Int), .int .i64 (h : Int)] 61)) t)) := fun t ht => ⟨by rw [ht.cell _ _ (by rw [HZA.out]; omega) (by omega)]; exact r0, by rw [ht.cell _ _ (by rw [HZA.out]; omega) (by omega)]; exact r1, by rw [ht.cell _ _ (by rw [HZA.out]; omega) (by omega)]; exact r2, by rw [ht.cell _ _ (by rw [HZA.out]; omega) (by omega)]; exact r3, by rw [ht.cell _ _ (by rw [HZA.out]; omega) (by omega)]; exact r4, ht⟩
      have HKd : Hid (Kf cv (wr.alloc (.cells #[.int .i64 (w : Int), .int .i64 (h : Int)] 61)) (wr.alloc (.cells #[.int .i64 (w : Int), .int .i64 (h : Int)] 61)).drew) := (Kf.refl _ _).drew
      have HCA : Hid (Cv (wr.alloc (.cells #[.int .i64 (w : Int), .int .i64 (h : Int)] 61)).drew cv (u.heap.size + 2) (sel w w2 w2) (sel h h2 h2) (sel D0 D1 D2) 0 G) := (HC.out.to HA.out).drew
      have HNk : Hid (Calls Try.prog 6 #[.agg #[.int .i64 (x : Int), .int .i64 (y : Int), .slice a0 C0.length c0], .agg #[.int .i64 0, .int .i64 0, .int .i64 (w : Int), .int .i64 (h : Int)]] (wr.alloc (.cells #[.int .i64 (w : Int), .int .i64 (h : Int)] 61)).drew fun e w' => Sn (wr.alloc (.cells #[.int .i64 (w : Int), .int .i64 (h : Int)] 61)).drew w' e D0) := HN0.out _ (HSL0.out.low HBV.out HKd.out (by omega))
      clear r0 r1 r2 r3 r4
      go_wp2_with fail
      go_region_held3 (fun t => t.cell? ⟨u.heap.size, 0, none⟩ = some (.int .i64 (x : Int)) ∧ t.cell? ⟨u.heap.size, 1, none⟩ = some (.int .i64 (y : Int)) ∧ t.cell? ⟨u.heap.size, 2, none⟩ = some (.slice a0 C0.length c0) ∧ t.cell? ⟨wr.heap.size, 0, none⟩ = some (.int .i64 (w : Int)) ∧ t.cell? ⟨wr.heap.size, 1, none⟩ = some (.int .i64 (h : Int)) ∧ Kf cv (wr.alloc (.cells #[.int .i64 (w : Int), .int .i64 (h : Int)] 61)) t)
        ((exact HK.out _ (by first | exact HKd.out | exact HKd.out.step (by assumption))))
        ((go_at_call 6; refine HNk.out.mono ?_; rintro e w5 ⟨g, rfl, hlo, hr, hb5⟩))
      have hC5 := HCA.out.to hb5
      have z0 : w5.cell? ⟨cv, 0, none⟩ = some (.int .i64 0) := hC5.z0 0 (Nat.le_refl _) (by omega)
      have z1 : w5.cell? ⟨cv, 1, none⟩ = some (.int .i64 0) := hC5.z1 0 (Nat.le_refl _) (by omega)
      have z2 : w5.cell? ⟨cv, 2, none⟩ = some (.slice none 0 0) := hC5.z2 0 (Nat.le_refl _) (by omega)
      have t0 := hC5.th 0
      have t1 := hC5.th 1
      have t2 := hC5.th 2
      obtain ⟨_, _, _, y0, y1, _⟩ := HK.out _ (HKd.out.step hb5)
      have hsz : wr.heap.size < g := by
        have h1 : (wr.alloc (.cells #[.int .i64 (w : Int), .int .i64 (h : Int)] 61)).drew.heap.size = wr.heap.size + 1 := HZA.out
        rw [h1] at hlo; omega
      have HN5 : Hid (Cv (((w5.setCell ⟨cv, 0, none⟩ (.int .i64 (w : Int))).setCell ⟨cv, 1, none⟩ (.int .i64 (h : Int))).setCell ⟨cv, 2, none⟩ (.slice (some ⟨g, 0, none⟩) D0.length D0.length)) cv (u.heap.size + 2) (sel w w2 w2) (sel h h2 h2) (sel D0 D1 D2) 1 (fun j => if j = 0 then g else G j)) :=
        hC5.next (by omega) hr (by omega) (by omega) (fun j hj => by have := (HC.out.rw j hj).lt; omega)
      have HB5 : Hid (Below cv v0 w5) := (HBr.out.trans (HA.out.mono (by omega))).trans (Below.mono (Below.trans (below_drew (Below.refl _ _)) hb5) (by show cv ≤ (wr.alloc (.cells #[.int .i64 (w : Int), .int .i64 (h : Int)] 61)).heap.size; rw [HZA.out]; omega))
      clear hC5 hb5 hr hlo
      go_wp2_with fail
      go_roundw
      case rel => exact ⟨1, _, by omega, by go_num, HN5.out, below_set (below_set (below_set HB5.out (by simp) _) (by simp) _) (by simp) _⟩
      case measure => simp [intOf]
    · have hix : ∀ x : World, (Instr.index 62 (.agg #[.int .i64 (w : Int), .int .i64 (h : Int), .int .i64 (w2 : Int), .int .i64 (h2 : Int), .int .i64 (w2 : Int), .int .i64 (h2 : Int)]) (.int .i64 1)).run Try.prog x = .ok (.agg #[.int .i64 (w2 : Int), .int .i64 (h2 : Int)]) x := fun x => idx1 _ _ _ _ _ _ x
      have HA : Hid (Below wr.heap.size wr (wr.alloc (.cells #[.int .i64 (w2 : Int), .int .i64 (h2 : Int)] 61))) := from_alloc _ _
      have HBV : Hid (Below u.heap.size u (wr.alloc (.cells #[.int .i64 (w2 : Int), .int .i64 (h2 : Int)] 61))) := below_to (HBv.out.trans (HBr.out.mono (by omega))) HA.out
      have r0 : (wr.alloc (.cells #[.int .i64 (w2 : Int), .int .i64 (h2 : Int)] 61)).cell? ⟨u.heap.size, 3, none⟩ = some (.int .i64 (x2 : Int)) := by rw [newCell HA.out _ _ (by omega), newCell HBr.out _ _ (by omega)]; exact HF3.out
      have r1 : (wr.alloc (.cells #[.int .i64 (w2 : Int), .int .i64 (h2 : Int)] 61)).cell? ⟨u.heap.size, 4, none⟩ = some (.int .i64 (y2 : Int)) := by rw [newCell HA.out _ _ (by omega), newCell HBr.out _ _ (by omega)]; exact HF4.out
      have r2 : (wr.alloc (.cells #[.int .i64 (w2 : Int), .int .i64 (h2 : Int)] 61)).cell? ⟨u.heap.size, 5, none⟩ = some (.slice a1 C1.length c1) := by rw [newCell HA.out _ _ (by omega), newCell HBr.out _ _ (by omega)]; exact HF5.out
      have r3 : (wr.alloc (.cells #[.int .i64 (w2 : Int), .int .i64 (h2 : Int)] 61)).cell? ⟨wr.heap.size, 0, none⟩ = some (.int .i64 (w2 : Int)) := by simp
      have r4 : (wr.alloc (.cells #[.int .i64 (w2 : Int), .int .i64 (h2 : Int)] 61)).cell? ⟨wr.heap.size, 1, none⟩ = some (.int .i64 (h2 : Int)) := by simp
      have HZA : Hid ((wr.alloc (.cells #[.int .i64 (w2 : Int), .int .i64 (h2 : Int)] 61)).heap.size = wr.heap.size + 1) := by unfold Hid; simp
      have HK : Hid (∀ t : World, Kf cv (wr.alloc (.cells #[.int .i64 (w2 : Int), .int .i64 (h2 : Int)] 61)) t → (t.cell? ⟨u.heap.size, 3, none⟩ = some (.int .i64 (x2 : Int)) ∧ t.cell? ⟨u.heap.size, 4, none⟩ = some (.int .i64 (y2 : Int)) ∧ t.cell? ⟨u.heap.size, 5, none⟩ = some (.slice a1 C1.length c1) ∧ t.cell? ⟨wr.heap.size, 0, none⟩ = some (.int .i64 (w2 : Int)) ∧ t.cell? ⟨wr.heap.size, 1, none⟩ = some (.int .i64 (h2 : Int)) ∧ Kf cv (wr.alloc (.cells #[.int .i64 (w2 : Int), .int .i64 (h2 : Int)] 61)) t)) := fun t ht => ⟨by rw [ht.cell _ _ (by rw [HZA.out]; omega) (by omega)]; exact r0, by rw [ht.cell _ _ (by rw [HZA.out]; omega) (by omega)]; exact r1, by rw [ht.cell _ _ (by rw [HZA.out]; omega) (by omega)]; exact r2, by rw [ht.cell _ _ (by rw [HZA.out]; omega) (by omega)]; exact r3, by rw [ht.cell _ _ (by rw [HZA.out]; omega) (by omega)]; exact r4, ht⟩
      have HKd : Hid (Kf cv (wr.alloc (.cells #[.int .i64 (w2 : Int), .int .i64 (h2 : Int)] 61)) (wr.alloc (.cells #[.int .i64 (w2 : Int), .int .i64 (h2 : Int)] 61)).drew) := (Kf.refl _ _).drew
      have HCA : Hid (Cv (wr.alloc (.cells #[.int .i64 (w2 : Int), .int .i64 (h2 : Int)] 61)).drew cv (u.heap.size + 2) (sel w w2 w2) (sel h h2 h2) (sel D0 D1 D2) 1 G) := (HC.out.to HA.out).drew
      have HNk : Hid (Calls Try.prog 6 #[.agg #[.int .i64 (x2 : Int), .int .i64 (y2 : Int), .slice a1 C1.length c1], .agg #[.int .i64 0, .int .i64 0, .int .i64 (w2 : Int), .int .i64 (h2 : Int)]] (wr.alloc (.cells #[.int .i64 (w2 : Int), .int .i64 (h2 : Int)] 61)).drew fun e w' => Sn (wr.alloc (.cells #[.int .i64 (w2 : Int), .int .i64 (h2 : Int)] 61)).drew w' e D1) := HN1.out _ (HSL1.out.low HBV.out HKd.out (by omega))
      clear r0 r1 r2 r3 r4
      go_wp2_with fail
      go_region_held3 (fun t => t.cell? ⟨u.heap.size, 3, none⟩ = some (.int .i64 (x2 : Int)) ∧ t.cell? ⟨u.heap.size, 4, none⟩ = some (.int .i64 (y2 : Int)) ∧ t.cell? ⟨u.heap.size, 5, none⟩ = some (.slice a1 C1.length c1) ∧ t.cell? ⟨wr.heap.size, 0, none⟩ = some (.int .i64 (w2 : Int)) ∧ t.cell? ⟨wr.heap.size, 1, none⟩ = some (.int .i64 (h2 : Int)) ∧ Kf cv (wr.alloc (.cells #[.int .i64 (w2 : Int), .int .i64 (h2 : Int)] 61)) t)
        ((exact HK.out _ (by first | exact HKd.out | exact HKd.out.step (by assumption))))
        ((go_at_call 6; refine HNk.out.mono ?_; rintro e w5 ⟨g, rfl, hlo, hr, hb5⟩))
      have hC5 := HCA.out.to hb5
      have z0 : w5.cell? ⟨cv, 3, none⟩ = some (.int .i64 0) := hC5.z0 1 (Nat.le_refl _) (by omega)
      have z1 : w5.cell? ⟨cv, 4, none⟩ = some (.int .i64 0) := hC5.z1 1 (Nat.le_refl _) (by omega)
      have z2 : w5.cell? ⟨cv, 5, none⟩ = some (.slice none 0 0) := hC5.z2 1 (Nat.le_refl _) (by omega)
      have t0 := hC5.th 3
      have t1 := hC5.th 4
      have t2 := hC5.th 5
      obtain ⟨_, _, _, y0, y1, _⟩ := HK.out _ (HKd.out.step hb5)
      have hsz : wr.heap.size < g := by
        have h1 : (wr.alloc (.cells #[.int .i64 (w2 : Int), .int .i64 (h2 : Int)] 61)).drew.heap.size = wr.heap.size + 1 := HZA.out
        rw [h1] at hlo; omega
      have HN5 : Hid (Cv (((w5.setCell ⟨cv, 3, none⟩ (.int .i64 (w2 : Int))).setCell ⟨cv, 4, none⟩ (.int .i64 (h2 : Int))).setCell ⟨cv, 5, none⟩ (.slice (some ⟨g, 0, none⟩) D1.length D1.length)) cv (u.heap.size + 2) (sel w w2 w2) (sel h h2 h2) (sel D0 D1 D2) 2 (fun j => if j = 1 then g else G j)) :=
        hC5.next (by omega) hr (by omega) (by omega) (fun j hj => by have := (HC.out.rw j hj).lt; omega)
      have HB5 : Hid (Below cv v0 w5) := (HBr.out.trans (HA.out.mono (by omega))).trans (Below.mono (Below.trans (below_drew (Below.refl _ _)) hb5) (by show cv ≤ (wr.alloc (.cells #[.int .i64 (w2 : Int), .int .i64 (h2 : Int)] 61)).heap.size; rw [HZA.out]; omega))
      clear hC5 hb5 hr hlo
      go_wp2_with fail
      go_roundw
      case rel => exact ⟨2, _, by omega, by go_num, HN5.out, below_set (below_set (below_set HB5.out (by simp) _) (by simp) _) (by simp) _⟩
      case measure => simp [intOf]
    · have hix : ∀ x : World, (Instr.index 62 (.agg #[.int .i64 (w : Int), .int .i64 (h : Int), .int .i64 (w2 : Int), .int .i64 (h2 : Int), .int .i64 (w2 : Int), .int .i64 (h2 : Int)]) (.int .i64 2)).run Try.prog x = .ok (.agg #[.int .i64 (w2 : Int), .int .i64 (h2 : Int)]) x := fun x => idx2 _ _ _ _ _ _ x
      have HA : Hid (Below wr.heap.size wr (wr.alloc (.cells #[.int .i64 (w2 : Int), .int .i64 (h2 : Int)] 61))) := from_alloc _ _
      have HBV : Hid (Below u.heap.size u (wr.alloc (.cells #[.int .i64 (w2 : Int), .int .i64 (h2 : Int)] 61))) := below_to (HBv.out.trans (HBr.out.mono (by omega))) HA.out
      have r0 : (wr.alloc (.cells #[.int .i64 (w2 : Int), .int .i64 (h2 : Int)] 61)).cell? ⟨u.heap.size, 6, none⟩ = some (.int .i64 (x2 : Int)) := by rw [newCell HA.out _ _ (by omega), newCell HBr.out _ _ (by omega)]; exact HF6.out
      have r1 : (wr.alloc (.cells #[.int .i64 (w2 : Int), .int .i64 (h2 : Int)] 61)).cell? ⟨u.heap.size, 7, none⟩ = some (.int .i64 (y2 : Int)) := by rw [newCell HA.out _ _ (by omega), newCell HBr.out _ _ (by omega)]; exact HF7.out
      have r2 : (wr.alloc (.cells #[.int .i64 (w2 : Int), .int .i64 (h2 : Int)] 61)).cell? ⟨u.heap.size, 8, none⟩ = some (.slice a2 C2.length c2) := by rw [newCell HA.out _ _ (by omega), newCell HBr.out _ _ (by omega)]; exact HF8.out
      have r3 : (wr.alloc (.cells #[.int .i64 (w2 : Int), .int .i64 (h2 : Int)] 61)).cell? ⟨wr.heap.size, 0, none⟩ = some (.int .i64 (w2 : Int)) := by simp
      have r4 : (wr.alloc (.cells #[.int .i64 (w2 : Int), .int .i64 (h2 : Int)] 61)).cell? ⟨wr.heap.size, 1, none⟩ = some (.int .i64 (h2 : Int)) := by simp
      have HZA : Hid ((wr.alloc (.cells #[.int .i64 (w2 : Int), .int .i64 (h2 : Int)] 61)).heap.size = wr.heap.size + 1) := by unfold Hid; simp
      have HK : Hid (∀ t : World, Kf cv (wr.alloc (.cells #[.int .i64 (w2 : Int), .int .i64 (h2 : Int)] 61)) t → (t.cell? ⟨u.heap.size, 6, none⟩ = some (.int .i64 (x2 : Int)) ∧ t.cell? ⟨u.heap.size, 7, none⟩ = some (.int .i64 (y2 : Int)) ∧ t.cell? ⟨u.heap.size, 8, none⟩ = some (.slice a2 C2.length c2) ∧ t.cell? ⟨wr.heap.size, 0, none⟩ = some (.int .i64 (w2 : Int)) ∧ t.cell? ⟨wr.heap.size, 1, none⟩ = some (.int .i64 (h2 : Int)) ∧ Kf cv (wr.alloc (.cells #[.int .i64 (w2 : Int), .int .i64 (h2 : Int)] 61)) t)) := fun t ht => ⟨by rw [ht.cell _ _ (by rw [HZA.out]; omega) (by omega)]; exact r0, by rw [ht.cell _ _ (by rw [HZA.out]; omega) (by omega)]; exact r1, by rw [ht.cell _ _ (by rw [HZA.out]; omega) (by omega)]; exact r2, by rw [ht.cell _ _ (by rw [HZA.out]; omega) (by omega)]; exact r3, by rw [ht.cell _ _ (by rw [HZA.out]; omega) (by omega)]; exact r4, ht⟩
      have HKd : Hid (Kf cv (wr.alloc (.cells #[.int .i64 (w2 : Int), .int .i64 (h2 : Int)] 61)) (wr.alloc (.cells #[.int .i64 (w2 : Int), .int .i64 (h2 : Int)] 61)).drew) := (Kf.refl _ _).drew
      have HCA : Hid (Cv (wr.alloc (.cells #[.int .i64 (w2 : Int), .int .i64 (h2 : Int)] 61)).drew cv (u.heap.size + 2) (sel w w2 w2) (sel h h2 h2) (sel D0 D1 D2) 2 G) := (HC.out.to HA.out).drew
      have HNk : Hid (Calls Try.prog 6 #[.agg #[.int .i64 (x2 : Int), .int .i64 (y2 : Int), .slice a2 C2.length c2], .agg #[.int .i64 0, .int .i64 0, .int .i64 (w2 : Int), .int .i64 (h2 : Int)]] (wr.alloc (.cells #[.int .i64 (w2 : Int), .int .i64 (h2 : Int)] 61)).drew fun e w' => Sn (wr.alloc (.cells #[.int .i64 (w2 : Int), .int .i64 (h2 : Int)] 61)).drew w' e D2) := HN2.out _ (HSL2.out.low HBV.out HKd.out (by omega))
      clear r0 r1 r2 r3 r4
      go_wp2_with fail
      go_region_held3 (fun t => t.cell? ⟨u.heap.size, 6, none⟩ = some (.int .i64 (x2 : Int)) ∧ t.cell? ⟨u.heap.size, 7, none⟩ = some (.int .i64 (y2 : Int)) ∧ t.cell? ⟨u.heap.size, 8, none⟩ = some (.slice a2 C2.length c2) ∧ t.cell? ⟨wr.heap.size, 0, none⟩ = some (.int .i64 (w2 : Int)) ∧ t.cell? ⟨wr.heap.size, 1, none⟩ = some (.int .i64 (h2 : Int)) ∧ Kf cv (wr.alloc (.cells #[.int .i64 (w2 : Int), .int .i64 (h2 : Int)] 61)) t)
        ((exact HK.out _ (by first | exact HKd.out | exact HKd.out.step (by assumption))))
        ((go_at_call 6; refine HNk.out.mono ?_; rintro e w5 ⟨g, rfl, hlo, hr, hb5⟩))
      have hC5 := HCA.out.to hb5
      have z0 : w5.cell? ⟨cv, 6, none⟩ = some (.int .i64 0) := hC5.z0 2 (Nat.le_refl _) (by omega)
      have z1 : w5.cell? ⟨cv, 7, none⟩ = some (.int .i64 0) := hC5.z1 2 (Nat.le_refl _) (by omega)
      have z2 : w5.cell? ⟨cv, 8, none⟩ = some (.slice none 0 0) := hC5.z2 2 (Nat.le_refl _) (by omega)
      have t0 := hC5.th 6
      have t1 := hC5.th 7
      have t2 := hC5.th 8
      obtain ⟨_, _, _, y0, y1, _⟩ := HK.out _ (HKd.out.step hb5)
      have hsz : wr.heap.size < g := by
        have h1 : (wr.alloc (.cells #[.int .i64 (w2 : Int), .int .i64 (h2 : Int)] 61)).drew.heap.size = wr.heap.size + 1 := HZA.out
        rw [h1] at hlo; omega
      have HN5 : Hid (Cv (((w5.setCell ⟨cv, 6, none⟩ (.int .i64 (w2 : Int))).setCell ⟨cv, 7, none⟩ (.int .i64 (h2 : Int))).setCell ⟨cv, 8, none⟩ (.slice (some ⟨g, 0, none⟩) D2.length D2.length)) cv (u.heap.size + 2) (sel w w2 w2) (sel h h2 h2) (sel D0 D1 D2) 3 (fun j => if j = 2 then g else G j)) :=
        hC5.next (by omega) hr (by omega) (by omega) (fun j hj => by have := (HC.out.rw j hj).lt; omega)
      have HB5 : Hid (Below cv v0 w5) := (HBr.out.trans (HA.out.mono (by omega))).trans (Below.mono (Below.trans (below_drew (Below.refl _ _)) hb5) (by show cv ≤ (wr.alloc (.cells #[.int .i64 (w2 : Int), .int .i64 (h2 : Int)] 61)).heap.size; rw [HZA.out]; omega))
      clear hC5 hb5 hr hlo
      go_wp2_with fail
      go_roundw
      case rel => exact ⟨3, _, by omega, by go_num, HN5.out, below_set (below_set (below_set HB5.out (by simp) _) (by simp) _) (by simp) _⟩
      case measure => simp [intOf]
    · have q0 : wr.cell? ⟨cv, 0, none⟩ = some (.int .i64 (w : Int)) := HC.out.c0 0 (by omega)
      have q1 : wr.cell? ⟨cv, 1, none⟩ = some (.int .i64 (h : Int)) := HC.out.c1 0 (by omega)
      have q2 : wr.cell? ⟨cv, 2, none⟩ = some (.slice (some ⟨G 0, 0, none⟩) D0.length D0.length) := HC.out.c2 0 (by omega)
      have q3 : wr.cell? ⟨cv, 3, none⟩ = some (.int .i64 (w2 : Int)) := HC.out.c0 1 (by omega)
      have q4 : wr.cell? ⟨cv, 4, none⟩ = some (.int .i64 (h2 : Int)) := HC.out.c1 1 (by omega)
      have q5 : wr.cell? ⟨cv, 5, none⟩ = some (.slice (some ⟨G 1, 0, none⟩) D1.length D1.length) := HC.out.c2 1 (by omega)
      have q6 : wr.cell? ⟨cv, 6, none⟩ = some (.int .i64 (w2 : Int)) := HC.out.c0 2 (by omega)
      have q7 : wr.cell? ⟨cv, 7, none⟩ = some (.int .i64 (h2 : Int)) := HC.out.c1 2 (by omega)
      have q8 : wr.cell? ⟨cv, 8, none⟩ = some (.slice (some ⟨G 2, 0, none⟩) D2.length D2.length) := HC.out.c2 2 (by omega)
      have s0 : wr.cell? ⟨u.heap.size + 1, 0, none⟩ = some (.int .i64 0) := by rw [newCell HBr.out _ _ (by omega)]; exact HS0.out
      have s1 : wr.cell? ⟨u.heap.size + 1, 1, none⟩ = some (.int .i64 0) := by rw [newCell HBr.out _ _ (by omega)]; exact HS1.out
      have s2 : wr.cell? ⟨u.heap.size + 1, 2, none⟩ = some (.slice none 0 0) := by rw [newCell HBr.out _ _ (by omega)]; exact HS2.out
      have s3 : wr.cell? ⟨u.heap.size + 1, 3, none⟩ = some (.int .i64 0) := by rw [newCell HBr.out _ _ (by omega)]; exact HS3.out
      have s4 : wr.cell? ⟨u.heap.size + 1, 4, none⟩ = some (.int .i64 0) := by rw [newCell HBr.out _ _ (by omega)]; exact HS4.out
      have s5 : wr.cell? ⟨u.heap.size + 1, 5, none⟩ = some (.slice none 0 0) := by rw [newCell HBr.out _ _ (by omega)]; exact HS5.out
      have s6 : wr.cell? ⟨u.heap.size + 1, 6, none⟩ = some (.int .i64 0) := by rw [newCell HBr.out _ _ (by omega)]; exact HS6.out
      have s7 : wr.cell? ⟨u.heap.size + 1, 7, none⟩ = some (.int .i64 0) := by rw [newCell HBr.out _ _ (by omega)]; exact HS7.out
      have s8 : wr.cell? ⟨u.heap.size + 1, 8, none⟩ = some (.slice none 0 0) := by rw [newCell HBr.out _ _ (by omega)]; exact HS8.out
      have th : ∀ o, wr.frozen? ⟨u.heap.size + 1, o, none⟩ = false := fun o => by rw [newFrozen HBr.out _ _ (by omega)]; exact HTH.out o
      go_wp2_with fail
      refine bodyPost_ret (v := .tuple #[.agg #[.int .i64 (w : Int), .int .i64 (h : Int), .slice (some ⟨G 0, 0, none⟩) D0.length D0.length, .int .i64 (w2 : Int), .int .i64 (h2 : Int), .slice (some ⟨G 1, 0, none⟩) D1.length D1.length, .int .i64 (w2 : Int), .int .i64 (h2 : Int), .slice (some ⟨G 2, 0, none⟩) D2.length D2.length], .int .i64 0]) (by simp [results, Try.results15, go_sem, s0, s1, s2, s3, s4, s5, s6, s7, s8]) rfl ?_
      have hk := Kb.set (Kb.set (Kb.set (Kb.set (Kb.set (Kb.set (Kb.set (Kb.set (Kb.set (Kb.refl (u.heap.size + 1) wr) 0 (.int .i64 (w : Int))) 1 (.int .i64 (h : Int))) 2 (.slice (some ⟨G 0, 0, none⟩) D0.length D0.length)) 3 (.int .i64 (w2 : Int))) 4 (.int .i64 (h2 : Int))) 5 (.slice (some ⟨G 1, 0, none⟩) D1.length D1.length)) 6 (.int .i64 (w2 : Int))) 7 (.int .i64 (h2 : Int))) 8 (.slice (some ⟨G 2, 0, none⟩) D2.length D2.length)
      have hm := fun j hj => (HC.out.lo j hj).1
      have far : ∀ j, j < 3 → G j ≠ u.heap.size + 1 := fun j hj e => by have := hm j hj; omega
      exact ⟨G 0, G 1, G 2, rfl, (HC.out.rw 0 (by omega)).carry (hk.block _ (far 0 (by omega))), (HC.out.rw 1 (by omega)).carry (hk.block _ (far 1 (by omega))), (HC.out.rw 2 (by omega)).carry (hk.block _ (far 2 (by omega))), by have := hm 0 (by omega); omega, by have := hm 1 (by omega); omega, by have := hm 2 (by omega); omega, HC.out.inj 0 1 (by omega) (by omega) (by omega), HC.out.inj 0 2 (by omega) (by omega) (by omega), HC.out.inj 1 2 (by omega) (by omega) (by omega), (HBv.out.trans (HBr.out.mono (by omega))).trans (hk.below (by omega))⟩

end Go.Proofs.Ytlgfkkegehpllab
