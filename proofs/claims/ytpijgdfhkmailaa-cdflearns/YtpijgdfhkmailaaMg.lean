/- DERIVED. The walk of the statement CdfTells. -/
import Derived.Test.YtpijgdfhkmailaaMf
namespace Go.Proofs.Ytpijgdfhkmailaa
open Go.RowKit

/-- the copy, the table, and that nothing of them turned -/
structure Td (w u : World) (x7 x3 B g gc : Nat) (a : Option Addr) (c : Nat) (C : List Nat) (n : Int) : Prop where
  l7 : Loc u x7 ⟨some ⟨g, 0, none⟩, gc, C, n⟩
  l3 : Loc u x3 ⟨a, c, C, n⟩
  cp : Cp u B g gc C
  b : Below w.heap.size w u
theorem Td.to {w u v : World} {x7 x3 B g gc : Nat} {a : Option Addr} {c : Nat} {C : List Nat} {n : Int} (h : Td w u x7 x3 B g gc a c C n) (hb : Below u.heap.size u v) : Td w v x7 x3 B g gc a c C n := ⟨h.l7.to hb, h.l3.to hb, h.cp.to hb, below_to h.b hb⟩
theorem Fz.mono {v u : World} {P P' : Nat → Prop} (h : Fz v u P) (hP : ∀ k, P k → P' k) : Fz v u P' := ⟨h.os, h.tape, h.output, h.size, fun k hk hp => h.block k hk (fun e => hp (hP k e))⟩
theorem Fz.drew {v u : World} {P : Nat → Prop} (h : Fz v u P) : Fz v u.drew P := h.to (below_drew (Below.refl _ _))
/-- the blocks of rows -/
def P0 : Nat → Prop := fun _ => False
def P1 (r : Option Nat) : Nat → Prop := fun k => r = some k
def P2 (r r' : Option Nat) : Nat → Prop := fun k => r = some k ∨ r' = some k

set_option maxRecDepth 100000 in
set_option maxHeartbeats 2000000 in
theorem tells_walk {w : World} {a : Option Addr} {c : Nat} {C : List Nat} {n nn : Int} {p : Nat} (h : Sl w .u16 a C) (hl : C.length ≤ 70368744175616) (hp : p < 4294967296) :
    Calls Try.prog 3 #[.agg #[.slice a C.length c, .int .i64 nn], .int .i64 n, .int .u32 p] w fun e w' => e = .returned (.bool true) ∧ Below w.heap.size w w' := by
  have HP : Bx (p < 4294967296) := ⟨hp⟩
  have HL3 : Hid (Loc (w.alloc (.cells #[.slice a C.length c, .int .i64 nn] 24)) w.heap.size ⟨a, c, C, nn⟩) := Loc.new ⟨a, c, C, nn⟩ h
  have HB0 : Hid (Below w.heap.size w (w.alloc (.cells #[.slice a C.length c, .int .i64 nn] 24))) := from_alloc _ _
  have HSlt : Hid (∀ b o, a = some ⟨b, o, none⟩ → C ≠ [] → b < w.heap.size) := fun b o e hne => by
    rcases h with e2 | ⟨b', o', e2, hb', _⟩
    · exact absurd e2 hne
    · rw [e] at e2; simp at e2; rw [e2.1]; exact hb'
  clear h hp
  have hfl := fA_len n
  have hsl := sA_len n
  have HFA : Hid (∀ u, Calls Try.prog 10 #[.int .i64 n] u fun e w' => Tm u w' e (fA n) 0 (xA n)) := fun u => flat_any u n
  have HFB : Hid (∀ u, Calls Try.prog 11 #[.int .i64 n] u fun e w' => Tm u w' e (fA n) 0 (xA n)) := fun u => rflat_any u n
  have HSA : Hid (∀ u, Calls Try.prog 12 #[.int .i64 n] u fun e w' => Tm u w' e (sA n) 0 (xA n)) := fun u => steep_any u n
  have HSB : Hid (∀ u, Calls Try.prog 13 #[.int .i64 n] u fun e w' => Tm u w' e (sA n) 0 (xA n)) := fun u => rsteep_any u n
  generalize fA n = FA at *
  generalize sA n = SA at *
  generalize xA n = X at *
  go_enter Try.func3, Try.ntmps3
  go_wp2_with fail
  generalize w.alloc (.cells #[.slice a C.length c, .int .i64 nn] 24) = v0 at *
  refine (copied_any HL3.out.sl hl).mono ?_
  rintro e w1 ⟨g, gc, rfl, hcp, hb⟩
  have HT1 : Hid (Td w (w1.alloc (.cells #[.slice (some ⟨g, 0, none⟩) C.length gc, .int .i64 nn] 24)) w1.heap.size w.heap.size v0.heap.size g gc a c C nn) :=
    ⟨Loc.new ⟨some ⟨g, 0, none⟩, gc, C, nn⟩ hcp.sl, HL3.out.to (to_alloc hb _), hcp.to (from_alloc _ _), below_to HB0.out (to_alloc hb _)⟩
  have HGl : Hid (g < w1.heap.size) := hcp.own.lies.2
  clear hcp hb HL3 HB0
  go_wp2_with fail
  have HX7 : Hid (w1.heap.size < (w1.alloc (.cells #[.slice (some ⟨g, 0, none⟩) C.length gc, .int .i64 nn] 24)).heap.size) := by unfold Hid; simp
  generalize w1.alloc (.cells #[.slice (some ⟨g, 0, none⟩) C.length gc, .int .i64 nn] 24) = v1 at *
  generalize w1.heap.size = x7 at *
  refine (HFA.out v1).mono ?_
  rintro e w2 ⟨aA, cA, rfl, ho, hb⟩
  have HOA : Hid ((w2.alloc (.cells #[.slice aA FA.length cA, .int .i64 0] 24)).ownsRow v1.heap.size 49 1 (.slice aA FA.length cA) FA.length (ns .u16 FA)) := own_below ho (from_alloc _ _)
  have HRA : Hid (∀ k, (Value.slice aA FA.length cA).ownBlock = some k → v1.heap.size ≤ k ∧ k < w2.heap.size) := fun k hk => ho.lt k hk
  have HQA : Hid ((w2.alloc (.cells #[.slice aA FA.length cA, .int .i64 0] 24)).cell? ⟨w2.heap.size, 0, none⟩ = some (.slice aA FA.length cA) ∧ (w2.alloc (.cells #[.slice aA FA.length cA, .int .i64 0] 24)).cell? ⟨w2.heap.size, 1, none⟩ = some (.int .i64 0)) := by unfold Hid; simp
  have HXA : Hid (v1.heap.size ≤ w2.heap.size ∧ w2.heap.size < (w2.alloc (.cells #[.slice aA FA.length cA, .int .i64 0] 24)).heap.size) := ⟨hb.size, by simp⟩
  have HVA : Hid (Below v1.heap.size v1 (w2.alloc (.cells #[.slice aA FA.length cA, .int .i64 0] 24))) := to_alloc hb _
  clear ho hb
  go_wp2_with fail
  generalize w2.alloc (.cells #[.slice aA FA.length cA, .int .i64 0] 24) = v2 at *
  generalize w2.heap.size = x8 at *
  refine (HFB.out v2).mono ?_
  rintro e w3 ⟨aB, cB, rfl, ho, hb⟩
  have HOB : Hid ((w3.alloc (.cells #[.slice aB FA.length cB, .int .i64 0] 24)).ownsRow v2.heap.size 49 1 (.slice aB FA.length cB) FA.length (ns .u16 FA)) := own_below ho (from_alloc _ _)
  have HRB : Hid (∀ k, (Value.slice aB FA.length cB).ownBlock = some k → v2.heap.size ≤ k ∧ k < w3.heap.size) := fun k hk => ho.lt k hk
  have HQB : Hid ((w3.alloc (.cells #[.slice aB FA.length cB, .int .i64 0] 24)).cell? ⟨w3.heap.size, 0, none⟩ = some (.slice aB FA.length cB) ∧ (w3.alloc (.cells #[.slice aB FA.length cB, .int .i64 0] 24)).cell? ⟨w3.heap.size, 1, none⟩ = some (.int .i64 0)) := by unfold Hid; simp
  have HXB : Hid (v2.heap.size ≤ w3.heap.size ∧ w3.heap.size < (w3.alloc (.cells #[.slice aB FA.length cB, .int .i64 0] 24)).heap.size) := ⟨hb.size, by simp⟩
  have HVB : Hid (Below v2.heap.size v2 (w3.alloc (.cells #[.slice aB FA.length cB, .int .i64 0] 24))) := to_alloc hb _
  clear ho hb
  go_wp2_with fail
  generalize w3.alloc (.cells #[.slice aB FA.length cB, .int .i64 0] 24) = v3 at *
  generalize w3.heap.size = x10 at *
  refine (HSA.out v3).mono ?_
  rintro e w4 ⟨aC, cC, rfl, ho, hb⟩
  have HOC : Hid ((w4.alloc (.cells #[.slice aC SA.length cC, .int .i64 0] 24)).ownsRow v3.heap.size 49 1 (.slice aC SA.length cC) SA.length (ns .u16 SA)) := own_below ho (from_alloc _ _)
  have HRC : Hid (∀ k, (Value.slice aC SA.length cC).ownBlock = some k → v3.heap.size ≤ k ∧ k < w4.heap.size) := fun k hk => ho.lt k hk
  have HQC : Hid ((w4.alloc (.cells #[.slice aC SA.length cC, .int .i64 0] 24)).cell? ⟨w4.heap.size, 0, none⟩ = some (.slice aC SA.length cC) ∧ (w4.alloc (.cells #[.slice aC SA.length cC, .int .i64 0] 24)).cell? ⟨w4.heap.size, 1, none⟩ = some (.int .i64 0)) := by unfold Hid; simp
  have HXC : Hid (v3.heap.size ≤ w4.heap.size ∧ w4.heap.size < (w4.alloc (.cells #[.slice aC SA.length cC, .int .i64 0] 24)).heap.size) := ⟨hb.size, by simp⟩
  have HVC : Hid (Below v3.heap.size v3 (w4.alloc (.cells #[.slice aC SA.length cC, .int .i64 0] 24))) := to_alloc hb _
  clear ho hb
  go_wp2_with fail
  generalize w4.alloc (.cells #[.slice aC SA.length cC, .int .i64 0] 24) = v4 at *
  generalize w4.heap.size = x12 at *
  refine (HSB.out v4).mono ?_
  rintro e w5 ⟨aD, cD, rfl, ho, hb⟩
  have HOD : Hid ((w5.alloc (.cells #[.slice aD SA.length cD, .int .i64 0] 24)).ownsRow v4.heap.size 49 1 (.slice aD SA.length cD) SA.length (ns .u16 SA)) := own_below ho (from_alloc _ _)
  have HRD : Hid (∀ k, (Value.slice aD SA.length cD).ownBlock = some k → v4.heap.size ≤ k ∧ k < w5.heap.size) := fun k hk => ho.lt k hk
  have HQD : Hid ((w5.alloc (.cells #[.slice aD SA.length cD, .int .i64 0] 24)).cell? ⟨w5.heap.size, 0, none⟩ = some (.slice aD SA.length cD) ∧ (w5.alloc (.cells #[.slice aD SA.length cD, .int .i64 0] 24)).cell? ⟨w5.heap.size, 1, none⟩ = some (.int .i64 0)) := by unfold Hid; simp
  have HXD : Hid (v4.heap.size ≤ w5.heap.size ∧ w5.heap.size < (w5.alloc (.cells #[.slice aD SA.length cD, .int .i64 0] 24)).heap.size) := ⟨hb.size, by simp⟩
  have HVD : Hid (Below v4.heap.size v4 (w5.alloc (.cells #[.slice aD SA.length cD, .int .i64 0] 24))) := to_alloc hb _
  clear ho hb
  go_wp2_with fail
  generalize w5.alloc (.cells #[.slice aD SA.length cD, .int .i64 0] 24) = v5 at *
  generalize w5.heap.size = x14 at *
  have HV25 : Hid (Below v2.heap.size v2 v5) := below_to HVB.out (below_to HVC.out HVD.out)
  have HV35 : Hid (Below v3.heap.size v3 v5) := below_to HVC.out HVD.out
  have HV15 : Hid (Below v1.heap.size v1 v5) := below_to HVA.out HV25.out
  have hs1 := HX7.out
  have hs2 := HXA.out
  have hs3 := HXB.out
  have hs4 := HXC.out
  have hs5 := HXD.out
  have hs0 := HT1.out.b.size
  have hsx : w.heap.size < v1.heap.size := HT1.out.l3.low
  have hgl := HGl.out
  have TD5 : Hid (Td w v5 x7 w.heap.size v0.heap.size g gc a c C nn) := HT1.out.to HV15.out
  have OA5 : Hid (v5.ownsRow v1.heap.size 49 1 (.slice aA FA.length cA) FA.length (ns .u16 FA)) := own_below HOA.out HV25.out
  have OB5 : Hid (v5.ownsRow v2.heap.size 49 1 (.slice aB FA.length cB) FA.length (ns .u16 FA)) := own_below HOB.out HV35.out
  have OC5 : Hid (v5.ownsRow v3.heap.size 49 1 (.slice aC SA.length cC) SA.length (ns .u16 SA)) := own_below HOC.out HVD.out
  have OD5 : Hid (v5.ownsRow v4.heap.size 49 1 (.slice aD SA.length cD) SA.length (ns .u16 SA)) := HOD.out
  have QA5 : Hid (v5.cell? ⟨x8, 0, none⟩ = some (.slice aA FA.length cA) ∧ v5.cell? ⟨x8, 1, none⟩ = some (.int .i64 0)) := ⟨by rw [newCell HV25.out _ _ (by omega)]; exact HQA.out.1, by rw [newCell HV25.out _ _ (by omega)]; exact HQA.out.2⟩
  have QB5 : Hid (v5.cell? ⟨x10, 0, none⟩ = some (.slice aB FA.length cB) ∧ v5.cell? ⟨x10, 1, none⟩ = some (.int .i64 0)) := ⟨by rw [newCell HV35.out _ _ (by omega)]; exact HQB.out.1, by rw [newCell HV35.out _ _ (by omega)]; exact HQB.out.2⟩
  have QC5 : Hid (v5.cell? ⟨x12, 0, none⟩ = some (.slice aC SA.length cC) ∧ v5.cell? ⟨x12, 1, none⟩ = some (.int .i64 0)) := ⟨by rw [newCell HVD.out _ _ (by omega)]; exact HQC.out.1, by rw [newCell HVD.out _ _ (by omega)]; exact HQC.out.2⟩
  have QD5 : Hid (v5.cell? ⟨x14, 0, none⟩ = some (.slice aD SA.length cD) ∧ v5.cell? ⟨x14, 1, none⟩ = some (.int .i64 0)) := HQD.out
  generalize hrA : (Value.slice aA FA.length cA).ownBlock = rA at *
  generalize hrC : (Value.slice aC SA.length cC).ownBlock = rC at *
  have HRAe : Hid ((Value.slice aA FA.length cA).ownBlock = rA) := hrA
  have HRCe : Hid ((Value.slice aC SA.length cC).ownBlock = rC) := hrC
  clear hrA hrC
  have HP2 : Hid (∀ k, P2 rA rC k → (v1.heap.size ≤ k ∧ k < x8) ∨ (v3.heap.size ≤ k ∧ k < x12)) := fun k hk => by
    rcases hk with e | e
    · exact Or.inl (HRA.out k e)
    · exact Or.inr (HRC.out k e)
  have HQ : Hid (∀ u, Fz v5 u (P2 rA rC) → u.cell? ⟨x8, 0, none⟩ = some (.slice aA FA.length cA) ∧ u.cell? ⟨x8, 1, none⟩ = some (.int .i64 0) ∧ u.cell? ⟨x10, 0, none⟩ = some (.slice aB FA.length cB) ∧ u.cell? ⟨x10, 1, none⟩ = some (.int .i64 0) ∧ u.cell? ⟨x12, 0, none⟩ = some (.slice aC SA.length cC) ∧ u.cell? ⟨x12, 1, none⟩ = some (.int .i64 0) ∧ u.cell? ⟨x14, 0, none⟩ = some (.slice aD SA.length cD) ∧ u.cell? ⟨x14, 1, none⟩ = some (.int .i64 0) ∧ u.cell? ⟨x7, 0, none⟩ = some (.slice (some ⟨g, 0, none⟩) C.length gc) ∧ u.cell? ⟨x7, 1, none⟩ = some (.int .i64 nn) ∧ u.cell? ⟨w.heap.size, 0, none⟩ = some (.slice a C.length c) ∧ u.cell? ⟨w.heap.size, 1, none⟩ = some (.int .i64 nn)) := fun u hu => by
    have k8 : ¬ P2 rA rC x8 := fun e => by have := HP2.out _ e; omega
    have k10 : ¬ P2 rA rC x10 := fun e => by have := HP2.out _ e; omega
    have k12 : ¬ P2 rA rC x12 := fun e => by have := HP2.out _ e; omega
    have k14 : ¬ P2 rA rC x14 := fun e => by have := HP2.out _ e; omega
    have k7 : ¬ P2 rA rC x7 := fun e => by have := HP2.out _ e; omega
    have k3 : ¬ P2 rA rC w.heap.size := fun e => by have := HP2.out _ e; omega
    exact ⟨(hu.cell _ _ (by omega) k8).trans QA5.out.1, (hu.cell _ _ (by omega) k8).trans QA5.out.2, (hu.cell _ _ (by omega) k10).trans QB5.out.1, (hu.cell _ _ (by omega) k10).trans QB5.out.2, (hu.cell _ _ (by omega) k12).trans QC5.out.1, (hu.cell _ _ (by omega) k12).trans QC5.out.2, (hu.cell _ _ (by omega) k14).trans QD5.out.1, (hu.cell _ _ (by omega) k14).trans QD5.out.2, (hu.cell _ _ (by omega) k7).trans TD5.out.l7.c0, (hu.cell _ _ (by omega) k7).trans TD5.out.l7.c1, (hu.cell _ _ (by omega) k3).trans TD5.out.l3.c0, (hu.cell _ _ (by omega) k3).trans TD5.out.l3.c1⟩
  have HTO1 : Hid (∀ u, Fz v5 u P0 → Calls Try.prog 14 #[.agg #[.slice aA FA.length cA, .int .i64 0], .int .i64 X, .agg #[.slice aB FA.length cB, .int .i64 0], .int .i64 X] u fun e u' => e = .returned (.bool true) ∧ Fz v5 u' (P1 rA)) := fun u hu => by
    refine (told_true (hu.own OA5.out (fun _ _ e => e)) (hu.sl (Sl.ofOwn OB5.out) (fun _ _ _ e => e)) (by omega) (by have := hu.size; omega)).mono fun e u' h => ⟨h.1, hu.grown h.2 (fun _ e => e.elim) (fun k hk => Or.inl ?_)⟩
    rw [HRAe.out] at hk
    exact hk
  have HTO2 : Hid (∀ u, Fz v5 u (P1 rA) → Calls Try.prog 14 #[.agg #[.slice aC SA.length cC, .int .i64 0], .int .i64 X, .agg #[.slice aD SA.length cD, .int .i64 0], .int .i64 X] u fun e u' => e = .returned (.bool true) ∧ Fz v5 u' (P2 rA rC)) := fun u hu => by
    refine (told_true (hu.own OC5.out (fun k hk e => ?_)) (hu.sl (Sl.ofOwn OD5.out) (fun k o hk e => ?_)) (by omega) (by have := hu.size; omega)).mono fun e u' h => ⟨h.1, hu.grown h.2 (fun _ e => Or.inl e) (fun k hk => Or.inl (Or.inr ?_))⟩
    · have h1 := HRA.out k e
      rw [HRCe.out] at hk
      have h2 := HRC.out k hk
      omega
    · have h1 := HRA.out k e
      subst hk
      have h2 := HRD.out k rfl
      omega
    · rw [HRCe.out] at hk
      exact hk
  have HSI : Hid (∀ u, Fz v5 u (P2 rA rC) → Sl u .u16 (some ⟨g, 0, none⟩) C ∧ Sl u .u16 a C) := fun u hu =>
    ⟨hu.sl TD5.out.l7.sl (fun b o e hP => by simp at e; have := HP2.out _ hP; omega), by
      by_cases hC : C = []
      · exact Or.inl hC
      · exact hu.sl TD5.out.l3.sl (fun b o e hP => by have h1 := HSlt.out b o e hC; have h2 := HP2.out _ hP; omega)⟩
  have HC1 : Hid (∀ u, Fz v5 u (P2 rA rC) → Calls Try.prog 15 #[.agg #[.slice (some ⟨g, 0, none⟩) C.length gc, .int .i64 nn]] u fun e u' => e = .returned (.int .i64 (ck C nn)) ∧ Fz v5 u' (P2 rA rC)) := fun u hu => (check_any (HSI.out u hu).1 (by omega)).mono fun e u' h => ⟨h.1, hu.to h.2⟩
  have HC2 : Hid (∀ u, Fz v5 u (P2 rA rC) → Calls Try.prog 16 #[.agg #[.slice a C.length c, .int .i64 nn]] u fun e u' => e = .returned (.int .i64 (ck C nn)) ∧ Fz v5 u' (P2 rA rC)) := fun u hu => (rcheck_any (HSI.out u hu).2 (by omega)).mono fun e u' h => ⟨h.1, hu.to h.2⟩
  have HTDu : Hid (∀ u, Fz v5 u (P2 rA rC) → Td w u x7 w.heap.size v0.heap.size g gc a c C nn) := fun u hu => by
    have hq := HQ.out u hu
    have hz := hu.size
    refine ⟨⟨by omega, hq.2.2.2.2.2.2.2.2.1, hq.2.2.2.2.2.2.2.2.2.1, (HSI.out u hu).1⟩, ⟨by omega, hq.2.2.2.2.2.2.2.2.2.2.1, hq.2.2.2.2.2.2.2.2.2.2.2, (HSI.out u hu).2⟩, ⟨⟨hu.own TD5.out.cp.own.own (fun k hk hP => by simp [Value.ownBlock] at hk; have := HP2.out _ hP; omega)⟩⟩, hu.below TD5.out.b (fun k hP => by have := HP2.out _ hP; omega)⟩
  have f0 : Fz v5 v5.drew P0 := (Fz.refl _ _).drew
  have hqd := HQ.out _ (f0.mono (P' := P2 rA rC) (fun _ e => e.elim))
  obtain ⟨d0, d1, d2, d3, d4, d5, d6, d7, d8, d9, d10, d11⟩ := hqd
  generalize hck : ck C nn = ckv at *
  clear hck
  have hckk : (ckv != ckv) = false := by simp
  have HM12 : Hid (∀ u, Fz v5 u (P1 rA) → Fz v5 u (P2 rA rC)) := fun u hu => hu.mono (fun _ e => Or.inl e)
  clear hs1 hs2 hs3 hs4 hs5 hs0 hsx hgl
  go_region_held3 (fun u => u.cell? ⟨x8, 0, none⟩ = some (.slice aA FA.length cA) ∧ u.cell? ⟨x8, 1, none⟩ = some (.int .i64 0) ∧ u.cell? ⟨x10, 0, none⟩ = some (.slice aB FA.length cB) ∧ u.cell? ⟨x10, 1, none⟩ = some (.int .i64 0) ∧ u.cell? ⟨x12, 0, none⟩ = some (.slice aC SA.length cC) ∧ u.cell? ⟨x12, 1, none⟩ = some (.int .i64 0) ∧ u.cell? ⟨x14, 0, none⟩ = some (.slice aD SA.length cD) ∧ u.cell? ⟨x14, 1, none⟩ = some (.int .i64 0) ∧ u.cell? ⟨x7, 0, none⟩ = some (.slice (some ⟨g, 0, none⟩) C.length gc) ∧ u.cell? ⟨x7, 1, none⟩ = some (.int .i64 nn) ∧ u.cell? ⟨w.heap.size, 0, none⟩ = some (.slice a C.length c) ∧ u.cell? ⟨w.heap.size, 1, none⟩ = some (.int .i64 nn)) (((try dsimp only); first | assumption | (refine ⟨?_, ?_, ?_, ?_, ?_, ?_, ?_, ?_, ?_, ?_, ?_, ?_⟩ <;> first | assumption | go_keep) | go_keep)) (first
    | (go_at_call 14; with_reducible refine (HTO1.out _ (by assumption)).mono ?_; rintro e wA ⟨rfl, hbA⟩; obtain ⟨pA0, pA1, pA2, pA3, pA4, pA5, pA6, pA7, pA8, pA9, pA10, pA11⟩ := HQ.out _ (HM12.out _ hbA))
    | (go_at_call 14; with_reducible refine (HTO2.out _ (by assumption)).mono ?_; rintro e wB ⟨rfl, hbB⟩; obtain ⟨pB0, pB1, pB2, pB3, pB4, pB5, pB6, pB7, pB8, pB9, pB10, pB11⟩ := HQ.out _ hbB)
    | (go_at_call 15; with_reducible refine (HC1.out _ (by assumption)).mono ?_; rintro e wC ⟨rfl, hbC⟩; obtain ⟨pC0, pC1, pC2, pC3, pC4, pC5, pC6, pC7, pC8, pC9, pC10, pC11⟩ := HQ.out _ hbC)
    | (go_at_call 16; with_reducible refine (HC2.out _ (by assumption)).mono ?_; rintro e wD ⟨rfl, hbD⟩; obtain ⟨pD0, pD1, pD2, pD3, pD4, pD5, pD6, pD7, pD8, pD9, pD10, pD11⟩ := HQ.out _ hbD))
  have HTD : Hid (Td w _ x7 w.heap.size v0.heap.size g gc a c C nn) := HTDu.out _ hbD
  clear hbA hbB hbC hbD pA0 pA1 pA2 pA3 pA4 pA5 pA6 pA7 pA8 pA9 pA10 pA11 pB0 pB1 pB2 pB3 pB4 pB5 pB6 pB7 pB8 pB9 pB10 pB11 pC0 pC1 pC2 pC3 pC4 pC5 pC6 pC7 pC8 pC9 pC10 pC11 pD0 pD1 pD2 pD3 pD4 pD5 pD6 pD7 pD8 pD9 pD10 pD11 d0 d1 d2 d3 d4 d5 d6 d7 d8 d9 d10 d11 HC1 HC2 HTO1 HTO2 HTDu HSI HQ HP2 HM12
  clear f0
  go_wp2_with fail
  generalize wD = vD at *
  go_loopw [16] (fun iv wr => ∃ k : Nat, k ≤ 19 ∧ iv = .int .i64 ((k : Int) - 1) ∧ Td w wr x7 w.heap.size v0.heap.size g gc a c C nn) (fun iv _ => (19 - (intOf iv)).toNat)
  case atStart => exact ⟨0, by omega, rfl, HTD.out⟩
  case round =>
    obtain ⟨k, hk, rfl, htd⟩ := hrel
    clear HTD
    have HT : Hid _ := htd
    clear htd
    have q0 : wr.cell? ⟨x7, 0, none⟩ = some (.slice (some ⟨g, 0, none⟩) C.length gc) := HT.out.l7.c0
    have q1 : wr.cell? ⟨x7, 1, none⟩ = some (.int .i64 nn) := HT.out.l7.c1
    by_cases hlt : k < 19
    · have b0 : (k : Int) - 1 < 18 := by omega
      have arm : ∀ sv : Int, Hid (∀ u, Td w u x7 w.heap.size v0.heap.size g gc a c C nn → Calls Try.prog 17 #[.agg #[.slice (some ⟨g, 0, none⟩) C.length gc, .int .i64 nn], .int .i64 sv] u fun e w' => e = .returned (.tuple #[.int .u32 ((bdA C nn sv).1 : Nat), .int .u32 ((bdA C nn sv).2.1 : Nat), .int .i64 (bdA C nn sv).2.2]) ∧ Td w w' x7 w.heap.size v0.heap.size g gc a c C nn) ∧ Hid (∀ u, Td w u x7 w.heap.size v0.heap.size g gc a c C nn → Calls Try.prog 18 #[.agg #[.slice a C.length c, .int .i64 nn], .int .i64 sv] u fun e w' => e = .returned (.tuple #[.int .u32 ((bdA C nn sv).1 : Nat), .int .u32 ((bdA C nn sv).2.1 : Nat), .int .i64 (bdA C nn sv).2.2]) ∧ Td w w' x7 w.heap.size v0.heap.size g gc a c C nn) := fun sv =>
        ⟨fun u hu => (bounds_both hu.l7.sl (by show C.length ≤ _; omega)).mono fun e w' h => ⟨h.1, hu.to h.2⟩, fun u hu => (rbounds_both hu.l3.sl (by show C.length ≤ _; omega)).mono fun e w' h => ⟨h.1, hu.to h.2⟩⟩
      by_cases hk18 : k = 18
      · have h17 : (((k : Int) - 1) == 17) = true := by rw [beq_iff_eq]; omega
        have HA := (arm n).1
        have HB := (arm n).2
        generalize bdA C nn n = R at *
        obtain ⟨r1, r2, r3⟩ := R
        clear arm
        simp only at HA HB
        go_wp2_with fail
        refine (HA.out _ HT.out).mono ?_
        rintro e w6 ⟨rfl, htd⟩
        have HT6 : Hid _ := htd
        clear htd HT q0 q1
        have q0 : w6.cell? ⟨w.heap.size, 0, none⟩ = some (.slice a C.length c) := HT6.out.l3.c0
        have q1 : w6.cell? ⟨w.heap.size, 1, none⟩ = some (.int .i64 nn) := HT6.out.l3.c1
        go_wp2_with fail
        refine (HB.out _ HT6.out).mono ?_
        rintro e w7 ⟨rfl, htd⟩
        have HT7 : Hid _ := htd
        clear htd HT6 q0 q1
        have t1 : ((r1 : Int) != (r1 : Int)) = false := by simp
        have t2 : ((r2 : Int) != (r2 : Int)) = false := by simp
        have t3 : (r3 != r3) = false := by simp
        go_wp2_with fail
        go_roundw
        case rel => exact ⟨k + 1, by omega, by congr 1; omega, HT7.out⟩
        case measure => simp [intOf]; omega
      · have h17 : (((k : Int) - 1) == 17) = false := by rw [beq_eq_false_iff_ne]; omega
        have HA := (arm ((k : Int) - 1)).1
        have HB := (arm ((k : Int) - 1)).2
        generalize bdA C nn ((k : Int) - 1) = R at *
        obtain ⟨r1, r2, r3⟩ := R
        clear arm
        simp only at HA HB
        go_wp2_with fail
        refine (HA.out _ HT.out).mono ?_
        rintro e w6 ⟨rfl, htd⟩
        have HT6 : Hid _ := htd
        clear htd HT q0 q1
        have q0 : w6.cell? ⟨w.heap.size, 0, none⟩ = some (.slice a C.length c) := HT6.out.l3.c0
        have q1 : w6.cell? ⟨w.heap.size, 1, none⟩ = some (.int .i64 nn) := HT6.out.l3.c1
        go_wp2_with fail
        refine (HB.out _ HT6.out).mono ?_
        rintro e w7 ⟨rfl, htd⟩
        have HT7 : Hid _ := htd
        clear htd HT6 q0 q1
        have t1 : ((r1 : Int) != (r1 : Int)) = false := by simp
        have t2 : ((r2 : Int) != (r2 : Int)) = false := by simp
        have t3 : (r3 != r3) = false := by simp
        go_wp2_with fail
        go_roundw
        case rel => exact ⟨k + 1, by omega, by congr 1; omega, HT7.out⟩
        case measure => simp [intOf]; omega
    · have b0 : ¬ (k : Int) - 1 < 18 := by omega
      clear q0 q1
      generalize wr = wo at *
      go_wp2_with fail
      go_loopw [24] (fun iv wr => ∃ k : Nat, k ≤ 40 ∧ iv = .int .i64 k ∧ Td w wr x7 w.heap.size v0.heap.size g gc a c C nn) (fun iv _ => 40 - (intOf iv).toNat)
      case atStart => exact ⟨0, by omega, rfl, HT.out⟩
      case round =>
        obtain ⟨i, hi, rfl, htd⟩ := hrel
        clear HT
        have HT : Hid _ := htd
        clear htd
        have q0 : wr.cell? ⟨x7, 0, none⟩ = some (.slice (some ⟨g, 0, none⟩) C.length gc) := HT.out.l7.c0
        have q1 : wr.cell? ⟨x7, 1, none⟩ = some (.int .i64 nn) := HT.out.l7.c1
        have q2 : wr.cell? ⟨w.heap.size, 0, none⟩ = some (.slice a C.length c) := HT.out.l3.c0
        have q3 : wr.cell? ⟨w.heap.size, 1, none⟩ = some (.int .i64 nn) := HT.out.l3.c1
        by_cases hit : i < 40
        · have b0 : (i : Int) < 40 := by omega
          have b1 : 0 ≤ (i : Int) := by omega
          go_wp2_with fail
          obtain ⟨qq, hqq⟩ : ∃ qq : Nat, ((p : Int) + (i : Int) * 999) % 4294967296 = (qq : Int) := ⟨(((p : Int) + (i : Int) * 999) % 4294967296).toNat, by omega⟩
          rw [hqq]
          clear hqq
          obtain ⟨fs, fx, hf1, hf2⟩ := find_both C nn qq (by omega)
          have HF2 : Hid _ := hf2
          refine (hf1 _ _ _ HT.out.l7.sl).mono ?_
          clear hf1 hf2
          rintro e w6 ⟨rfl, hb⟩
          have HT6 : Hid _ := HT.out.to hb
          clear hb HT q0 q1 q2 q3
          have q2 : w6.cell? ⟨w.heap.size, 0, none⟩ = some (.slice a C.length c) := HT6.out.l3.c0
          have q3 : w6.cell? ⟨w.heap.size, 1, none⟩ = some (.int .i64 nn) := HT6.out.l3.c1
          go_wp2_with fail
          refine (HF2.out _ _ _ HT6.out.l3.sl).mono ?_
          rintro e w7 ⟨rfl, hb⟩
          have HT7 : Hid _ := HT6.out.to hb
          clear hb HT6 q2 q3
          have t1 : (fs != fs) = false := by simp
          have t2 : (fx != fx) = false := by simp
          go_wp2_with fail
          go_roundw
          case rel => exact ⟨i + 1, by omega, by go_num, HT7.out⟩
          case measure => simp [intOf]; omega
        · have b0 : ¬ (i : Int) < 40 := by omega
          go_wp2_with fail
          refine (kept_true HT.out.cp HT.out.l3.sl (by show C.length ≤ _; omega)).mono ?_
          rintro e w8 ⟨rfl, hb⟩
          have HB8 : Hid (Below w.heap.size w w8) := below_to HT.out.b hb
          clear hb
          go_wp2_with fail
          refine (works_true _).mono ?_
          rintro e w9 ⟨rfl, hb⟩
          have HB9 : Hid (Below w.heap.size w w9) := below_to HB8.out hb
          clear hb
          go_wp2_with fail
          go_ret
          exact ⟨rfl, HB9.out⟩

end Go.Proofs.Ytpijgdfhkmailaa
