/- DERIVED. The walk of the statement CdfLearns. -/
import Derived.Test.YtpijgdfhkmailaaMm
namespace Go.Proofs.Ytpijgdfhkmailaa
open Go.RowKit

/-- where the loop over the values stands -/
def LI (V : World) (x6 x7 len : Nat) (iv : Value) (wr : World) : Prop :=
  ∃ (k : Nat) (s t : Tb), k ≤ len ∧ k ≤ 60 ∧ iv = .int .i64 k ∧ Lv V wr x6 x7 s t ∧ s.C = t.C ∧ s.n = t.n ∧ s.C.length ≤ 70368744175616

set_option maxRecDepth 100000 in
set_option maxHeartbeats 20000000 in
theorem learns_walk {w : World} {a : Option Addr} {c : Nat} {C : List Nat} {nn : Int} {la : Option Addr} {lc : Nat} {l : List Int} (h : Sl w .u16 a C) (hl : C.length ≤ 70368744175616) (hn : Ns w la l) (hll : l.length ≤ 140737488355328) :
    Calls Try.prog 4 #[.agg #[.slice a C.length c, .int .i64 nn], .slice la l.length lc] w fun e w' => e = .returned (.bool true) ∧ Below w.heap.size w w' := by
  have HNS : Hid (Ns w la l) := hn
  have HL3 : Hid (Loc (w.alloc (.cells #[.slice a C.length c, .int .i64 nn] 24)) w.heap.size ⟨a, c, C, nn⟩) := Loc.new ⟨a, c, C, nn⟩ h
  have HB0 : Hid (Below w.heap.size w (w.alloc (.cells #[.slice a C.length c, .int .i64 nn] 24))) := from_alloc _ _
  have HSlt : Hid (∀ b o, a = some ⟨b, o, none⟩ → C ≠ [] → b < w.heap.size) := fun b o e hne => by
    rcases h with e2 | ⟨b', o', e2, hb', _⟩
    · exact absurd e2 hne
    · rw [e] at e2; simp at e2; rw [e2.1]; exact hb'
  clear h hn
  go_enter Try.func4, Try.ntmps4
  go_wp2_with fail
  generalize w.alloc (.cells #[.slice a C.length c, .int .i64 nn] 24) = v0 at *
  refine (copied_any HL3.out.sl hl).mono ?_
  rintro e w1 ⟨g, gc, rfl, hcp, hb⟩
  have HT1 : Hid (Td w (w1.alloc (.cells #[.slice (some ⟨g, 0, none⟩) C.length gc, .int .i64 nn] 24)) w1.heap.size w.heap.size v0.heap.size g gc a c C nn) :=
    ⟨Loc.new ⟨some ⟨g, 0, none⟩, gc, C, nn⟩ hcp.sl, HL3.out.to (to_alloc hb _), hcp.to (from_alloc _ _), below_to HB0.out (to_alloc hb _)⟩
  have HGl : Hid (g < w1.heap.size) := hcp.own.lies.2
  clear hcp hb HL3 HB0
  go_wp2_with fail
  have HX5 : Hid (w1.heap.size < (w1.alloc (.cells #[.slice (some ⟨g, 0, none⟩) C.length gc, .int .i64 nn] 24)).heap.size) := by unfold Hid; simp
  generalize w1.alloc (.cells #[.slice (some ⟨g, 0, none⟩) C.length gc, .int .i64 nn] 24) = v1 at *
  generalize w1.heap.size = x5 at *
  have q0 : v1.cell? ⟨x5, 0, none⟩ = some (.slice (some ⟨g, 0, none⟩) C.length gc) := HT1.out.l7.c0
  have q1 : v1.cell? ⟨x5, 1, none⟩ = some (.int .i64 nn) := HT1.out.l7.c1
  have q2 : v1.cell? ⟨w.heap.size, 0, none⟩ = some (.slice a C.length c) := HT1.out.l3.c0
  have q3 : v1.cell? ⟨w.heap.size, 1, none⟩ = some (.int .i64 nn) := HT1.out.l3.c1
  have r1 := World.new_ne v1 ⟨x5, 0, none⟩ q0
  have r2 := World.new_ne v1 ⟨w.heap.size, 0, none⟩ q2
  go_wp2_with fail
  have hx5 : x5 ≠ v1.heap.size := by have := HX5.out; omega
  have hx5' : x5 ≠ v1.heap.size + 1 := by have := HX5.out; omega
  have hx2 : w.heap.size ≠ v1.heap.size := by have := HT1.out.l3.low; omega
  have hx2' : w.heap.size ≠ v1.heap.size + 1 := by have := HT1.out.l3.low; omega
  have qq0 : (v1.alloc (.cells #[.slice none 0 0, .int .i64 0] 24)).cell? ⟨x5, 0, none⟩ = some (.slice (some ⟨g, 0, none⟩) C.length gc) := (HT1.out.l7.to (from_alloc _ _)).c0
  have qq1 : (v1.alloc (.cells #[.slice none 0 0, .int .i64 0] 24)).cell? ⟨x5, 1, none⟩ = some (.int .i64 nn) := (HT1.out.l7.to (from_alloc _ _)).c1
  have qq2 : (v1.alloc (.cells #[.slice none 0 0, .int .i64 0] 24)).cell? ⟨w.heap.size, 0, none⟩ = some (.slice a C.length c) := (HT1.out.l3.to (from_alloc _ _)).c0
  have qq3 : (v1.alloc (.cells #[.slice none 0 0, .int .i64 0] 24)).cell? ⟨w.heap.size, 1, none⟩ = some (.int .i64 nn) := (HT1.out.l3.to (from_alloc _ _)).c1
  have qq4 : (v1.alloc (.cells #[.slice (some ⟨g, 0, none⟩) C.length gc, .int .i64 nn] 24)).cell? ⟨x5, 0, none⟩ = some (.slice (some ⟨g, 0, none⟩) C.length gc) := (HT1.out.l7.to (from_alloc _ _)).c0
  have qq5 : (v1.alloc (.cells #[.slice (some ⟨g, 0, none⟩) C.length gc, .int .i64 nn] 24)).cell? ⟨x5, 1, none⟩ = some (.int .i64 nn) := (HT1.out.l7.to (from_alloc _ _)).c1
  have qq6 : (v1.alloc (.cells #[.slice (some ⟨g, 0, none⟩) C.length gc, .int .i64 nn] 24)).cell? ⟨w.heap.size, 0, none⟩ = some (.slice a C.length c) := (HT1.out.l3.to (from_alloc _ _)).c0
  have qq7 : (v1.alloc (.cells #[.slice (some ⟨g, 0, none⟩) C.length gc, .int .i64 nn] 24)).cell? ⟨w.heap.size, 1, none⟩ = some (.int .i64 nn) := (HT1.out.l3.to (from_alloc _ _)).c1
  have qq8 : (v1.alloc (.cells #[.slice a C.length c, .int .i64 nn] 24)).cell? ⟨x5, 0, none⟩ = some (.slice (some ⟨g, 0, none⟩) C.length gc) := (HT1.out.l7.to (from_alloc _ _)).c0
  have qq9 : (v1.alloc (.cells #[.slice a C.length c, .int .i64 nn] 24)).cell? ⟨x5, 1, none⟩ = some (.int .i64 nn) := (HT1.out.l7.to (from_alloc _ _)).c1
  have qq10 : (v1.alloc (.cells #[.slice a C.length c, .int .i64 nn] 24)).cell? ⟨w.heap.size, 0, none⟩ = some (.slice a C.length c) := (HT1.out.l3.to (from_alloc _ _)).c0
  have qq11 : (v1.alloc (.cells #[.slice a C.length c, .int .i64 nn] 24)).cell? ⟨w.heap.size, 1, none⟩ = some (.int .i64 nn) := (HT1.out.l3.to (from_alloc _ _)).c1
  have qq12 : ((v1.alloc (.cells #[.slice none 0 0, .int .i64 0] 24)).alloc (.cells #[.slice none 0 0, .int .i64 0] 24)).cell? ⟨x5, 0, none⟩ = some (.slice (some ⟨g, 0, none⟩) C.length gc) := ((HT1.out.l7.to (from_alloc _ _)).to (from_alloc _ _)).c0
  have qq13 : ((v1.alloc (.cells #[.slice none 0 0, .int .i64 0] 24)).alloc (.cells #[.slice none 0 0, .int .i64 0] 24)).cell? ⟨x5, 1, none⟩ = some (.int .i64 nn) := ((HT1.out.l7.to (from_alloc _ _)).to (from_alloc _ _)).c1
  have qq14 : ((v1.alloc (.cells #[.slice none 0 0, .int .i64 0] 24)).alloc (.cells #[.slice none 0 0, .int .i64 0] 24)).cell? ⟨w.heap.size, 0, none⟩ = some (.slice a C.length c) := ((HT1.out.l3.to (from_alloc _ _)).to (from_alloc _ _)).c0
  have qq15 : ((v1.alloc (.cells #[.slice none 0 0, .int .i64 0] 24)).alloc (.cells #[.slice none 0 0, .int .i64 0] 24)).cell? ⟨w.heap.size, 1, none⟩ = some (.int .i64 nn) := ((HT1.out.l3.to (from_alloc _ _)).to (from_alloc _ _)).c1
  have qq16 : ((v1.alloc (.cells #[.slice (some ⟨g, 0, none⟩) C.length gc, .int .i64 nn] 24)).alloc (.cells #[.slice none 0 0, .int .i64 0] 24)).cell? ⟨x5, 0, none⟩ = some (.slice (some ⟨g, 0, none⟩) C.length gc) := ((HT1.out.l7.to (from_alloc _ _)).to (from_alloc _ _)).c0
  have qq17 : ((v1.alloc (.cells #[.slice (some ⟨g, 0, none⟩) C.length gc, .int .i64 nn] 24)).alloc (.cells #[.slice none 0 0, .int .i64 0] 24)).cell? ⟨x5, 1, none⟩ = some (.int .i64 nn) := ((HT1.out.l7.to (from_alloc _ _)).to (from_alloc _ _)).c1
  have qq18 : ((v1.alloc (.cells #[.slice (some ⟨g, 0, none⟩) C.length gc, .int .i64 nn] 24)).alloc (.cells #[.slice none 0 0, .int .i64 0] 24)).cell? ⟨w.heap.size, 0, none⟩ = some (.slice a C.length c) := ((HT1.out.l3.to (from_alloc _ _)).to (from_alloc _ _)).c0
  have qq19 : ((v1.alloc (.cells #[.slice (some ⟨g, 0, none⟩) C.length gc, .int .i64 nn] 24)).alloc (.cells #[.slice none 0 0, .int .i64 0] 24)).cell? ⟨w.heap.size, 1, none⟩ = some (.int .i64 nn) := ((HT1.out.l3.to (from_alloc _ _)).to (from_alloc _ _)).c1
  have qq20 : ((v1.alloc (.cells #[.slice none 0 0, .int .i64 0] 24)).alloc (.cells #[.slice (some ⟨g, 0, none⟩) C.length gc, .int .i64 nn] 24)).cell? ⟨x5, 0, none⟩ = some (.slice (some ⟨g, 0, none⟩) C.length gc) := ((HT1.out.l7.to (from_alloc _ _)).to (from_alloc _ _)).c0
  have qq21 : ((v1.alloc (.cells #[.slice none 0 0, .int .i64 0] 24)).alloc (.cells #[.slice (some ⟨g, 0, none⟩) C.length gc, .int .i64 nn] 24)).cell? ⟨x5, 1, none⟩ = some (.int .i64 nn) := ((HT1.out.l7.to (from_alloc _ _)).to (from_alloc _ _)).c1
  have qq22 : ((v1.alloc (.cells #[.slice none 0 0, .int .i64 0] 24)).alloc (.cells #[.slice (some ⟨g, 0, none⟩) C.length gc, .int .i64 nn] 24)).cell? ⟨w.heap.size, 0, none⟩ = some (.slice a C.length c) := ((HT1.out.l3.to (from_alloc _ _)).to (from_alloc _ _)).c0
  have qq23 : ((v1.alloc (.cells #[.slice none 0 0, .int .i64 0] 24)).alloc (.cells #[.slice (some ⟨g, 0, none⟩) C.length gc, .int .i64 nn] 24)).cell? ⟨w.heap.size, 1, none⟩ = some (.int .i64 nn) := ((HT1.out.l3.to (from_alloc _ _)).to (from_alloc _ _)).c1
  have qq24 : ((v1.alloc (.cells #[.slice a C.length c, .int .i64 nn] 24)).alloc (.cells #[.slice none 0 0, .int .i64 0] 24)).cell? ⟨x5, 0, none⟩ = some (.slice (some ⟨g, 0, none⟩) C.length gc) := ((HT1.out.l7.to (from_alloc _ _)).to (from_alloc _ _)).c0
  have qq25 : ((v1.alloc (.cells #[.slice a C.length c, .int .i64 nn] 24)).alloc (.cells #[.slice none 0 0, .int .i64 0] 24)).cell? ⟨x5, 1, none⟩ = some (.int .i64 nn) := ((HT1.out.l7.to (from_alloc _ _)).to (from_alloc _ _)).c1
  have qq26 : ((v1.alloc (.cells #[.slice a C.length c, .int .i64 nn] 24)).alloc (.cells #[.slice none 0 0, .int .i64 0] 24)).cell? ⟨w.heap.size, 0, none⟩ = some (.slice a C.length c) := ((HT1.out.l3.to (from_alloc _ _)).to (from_alloc _ _)).c0
  have qq27 : ((v1.alloc (.cells #[.slice a C.length c, .int .i64 nn] 24)).alloc (.cells #[.slice none 0 0, .int .i64 0] 24)).cell? ⟨w.heap.size, 1, none⟩ = some (.int .i64 nn) := ((HT1.out.l3.to (from_alloc _ _)).to (from_alloc _ _)).c1
  have qq28 : ((v1.alloc (.cells #[.slice none 0 0, .int .i64 0] 24)).alloc (.cells #[.slice a C.length c, .int .i64 nn] 24)).cell? ⟨x5, 0, none⟩ = some (.slice (some ⟨g, 0, none⟩) C.length gc) := ((HT1.out.l7.to (from_alloc _ _)).to (from_alloc _ _)).c0
  have qq29 : ((v1.alloc (.cells #[.slice none 0 0, .int .i64 0] 24)).alloc (.cells #[.slice a C.length c, .int .i64 nn] 24)).cell? ⟨x5, 1, none⟩ = some (.int .i64 nn) := ((HT1.out.l7.to (from_alloc _ _)).to (from_alloc _ _)).c1
  have qq30 : ((v1.alloc (.cells #[.slice none 0 0, .int .i64 0] 24)).alloc (.cells #[.slice a C.length c, .int .i64 nn] 24)).cell? ⟨w.heap.size, 0, none⟩ = some (.slice a C.length c) := ((HT1.out.l3.to (from_alloc _ _)).to (from_alloc _ _)).c0
  have qq31 : ((v1.alloc (.cells #[.slice none 0 0, .int .i64 0] 24)).alloc (.cells #[.slice a C.length c, .int .i64 nn] 24)).cell? ⟨w.heap.size, 1, none⟩ = some (.int .i64 nn) := ((HT1.out.l3.to (from_alloc _ _)).to (from_alloc _ _)).c1
  go_region
  all_goals clear q0 q1 q2 q3 r1 r2 hx5 hx5' hx2 hx2'
  all_goals clear qq0 qq1 qq2 qq3 qq4 qq5 qq6 qq7 qq8 qq9 qq10 qq11 qq12 qq13 qq14 qq15 qq16 qq17 qq18 qq19 qq20 qq21 qq22 qq23 qq24 qq25 qq26 qq27 qq28 qq29 qq30 qq31
  · have HB1 : Hid (Below v1.heap.size v1 ((v1.alloc (.cells #[.slice (some ⟨g, 0, none⟩) C.length gc, .int .i64 nn] 24)).alloc (.cells #[.slice a C.length c, .int .i64 nn] 24)).drew) := below_drew (to_alloc (from_alloc _ _) _)
    have HLV : Hid (Lv ((v1.alloc (.cells #[.slice (some ⟨g, 0, none⟩) C.length gc, .int .i64 nn] 24)).alloc (.cells #[.slice a C.length c, .int .i64 nn] 24)).drew ((v1.alloc (.cells #[.slice (some ⟨g, 0, none⟩) C.length gc, .int .i64 nn] 24)).alloc (.cells #[.slice a C.length c, .int .i64 nn] 24)).drew v1.heap.size (v1.heap.size + 1) ⟨some ⟨g, 0, none⟩, gc, C, nn⟩ ⟨a, c, C, nn⟩) := by
      have hgl := HGl.out
      have hx := HX5.out
      have hw := HT1.out.l3.low
      exact Lv.begin ⟨some ⟨g, 0, none⟩, gc, C, nn⟩ ⟨a, c, C, nn⟩ HT1.out.l7.sl HT1.out.l3.sl (fun b o e _ => by simp only [Option.some.injEq, Addr.mk.injEq, and_true] at e; omega) (fun b o e k => by have := HSlt.out b o e k; omega)
    have HTV : Hid (Td w ((v1.alloc (.cells #[.slice (some ⟨g, 0, none⟩) C.length gc, .int .i64 nn] 24)).alloc (.cells #[.slice a C.length c, .int .i64 nn] 24)).drew x5 w.heap.size v0.heap.size g gc a c C nn) := HT1.out.to HB1.out
    have HXX : Hid (v1.heap.size ≤ v1.heap.size ∧ v1.heap.size ≤ (v1.heap.size + 1)) := ⟨by omega, by omega⟩
    have hs1 := HX5.out
    have hs2 := HT1.out.l3.low
    have hgl := HGl.out
    generalize ((v1.alloc (.cells #[.slice (some ⟨g, 0, none⟩) C.length gc, .int .i64 nn] 24)).alloc (.cells #[.slice a C.length c, .int .i64 nn] 24)).drew = V at *
    generalize v1.heap.size + 1 = x7 at *
    generalize hx6 : v1.heap.size = x6 at *
    clear HB1 HT1 HX5 HGl
    have HXE : Hid (x5 < V.heap.size ∧ x5 ≠ x6 ∧ x5 ≠ x7 ∧ w.heap.size < V.heap.size ∧ w.heap.size < x6 ∧ w.heap.size < x7 ∧ g ≠ x6 ∧ g ≠ x7) := by
      have h1 := HXX.out
      have h2 := HLV.out.l6.low
      refine ⟨?_, ?_, ?_, ?_, ?_, ?_, ?_, ?_⟩ <;> omega
    have HTDu : Hid (∀ u s t, Lv V u x6 x7 s t → Td w u x5 w.heap.size v0.heap.size g gc a c C nn) := fun u s t hu => by
      obtain ⟨e1, e2, e3, e4, e5, e6, e7, e8⟩ := HXE.out
      have hz := hu.fz.size
      have k5 : ¬ (x5 = x6 ∨ x5 = x7) := by omega
      have k2 : ¬ (w.heap.size = x6 ∨ w.heap.size = x7) := by omega
      refine ⟨⟨by omega, (hu.fz.cell _ _ e1 k5).trans HTV.out.l7.c0, (hu.fz.cell _ _ e1 k5).trans HTV.out.l7.c1, hu.fz.sl HTV.out.l7.sl (fun b o e hP => by simp only [Option.some.injEq, Addr.mk.injEq, and_true] at e; omega)⟩, ⟨by omega, (hu.fz.cell _ _ e4 k2).trans HTV.out.l3.c0, (hu.fz.cell _ _ e4 k2).trans HTV.out.l3.c1, ?_⟩, ⟨⟨hu.fz.own HTV.out.cp.own.own (fun k hk hP => by simp [Value.ownBlock] at hk; omega)⟩⟩, hu.fz.below HTV.out.b (fun k hP => by omega)⟩
      by_cases hC : C = []
      · exact Or.inl hC
      · exact hu.fz.sl HTV.out.l3.sl (fun b o e hP => by have h1 := HSlt.out b o e hC; omega)
    have HLC : Hid (∀ u s t b j, Lv V u x6 x7 s t → b < w.heap.size → u.cell? ⟨b, j, none⟩ = w.cell? ⟨b, j, none⟩) := fun u s t b j hu hb => by
      obtain ⟨e1, e2, e3, e4, e5, e6, e7, e8⟩ := HXE.out
      rw [hu.fz.cell _ _ (by omega) (by omega), newCell HTV.out.b _ _ hb]
    clear hx6
    go_wp2_with fail
    go_loopw [8] (fun iv wr => LI V x6 x7 l.length iv wr) (fun iv _ => l.length - (intOf iv).toNat)
    case atStart => exact ⟨0, _, _, by omega, by omega, rfl, HLV.out, rfl, rfl, hl⟩
    case round =>
      obtain ⟨k, ⟨a6, c6, D, m⟩, ⟨a7, c7, D2, m2⟩, hk, hk6, rfl, hlv, e1, e2, hD⟩ := hrel
      simp only at e1 e2 hD
      subst e1 e2
      clear HLV
      by_cases hlt : k < l.length ∧ k < 60
      · obtain ⟨hk1, hk2⟩ := hlt
        have b0 : (k : Int) < (l.length : Int) := by omega
        have b1 : (k : Int) < 60 := by omega
        have b2 : 0 ≤ (k : Int) := by omega
        obtain ⟨lb, lo, rfl, hlb, hlc⟩ := HNS.out.form (by omega)
        have HLB : Hid (lb < w.heap.size) := hlb
        have HLCk : Hid (w.cell? ⟨lb, lo + k, none⟩ = some (.int .i64 (l.getD k 0))) := hlc k hk1
        generalize l.getD k 0 = sv at *
        have HLVr : Hid (Lv V wr x6 x7 ⟨a6, c6, D, m⟩ ⟨a7, c7, D, m⟩) := hlv
        clear hlc hlv hlb
        have HDL := adA_len D m sv
        have HAD : Hid (∀ u, Below wr.heap.size wr u → Calls Try.prog 23 #[.agg #[.slice a6 D.length c6, .int .i64 m], .int .i64 sv] u fun e u' => ∃ a9 c9, e = .returned (.tuple #[.agg #[.slice a9 (adA D m sv).1.length c9, .int .i64 (adA D m sv).2.1], .int .i64 (adA D m sv).2.2]) ∧ u'.ownsRow u.heap.size 49 1 (.slice a9 (adA D m sv).1.length c9) (adA D m sv).1.length (ns .u16 (adA D m sv).1) ∧ Below u.heap.size u u' ∧ Below wr.heap.size wr u' ∧ x6 < u'.heap.size ∧ lb < u'.heap.size ∧ u'.cell? ⟨x6, 0, none⟩ = some (.slice a6 D.length c6) ∧ u'.cell? ⟨x6, 1, none⟩ = some (.int .i64 m) ∧ u'.cell? ⟨lb, lo + k, none⟩ = some (.int .i64 sv)) := fun u hu => by
          refine (adapt_both (HLVr.out.to hu).l6.sl (by show D.length ≤ _; omega)).mono fun e u' h => ?_
          obtain ⟨a9, c9, h1, h2, h3⟩ := h
          have hlv2 := (HLVr.out.to hu).to h3
          exact ⟨a9, c9, h1, h2, h3, below_to hu h3, hlv2.l6.low, by have := hlv2.fz.size; have := HLB.out; have := HXE.out; omega, hlv2.l6.c0, hlv2.l6.c1, by rw [HLC.out _ _ _ _ _ hlv2 HLB.out]; exact HLCk.out⟩
        have HAR : Hid (∀ U, Lv V U x6 x7 ⟨a6, c6, D, m⟩ ⟨a7, c7, D, m⟩ → ∀ u, Below U.heap.size U u → Calls Try.prog 24 #[.agg #[.slice a7 D.length c7, .int .i64 m], .int .i64 sv] u fun e u' => ∃ a9 c9, e = .returned (.tuple #[.agg #[.slice a9 (adA D m sv).1.length c9, .int .i64 (adA D m sv).2.1], .int .i64 (adA D m sv).2.2]) ∧ u'.ownsRow u.heap.size 49 1 (.slice a9 (adA D m sv).1.length c9) (adA D m sv).1.length (ns .u16 (adA D m sv).1) ∧ Below u.heap.size u u' ∧ Below U.heap.size U u' ∧ x7 < u'.heap.size ∧ lb < u'.heap.size ∧ u'.cell? ⟨x7, 0, none⟩ = some (.slice a7 D.length c7) ∧ u'.cell? ⟨x7, 1, none⟩ = some (.int .i64 m) ∧ u'.cell? ⟨lb, lo + k, none⟩ = some (.int .i64 sv)) := fun U hU u hu => by
          refine (radapt_both (hU.to hu).l7.sl (by show D.length ≤ _; omega)).mono fun e u' h => ?_
          obtain ⟨a9, c9, h1, h2, h3⟩ := h
          have hlv2 := (hU.to hu).to h3
          exact ⟨a9, c9, h1, h2, h3, below_to hu h3, hlv2.l7.low, by have := hlv2.fz.size; have := HLB.out; have := HXE.out; omega, hlv2.l7.c0, hlv2.l7.c1, by rw [HLC.out _ _ _ _ _ hlv2 HLB.out]; exact HLCk.out⟩
        have hX : (adA D m sv).2.2 = 0 ∨ (adA D m sv).2.2 = 2 := by unfold adA; split; left; rfl; right; rfl
        generalize adA D m sv = R at *
        obtain ⟨D', m', x'⟩ := R
        simp only at HDL HAD HAR hX
        have hbd : Below wr.heap.size wr wr.drew := below_drew (Below.refl _ _)
        have d0 : wr.drew.cell? ⟨x6, 0, none⟩ = some (.slice a6 D.length c6) := HLVr.out.l6.c0
        have d1 : wr.drew.cell? ⟨x6, 1, none⟩ = some (.int .i64 m) := HLVr.out.l6.c1
        have d2 : wr.drew.cell? ⟨lb, lo + k, none⟩ = some (.int .i64 sv) := by have := HLC.out _ _ _ lb (lo + k) HLVr.out HLB.out; exact this.trans HLCk.out
        have e10 : (wr.alloc (.cells #[.slice none 0 0, .int .i64 0] 24)).drew.cell? ⟨x6, 0, none⟩ = some (.slice a6 D.length c6) := (HLVr.out.to (from_alloc _ _)).l6.c0
        have e11 : (wr.alloc (.cells #[.slice none 0 0, .int .i64 0] 24)).drew.cell? ⟨x6, 1, none⟩ = some (.int .i64 m) := (HLVr.out.to (from_alloc _ _)).l6.c1
        have e12 : (wr.alloc (.cells #[.slice none 0 0, .int .i64 0] 24)).drew.cell? ⟨lb, lo + k, none⟩ = some (.int .i64 sv) := (HLC.out _ _ _ lb (lo + k) (HLVr.out.to (from_alloc _ (.cells #[.slice none 0 0, .int .i64 0] 24))) HLB.out).trans HLCk.out
        have e13 : Below wr.heap.size wr (wr.alloc (.cells #[.slice none 0 0, .int .i64 0] 24)).drew := below_drew (from_alloc _ _)
        have hnx : x6 ≠ wr.heap.size := by have := HLVr.out.l6.low; omega
        have hnl : lb ≠ wr.heap.size := by have := HLVr.out.fz.size; have := HLB.out; have := HXE.out; omega
        go_wp2_with fail
        go_region_held3 (fun u => u.cell? ⟨x6, 0, none⟩ = some (.slice a6 D.length c6) ∧ u.cell? ⟨x6, 1, none⟩ = some (.int .i64 m) ∧ u.cell? ⟨lb, lo + k, none⟩ = some (.int .i64 sv) ∧ Below wr.heap.size wr u) (((try dsimp only); first | assumption | (solve | (repeat (first | with_reducible assumption | with_reducible refine below_drew ?_ | with_reducible refine below_alloc ?_ ?_ _ | with_reducible refine below_set ?_ ?_ _ | exact Nat.le_refl _ | exact Below.size (by assumption)))) | (refine ⟨?_, ?_, ?_, ?_⟩ <;> first | assumption | (solve | (repeat (first | with_reducible assumption | with_reducible refine below_drew ?_ | with_reducible refine below_alloc ?_ ?_ _ | with_reducible refine below_set ?_ ?_ _ | exact Nat.le_refl _ | exact Below.size (by assumption)))) | go_keep) | go_keep)) ((go_at_call 23; refine (HAD.out _ (by (repeat (first | with_reducible assumption | with_reducible refine below_drew ?_ | with_reducible refine below_alloc ?_ ?_ _ | with_reducible refine below_set ?_ ?_ _ | exact Nat.le_refl _ | exact Below.size (by assumption))))).mono ?_; rintro e w3 ⟨a9, c9, rfl, ho9, hb9, hbw9, hlw, hlw2, hc0, hc1, hc2⟩; have z0 := newCell hb9 wr.heap.size 0; have z1 := newCell hb9 wr.heap.size 1; have z2 := newFrozen hb9 wr.heap.size 0; have z3 := newFrozen hb9 wr.heap.size 1; have y0a : (w3.alloc (.cells #[.slice none 0 0, .int .i64 0] 24)).cell? ⟨x6, 0, none⟩ = some (.slice a6 D.length c6) := (newCell (from_alloc w3 _) _ _ hlw).trans hc0; have y1a : (w3.alloc (.cells #[.slice none 0 0, .int .i64 0] 24)).cell? ⟨x6, 1, none⟩ = some (.int .i64 m) := (newCell (from_alloc w3 _) _ _ hlw).trans hc1; have y2a : (w3.alloc (.cells #[.slice none 0 0, .int .i64 0] 24)).cell? ⟨lb, lo + k, none⟩ = some (.int .i64 sv) := (newCell (from_alloc w3 _) _ _ hlw2).trans hc2; have y0b : (w3.alloc (.cells #[.slice a9 D'.length c9, .int .i64 m'] 24)).cell? ⟨x6, 0, none⟩ = some (.slice a6 D.length c6) := (newCell (from_alloc w3 _) _ _ hlw).trans hc0; have y1b : (w3.alloc (.cells #[.slice a9 D'.length c9, .int .i64 m'] 24)).cell? ⟨x6, 1, none⟩ = some (.int .i64 m) := (newCell (from_alloc w3 _) _ _ hlw).trans hc1; have y2b : (w3.alloc (.cells #[.slice a9 D'.length c9, .int .i64 m'] 24)).cell? ⟨lb, lo + k, none⟩ = some (.int .i64 sv) := (newCell (from_alloc w3 _) _ _ hlw2).trans hc2; have y0c : ((w3.setCell ⟨wr.heap.size, 0, none⟩ (.slice a9 D'.length c9)).setCell ⟨wr.heap.size, 1, none⟩ (.int .i64 m')).cell? ⟨x6, 0, none⟩ = some (.slice a6 D.length c6) := far2 hnx hc0; have y1c : ((w3.setCell ⟨wr.heap.size, 0, none⟩ (.slice a9 D'.length c9)).setCell ⟨wr.heap.size, 1, none⟩ (.int .i64 m')).cell? ⟨x6, 1, none⟩ = some (.int .i64 m) := far2 hnx hc1; have y2c : ((w3.setCell ⟨wr.heap.size, 0, none⟩ (.slice a9 D'.length c9)).setCell ⟨wr.heap.size, 1, none⟩ (.int .i64 m')).cell? ⟨lb, lo + k, none⟩ = some (.int .i64 sv) := far2 hnl hc2))
        · have HN9 : Hid (Nt wr (w3.alloc (.cells #[.slice a9 D'.length c9, .int .i64 m'] 24)) w3.heap.size ⟨a9, c9, D', m'⟩) := Nt.callFirst (u := wr.drew) (t := ⟨a9, c9, D', m'⟩) hbd ho9 hb9
          clear d0 d1 d2 e10 e11 e12 e13 hnx hnl ho9 hb9 hbw9 hlw hlw2 hc0 hc1 hc2 z0 z1 z2 z3 y0a y1a y2a y0b y1b y2b y0c y1c y2c hbd
          generalize w3.alloc (.cells #[.slice a9 D'.length c9, .int .i64 m'] 24) = U at *
          generalize w3.heap.size = x9 at *
          have HLV1 : Hid (Lv V U x6 x7 ⟨a6, c6, D, m⟩ ⟨a7, c7, D, m⟩) := HLVr.out.to HN9.out.b
          have hbd : Below U.heap.size U U.drew := below_drew (Below.refl _ _)
          have d0 : U.drew.cell? ⟨x7, 0, none⟩ = some (.slice a7 D.length c7) := HLV1.out.l7.c0
          have d1 : U.drew.cell? ⟨x7, 1, none⟩ = some (.int .i64 m) := HLV1.out.l7.c1
          have d2 : U.drew.cell? ⟨lb, lo + k, none⟩ = some (.int .i64 sv) := by have := HLC.out _ _ _ lb (lo + k) HLV1.out HLB.out; exact this.trans HLCk.out
          have e10 : (U.alloc (.cells #[.slice none 0 0, .int .i64 0] 24)).drew.cell? ⟨x7, 0, none⟩ = some (.slice a7 D.length c7) := (HLV1.out.to (from_alloc _ _)).l7.c0
          have e11 : (U.alloc (.cells #[.slice none 0 0, .int .i64 0] 24)).drew.cell? ⟨x7, 1, none⟩ = some (.int .i64 m) := (HLV1.out.to (from_alloc _ _)).l7.c1
          have e12 : (U.alloc (.cells #[.slice none 0 0, .int .i64 0] 24)).drew.cell? ⟨lb, lo + k, none⟩ = some (.int .i64 sv) := (HLC.out _ _ _ lb (lo + k) (HLV1.out.to (from_alloc _ (.cells #[.slice none 0 0, .int .i64 0] 24))) HLB.out).trans HLCk.out
          have e13 : Below U.heap.size U (U.alloc (.cells #[.slice none 0 0, .int .i64 0] 24)).drew := below_drew (from_alloc _ _)
          have hnx : x7 ≠ U.heap.size := by have := HLV1.out.l7.low; omega
          have hnl : lb ≠ U.heap.size := by have := HLV1.out.fz.size; have := HLB.out; have := HXE.out; omega
          go_wp2_with fail
          go_region_held3 (fun u => u.cell? ⟨x7, 0, none⟩ = some (.slice a7 D.length c7) ∧ u.cell? ⟨x7, 1, none⟩ = some (.int .i64 m) ∧ u.cell? ⟨lb, lo + k, none⟩ = some (.int .i64 sv) ∧ Below U.heap.size U u) (((try dsimp only); first | assumption | (solve | (repeat (first | with_reducible assumption | with_reducible refine below_drew ?_ | with_reducible refine below_alloc ?_ ?_ _ | with_reducible refine below_set ?_ ?_ _ | exact Nat.le_refl _ | exact Below.size (by assumption)))) | (refine ⟨?_, ?_, ?_, ?_⟩ <;> first | assumption | (solve | (repeat (first | with_reducible assumption | with_reducible refine below_drew ?_ | with_reducible refine below_alloc ?_ ?_ _ | with_reducible refine below_set ?_ ?_ _ | exact Nat.le_refl _ | exact Below.size (by assumption)))) | go_keep) | go_keep)) ((go_at_call 24; refine (HAR.out U HLV1.out _ (by (repeat (first | with_reducible assumption | with_reducible refine below_drew ?_ | with_reducible refine below_alloc ?_ ?_ _ | with_reducible refine below_set ?_ ?_ _ | exact Nat.le_refl _ | exact Below.size (by assumption))))).mono ?_; rintro e w7 ⟨a11, c11, rfl, ho9, hb9, hbw9, hlw, hlw2, hc0, hc1, hc2⟩; have z0 := newCell hb9 U.heap.size 0; have z1 := newCell hb9 U.heap.size 1; have z2 := newFrozen hb9 U.heap.size 0; have z3 := newFrozen hb9 U.heap.size 1; have y0a : (w7.alloc (.cells #[.slice none 0 0, .int .i64 0] 24)).cell? ⟨x7, 0, none⟩ = some (.slice a7 D.length c7) := (newCell (from_alloc w7 _) _ _ hlw).trans hc0; have y1a : (w7.alloc (.cells #[.slice none 0 0, .int .i64 0] 24)).cell? ⟨x7, 1, none⟩ = some (.int .i64 m) := (newCell (from_alloc w7 _) _ _ hlw).trans hc1; have y2a : (w7.alloc (.cells #[.slice none 0 0, .int .i64 0] 24)).cell? ⟨lb, lo + k, none⟩ = some (.int .i64 sv) := (newCell (from_alloc w7 _) _ _ hlw2).trans hc2; have y0b : (w7.alloc (.cells #[.slice a11 D'.length c11, .int .i64 m'] 24)).cell? ⟨x7, 0, none⟩ = some (.slice a7 D.length c7) := (newCell (from_alloc w7 _) _ _ hlw).trans hc0; have y1b : (w7.alloc (.cells #[.slice a11 D'.length c11, .int .i64 m'] 24)).cell? ⟨x7, 1, none⟩ = some (.int .i64 m) := (newCell (from_alloc w7 _) _ _ hlw).trans hc1; have y2b : (w7.alloc (.cells #[.slice a11 D'.length c11, .int .i64 m'] 24)).cell? ⟨lb, lo + k, none⟩ = some (.int .i64 sv) := (newCell (from_alloc w7 _) _ _ hlw2).trans hc2; have y0c : ((w7.setCell ⟨U.heap.size, 0, none⟩ (.slice a11 D'.length c11)).setCell ⟨U.heap.size, 1, none⟩ (.int .i64 m')).cell? ⟨x7, 0, none⟩ = some (.slice a7 D.length c7) := far2 hnx hc0; have y1c : ((w7.setCell ⟨U.heap.size, 0, none⟩ (.slice a11 D'.length c11)).setCell ⟨U.heap.size, 1, none⟩ (.int .i64 m')).cell? ⟨x7, 1, none⟩ = some (.int .i64 m) := far2 hnx hc1; have y2c : ((w7.setCell ⟨U.heap.size, 0, none⟩ (.slice a11 D'.length c11)).setCell ⟨U.heap.size, 1, none⟩ (.int .i64 m')).cell? ⟨lb, lo + k, none⟩ = some (.int .i64 sv) := far2 hnl hc2))
          · have HN11 : Hid (Nt U (w7.alloc (.cells #[.slice a11 D'.length c11, .int .i64 m'] 24)) w7.heap.size ⟨a11, c11, D', m'⟩) := Nt.callFirst (u := U.drew) (t := ⟨a11, c11, D', m'⟩) hbd ho9 hb9
            clear d0 d1 d2 e10 e11 e12 e13 hnx hnl ho9 hb9 hbw9 hlw hlw2 hc0 hc1 hc2 z0 z1 z2 z3 y0a y1a y2a y0b y1b y2b y0c y1c y2c hbd
            generalize w7.alloc (.cells #[.slice a11 D'.length c11, .int .i64 m'] 24) = U2 at *
            generalize w7.heap.size = x11 at *
            have HLV2 : Hid (Lv V U2 x6 x7 ⟨a6, c6, D, m⟩ ⟨a7, c7, D, m⟩) := HLV1.out.to HN11.out.b
            have HL9 : Hid (Loc U2 x9 ⟨a9, c9, D', m'⟩) := HN9.out.l.to HN11.out.b
            have HL11 : Hid (Loc U2 x11 ⟨a11, c11, D', m'⟩) := HN11.out.l
            have HP9 : Hid (∀ b o, a9 = some ⟨b, o, none⟩ → D' ≠ [] → b ≠ x6 ∧ b ≠ x7) := HN9.out.far HLVr.out.l6.low HLVr.out.l7.low
            have HP11 : Hid (∀ b o, a11 = some ⟨b, o, none⟩ → D' ≠ [] → b ≠ x6 ∧ b ≠ x7) := HN11.out.far HLV1.out.l6.low HLV1.out.l7.low
            have HNE : Hid (x6 ≠ x9 ∧ x7 ≠ x9 ∧ x6 ≠ x11 ∧ x7 ≠ x11) := by
              have h1 := HN9.out.lo
              have h2 := HN11.out.lo
              have h3 := HLVr.out.l6.low
              have h4 := HLVr.out.l7.low
              have h5 := HN9.out.b.size
              refine ⟨?_, ?_, ?_, ?_⟩ <;> omega
            clear HN9 HN11 HLVr HLV1 HAD HAR
            have q0 : U2.cell? ⟨x9, 0, none⟩ = some (.slice a9 D'.length c9) := HL9.out.c0
            have q1 : U2.cell? ⟨x9, 1, none⟩ = some (.int .i64 m') := HL9.out.c1
            have q2 : U2.cell? ⟨x11, 0, none⟩ = some (.slice a11 D'.length c11) := HL11.out.c0
            have q3 : U2.cell? ⟨x11, 1, none⟩ = some (.int .i64 m') := HL11.out.c1
            have t3 : (x' != x') = false := by simp
            go_wp2_with fail
            refine (same_true HL9.out.sl HL11.out.sl (by show D'.length ≤ _; omega)).mono ?_
            rintro e w4 ⟨rfl, hb⟩
            have HLV4 : Hid _ := HLV2.out.to hb
            have HL94 : Hid _ := HL9.out.to hb
            have HL114 : Hid _ := HL11.out.to hb
            have HT4 : Hid _ := HTDu.out _ _ _ HLV4.out
            clear hb q0 q1 q2 q3 HLV2 HL9 HL11
            have q0 : w4.cell? ⟨x5, 0, none⟩ = some (.slice (some ⟨g, 0, none⟩) C.length gc) := HT4.out.l7.c0
            have q1 : w4.cell? ⟨x5, 1, none⟩ = some (.int .i64 nn) := HT4.out.l7.c1
            have q2 : w4.cell? ⟨w.heap.size, 0, none⟩ = some (.slice a C.length c) := HT4.out.l3.c0
            have q3 : w4.cell? ⟨w.heap.size, 1, none⟩ = some (.int .i64 nn) := HT4.out.l3.c1
            go_wp2_with fail
            refine (kept_true HT4.out.cp HT4.out.l3.sl (by show C.length ≤ _; omega)).mono ?_
            rintro e w5 ⟨rfl, hb⟩
            have HLV5 : Hid _ := HLV4.out.to hb
            have HL95 : Hid _ := HL94.out.to hb
            have HL115 : Hid _ := HL114.out.to hb
            clear hb q0 q1 q2 q3 HLV4 HL94 HL114 HT4
            rcases hX with rfl | rfl
            · have q0 : w5.cell? ⟨x9, 0, none⟩ = some (.slice a9 D'.length c9) := HL95.out.c0
              have q1 : w5.cell? ⟨x9, 1, none⟩ = some (.int .i64 m') := HL95.out.c1
              have q2 : w5.cell? ⟨x11, 0, none⟩ = some (.slice a11 D'.length c11) := HL115.out.c0
              have q3 : w5.cell? ⟨x11, 1, none⟩ = some (.int .i64 m') := HL115.out.c1
              have q4 : w5.cell? ⟨x6, 0, none⟩ = some (.slice a6 D.length c6) := HLV5.out.l6.c0
              have q5 : w5.cell? ⟨x6, 1, none⟩ = some (.int .i64 m) := HLV5.out.l6.c1
              have q6 : w5.cell? ⟨x7, 0, none⟩ = some (.slice a7 D.length c7) := HLV5.out.l7.c0
              have q7 : w5.cell? ⟨x7, 1, none⟩ = some (.int .i64 m) := HLV5.out.l7.c1
              have f0 := HLV5.out.f60
              have f1 := HLV5.out.f61
              have f2 := HLV5.out.f70
              have f3 := HLV5.out.f71
              have n0 := HLV5.out.ne
              have n1 := HNE.out.1
              have n2 := HNE.out.2.1
              have n3 := HNE.out.2.2.1
              have n4 := HNE.out.2.2.2
              have n5 := n0.symm
              have F1 : Hid _ := (HLV5.out.to (below_drew (Below.refl _ _))).puts ⟨a9, c9, D', m'⟩ ⟨a11, c11, D', m'⟩ (HL95.out.sl.to (below_drew (Below.refl _ _))) (HL115.out.sl.to (below_drew (Below.refl _ _))) HP9.out HP11.out
              have F2 : Hid _ := ((HLV5.out.to (below_drew (Below.refl _ _))).turn.puts ⟨a11, c11, D', m'⟩ ⟨a9, c9, D', m'⟩ (HL115.out.sl.to (below_drew (Below.refl _ _))) (HL95.out.sl.to (below_drew (Below.refl _ _))) (fun b o e k => (HP11.out b o e k).symm) (fun b o e k => (HP9.out b o e k).symm)).turn
              go_wp2_with fail
              go_region
              all_goals
                go_wp2_with fail
                go_roundw
                case rel => first | exact ⟨k + 1, ⟨a9, c9, D', m'⟩, ⟨a11, c11, D', m'⟩, by omega, by omega, by go_num, F1.out, rfl, rfl, by show D'.length ≤ _; omega⟩ | exact ⟨k + 1, ⟨a9, c9, D', m'⟩, ⟨a11, c11, D', m'⟩, by omega, by omega, by go_num, F2.out, rfl, rfl, by show D'.length ≤ _; omega⟩
                case measure => simp [intOf]; omega
            · go_wp2_with fail
              go_roundw
              case rel => exact ⟨k + 1, ⟨a6, c6, D, m⟩, ⟨a7, c7, D, m⟩, by omega, by omega, by go_num, HLV5.out, rfl, rfl, hD⟩
              case measure => simp [intOf]; omega
          · have HN11 : Hid (Nt U (((w7.setCell ⟨U.heap.size, 0, none⟩ (.slice a11 D'.length c11)).setCell ⟨U.heap.size, 1, none⟩ (.int .i64 m'))) U.heap.size ⟨a11, c11, D', m'⟩) := Nt.varFirst (w := U) (u' := w7) (t := ⟨a11, c11, D', m'⟩) ho9 hb9
            clear d0 d1 d2 e10 e11 e12 e13 hnx hnl ho9 hb9 hbw9 hlw hlw2 hc0 hc1 hc2 z0 z1 z2 z3 y0a y1a y2a y0b y1b y2b y0c y1c y2c hbd
            generalize (((w7.setCell ⟨U.heap.size, 0, none⟩ (.slice a11 D'.length c11)).setCell ⟨U.heap.size, 1, none⟩ (.int .i64 m'))) = U2 at *
            generalize hx9 : U.heap.size = x11 at *
            clear hx9
            have HLV2 : Hid (Lv V U2 x6 x7 ⟨a6, c6, D, m⟩ ⟨a7, c7, D, m⟩) := HLV1.out.to HN11.out.b
            have HL9 : Hid (Loc U2 x9 ⟨a9, c9, D', m'⟩) := HN9.out.l.to HN11.out.b
            have HL11 : Hid (Loc U2 x11 ⟨a11, c11, D', m'⟩) := HN11.out.l
            have HP9 : Hid (∀ b o, a9 = some ⟨b, o, none⟩ → D' ≠ [] → b ≠ x6 ∧ b ≠ x7) := HN9.out.far HLVr.out.l6.low HLVr.out.l7.low
            have HP11 : Hid (∀ b o, a11 = some ⟨b, o, none⟩ → D' ≠ [] → b ≠ x6 ∧ b ≠ x7) := HN11.out.far HLV1.out.l6.low HLV1.out.l7.low
            have HNE : Hid (x6 ≠ x9 ∧ x7 ≠ x9 ∧ x6 ≠ x11 ∧ x7 ≠ x11) := by
              have h1 := HN9.out.lo
              have h2 := HN11.out.lo
              have h3 := HLVr.out.l6.low
              have h4 := HLVr.out.l7.low
              have h5 := HN9.out.b.size
              refine ⟨?_, ?_, ?_, ?_⟩ <;> omega
            clear HN9 HN11 HLVr HLV1 HAD HAR
            have q0 : U2.cell? ⟨x9, 0, none⟩ = some (.slice a9 D'.length c9) := HL9.out.c0
            have q1 : U2.cell? ⟨x9, 1, none⟩ = some (.int .i64 m') := HL9.out.c1
            have q2 : U2.cell? ⟨x11, 0, none⟩ = some (.slice a11 D'.length c11) := HL11.out.c0
            have q3 : U2.cell? ⟨x11, 1, none⟩ = some (.int .i64 m') := HL11.out.c1
            have t3 : (x' != x') = false := by simp
            go_wp2_with fail
            refine (same_true HL9.out.sl HL11.out.sl (by show D'.length ≤ _; omega)).mono ?_
            rintro e w4 ⟨rfl, hb⟩
            have HLV4 : Hid _ := HLV2.out.to hb
            have HL94 : Hid _ := HL9.out.to hb
            have HL114 : Hid _ := HL11.out.to hb
            have HT4 : Hid _ := HTDu.out _ _ _ HLV4.out
            clear hb q0 q1 q2 q3 HLV2 HL9 HL11
            have q0 : w4.cell? ⟨x5, 0, none⟩ = some (.slice (some ⟨g, 0, none⟩) C.length gc) := HT4.out.l7.c0
            have q1 : w4.cell? ⟨x5, 1, none⟩ = some (.int .i64 nn) := HT4.out.l7.c1
            have q2 : w4.cell? ⟨w.heap.size, 0, none⟩ = some (.slice a C.length c) := HT4.out.l3.c0
            have q3 : w4.cell? ⟨w.heap.size, 1, none⟩ = some (.int .i64 nn) := HT4.out.l3.c1
            go_wp2_with fail
            refine (kept_true HT4.out.cp HT4.out.l3.sl (by show C.length ≤ _; omega)).mono ?_
            rintro e w5 ⟨rfl, hb⟩
            have HLV5 : Hid _ := HLV4.out.to hb
            have HL95 : Hid _ := HL94.out.to hb
            have HL115 : Hid _ := HL114.out.to hb
            clear hb q0 q1 q2 q3 HLV4 HL94 HL114 HT4
            rcases hX with rfl | rfl
            · have q0 : w5.cell? ⟨x9, 0, none⟩ = some (.slice a9 D'.length c9) := HL95.out.c0
              have q1 : w5.cell? ⟨x9, 1, none⟩ = some (.int .i64 m') := HL95.out.c1
              have q2 : w5.cell? ⟨x11, 0, none⟩ = some (.slice a11 D'.length c11) := HL115.out.c0
              have q3 : w5.cell? ⟨x11, 1, none⟩ = some (.int .i64 m') := HL115.out.c1
              have q4 : w5.cell? ⟨x6, 0, none⟩ = some (.slice a6 D.length c6) := HLV5.out.l6.c0
              have q5 : w5.cell? ⟨x6, 1, none⟩ = some (.int .i64 m) := HLV5.out.l6.c1
              have q6 : w5.cell? ⟨x7, 0, none⟩ = some (.slice a7 D.length c7) := HLV5.out.l7.c0
              have q7 : w5.cell? ⟨x7, 1, none⟩ = some (.int .i64 m) := HLV5.out.l7.c1
              have f0 := HLV5.out.f60
              have f1 := HLV5.out.f61
              have f2 := HLV5.out.f70
              have f3 := HLV5.out.f71
              have n0 := HLV5.out.ne
              have n1 := HNE.out.1
              have n2 := HNE.out.2.1
              have n3 := HNE.out.2.2.1
              have n4 := HNE.out.2.2.2
              have n5 := n0.symm
              have F1 : Hid _ := (HLV5.out.to (below_drew (Below.refl _ _))).puts ⟨a9, c9, D', m'⟩ ⟨a11, c11, D', m'⟩ (HL95.out.sl.to (below_drew (Below.refl _ _))) (HL115.out.sl.to (below_drew (Below.refl _ _))) HP9.out HP11.out
              have F2 : Hid _ := ((HLV5.out.to (below_drew (Below.refl _ _))).turn.puts ⟨a11, c11, D', m'⟩ ⟨a9, c9, D', m'⟩ (HL115.out.sl.to (below_drew (Below.refl _ _))) (HL95.out.sl.to (below_drew (Below.refl _ _))) (fun b o e k => (HP11.out b o e k).symm) (fun b o e k => (HP9.out b o e k).symm)).turn
              go_wp2_with fail
              go_region
              all_goals
                go_wp2_with fail
                go_roundw
                case rel => first | exact ⟨k + 1, ⟨a9, c9, D', m'⟩, ⟨a11, c11, D', m'⟩, by omega, by omega, by go_num, F1.out, rfl, rfl, by show D'.length ≤ _; omega⟩ | exact ⟨k + 1, ⟨a9, c9, D', m'⟩, ⟨a11, c11, D', m'⟩, by omega, by omega, by go_num, F2.out, rfl, rfl, by show D'.length ≤ _; omega⟩
                case measure => simp [intOf]; omega
            · go_wp2_with fail
              go_roundw
              case rel => exact ⟨k + 1, ⟨a6, c6, D, m⟩, ⟨a7, c7, D, m⟩, by omega, by omega, by go_num, HLV5.out, rfl, rfl, hD⟩
              case measure => simp [intOf]; omega
        · have HN9 : Hid (Nt wr (((w3.setCell ⟨wr.heap.size, 0, none⟩ (.slice a9 D'.length c9)).setCell ⟨wr.heap.size, 1, none⟩ (.int .i64 m'))) wr.heap.size ⟨a9, c9, D', m'⟩) := Nt.varFirst (w := wr) (u' := w3) (t := ⟨a9, c9, D', m'⟩) ho9 hb9
          clear d0 d1 d2 e10 e11 e12 e13 hnx hnl ho9 hb9 hbw9 hlw hlw2 hc0 hc1 hc2 z0 z1 z2 z3 y0a y1a y2a y0b y1b y2b y0c y1c y2c hbd
          generalize (((w3.setCell ⟨wr.heap.size, 0, none⟩ (.slice a9 D'.length c9)).setCell ⟨wr.heap.size, 1, none⟩ (.int .i64 m'))) = U at *
          generalize hx9 : wr.heap.size = x9 at *
          clear hx9
          have HLV1 : Hid (Lv V U x6 x7 ⟨a6, c6, D, m⟩ ⟨a7, c7, D, m⟩) := HLVr.out.to HN9.out.b
          have hbd : Below U.heap.size U U.drew := below_drew (Below.refl _ _)
          have d0 : U.drew.cell? ⟨x7, 0, none⟩ = some (.slice a7 D.length c7) := HLV1.out.l7.c0
          have d1 : U.drew.cell? ⟨x7, 1, none⟩ = some (.int .i64 m) := HLV1.out.l7.c1
          have d2 : U.drew.cell? ⟨lb, lo + k, none⟩ = some (.int .i64 sv) := by have := HLC.out _ _ _ lb (lo + k) HLV1.out HLB.out; exact this.trans HLCk.out
          have e10 : (U.alloc (.cells #[.slice none 0 0, .int .i64 0] 24)).drew.cell? ⟨x7, 0, none⟩ = some (.slice a7 D.length c7) := (HLV1.out.to (from_alloc _ _)).l7.c0
          have e11 : (U.alloc (.cells #[.slice none 0 0, .int .i64 0] 24)).drew.cell? ⟨x7, 1, none⟩ = some (.int .i64 m) := (HLV1.out.to (from_alloc _ _)).l7.c1
          have e12 : (U.alloc (.cells #[.slice none 0 0, .int .i64 0] 24)).drew.cell? ⟨lb, lo + k, none⟩ = some (.int .i64 sv) := (HLC.out _ _ _ lb (lo + k) (HLV1.out.to (from_alloc _ (.cells #[.slice none 0 0, .int .i64 0] 24))) HLB.out).trans HLCk.out
          have e13 : Below U.heap.size U (U.alloc (.cells #[.slice none 0 0, .int .i64 0] 24)).drew := below_drew (from_alloc _ _)
          have hnx : x7 ≠ U.heap.size := by have := HLV1.out.l7.low; omega
          have hnl : lb ≠ U.heap.size := by have := HLV1.out.fz.size; have := HLB.out; have := HXE.out; omega
          go_wp2_with fail
          go_region_held3 (fun u => u.cell? ⟨x7, 0, none⟩ = some (.slice a7 D.length c7) ∧ u.cell? ⟨x7, 1, none⟩ = some (.int .i64 m) ∧ u.cell? ⟨lb, lo + k, none⟩ = some (.int .i64 sv) ∧ Below U.heap.size U u) (((try dsimp only); first | assumption | (solve | (repeat (first | with_reducible assumption | with_reducible refine below_drew ?_ | with_reducible refine below_alloc ?_ ?_ _ | with_reducible refine below_set ?_ ?_ _ | exact Nat.le_refl _ | exact Below.size (by assumption)))) | (refine ⟨?_, ?_, ?_, ?_⟩ <;> first | assumption | (solve | (repeat (first | with_reducible assumption | with_reducible refine below_drew ?_ | with_reducible refine below_alloc ?_ ?_ _ | with_reducible refine below_set ?_ ?_ _ | exact Nat.le_refl _ | exact Below.size (by assumption)))) | go_keep) | go_keep)) ((go_at_call 24; refine (HAR.out U HLV1.out _ (by (repeat (first | with_reducible assumption | with_reducible refine below_drew ?_ | with_reducible refine below_alloc ?_ ?_ _ | with_reducible refine below_set ?_ ?_ _ | exact Nat.le_refl _ | exact Below.size (by assumption))))).mono ?_; rintro e w7 ⟨a11, c11, rfl, ho9, hb9, hbw9, hlw, hlw2, hc0, hc1, hc2⟩; have z0 := newCell hb9 U.heap.size 0; have z1 := newCell hb9 U.heap.size 1; have z2 := newFrozen hb9 U.heap.size 0; have z3 := newFrozen hb9 U.heap.size 1; have y0a : (w7.alloc (.cells #[.slice none 0 0, .int .i64 0] 24)).cell? ⟨x7, 0, none⟩ = some (.slice a7 D.length c7) := (newCell (from_alloc w7 _) _ _ hlw).trans hc0; have y1a : (w7.alloc (.cells #[.slice none 0 0, .int .i64 0] 24)).cell? ⟨x7, 1, none⟩ = some (.int .i64 m) := (newCell (from_alloc w7 _) _ _ hlw).trans hc1; have y2a : (w7.alloc (.cells #[.slice none 0 0, .int .i64 0] 24)).cell? ⟨lb, lo + k, none⟩ = some (.int .i64 sv) := (newCell (from_alloc w7 _) _ _ hlw2).trans hc2; have y0b : (w7.alloc (.cells #[.slice a11 D'.length c11, .int .i64 m'] 24)).cell? ⟨x7, 0, none⟩ = some (.slice a7 D.length c7) := (newCell (from_alloc w7 _) _ _ hlw).trans hc0; have y1b : (w7.alloc (.cells #[.slice a11 D'.length c11, .int .i64 m'] 24)).cell? ⟨x7, 1, none⟩ = some (.int .i64 m) := (newCell (from_alloc w7 _) _ _ hlw).trans hc1; have y2b : (w7.alloc (.cells #[.slice a11 D'.length c11, .int .i64 m'] 24)).cell? ⟨lb, lo + k, none⟩ = some (.int .i64 sv) := (newCell (from_alloc w7 _) _ _ hlw2).trans hc2; have y0c : ((w7.setCell ⟨U.heap.size, 0, none⟩ (.slice a11 D'.length c11)).setCell ⟨U.heap.size, 1, none⟩ (.int .i64 m')).cell? ⟨x7, 0, none⟩ = some (.slice a7 D.length c7) := far2 hnx hc0; have y1c : ((w7.setCell ⟨U.heap.size, 0, none⟩ (.slice a11 D'.length c11)).setCell ⟨U.heap.size, 1, none⟩ (.int .i64 m')).cell? ⟨x7, 1, none⟩ = some (.int .i64 m) := far2 hnx hc1; have y2c : ((w7.setCell ⟨U.heap.size, 0, none⟩ (.slice a11 D'.length c11)).setCell ⟨U.heap.size, 1, none⟩ (.int .i64 m')).cell? ⟨lb, lo + k, none⟩ = some (.int .i64 sv) := far2 hnl hc2))
          · have HN11 : Hid (Nt U (w7.alloc (.cells #[.slice a11 D'.length c11, .int .i64 m'] 24)) w7.heap.size ⟨a11, c11, D', m'⟩) := Nt.callFirst (u := U.drew) (t := ⟨a11, c11, D', m'⟩) hbd ho9 hb9
            clear d0 d1 d2 e10 e11 e12 e13 hnx hnl ho9 hb9 hbw9 hlw hlw2 hc0 hc1 hc2 z0 z1 z2 z3 y0a y1a y2a y0b y1b y2b y0c y1c y2c hbd
            generalize w7.alloc (.cells #[.slice a11 D'.length c11, .int .i64 m'] 24) = U2 at *
            generalize w7.heap.size = x11 at *
            have HLV2 : Hid (Lv V U2 x6 x7 ⟨a6, c6, D, m⟩ ⟨a7, c7, D, m⟩) := HLV1.out.to HN11.out.b
            have HL9 : Hid (Loc U2 x9 ⟨a9, c9, D', m'⟩) := HN9.out.l.to HN11.out.b
            have HL11 : Hid (Loc U2 x11 ⟨a11, c11, D', m'⟩) := HN11.out.l
            have HP9 : Hid (∀ b o, a9 = some ⟨b, o, none⟩ → D' ≠ [] → b ≠ x6 ∧ b ≠ x7) := HN9.out.far HLVr.out.l6.low HLVr.out.l7.low
            have HP11 : Hid (∀ b o, a11 = some ⟨b, o, none⟩ → D' ≠ [] → b ≠ x6 ∧ b ≠ x7) := HN11.out.far HLV1.out.l6.low HLV1.out.l7.low
            have HNE : Hid (x6 ≠ x9 ∧ x7 ≠ x9 ∧ x6 ≠ x11 ∧ x7 ≠ x11) := by
              have h1 := HN9.out.lo
              have h2 := HN11.out.lo
              have h3 := HLVr.out.l6.low
              have h4 := HLVr.out.l7.low
              have h5 := HN9.out.b.size
              refine ⟨?_, ?_, ?_, ?_⟩ <;> omega
            clear HN9 HN11 HLVr HLV1 HAD HAR
            have q0 : U2.cell? ⟨x9, 0, none⟩ = some (.slice a9 D'.length c9) := HL9.out.c0
            have q1 : U2.cell? ⟨x9, 1, none⟩ = some (.int .i64 m') := HL9.out.c1
            have q2 : U2.cell? ⟨x11, 0, none⟩ = some (.slice a11 D'.length c11) := HL11.out.c0
            have q3 : U2.cell? ⟨x11, 1, none⟩ = some (.int .i64 m') := HL11.out.c1
            have t3 : (x' != x') = false := by simp
            go_wp2_with fail
            refine (same_true HL9.out.sl HL11.out.sl (by show D'.length ≤ _; omega)).mono ?_
            rintro e w4 ⟨rfl, hb⟩
            have HLV4 : Hid _ := HLV2.out.to hb
            have HL94 : Hid _ := HL9.out.to hb
            have HL114 : Hid _ := HL11.out.to hb
            have HT4 : Hid _ := HTDu.out _ _ _ HLV4.out
            clear hb q0 q1 q2 q3 HLV2 HL9 HL11
            have q0 : w4.cell? ⟨x5, 0, none⟩ = some (.slice (some ⟨g, 0, none⟩) C.length gc) := HT4.out.l7.c0
            have q1 : w4.cell? ⟨x5, 1, none⟩ = some (.int .i64 nn) := HT4.out.l7.c1
            have q2 : w4.cell? ⟨w.heap.size, 0, none⟩ = some (.slice a C.length c) := HT4.out.l3.c0
            have q3 : w4.cell? ⟨w.heap.size, 1, none⟩ = some (.int .i64 nn) := HT4.out.l3.c1
            go_wp2_with fail
            refine (kept_true HT4.out.cp HT4.out.l3.sl (by show C.length ≤ _; omega)).mono ?_
            rintro e w5 ⟨rfl, hb⟩
            have HLV5 : Hid _ := HLV4.out.to hb
            have HL95 : Hid _ := HL94.out.to hb
            have HL115 : Hid _ := HL114.out.to hb
            clear hb q0 q1 q2 q3 HLV4 HL94 HL114 HT4
            rcases hX with rfl | rfl
            · have q0 : w5.cell? ⟨x9, 0, none⟩ = some (.slice a9 D'.length c9) := HL95.out.c0
              have q1 : w5.cell? ⟨x9, 1, none⟩ = some (.int .i64 m') := HL95.out.c1
              have q2 : w5.cell? ⟨x11, 0, none⟩ = some (.slice a11 D'.length c11) := HL115.out.c0
              have q3 : w5.cell? ⟨x11, 1, none⟩ = some (.int .i64 m') := HL115.out.c1
              have q4 : w5.cell? ⟨x6, 0, none⟩ = some (.slice a6 D.length c6) := HLV5.out.l6.c0
              have q5 : w5.cell? ⟨x6, 1, none⟩ = some (.int .i64 m) := HLV5.out.l6.c1
              have q6 : w5.cell? ⟨x7, 0, none⟩ = some (.slice a7 D.length c7) := HLV5.out.l7.c0
              have q7 : w5.cell? ⟨x7, 1, none⟩ = some (.int .i64 m) := HLV5.out.l7.c1
              have f0 := HLV5.out.f60
              have f1 := HLV5.out.f61
              have f2 := HLV5.out.f70
              have f3 := HLV5.out.f71
              have n0 := HLV5.out.ne
              have n1 := HNE.out.1
              have n2 := HNE.out.2.1
              have n3 := HNE.out.2.2.1
              have n4 := HNE.out.2.2.2
              have n5 := n0.symm
              have F1 : Hid _ := (HLV5.out.to (below_drew (Below.refl _ _))).puts ⟨a9, c9, D', m'⟩ ⟨a11, c11, D', m'⟩ (HL95.out.sl.to (below_drew (Below.refl _ _))) (HL115.out.sl.to (below_drew (Below.refl _ _))) HP9.out HP11.out
              have F2 : Hid _ := ((HLV5.out.to (below_drew (Below.refl _ _))).turn.puts ⟨a11, c11, D', m'⟩ ⟨a9, c9, D', m'⟩ (HL115.out.sl.to (below_drew (Below.refl _ _))) (HL95.out.sl.to (below_drew (Below.refl _ _))) (fun b o e k => (HP11.out b o e k).symm) (fun b o e k => (HP9.out b o e k).symm)).turn
              go_wp2_with fail
              go_region
              all_goals
                go_wp2_with fail
                go_roundw
                case rel => first | exact ⟨k + 1, ⟨a9, c9, D', m'⟩, ⟨a11, c11, D', m'⟩, by omega, by omega, by go_num, F1.out, rfl, rfl, by show D'.length ≤ _; omega⟩ | exact ⟨k + 1, ⟨a9, c9, D', m'⟩, ⟨a11, c11, D', m'⟩, by omega, by omega, by go_num, F2.out, rfl, rfl, by show D'.length ≤ _; omega⟩
                case measure => simp [intOf]; omega
            · go_wp2_with fail
              go_roundw
              case rel => exact ⟨k + 1, ⟨a6, c6, D, m⟩, ⟨a7, c7, D, m⟩, by omega, by omega, by go_num, HLV5.out, rfl, rfl, hD⟩
              case measure => simp [intOf]; omega
          · have HN11 : Hid (Nt U (((w7.setCell ⟨U.heap.size, 0, none⟩ (.slice a11 D'.length c11)).setCell ⟨U.heap.size, 1, none⟩ (.int .i64 m'))) U.heap.size ⟨a11, c11, D', m'⟩) := Nt.varFirst (w := U) (u' := w7) (t := ⟨a11, c11, D', m'⟩) ho9 hb9
            clear d0 d1 d2 e10 e11 e12 e13 hnx hnl ho9 hb9 hbw9 hlw hlw2 hc0 hc1 hc2 z0 z1 z2 z3 y0a y1a y2a y0b y1b y2b y0c y1c y2c hbd
            generalize (((w7.setCell ⟨U.heap.size, 0, none⟩ (.slice a11 D'.length c11)).setCell ⟨U.heap.size, 1, none⟩ (.int .i64 m'))) = U2 at *
            generalize hx9 : U.heap.size = x11 at *
            clear hx9
            have HLV2 : Hid (Lv V U2 x6 x7 ⟨a6, c6, D, m⟩ ⟨a7, c7, D, m⟩) := HLV1.out.to HN11.out.b
            have HL9 : Hid (Loc U2 x9 ⟨a9, c9, D', m'⟩) := HN9.out.l.to HN11.out.b
            have HL11 : Hid (Loc U2 x11 ⟨a11, c11, D', m'⟩) := HN11.out.l
            have HP9 : Hid (∀ b o, a9 = some ⟨b, o, none⟩ → D' ≠ [] → b ≠ x6 ∧ b ≠ x7) := HN9.out.far HLVr.out.l6.low HLVr.out.l7.low
            have HP11 : Hid (∀ b o, a11 = some ⟨b, o, none⟩ → D' ≠ [] → b ≠ x6 ∧ b ≠ x7) := HN11.out.far HLV1.out.l6.low HLV1.out.l7.low
            have HNE : Hid (x6 ≠ x9 ∧ x7 ≠ x9 ∧ x6 ≠ x11 ∧ x7 ≠ x11) := by
              have h1 := HN9.out.lo
              have h2 := HN11.out.lo
              have h3 := HLVr.out.l6.low
              have h4 := HLVr.out.l7.low
              have h5 := HN9.out.b.size
              refine ⟨?_, ?_, ?_, ?_⟩ <;> omega
            clear HN9 HN11 HLVr HLV1 HAD HAR
            have q0 : U2.cell? ⟨x9, 0, none⟩ = some (.slice a9 D'.length c9) := HL9.out.c0
            have q1 : U2.cell? ⟨x9, 1, none⟩ = some (.int .i64 m') := HL9.out.c1
            have q2 : U2.cell? ⟨x11, 0, none⟩ = some (.slice a11 D'.length c11) := HL11.out.c0
            have q3 : U2.cell? ⟨x11, 1, none⟩ = some (.int .i64 m') := HL11.out.c1
            have t3 : (x' != x') = false := by simp
            go_wp2_with fail
            refine (same_true HL9.out.sl HL11.out.sl (by show D'.length ≤ _; omega)).mono ?_
            rintro e w4 ⟨rfl, hb⟩
            have HLV4 : Hid _ := HLV2.out.to hb
            have HL94 : Hid _ := HL9.out.to hb
            have HL114 : Hid _ := HL11.out.to hb
            have HT4 : Hid _ := HTDu.out _ _ _ HLV4.out
            clear hb q0 q1 q2 q3 HLV2 HL9 HL11
            have q0 : w4.cell? ⟨x5, 0, none⟩ = some (.slice (some ⟨g, 0, none⟩) C.length gc) := HT4.out.l7.c0
            have q1 : w4.cell? ⟨x5, 1, none⟩ = some (.int .i64 nn) := HT4.out.l7.c1
            have q2 : w4.cell? ⟨w.heap.size, 0, none⟩ = some (.slice a C.length c) := HT4.out.l3.c0
            have q3 : w4.cell? ⟨w.heap.size, 1, none⟩ = some (.int .i64 nn) := HT4.out.l3.c1
            go_wp2_with fail
            refine (kept_true HT4.out.cp HT4.out.l3.sl (by show C.length ≤ _; omega)).mono ?_
            rintro e w5 ⟨rfl, hb⟩
            have HLV5 : Hid _ := HLV4.out.to hb
            have HL95 : Hid _ := HL94.out.to hb
            have HL115 : Hid _ := HL114.out.to hb
            clear hb q0 q1 q2 q3 HLV4 HL94 HL114 HT4
            rcases hX with rfl | rfl
            · have q0 : w5.cell? ⟨x9, 0, none⟩ = some (.slice a9 D'.length c9) := HL95.out.c0
              have q1 : w5.cell? ⟨x9, 1, none⟩ = some (.int .i64 m') := HL95.out.c1
              have q2 : w5.cell? ⟨x11, 0, none⟩ = some (.slice a11 D'.length c11) := HL115.out.c0
              have q3 : w5.cell? ⟨x11, 1, none⟩ = some (.int .i64 m') := HL115.out.c1
              have q4 : w5.cell? ⟨x6, 0, none⟩ = some (.slice a6 D.length c6) := HLV5.out.l6.c0
              have q5 : w5.cell? ⟨x6, 1, none⟩ = some (.int .i64 m) := HLV5.out.l6.c1
              have q6 : w5.cell? ⟨x7, 0, none⟩ = some (.slice a7 D.length c7) := HLV5.out.l7.c0
              have q7 : w5.cell? ⟨x7, 1, none⟩ = some (.int .i64 m) := HLV5.out.l7.c1
              have f0 := HLV5.out.f60
              have f1 := HLV5.out.f61
              have f2 := HLV5.out.f70
              have f3 := HLV5.out.f71
              have n0 := HLV5.out.ne
              have n1 := HNE.out.1
              have n2 := HNE.out.2.1
              have n3 := HNE.out.2.2.1
              have n4 := HNE.out.2.2.2
              have n5 := n0.symm
              have F1 : Hid _ := (HLV5.out.to (below_drew (Below.refl _ _))).puts ⟨a9, c9, D', m'⟩ ⟨a11, c11, D', m'⟩ (HL95.out.sl.to (below_drew (Below.refl _ _))) (HL115.out.sl.to (below_drew (Below.refl _ _))) HP9.out HP11.out
              have F2 : Hid _ := ((HLV5.out.to (below_drew (Below.refl _ _))).turn.puts ⟨a11, c11, D', m'⟩ ⟨a9, c9, D', m'⟩ (HL115.out.sl.to (below_drew (Below.refl _ _))) (HL95.out.sl.to (below_drew (Below.refl _ _))) (fun b o e k => (HP11.out b o e k).symm) (fun b o e k => (HP9.out b o e k).symm)).turn
              go_wp2_with fail
              go_region
              all_goals
                go_wp2_with fail
                go_roundw
                case rel => first | exact ⟨k + 1, ⟨a9, c9, D', m'⟩, ⟨a11, c11, D', m'⟩, by omega, by omega, by go_num, F1.out, rfl, rfl, by show D'.length ≤ _; omega⟩ | exact ⟨k + 1, ⟨a9, c9, D', m'⟩, ⟨a11, c11, D', m'⟩, by omega, by omega, by go_num, F2.out, rfl, rfl, by show D'.length ≤ _; omega⟩
                case measure => simp [intOf]; omega
            · go_wp2_with fail
              go_roundw
              case rel => exact ⟨k + 1, ⟨a6, c6, D, m⟩, ⟨a7, c7, D, m⟩, by omega, by omega, by go_num, HLV5.out, rfl, rfl, hD⟩
              case measure => simp [intOf]; omega
      · have HTr : Hid _ := HTDu.out _ _ _ hlv
        clear hlv
        have q0 : wr.cell? ⟨x5, 0, none⟩ = some (.slice (some ⟨g, 0, none⟩) C.length gc) := HTr.out.l7.c0
        have q1 : wr.cell? ⟨x5, 1, none⟩ = some (.int .i64 nn) := HTr.out.l7.c1
        have HDL := adA_len C nn 0
        have HAD : Hid (Calls Try.prog 23 #[.agg #[.slice (some ⟨g, 0, none⟩) C.length gc, .int .i64 nn], .int .i64 0] wr fun e w' => Tm wr w' e (adA C nn 0).1 (adA C nn 0).2.1 (adA C nn 0).2.2) := adapt_both HTr.out.l7.sl (by show C.length ≤ _; omega)
        have HAR : Hid (∀ u, Td w u x5 w.heap.size v0.heap.size g gc a c C nn → Calls Try.prog 24 #[.agg #[.slice a C.length c, .int .i64 nn], .int .i64 0] u fun e w' => Tm u w' e (adA C nn 0).1 (adA C nn 0).2.1 (adA C nn 0).2.2) := fun u hu => radapt_both hu.l3.sl (by show C.length ≤ _; omega)
        generalize adA C nn 0 = R at *
        obtain ⟨D', m', x'⟩ := R
        simp only at HDL HAD HAR
        clear HTDu HLC
        by_cases hkl : (k : Int) < (l.length : Int)
        all_goals
          first
            | (have b1 : ¬ (k : Int) < 60 := by omega)
            | skip
          go_wp2_with fail
          refine HAD.out.mono ?_
          rintro e w2 ⟨a13, c13, rfl, ho, hb⟩
          have HN13 : Hid (Nt wr (w2.alloc (.cells #[.slice a13 D'.length c13, .int .i64 m'] 24)) w2.heap.size ⟨a13, c13, D', m'⟩) := Nt.callFirst (u := wr) (t := ⟨a13, c13, D', m'⟩) (Below.refl _ _) ho hb
          have HT2 : Hid _ := HTr.out.to HN13.out.b
          clear ho hb q0 q1
          have q0 : (w2.alloc (.cells #[.slice a13 D'.length c13, .int .i64 m'] 24)).cell? ⟨w.heap.size, 0, none⟩ = some (.slice a C.length c) := HT2.out.l3.c0
          have q1 : (w2.alloc (.cells #[.slice a13 D'.length c13, .int .i64 m'] 24)).cell? ⟨w.heap.size, 1, none⟩ = some (.int .i64 nn) := HT2.out.l3.c1
          go_wp2_with fail
          generalize (w2.alloc (.cells #[.slice a13 D'.length c13, .int .i64 m'] 24)) = v2 at *
          generalize w2.heap.size = x13 at *
          refine (HAR.out _ HT2.out).mono ?_
          rintro e w3 ⟨a15, c15, rfl, ho, hb⟩
          have HN15 : Hid (Nt v2 (w3.alloc (.cells #[.slice a15 D'.length c15, .int .i64 m'] 24)) w3.heap.size ⟨a15, c15, D', m'⟩) := Nt.callFirst (u := v2) (t := ⟨a15, c15, D', m'⟩) (Below.refl _ _) ho hb
          have HT3 : Hid _ := HT2.out.to HN15.out.b
          clear ho hb q0 q1
          have HL13 : Hid (Loc (w3.alloc (.cells #[.slice a15 D'.length c15, .int .i64 m'] 24)) x13 ⟨a13, c13, D', m'⟩) := HN13.out.l.to HN15.out.b
          have q0 : (w3.alloc (.cells #[.slice a15 D'.length c15, .int .i64 m'] 24)).cell? ⟨x13, 0, none⟩ = some (.slice a13 D'.length c13) := HL13.out.c0
          have q1 : (w3.alloc (.cells #[.slice a15 D'.length c15, .int .i64 m'] 24)).cell? ⟨x13, 1, none⟩ = some (.int .i64 m') := HL13.out.c1
          have q2 : (w3.alloc (.cells #[.slice a15 D'.length c15, .int .i64 m'] 24)).cell? ⟨w3.heap.size, 0, none⟩ = some (.slice a15 D'.length c15) := HN15.out.l.c0
          have q3 : (w3.alloc (.cells #[.slice a15 D'.length c15, .int .i64 m'] 24)).cell? ⟨w3.heap.size, 1, none⟩ = some (.int .i64 m') := HN15.out.l.c1
          have HO13 : Hid ((w3.alloc (.cells #[.slice a15 D'.length c15, .int .i64 m'] 24)).ownsRow wr.heap.size 49 1 (.slice a13 D'.length c13) D'.length (ns .u16 D')) := own_below HN13.out.own HN15.out.b
          have HB3 : Hid (Below wr.heap.size wr (w3.alloc (.cells #[.slice a15 D'.length c15, .int .i64 m'] 24))) := below_to HN13.out.b HN15.out.b
          go_wp2_with fail
          generalize (w3.alloc (.cells #[.slice a15 D'.length c15, .int .i64 m'] 24)) = v3 at *
          generalize w3.heap.size = x15 at *
          refine (told_true HO13.out HN15.out.l.sl (by omega) HB3.out.size).mono ?_
          rintro e w4 ⟨rfl, hg⟩
          have HT4 : Hid _ := HTr.out.to (HB3.out.trans (grown_below hg HB3.out.size (fun g' hg' => (HO13.out.lt g' hg').1)))
          clear hg q0 q1 q2 q3
          have q0 : w4.cell? ⟨x5, 0, none⟩ = some (.slice (some ⟨g, 0, none⟩) C.length gc) := HT4.out.l7.c0
          have q1 : w4.cell? ⟨x5, 1, none⟩ = some (.int .i64 nn) := HT4.out.l7.c1
          have q2 : w4.cell? ⟨w.heap.size, 0, none⟩ = some (.slice a C.length c) := HT4.out.l3.c0
          have q3 : w4.cell? ⟨w.heap.size, 1, none⟩ = some (.int .i64 nn) := HT4.out.l3.c1
          go_wp2_with fail
          refine (kept_true HT4.out.cp HT4.out.l3.sl (by show C.length ≤ _; omega)).mono ?_
          rintro e w8 ⟨rfl, hb⟩
          have HB8 : Hid (Below w.heap.size w w8) := below_to HT4.out.b hb
          clear hb
          go_wp2_with fail
          refine (works_true _).mono ?_
          rintro e w9 ⟨rfl, hb⟩
          have HB9 : Hid (Below w.heap.size w w9) := below_to HB8.out hb
          clear hb
          go_wp2_with fail
          go_ret
          exact ⟨rfl, HB9.out⟩
  · have HB1 : Hid (Below v1.heap.size v1 ((v1.alloc (.cells #[.slice a C.length c, .int .i64 nn] 24)).alloc (.cells #[.slice (some ⟨g, 0, none⟩) C.length gc, .int .i64 nn] 24)).drew) := below_drew (to_alloc (from_alloc _ _) _)
    have HLV : Hid (Lv ((v1.alloc (.cells #[.slice a C.length c, .int .i64 nn] 24)).alloc (.cells #[.slice (some ⟨g, 0, none⟩) C.length gc, .int .i64 nn] 24)).drew ((v1.alloc (.cells #[.slice a C.length c, .int .i64 nn] 24)).alloc (.cells #[.slice (some ⟨g, 0, none⟩) C.length gc, .int .i64 nn] 24)).drew (v1.heap.size + 1) v1.heap.size ⟨some ⟨g, 0, none⟩, gc, C, nn⟩ ⟨a, c, C, nn⟩) := by
      have hgl := HGl.out
      have hx := HX5.out
      have hw := HT1.out.l3.low
      exact (Lv.begin ⟨a, c, C, nn⟩ ⟨some ⟨g, 0, none⟩, gc, C, nn⟩ HT1.out.l3.sl HT1.out.l7.sl (fun b o e k => by have := HSlt.out b o e k; omega) (fun b o e _ => by simp only [Option.some.injEq, Addr.mk.injEq, and_true] at e; omega)).turn
    have HTV : Hid (Td w ((v1.alloc (.cells #[.slice a C.length c, .int .i64 nn] 24)).alloc (.cells #[.slice (some ⟨g, 0, none⟩) C.length gc, .int .i64 nn] 24)).drew x5 w.heap.size v0.heap.size g gc a c C nn) := HT1.out.to HB1.out
    have HXX : Hid (v1.heap.size ≤ (v1.heap.size + 1) ∧ v1.heap.size ≤ v1.heap.size) := ⟨by omega, by omega⟩
    have hs1 := HX5.out
    have hs2 := HT1.out.l3.low
    have hgl := HGl.out
    generalize ((v1.alloc (.cells #[.slice a C.length c, .int .i64 nn] 24)).alloc (.cells #[.slice (some ⟨g, 0, none⟩) C.length gc, .int .i64 nn] 24)).drew = V at *
    generalize v1.heap.size + 1 = x6 at *
    generalize hx7 : v1.heap.size = x7 at *
    clear HB1 HT1 HX5 HGl
    have HXE : Hid (x5 < V.heap.size ∧ x5 ≠ x6 ∧ x5 ≠ x7 ∧ w.heap.size < V.heap.size ∧ w.heap.size < x6 ∧ w.heap.size < x7 ∧ g ≠ x6 ∧ g ≠ x7) := by
      have h1 := HXX.out
      have h2 := HLV.out.l6.low
      refine ⟨?_, ?_, ?_, ?_, ?_, ?_, ?_, ?_⟩ <;> omega
    have HTDu : Hid (∀ u s t, Lv V u x6 x7 s t → Td w u x5 w.heap.size v0.heap.size g gc a c C nn) := fun u s t hu => by
      obtain ⟨e1, e2, e3, e4, e5, e6, e7, e8⟩ := HXE.out
      have hz := hu.fz.size
      have k5 : ¬ (x5 = x6 ∨ x5 = x7) := by omega
      have k2 : ¬ (w.heap.size = x6 ∨ w.heap.size = x7) := by omega
      refine ⟨⟨by omega, (hu.fz.cell _ _ e1 k5).trans HTV.out.l7.c0, (hu.fz.cell _ _ e1 k5).trans HTV.out.l7.c1, hu.fz.sl HTV.out.l7.sl (fun b o e hP => by simp only [Option.some.injEq, Addr.mk.injEq, and_true] at e; omega)⟩, ⟨by omega, (hu.fz.cell _ _ e4 k2).trans HTV.out.l3.c0, (hu.fz.cell _ _ e4 k2).trans HTV.out.l3.c1, ?_⟩, ⟨⟨hu.fz.own HTV.out.cp.own.own (fun k hk hP => by simp [Value.ownBlock] at hk; omega)⟩⟩, hu.fz.below HTV.out.b (fun k hP => by omega)⟩
      by_cases hC : C = []
      · exact Or.inl hC
      · exact hu.fz.sl HTV.out.l3.sl (fun b o e hP => by have h1 := HSlt.out b o e hC; omega)
    have HLC : Hid (∀ u s t b j, Lv V u x6 x7 s t → b < w.heap.size → u.cell? ⟨b, j, none⟩ = w.cell? ⟨b, j, none⟩) := fun u s t b j hu hb => by
      obtain ⟨e1, e2, e3, e4, e5, e6, e7, e8⟩ := HXE.out
      rw [hu.fz.cell _ _ (by omega) (by omega), newCell HTV.out.b _ _ hb]
    clear hx7
    go_wp2_with fail
    go_loopw [8] (fun iv wr => LI V x6 x7 l.length iv wr) (fun iv _ => l.length - (intOf iv).toNat)
    case atStart => exact ⟨0, _, _, by omega, by omega, rfl, HLV.out, rfl, rfl, hl⟩
    case round =>
      obtain ⟨k, ⟨a6, c6, D, m⟩, ⟨a7, c7, D2, m2⟩, hk, hk6, rfl, hlv, e1, e2, hD⟩ := hrel
      simp only at e1 e2 hD
      subst e1 e2
      clear HLV
      by_cases hlt : k < l.length ∧ k < 60
      · obtain ⟨hk1, hk2⟩ := hlt
        have b0 : (k : Int) < (l.length : Int) := by omega
        have b1 : (k : Int) < 60 := by omega
        have b2 : 0 ≤ (k : Int) := by omega
        obtain ⟨lb, lo, rfl, hlb, hlc⟩ := HNS.out.form (by omega)
        have HLB : Hid (lb < w.heap.size) := hlb
        have HLCk : Hid (w.cell? ⟨lb, lo + k, none⟩ = some (.int .i64 (l.getD k 0))) := hlc k hk1
        generalize l.getD k 0 = sv at *
        have HLVr : Hid (Lv V wr x6 x7 ⟨a6, c6, D, m⟩ ⟨a7, c7, D, m⟩) := hlv
        clear hlc hlv hlb
        have HDL := adA_len D m sv
        have HAD : Hid (∀ u, Below wr.heap.size wr u → Calls Try.prog 23 #[.agg #[.slice a6 D.length c6, .int .i64 m], .int .i64 sv] u fun e u' => ∃ a9 c9, e = .returned (.tuple #[.agg #[.slice a9 (adA D m sv).1.length c9, .int .i64 (adA D m sv).2.1], .int .i64 (adA D m sv).2.2]) ∧ u'.ownsRow u.heap.size 49 1 (.slice a9 (adA D m sv).1.length c9) (adA D m sv).1.length (ns .u16 (adA D m sv).1) ∧ Below u.heap.size u u' ∧ Below wr.heap.size wr u' ∧ x6 < u'.heap.size ∧ lb < u'.heap.size ∧ u'.cell? ⟨x6, 0, none⟩ = some (.slice a6 D.length c6) ∧ u'.cell? ⟨x6, 1, none⟩ = some (.int .i64 m) ∧ u'.cell? ⟨lb, lo + k, none⟩ = some (.int .i64 sv)) := fun u hu => by
          refine (adapt_both (HLVr.out.to hu).l6.sl (by show D.length ≤ _; omega)).mono fun e u' h => ?_
          obtain ⟨a9, c9, h1, h2, h3⟩ := h
          have hlv2 := (HLVr.out.to hu).to h3
          exact ⟨a9, c9, h1, h2, h3, below_to hu h3, hlv2.l6.low, by have := hlv2.fz.size; have := HLB.out; have := HXE.out; omega, hlv2.l6.c0, hlv2.l6.c1, by rw [HLC.out _ _ _ _ _ hlv2 HLB.out]; exact HLCk.out⟩
        have HAR : Hid (∀ U, Lv V U x6 x7 ⟨a6, c6, D, m⟩ ⟨a7, c7, D, m⟩ → ∀ u, Below U.heap.size U u → Calls Try.prog 24 #[.agg #[.slice a7 D.length c7, .int .i64 m], .int .i64 sv] u fun e u' => ∃ a9 c9, e = .returned (.tuple #[.agg #[.slice a9 (adA D m sv).1.length c9, .int .i64 (adA D m sv).2.1], .int .i64 (adA D m sv).2.2]) ∧ u'.ownsRow u.heap.size 49 1 (.slice a9 (adA D m sv).1.length c9) (adA D m sv).1.length (ns .u16 (adA D m sv).1) ∧ Below u.heap.size u u' ∧ Below U.heap.size U u' ∧ x7 < u'.heap.size ∧ lb < u'.heap.size ∧ u'.cell? ⟨x7, 0, none⟩ = some (.slice a7 D.length c7) ∧ u'.cell? ⟨x7, 1, none⟩ = some (.int .i64 m) ∧ u'.cell? ⟨lb, lo + k, none⟩ = some (.int .i64 sv)) := fun U hU u hu => by
          refine (radapt_both (hU.to hu).l7.sl (by show D.length ≤ _; omega)).mono fun e u' h => ?_
          obtain ⟨a9, c9, h1, h2, h3⟩ := h
          have hlv2 := (hU.to hu).to h3
          exact ⟨a9, c9, h1, h2, h3, below_to hu h3, hlv2.l7.low, by have := hlv2.fz.size; have := HLB.out; have := HXE.out; omega, hlv2.l7.c0, hlv2.l7.c1, by rw [HLC.out _ _ _ _ _ hlv2 HLB.out]; exact HLCk.out⟩
        have hX : (adA D m sv).2.2 = 0 ∨ (adA D m sv).2.2 = 2 := by unfold adA; split; left; rfl; right; rfl
        generalize adA D m sv = R at *
        obtain ⟨D', m', x'⟩ := R
        simp only at HDL HAD HAR hX
        have hbd : Below wr.heap.size wr wr.drew := below_drew (Below.refl _ _)
        have d0 : wr.drew.cell? ⟨x6, 0, none⟩ = some (.slice a6 D.length c6) := HLVr.out.l6.c0
        have d1 : wr.drew.cell? ⟨x6, 1, none⟩ = some (.int .i64 m) := HLVr.out.l6.c1
        have d2 : wr.drew.cell? ⟨lb, lo + k, none⟩ = some (.int .i64 sv) := by have := HLC.out _ _ _ lb (lo + k) HLVr.out HLB.out; exact this.trans HLCk.out
        have e10 : (wr.alloc (.cells #[.slice none 0 0, .int .i64 0] 24)).drew.cell? ⟨x6, 0, none⟩ = some (.slice a6 D.length c6) := (HLVr.out.to (from_alloc _ _)).l6.c0
        have e11 : (wr.alloc (.cells #[.slice none 0 0, .int .i64 0] 24)).drew.cell? ⟨x6, 1, none⟩ = some (.int .i64 m) := (HLVr.out.to (from_alloc _ _)).l6.c1
        have e12 : (wr.alloc (.cells #[.slice none 0 0, .int .i64 0] 24)).drew.cell? ⟨lb, lo + k, none⟩ = some (.int .i64 sv) := (HLC.out _ _ _ lb (lo + k) (HLVr.out.to (from_alloc _ (.cells #[.slice none 0 0, .int .i64 0] 24))) HLB.out).trans HLCk.out
        have e13 : Below wr.heap.size wr (wr.alloc (.cells #[.slice none 0 0, .int .i64 0] 24)).drew := below_drew (from_alloc _ _)
        have hnx : x6 ≠ wr.heap.size := by have := HLVr.out.l6.low; omega
        have hnl : lb ≠ wr.heap.size := by have := HLVr.out.fz.size; have := HLB.out; have := HXE.out; omega
        go_wp2_with fail
        go_region_held3 (fun u => u.cell? ⟨x6, 0, none⟩ = some (.slice a6 D.length c6) ∧ u.cell? ⟨x6, 1, none⟩ = some (.int .i64 m) ∧ u.cell? ⟨lb, lo + k, none⟩ = some (.int .i64 sv) ∧ Below wr.heap.size wr u) (((try dsimp only); first | assumption | (solve | (repeat (first | with_reducible assumption | with_reducible refine below_drew ?_ | with_reducible refine below_alloc ?_ ?_ _ | with_reducible refine below_set ?_ ?_ _ | exact Nat.le_refl _ | exact Below.size (by assumption)))) | (refine ⟨?_, ?_, ?_, ?_⟩ <;> first | assumption | (solve | (repeat (first | with_reducible assumption | with_reducible refine below_drew ?_ | with_reducible refine below_alloc ?_ ?_ _ | with_reducible refine below_set ?_ ?_ _ | exact Nat.le_refl _ | exact Below.size (by assumption)))) | go_keep) | go_keep)) ((go_at_call 23; refine (HAD.out _ (by (repeat (first | with_reducible assumption | with_reducible refine below_drew ?_ | with_reducible refine below_alloc ?_ ?_ _ | with_reducible refine below_set ?_ ?_ _ | exact Nat.le_refl _ | exact Below.size (by assumption))))).mono ?_; rintro e w3 ⟨a9, c9, rfl, ho9, hb9, hbw9, hlw, hlw2, hc0, hc1, hc2⟩; have z0 := newCell hb9 wr.heap.size 0; have z1 := newCell hb9 wr.heap.size 1; have z2 := newFrozen hb9 wr.heap.size 0; have z3 := newFrozen hb9 wr.heap.size 1; have y0a : (w3.alloc (.cells #[.slice none 0 0, .int .i64 0] 24)).cell? ⟨x6, 0, none⟩ = some (.slice a6 D.length c6) := (newCell (from_alloc w3 _) _ _ hlw).trans hc0; have y1a : (w3.alloc (.cells #[.slice none 0 0, .int .i64 0] 24)).cell? ⟨x6, 1, none⟩ = some (.int .i64 m) := (newCell (from_alloc w3 _) _ _ hlw).trans hc1; have y2a : (w3.alloc (.cells #[.slice none 0 0, .int .i64 0] 24)).cell? ⟨lb, lo + k, none⟩ = some (.int .i64 sv) := (newCell (from_alloc w3 _) _ _ hlw2).trans hc2; have y0b : (w3.alloc (.cells #[.slice a9 D'.length c9, .int .i64 m'] 24)).cell? ⟨x6, 0, none⟩ = some (.slice a6 D.length c6) := (newCell (from_alloc w3 _) _ _ hlw).trans hc0; have y1b : (w3.alloc (.cells #[.slice a9 D'.length c9, .int .i64 m'] 24)).cell? ⟨x6, 1, none⟩ = some (.int .i64 m) := (newCell (from_alloc w3 _) _ _ hlw).trans hc1; have y2b : (w3.alloc (.cells #[.slice a9 D'.length c9, .int .i64 m'] 24)).cell? ⟨lb, lo + k, none⟩ = some (.int .i64 sv) := (newCell (from_alloc w3 _) _ _ hlw2).trans hc2; have y0c : ((w3.setCell ⟨wr.heap.size, 0, none⟩ (.slice a9 D'.length c9)).setCell ⟨wr.heap.size, 1, none⟩ (.int .i64 m')).cell? ⟨x6, 0, none⟩ = some (.slice a6 D.length c6) := far2 hnx hc0; have y1c : ((w3.setCell ⟨wr.heap.size, 0, none⟩ (.slice a9 D'.length c9)).setCell ⟨wr.heap.size, 1, none⟩ (.int .i64 m')).cell? ⟨x6, 1, none⟩ = some (.int .i64 m) := far2 hnx hc1; have y2c : ((w3.setCell ⟨wr.heap.size, 0, none⟩ (.slice a9 D'.length c9)).setCell ⟨wr.heap.size, 1, none⟩ (.int .i64 m')).cell? ⟨lb, lo + k, none⟩ = some (.int .i64 sv) := far2 hnl hc2))
        · have HN9 : Hid (Nt wr (w3.alloc (.cells #[.slice a9 D'.length c9, .int .i64 m'] 24)) w3.heap.size ⟨a9, c9, D', m'⟩) := Nt.callFirst (u := wr.drew) (t := ⟨a9, c9, D', m'⟩) hbd ho9 hb9
          clear d0 d1 d2 e10 e11 e12 e13 hnx hnl ho9 hb9 hbw9 hlw hlw2 hc0 hc1 hc2 z0 z1 z2 z3 y0a y1a y2a y0b y1b y2b y0c y1c y2c hbd
          generalize w3.alloc (.cells #[.slice a9 D'.length c9, .int .i64 m'] 24) = U at *
          generalize w3.heap.size = x9 at *
          have HLV1 : Hid (Lv V U x6 x7 ⟨a6, c6, D, m⟩ ⟨a7, c7, D, m⟩) := HLVr.out.to HN9.out.b
          have hbd : Below U.heap.size U U.drew := below_drew (Below.refl _ _)
          have d0 : U.drew.cell? ⟨x7, 0, none⟩ = some (.slice a7 D.length c7) := HLV1.out.l7.c0
          have d1 : U.drew.cell? ⟨x7, 1, none⟩ = some (.int .i64 m) := HLV1.out.l7.c1
          have d2 : U.drew.cell? ⟨lb, lo + k, none⟩ = some (.int .i64 sv) := by have := HLC.out _ _ _ lb (lo + k) HLV1.out HLB.out; exact this.trans HLCk.out
          have e10 : (U.alloc (.cells #[.slice none 0 0, .int .i64 0] 24)).drew.cell? ⟨x7, 0, none⟩ = some (.slice a7 D.length c7) := (HLV1.out.to (from_alloc _ _)).l7.c0
          have e11 : (U.alloc (.cells #[.slice none 0 0, .int .i64 0] 24)).drew.cell? ⟨x7, 1, none⟩ = some (.int .i64 m) := (HLV1.out.to (from_alloc _ _)).l7.c1
          have e12 : (U.alloc (.cells #[.slice none 0 0, .int .i64 0] 24)).drew.cell? ⟨lb, lo + k, none⟩ = some (.int .i64 sv) := (HLC.out _ _ _ lb (lo + k) (HLV1.out.to (from_alloc _ (.cells #[.slice none 0 0, .int .i64 0] 24))) HLB.out).trans HLCk.out
          have e13 : Below U.heap.size U (U.alloc (.cells #[.slice none 0 0, .int .i64 0] 24)).drew := below_drew (from_alloc _ _)
          have hnx : x7 ≠ U.heap.size := by have := HLV1.out.l7.low; omega
          have hnl : lb ≠ U.heap.size := by have := HLV1.out.fz.size; have := HLB.out; have := HXE.out; omega
          go_wp2_with fail
          go_region_held3 (fun u => u.cell? ⟨x7, 0, none⟩ = some (.slice a7 D.length c7) ∧ u.cell? ⟨x7, 1, none⟩ = some (.int .i64 m) ∧ u.cell? ⟨lb, lo + k, none⟩ = some (.int .i64 sv) ∧ Below U.heap.size U u) (((try dsimp only); first | assumption | (solve | (repeat (first | with_reducible assumption | with_reducible refine below_drew ?_ | with_reducible refine below_alloc ?_ ?_ _ | with_reducible refine below_set ?_ ?_ _ | exact Nat.le_refl _ | exact Below.size (by assumption)))) | (refine ⟨?_, ?_, ?_, ?_⟩ <;> first | assumption | (solve | (repeat (first | with_reducible assumption | with_reducible refine below_drew ?_ | with_reducible refine below_alloc ?_ ?_ _ | with_reducible refine below_set ?_ ?_ _ | exact Nat.le_refl _ | exact Below.size (by assumption)))) | go_keep) | go_keep)) ((go_at_call 24; refine (HAR.out U HLV1.out _ (by (repeat (first | with_reducible assumption | with_reducible refine below_drew ?_ | with_reducible refine below_alloc ?_ ?_ _ | with_reducible refine below_set ?_ ?_ _ | exact Nat.le_refl _ | exact Below.size (by assumption))))).mono ?_; rintro e w7 ⟨a11, c11, rfl, ho9, hb9, hbw9, hlw, hlw2, hc0, hc1, hc2⟩; have z0 := newCell hb9 U.heap.size 0; have z1 := newCell hb9 U.heap.size 1; have z2 := newFrozen hb9 U.heap.size 0; have z3 := newFrozen hb9 U.heap.size 1; have y0a : (w7.alloc (.cells #[.slice none 0 0, .int .i64 0] 24)).cell? ⟨x7, 0, none⟩ = some (.slice a7 D.length c7) := (newCell (from_alloc w7 _) _ _ hlw).trans hc0; have y1a : (w7.alloc (.cells #[.slice none 0 0, .int .i64 0] 24)).cell? ⟨x7, 1, none⟩ = some (.int .i64 m) := (newCell (from_alloc w7 _) _ _ hlw).trans hc1; have y2a : (w7.alloc (.cells #[.slice none 0 0, .int .i64 0] 24)).cell? ⟨lb, lo + k, none⟩ = some (.int .i64 sv) := (newCell (from_alloc w7 _) _ _ hlw2).trans hc2; have y0b : (w7.alloc (.cells #[.slice a11 D'.length c11, .int .i64 m'] 24)).cell? ⟨x7, 0, none⟩ = some (.slice a7 D.length c7) := (newCell (from_alloc w7 _) _ _ hlw).trans hc0; have y1b : (w7.alloc (.cells #[.slice a11 D'.length c11, .int .i64 m'] 24)).cell? ⟨x7, 1, none⟩ = some (.int .i64 m) := (newCell (from_alloc w7 _) _ _ hlw).trans hc1; have y2b : (w7.alloc (.cells #[.slice a11 D'.length c11, .int .i64 m'] 24)).cell? ⟨lb, lo + k, none⟩ = some (.int .i64 sv) := (newCell (from_alloc w7 _) _ _ hlw2).trans hc2; have y0c : ((w7.setCell ⟨U.heap.size, 0, none⟩ (.slice a11 D'.length c11)).setCell ⟨U.heap.size, 1, none⟩ (.int .i64 m')).cell? ⟨x7, 0, none⟩ = some (.slice a7 D.length c7) := far2 hnx hc0; have y1c : ((w7.setCell ⟨U.heap.size, 0, none⟩ (.slice a11 D'.length c11)).setCell ⟨U.heap.size, 1, none⟩ (.int .i64 m')).cell? ⟨x7, 1, none⟩ = some (.int .i64 m) := far2 hnx hc1; have y2c : ((w7.setCell ⟨U.heap.size, 0, none⟩ (.slice a11 D'.length c11)).setCell ⟨U.heap.size, 1, none⟩ (.int .i64 m')).cell? ⟨lb, lo + k, none⟩ = some (.int .i64 sv) := far2 hnl hc2))
          · have HN11 : Hid (Nt U (w7.alloc (.cells #[.slice a11 D'.length c11, .int .i64 m'] 24)) w7.heap.size ⟨a11, c11, D', m'⟩) := Nt.callFirst (u := U.drew) (t := ⟨a11, c11, D', m'⟩) hbd ho9 hb9
            clear d0 d1 d2 e10 e11 e12 e13 hnx hnl ho9 hb9 hbw9 hlw hlw2 hc0 hc1 hc2 z0 z1 z2 z3 y0a y1a y2a y0b y1b y2b y0c y1c y2c hbd
            generalize w7.alloc (.cells #[.slice a11 D'.length c11, .int .i64 m'] 24) = U2 at *
            generalize w7.heap.size = x11 at *
            have HLV2 : Hid (Lv V U2 x6 x7 ⟨a6, c6, D, m⟩ ⟨a7, c7, D, m⟩) := HLV1.out.to HN11.out.b
            have HL9 : Hid (Loc U2 x9 ⟨a9, c9, D', m'⟩) := HN9.out.l.to HN11.out.b
            have HL11 : Hid (Loc U2 x11 ⟨a11, c11, D', m'⟩) := HN11.out.l
            have HP9 : Hid (∀ b o, a9 = some ⟨b, o, none⟩ → D' ≠ [] → b ≠ x6 ∧ b ≠ x7) := HN9.out.far HLVr.out.l6.low HLVr.out.l7.low
            have HP11 : Hid (∀ b o, a11 = some ⟨b, o, none⟩ → D' ≠ [] → b ≠ x6 ∧ b ≠ x7) := HN11.out.far HLV1.out.l6.low HLV1.out.l7.low
            have HNE : Hid (x6 ≠ x9 ∧ x7 ≠ x9 ∧ x6 ≠ x11 ∧ x7 ≠ x11) := by
              have h1 := HN9.out.lo
              have h2 := HN11.out.lo
              have h3 := HLVr.out.l6.low
              have h4 := HLVr.out.l7.low
              have h5 := HN9.out.b.size
              refine ⟨?_, ?_, ?_, ?_⟩ <;> omega
            clear HN9 HN11 HLVr HLV1 HAD HAR
            have q0 : U2.cell? ⟨x9, 0, none⟩ = some (.slice a9 D'.length c9) := HL9.out.c0
            have q1 : U2.cell? ⟨x9, 1, none⟩ = some (.int .i64 m') := HL9.out.c1
            have q2 : U2.cell? ⟨x11, 0, none⟩ = some (.slice a11 D'.length c11) := HL11.out.c0
            have q3 : U2.cell? ⟨x11, 1, none⟩ = some (.int .i64 m') := HL11.out.c1
            have t3 : (x' != x') = false := by simp
            go_wp2_with fail
            refine (same_true HL9.out.sl HL11.out.sl (by show D'.length ≤ _; omega)).mono ?_
            rintro e w4 ⟨rfl, hb⟩
            have HLV4 : Hid _ := HLV2.out.to hb
            have HL94 : Hid _ := HL9.out.to hb
            have HL114 : Hid _ := HL11.out.to hb
            have HT4 : Hid _ := HTDu.out _ _ _ HLV4.out
            clear hb q0 q1 q2 q3 HLV2 HL9 HL11
            have q0 : w4.cell? ⟨x5, 0, none⟩ = some (.slice (some ⟨g, 0, none⟩) C.length gc) := HT4.out.l7.c0
            have q1 : w4.cell? ⟨x5, 1, none⟩ = some (.int .i64 nn) := HT4.out.l7.c1
            have q2 : w4.cell? ⟨w.heap.size, 0, none⟩ = some (.slice a C.length c) := HT4.out.l3.c0
            have q3 : w4.cell? ⟨w.heap.size, 1, none⟩ = some (.int .i64 nn) := HT4.out.l3.c1
            go_wp2_with fail
            refine (kept_true HT4.out.cp HT4.out.l3.sl (by show C.length ≤ _; omega)).mono ?_
            rintro e w5 ⟨rfl, hb⟩
            have HLV5 : Hid _ := HLV4.out.to hb
            have HL95 : Hid _ := HL94.out.to hb
            have HL115 : Hid _ := HL114.out.to hb
            clear hb q0 q1 q2 q3 HLV4 HL94 HL114 HT4
            rcases hX with rfl | rfl
            · have q0 : w5.cell? ⟨x9, 0, none⟩ = some (.slice a9 D'.length c9) := HL95.out.c0
              have q1 : w5.cell? ⟨x9, 1, none⟩ = some (.int .i64 m') := HL95.out.c1
              have q2 : w5.cell? ⟨x11, 0, none⟩ = some (.slice a11 D'.length c11) := HL115.out.c0
              have q3 : w5.cell? ⟨x11, 1, none⟩ = some (.int .i64 m') := HL115.out.c1
              have q4 : w5.cell? ⟨x6, 0, none⟩ = some (.slice a6 D.length c6) := HLV5.out.l6.c0
              have q5 : w5.cell? ⟨x6, 1, none⟩ = some (.int .i64 m) := HLV5.out.l6.c1
              have q6 : w5.cell? ⟨x7, 0, none⟩ = some (.slice a7 D.length c7) := HLV5.out.l7.c0
              have q7 : w5.cell? ⟨x7, 1, none⟩ = some (.int .i64 m) := HLV5.out.l7.c1
              have f0 := HLV5.out.f60
              have f1 := HLV5.out.f61
              have f2 := HLV5.out.f70
              have f3 := HLV5.out.f71
              have n0 := HLV5.out.ne
              have n1 := HNE.out.1
              have n2 := HNE.out.2.1
              have n3 := HNE.out.2.2.1
              have n4 := HNE.out.2.2.2
              have n5 := n0.symm
              have F1 : Hid _ := (HLV5.out.to (below_drew (Below.refl _ _))).puts ⟨a9, c9, D', m'⟩ ⟨a11, c11, D', m'⟩ (HL95.out.sl.to (below_drew (Below.refl _ _))) (HL115.out.sl.to (below_drew (Below.refl _ _))) HP9.out HP11.out
              have F2 : Hid _ := ((HLV5.out.to (below_drew (Below.refl _ _))).turn.puts ⟨a11, c11, D', m'⟩ ⟨a9, c9, D', m'⟩ (HL115.out.sl.to (below_drew (Below.refl _ _))) (HL95.out.sl.to (below_drew (Below.refl _ _))) (fun b o e k => (HP11.out b o e k).symm) (fun b o e k => (HP9.out b o e k).symm)).turn
              go_wp2_with fail
              go_region
              all_goals
                go_wp2_with fail
                go_roundw
                case rel => first | exact ⟨k + 1, ⟨a9, c9, D', m'⟩, ⟨a11, c11, D', m'⟩, by omega, by omega, by go_num, F1.out, rfl, rfl, by show D'.length ≤ _; omega⟩ | exact ⟨k + 1, ⟨a9, c9, D', m'⟩, ⟨a11, c11, D', m'⟩, by omega, by omega, by go_num, F2.out, rfl, rfl, by show D'.length ≤ _; omega⟩
                case measure => simp [intOf]; omega
            · go_wp2_with fail
              go_roundw
              case rel => exact ⟨k + 1, ⟨a6, c6, D, m⟩, ⟨a7, c7, D, m⟩, by omega, by omega, by go_num, HLV5.out, rfl, rfl, hD⟩
              case measure => simp [intOf]; omega
          · have HN11 : Hid (Nt U (((w7.setCell ⟨U.heap.size, 0, none⟩ (.slice a11 D'.length c11)).setCell ⟨U.heap.size, 1, none⟩ (.int .i64 m'))) U.heap.size ⟨a11, c11, D', m'⟩) := Nt.varFirst (w := U) (u' := w7) (t := ⟨a11, c11, D', m'⟩) ho9 hb9
            clear d0 d1 d2 e10 e11 e12 e13 hnx hnl ho9 hb9 hbw9 hlw hlw2 hc0 hc1 hc2 z0 z1 z2 z3 y0a y1a y2a y0b y1b y2b y0c y1c y2c hbd
            generalize (((w7.setCell ⟨U.heap.size, 0, none⟩ (.slice a11 D'.length c11)).setCell ⟨U.heap.size, 1, none⟩ (.int .i64 m'))) = U2 at *
            generalize hx9 : U.heap.size = x11 at *
            clear hx9
            have HLV2 : Hid (Lv V U2 x6 x7 ⟨a6, c6, D, m⟩ ⟨a7, c7, D, m⟩) := HLV1.out.to HN11.out.b
            have HL9 : Hid (Loc U2 x9 ⟨a9, c9, D', m'⟩) := HN9.out.l.to HN11.out.b
            have HL11 : Hid (Loc U2 x11 ⟨a11, c11, D', m'⟩) := HN11.out.l
            have HP9 : Hid (∀ b o, a9 = some ⟨b, o, none⟩ → D' ≠ [] → b ≠ x6 ∧ b ≠ x7) := HN9.out.far HLVr.out.l6.low HLVr.out.l7.low
            have HP11 : Hid (∀ b o, a11 = some ⟨b, o, none⟩ → D' ≠ [] → b ≠ x6 ∧ b ≠ x7) := HN11.out.far HLV1.out.l6.low HLV1.out.l7.low
            have HNE : Hid (x6 ≠ x9 ∧ x7 ≠ x9 ∧ x6 ≠ x11 ∧ x7 ≠ x11) := by
              have h1 := HN9.out.lo
              have h2 := HN11.out.lo
              have h3 := HLVr.out.l6.low
              have h4 := HLVr.out.l7.low
              have h5 := HN9.out.b.size
              refine ⟨?_, ?_, ?_, ?_⟩ <;> omega
            clear HN9 HN11 HLVr HLV1 HAD HAR
            have q0 : U2.cell? ⟨x9, 0, none⟩ = some (.slice a9 D'.length c9) := HL9.out.c0
            have q1 : U2.cell? ⟨x9, 1, none⟩ = some (.int .i64 m') := HL9.out.c1
            have q2 : U2.cell? ⟨x11, 0, none⟩ = some (.slice a11 D'.length c11) := HL11.out.c0
            have q3 : U2.cell? ⟨x11, 1, none⟩ = some (.int .i64 m') := HL11.out.c1
            have t3 : (x' != x') = false := by simp
            go_wp2_with fail
            refine (same_true HL9.out.sl HL11.out.sl (by show D'.length ≤ _; omega)).mono ?_
            rintro e w4 ⟨rfl, hb⟩
            have HLV4 : Hid _ := HLV2.out.to hb
            have HL94 : Hid _ := HL9.out.to hb
            have HL114 : Hid _ := HL11.out.to hb
            have HT4 : Hid _ := HTDu.out _ _ _ HLV4.out
            clear hb q0 q1 q2 q3 HLV2 HL9 HL11
            have q0 : w4.cell? ⟨x5, 0, none⟩ = some (.slice (some ⟨g, 0, none⟩) C.length gc) := HT4.out.l7.c0
            have q1 : w4.cell? ⟨x5, 1, none⟩ = some (.int .i64 nn) := HT4.out.l7.c1
            have q2 : w4.cell? ⟨w.heap.size, 0, none⟩ = some (.slice a C.length c) := HT4.out.l3.c0
            have q3 : w4.cell? ⟨w.heap.size, 1, none⟩ = some (.int .i64 nn) := HT4.out.l3.c1
            go_wp2_with fail
            refine (kept_true HT4.out.cp HT4.out.l3.sl (by show C.length ≤ _; omega)).mono ?_
            rintro e w5 ⟨rfl, hb⟩
            have HLV5 : Hid _ := HLV4.out.to hb
            have HL95 : Hid _ := HL94.out.to hb
            have HL115 : Hid _ := HL114.out.to hb
            clear hb q0 q1 q2 q3 HLV4 HL94 HL114 HT4
            rcases hX with rfl | rfl
            · have q0 : w5.cell? ⟨x9, 0, none⟩ = some (.slice a9 D'.length c9) := HL95.out.c0
              have q1 : w5.cell? ⟨x9, 1, none⟩ = some (.int .i64 m') := HL95.out.c1
              have q2 : w5.cell? ⟨x11, 0, none⟩ = some (.slice a11 D'.length c11) := HL115.out.c0
              have q3 : w5.cell? ⟨x11, 1, none⟩ = some (.int .i64 m') := HL115.out.c1
              have q4 : w5.cell? ⟨x6, 0, none⟩ = some (.slice a6 D.length c6) := HLV5.out.l6.c0
              have q5 : w5.cell? ⟨x6, 1, none⟩ = some (.int .i64 m) := HLV5.out.l6.c1
              have q6 : w5.cell? ⟨x7, 0, none⟩ = some (.slice a7 D.length c7) := HLV5.out.l7.c0
              have q7 : w5.cell? ⟨x7, 1, none⟩ = some (.int .i64 m) := HLV5.out.l7.c1
              have f0 := HLV5.out.f60
              have f1 := HLV5.out.f61
              have f2 := HLV5.out.f70
              have f3 := HLV5.out.f71
              have n0 := HLV5.out.ne
              have n1 := HNE.out.1
              have n2 := HNE.out.2.1
              have n3 := HNE.out.2.2.1
              have n4 := HNE.out.2.2.2
              have n5 := n0.symm
              have F1 : Hid _ := (HLV5.out.to (below_drew (Below.refl _ _))).puts ⟨a9, c9, D', m'⟩ ⟨a11, c11, D', m'⟩ (HL95.out.sl.to (below_drew (Below.refl _ _))) (HL115.out.sl.to (below_drew (Below.refl _ _))) HP9.out HP11.out
              have F2 : Hid _ := ((HLV5.out.to (below_drew (Below.refl _ _))).turn.puts ⟨a11, c11, D', m'⟩ ⟨a9, c9, D', m'⟩ (HL115.out.sl.to (below_drew (Below.refl _ _))) (HL95.out.sl.to (below_drew (Below.refl _ _))) (fun b o e k => (HP11.out b o e k).symm) (fun b o e k => (HP9.out b o e k).symm)).turn
              go_wp2_with fail
              go_region
              all_goals
                go_wp2_with fail
                go_roundw
                case rel => first | exact ⟨k + 1, ⟨a9, c9, D', m'⟩, ⟨a11, c11, D', m'⟩, by omega, by omega, by go_num, F1.out, rfl, rfl, by show D'.length ≤ _; omega⟩ | exact ⟨k + 1, ⟨a9, c9, D', m'⟩, ⟨a11, c11, D', m'⟩, by omega, by omega, by go_num, F2.out, rfl, rfl, by show D'.length ≤ _; omega⟩
                case measure => simp [intOf]; omega
            · go_wp2_with fail
              go_roundw
              case rel => exact ⟨k + 1, ⟨a6, c6, D, m⟩, ⟨a7, c7, D, m⟩, by omega, by omega, by go_num, HLV5.out, rfl, rfl, hD⟩
              case measure => simp [intOf]; omega
        · have HN9 : Hid (Nt wr (((w3.setCell ⟨wr.heap.size, 0, none⟩ (.slice a9 D'.length c9)).setCell ⟨wr.heap.size, 1, none⟩ (.int .i64 m'))) wr.heap.size ⟨a9, c9, D', m'⟩) := Nt.varFirst (w := wr) (u' := w3) (t := ⟨a9, c9, D', m'⟩) ho9 hb9
          clear d0 d1 d2 e10 e11 e12 e13 hnx hnl ho9 hb9 hbw9 hlw hlw2 hc0 hc1 hc2 z0 z1 z2 z3 y0a y1a y2a y0b y1b y2b y0c y1c y2c hbd
          generalize (((w3.setCell ⟨wr.heap.size, 0, none⟩ (.slice a9 D'.length c9)).setCell ⟨wr.heap.size, 1, none⟩ (.int .i64 m'))) = U at *
          generalize hx9 : wr.heap.size = x9 at *
          clear hx9
          have HLV1 : Hid (Lv V U x6 x7 ⟨a6, c6, D, m⟩ ⟨a7, c7, D, m⟩) := HLVr.out.to HN9.out.b
          have hbd : Below U.heap.size U U.drew := below_drew (Below.refl _ _)
          have d0 : U.drew.cell? ⟨x7, 0, none⟩ = some (.slice a7 D.length c7) := HLV1.out.l7.c0
          have d1 : U.drew.cell? ⟨x7, 1, none⟩ = some (.int .i64 m) := HLV1.out.l7.c1
          have d2 : U.drew.cell? ⟨lb, lo + k, none⟩ = some (.int .i64 sv) := by have := HLC.out _ _ _ lb (lo + k) HLV1.out HLB.out; exact this.trans HLCk.out
          have e10 : (U.alloc (.cells #[.slice none 0 0, .int .i64 0] 24)).drew.cell? ⟨x7, 0, none⟩ = some (.slice a7 D.length c7) := (HLV1.out.to (from_alloc _ _)).l7.c0
          have e11 : (U.alloc (.cells #[.slice none 0 0, .int .i64 0] 24)).drew.cell? ⟨x7, 1, none⟩ = some (.int .i64 m) := (HLV1.out.to (from_alloc _ _)).l7.c1
          have e12 : (U.alloc (.cells #[.slice none 0 0, .int .i64 0] 24)).drew.cell? ⟨lb, lo + k, none⟩ = some (.int .i64 sv) := (HLC.out _ _ _ lb (lo + k) (HLV1.out.to (from_alloc _ (.cells #[.slice none 0 0, .int .i64 0] 24))) HLB.out).trans HLCk.out
          have e13 : Below U.heap.size U (U.alloc (.cells #[.slice none 0 0, .int .i64 0] 24)).drew := below_drew (from_alloc _ _)
          have hnx : x7 ≠ U.heap.size := by have := HLV1.out.l7.low; omega
          have hnl : lb ≠ U.heap.size := by have := HLV1.out.fz.size; have := HLB.out; have := HXE.out; omega
          go_wp2_with fail
          go_region_held3 (fun u => u.cell? ⟨x7, 0, none⟩ = some (.slice a7 D.length c7) ∧ u.cell? ⟨x7, 1, none⟩ = some (.int .i64 m) ∧ u.cell? ⟨lb, lo + k, none⟩ = some (.int .i64 sv) ∧ Below U.heap.size U u) (((try dsimp only); first | assumption | (solve | (repeat (first | with_reducible assumption | with_reducible refine below_drew ?_ | with_reducible refine below_alloc ?_ ?_ _ | with_reducible refine below_set ?_ ?_ _ | exact Nat.le_refl _ | exact Below.size (by assumption)))) | (refine ⟨?_, ?_, ?_, ?_⟩ <;> first | assumption | (solve | (repeat (first | with_reducible assumption | with_reducible refine below_drew ?_ | with_reducible refine below_alloc ?_ ?_ _ | with_reducible refine below_set ?_ ?_ _ | exact Nat.le_refl _ | exact Below.size (by assumption)))) | go_keep) | go_keep)) ((go_at_call 24; refine (HAR.out U HLV1.out _ (by (repeat (first | with_reducible assumption | with_reducible refine below_drew ?_ | with_reducible refine below_alloc ?_ ?_ _ | with_reducible refine below_set ?_ ?_ _ | exact Nat.le_refl _ | exact Below.size (by assumption))))).mono ?_; rintro e w7 ⟨a11, c11, rfl, ho9, hb9, hbw9, hlw, hlw2, hc0, hc1, hc2⟩; have z0 := newCell hb9 U.heap.size 0; have z1 := newCell hb9 U.heap.size 1; have z2 := newFrozen hb9 U.heap.size 0; have z3 := newFrozen hb9 U.heap.size 1; have y0a : (w7.alloc (.cells #[.slice none 0 0, .int .i64 0] 24)).cell? ⟨x7, 0, none⟩ = some (.slice a7 D.length c7) := (newCell (from_alloc w7 _) _ _ hlw).trans hc0; have y1a : (w7.alloc (.cells #[.slice none 0 0, .int .i64 0] 24)).cell? ⟨x7, 1, none⟩ = some (.int .i64 m) := (newCell (from_alloc w7 _) _ _ hlw).trans hc1; have y2a : (w7.alloc (.cells #[.slice none 0 0, .int .i64 0] 24)).cell? ⟨lb, lo + k, none⟩ = some (.int .i64 sv) := (newCell (from_alloc w7 _) _ _ hlw2).trans hc2; have y0b : (w7.alloc (.cells #[.slice a11 D'.length c11, .int .i64 m'] 24)).cell? ⟨x7, 0, none⟩ = some (.slice a7 D.length c7) := (newCell (from_alloc w7 _) _ _ hlw).trans hc0; have y1b : (w7.alloc (.cells #[.slice a11 D'.length c11, .int .i64 m'] 24)).cell? ⟨x7, 1, none⟩ = some (.int .i64 m) := (newCell (from_alloc w7 _) _ _ hlw).trans hc1; have y2b : (w7.alloc (.cells #[.slice a11 D'.length c11, .int .i64 m'] 24)).cell? ⟨lb, lo + k, none⟩ = some (.int .i64 sv) := (newCell (from_alloc w7 _) _ _ hlw2).trans hc2; have y0c : ((w7.setCell ⟨U.heap.size, 0, none⟩ (.slice a11 D'.length c11)).setCell ⟨U.heap.size, 1, none⟩ (.int .i64 m')).cell? ⟨x7, 0, none⟩ = some (.slice a7 D.length c7) := far2 hnx hc0; have y1c : ((w7.setCell ⟨U.heap.size, 0, none⟩ (.slice a11 D'.length c11)).setCell ⟨U.heap.size, 1, none⟩ (.int .i64 m')).cell? ⟨x7, 1, none⟩ = some (.int .i64 m) := far2 hnx hc1; have y2c : ((w7.setCell ⟨U.heap.size, 0, none⟩ (.slice a11 D'.length c11)).setCell ⟨U.heap.size, 1, none⟩ (.int .i64 m')).cell? ⟨lb, lo + k, none⟩ = some (.int .i64 sv) := far2 hnl hc2))
          · have HN11 : Hid (Nt U (w7.alloc (.cells #[.slice a11 D'.length c11, .int .i64 m'] 24)) w7.heap.size ⟨a11, c11, D', m'⟩) := Nt.callFirst (u := U.drew) (t := ⟨a11, c11, D', m'⟩) hbd ho9 hb9
            clear d0 d1 d2 e10 e11 e12 e13 hnx hnl ho9 hb9 hbw9 hlw hlw2 hc0 hc1 hc2 z0 z1 z2 z3 y0a y1a y2a y0b y1b y2b y0c y1c y2c hbd
            generalize w7.alloc (.cells #[.slice a11 D'.length c11, .int .i64 m'] 24) = U2 at *
            generalize w7.heap.size = x11 at *
            have HLV2 : Hid (Lv V U2 x6 x7 ⟨a6, c6, D, m⟩ ⟨a7, c7, D, m⟩) := HLV1.out.to HN11.out.b
            have HL9 : Hid (Loc U2 x9 ⟨a9, c9, D', m'⟩) := HN9.out.l.to HN11.out.b
            have HL11 : Hid (Loc U2 x11 ⟨a11, c11, D', m'⟩) := HN11.out.l
            have HP9 : Hid (∀ b o, a9 = some ⟨b, o, none⟩ → D' ≠ [] → b ≠ x6 ∧ b ≠ x7) := HN9.out.far HLVr.out.l6.low HLVr.out.l7.low
            have HP11 : Hid (∀ b o, a11 = some ⟨b, o, none⟩ → D' ≠ [] → b ≠ x6 ∧ b ≠ x7) := HN11.out.far HLV1.out.l6.low HLV1.out.l7.low
            have HNE : Hid (x6 ≠ x9 ∧ x7 ≠ x9 ∧ x6 ≠ x11 ∧ x7 ≠ x11) := by
              have h1 := HN9.out.lo
              have h2 := HN11.out.lo
              have h3 := HLVr.out.l6.low
              have h4 := HLVr.out.l7.low
              have h5 := HN9.out.b.size
              refine ⟨?_, ?_, ?_, ?_⟩ <;> omega
            clear HN9 HN11 HLVr HLV1 HAD HAR
            have q0 : U2.cell? ⟨x9, 0, none⟩ = some (.slice a9 D'.length c9) := HL9.out.c0
            have q1 : U2.cell? ⟨x9, 1, none⟩ = some (.int .i64 m') := HL9.out.c1
            have q2 : U2.cell? ⟨x11, 0, none⟩ = some (.slice a11 D'.length c11) := HL11.out.c0
            have q3 : U2.cell? ⟨x11, 1, none⟩ = some (.int .i64 m') := HL11.out.c1
            have t3 : (x' != x') = false := by simp
            go_wp2_with fail
            refine (same_true HL9.out.sl HL11.out.sl (by show D'.length ≤ _; omega)).mono ?_
            rintro e w4 ⟨rfl, hb⟩
            have HLV4 : Hid _ := HLV2.out.to hb
            have HL94 : Hid _ := HL9.out.to hb
            have HL114 : Hid _ := HL11.out.to hb
            have HT4 : Hid _ := HTDu.out _ _ _ HLV4.out
            clear hb q0 q1 q2 q3 HLV2 HL9 HL11
            have q0 : w4.cell? ⟨x5, 0, none⟩ = some (.slice (some ⟨g, 0, none⟩) C.length gc) := HT4.out.l7.c0
            have q1 : w4.cell? ⟨x5, 1, none⟩ = some (.int .i64 nn) := HT4.out.l7.c1
            have q2 : w4.cell? ⟨w.heap.size, 0, none⟩ = some (.slice a C.length c) := HT4.out.l3.c0
            have q3 : w4.cell? ⟨w.heap.size, 1, none⟩ = some (.int .i64 nn) := HT4.out.l3.c1
            go_wp2_with fail
            refine (kept_true HT4.out.cp HT4.out.l3.sl (by show C.length ≤ _; omega)).mono ?_
            rintro e w5 ⟨rfl, hb⟩
            have HLV5 : Hid _ := HLV4.out.to hb
            have HL95 : Hid _ := HL94.out.to hb
            have HL115 : Hid _ := HL114.out.to hb
            clear hb q0 q1 q2 q3 HLV4 HL94 HL114 HT4
            rcases hX with rfl | rfl
            · have q0 : w5.cell? ⟨x9, 0, none⟩ = some (.slice a9 D'.length c9) := HL95.out.c0
              have q1 : w5.cell? ⟨x9, 1, none⟩ = some (.int .i64 m') := HL95.out.c1
              have q2 : w5.cell? ⟨x11, 0, none⟩ = some (.slice a11 D'.length c11) := HL115.out.c0
              have q3 : w5.cell? ⟨x11, 1, none⟩ = some (.int .i64 m') := HL115.out.c1
              have q4 : w5.cell? ⟨x6, 0, none⟩ = some (.slice a6 D.length c6) := HLV5.out.l6.c0
              have q5 : w5.cell? ⟨x6, 1, none⟩ = some (.int .i64 m) := HLV5.out.l6.c1
              have q6 : w5.cell? ⟨x7, 0, none⟩ = some (.slice a7 D.length c7) := HLV5.out.l7.c0
              have q7 : w5.cell? ⟨x7, 1, none⟩ = some (.int .i64 m) := HLV5.out.l7.c1
              have f0 := HLV5.out.f60
              have f1 := HLV5.out.f61
              have f2 := HLV5.out.f70
              have f3 := HLV5.out.f71
              have n0 := HLV5.out.ne
              have n1 := HNE.out.1
              have n2 := HNE.out.2.1
              have n3 := HNE.out.2.2.1
              have n4 := HNE.out.2.2.2
              have n5 := n0.symm
              have F1 : Hid _ := (HLV5.out.to (below_drew (Below.refl _ _))).puts ⟨a9, c9, D', m'⟩ ⟨a11, c11, D', m'⟩ (HL95.out.sl.to (below_drew (Below.refl _ _))) (HL115.out.sl.to (below_drew (Below.refl _ _))) HP9.out HP11.out
              have F2 : Hid _ := ((HLV5.out.to (below_drew (Below.refl _ _))).turn.puts ⟨a11, c11, D', m'⟩ ⟨a9, c9, D', m'⟩ (HL115.out.sl.to (below_drew (Below.refl _ _))) (HL95.out.sl.to (below_drew (Below.refl _ _))) (fun b o e k => (HP11.out b o e k).symm) (fun b o e k => (HP9.out b o e k).symm)).turn
              go_wp2_with fail
              go_region
              all_goals
                go_wp2_with fail
                go_roundw
                case rel => first | exact ⟨k + 1, ⟨a9, c9, D', m'⟩, ⟨a11, c11, D', m'⟩, by omega, by omega, by go_num, F1.out, rfl, rfl, by show D'.length ≤ _; omega⟩ | exact ⟨k + 1, ⟨a9, c9, D', m'⟩, ⟨a11, c11, D', m'⟩, by omega, by omega, by go_num, F2.out, rfl, rfl, by show D'.length ≤ _; omega⟩
                case measure => simp [intOf]; omega
            · go_wp2_with fail
              go_roundw
              case rel => exact ⟨k + 1, ⟨a6, c6, D, m⟩, ⟨a7, c7, D, m⟩, by omega, by omega, by go_num, HLV5.out, rfl, rfl, hD⟩
              case measure => simp [intOf]; omega
          · have HN11 : Hid (Nt U (((w7.setCell ⟨U.heap.size, 0, none⟩ (.slice a11 D'.length c11)).setCell ⟨U.heap.size, 1, none⟩ (.int .i64 m'))) U.heap.size ⟨a11, c11, D', m'⟩) := Nt.varFirst (w := U) (u' := w7) (t := ⟨a11, c11, D', m'⟩) ho9 hb9
            clear d0 d1 d2 e10 e11 e12 e13 hnx hnl ho9 hb9 hbw9 hlw hlw2 hc0 hc1 hc2 z0 z1 z2 z3 y0a y1a y2a y0b y1b y2b y0c y1c y2c hbd
            generalize (((w7.setCell ⟨U.heap.size, 0, none⟩ (.slice a11 D'.length c11)).setCell ⟨U.heap.size, 1, none⟩ (.int .i64 m'))) = U2 at *
            generalize hx9 : U.heap.size = x11 at *
            clear hx9
            have HLV2 : Hid (Lv V U2 x6 x7 ⟨a6, c6, D, m⟩ ⟨a7, c7, D, m⟩) := HLV1.out.to HN11.out.b
            have HL9 : Hid (Loc U2 x9 ⟨a9, c9, D', m'⟩) := HN9.out.l.to HN11.out.b
            have HL11 : Hid (Loc U2 x11 ⟨a11, c11, D', m'⟩) := HN11.out.l
            have HP9 : Hid (∀ b o, a9 = some ⟨b, o, none⟩ → D' ≠ [] → b ≠ x6 ∧ b ≠ x7) := HN9.out.far HLVr.out.l6.low HLVr.out.l7.low
            have HP11 : Hid (∀ b o, a11 = some ⟨b, o, none⟩ → D' ≠ [] → b ≠ x6 ∧ b ≠ x7) := HN11.out.far HLV1.out.l6.low HLV1.out.l7.low
            have HNE : Hid (x6 ≠ x9 ∧ x7 ≠ x9 ∧ x6 ≠ x11 ∧ x7 ≠ x11) := by
              have h1 := HN9.out.lo
              have h2 := HN11.out.lo
              have h3 := HLVr.out.l6.low
              have h4 := HLVr.out.l7.low
              have h5 := HN9.out.b.size
              refine ⟨?_, ?_, ?_, ?_⟩ <;> omega
            clear HN9 HN11 HLVr HLV1 HAD HAR
            have q0 : U2.cell? ⟨x9, 0, none⟩ = some (.slice a9 D'.length c9) := HL9.out.c0
            have q1 : U2.cell? ⟨x9, 1, none⟩ = some (.int .i64 m') := HL9.out.c1
            have q2 : U2.cell? ⟨x11, 0, none⟩ = some (.slice a11 D'.length c11) := HL11.out.c0
            have q3 : U2.cell? ⟨x11, 1, none⟩ = some (.int .i64 m') := HL11.out.c1
            have t3 : (x' != x') = false := by simp
            go_wp2_with fail
            refine (same_true HL9.out.sl HL11.out.sl (by show D'.length ≤ _; omega)).mono ?_
            rintro e w4 ⟨rfl, hb⟩
            have HLV4 : Hid _ := HLV2.out.to hb
            have HL94 : Hid _ := HL9.out.to hb
            have HL114 : Hid _ := HL11.out.to hb
            have HT4 : Hid _ := HTDu.out _ _ _ HLV4.out
            clear hb q0 q1 q2 q3 HLV2 HL9 HL11
            have q0 : w4.cell? ⟨x5, 0, none⟩ = some (.slice (some ⟨g, 0, none⟩) C.length gc) := HT4.out.l7.c0
            have q1 : w4.cell? ⟨x5, 1, none⟩ = some (.int .i64 nn) := HT4.out.l7.c1
            have q2 : w4.cell? ⟨w.heap.size, 0, none⟩ = some (.slice a C.length c) := HT4.out.l3.c0
            have q3 : w4.cell? ⟨w.heap.size, 1, none⟩ = some (.int .i64 nn) := HT4.out.l3.c1
            go_wp2_with fail
            refine (kept_true HT4.out.cp HT4.out.l3.sl (by show C.length ≤ _; omega)).mono ?_
            rintro e w5 ⟨rfl, hb⟩
            have HLV5 : Hid _ := HLV4.out.to hb
            have HL95 : Hid _ := HL94.out.to hb
            have HL115 : Hid _ := HL114.out.to hb
            clear hb q0 q1 q2 q3 HLV4 HL94 HL114 HT4
            rcases hX with rfl | rfl
            · have q0 : w5.cell? ⟨x9, 0, none⟩ = some (.slice a9 D'.length c9) := HL95.out.c0
              have q1 : w5.cell? ⟨x9, 1, none⟩ = some (.int .i64 m') := HL95.out.c1
              have q2 : w5.cell? ⟨x11, 0, none⟩ = some (.slice a11 D'.length c11) := HL115.out.c0
              have q3 : w5.cell? ⟨x11, 1, none⟩ = some (.int .i64 m') := HL115.out.c1
              have q4 : w5.cell? ⟨x6, 0, none⟩ = some (.slice a6 D.length c6) := HLV5.out.l6.c0
              have q5 : w5.cell? ⟨x6, 1, none⟩ = some (.int .i64 m) := HLV5.out.l6.c1
              have q6 : w5.cell? ⟨x7, 0, none⟩ = some (.slice a7 D.length c7) := HLV5.out.l7.c0
              have q7 : w5.cell? ⟨x7, 1, none⟩ = some (.int .i64 m) := HLV5.out.l7.c1
              have f0 := HLV5.out.f60
              have f1 := HLV5.out.f61
              have f2 := HLV5.out.f70
              have f3 := HLV5.out.f71
              have n0 := HLV5.out.ne
              have n1 := HNE.out.1
              have n2 := HNE.out.2.1
              have n3 := HNE.out.2.2.1
              have n4 := HNE.out.2.2.2
              have n5 := n0.symm
              have F1 : Hid _ := (HLV5.out.to (below_drew (Below.refl _ _))).puts ⟨a9, c9, D', m'⟩ ⟨a11, c11, D', m'⟩ (HL95.out.sl.to (below_drew (Below.refl _ _))) (HL115.out.sl.to (below_drew (Below.refl _ _))) HP9.out HP11.out
              have F2 : Hid _ := ((HLV5.out.to (below_drew (Below.refl _ _))).turn.puts ⟨a11, c11, D', m'⟩ ⟨a9, c9, D', m'⟩ (HL115.out.sl.to (below_drew (Below.refl _ _))) (HL95.out.sl.to (below_drew (Below.refl _ _))) (fun b o e k => (HP11.out b o e k).symm) (fun b o e k => (HP9.out b o e k).symm)).turn
              go_wp2_with fail
              go_region
              all_goals
                go_wp2_with fail
                go_roundw
                case rel => first | exact ⟨k + 1, ⟨a9, c9, D', m'⟩, ⟨a11, c11, D', m'⟩, by omega, by omega, by go_num, F1.out, rfl, rfl, by show D'.length ≤ _; omega⟩ | exact ⟨k + 1, ⟨a9, c9, D', m'⟩, ⟨a11, c11, D', m'⟩, by omega, by omega, by go_num, F2.out, rfl, rfl, by show D'.length ≤ _; omega⟩
                case measure => simp [intOf]; omega
            · go_wp2_with fail
              go_roundw
              case rel => exact ⟨k + 1, ⟨a6, c6, D, m⟩, ⟨a7, c7, D, m⟩, by omega, by omega, by go_num, HLV5.out, rfl, rfl, hD⟩
              case measure => simp [intOf]; omega
      · have HTr : Hid _ := HTDu.out _ _ _ hlv
        clear hlv
        have q0 : wr.cell? ⟨x5, 0, none⟩ = some (.slice (some ⟨g, 0, none⟩) C.length gc) := HTr.out.l7.c0
        have q1 : wr.cell? ⟨x5, 1, none⟩ = some (.int .i64 nn) := HTr.out.l7.c1
        have HDL := adA_len C nn 0
        have HAD : Hid (Calls Try.prog 23 #[.agg #[.slice (some ⟨g, 0, none⟩) C.length gc, .int .i64 nn], .int .i64 0] wr fun e w' => Tm wr w' e (adA C nn 0).1 (adA C nn 0).2.1 (adA C nn 0).2.2) := adapt_both HTr.out.l7.sl (by show C.length ≤ _; omega)
        have HAR : Hid (∀ u, Td w u x5 w.heap.size v0.heap.size g gc a c C nn → Calls Try.prog 24 #[.agg #[.slice a C.length c, .int .i64 nn], .int .i64 0] u fun e w' => Tm u w' e (adA C nn 0).1 (adA C nn 0).2.1 (adA C nn 0).2.2) := fun u hu => radapt_both hu.l3.sl (by show C.length ≤ _; omega)
        generalize adA C nn 0 = R at *
        obtain ⟨D', m', x'⟩ := R
        simp only at HDL HAD HAR
        clear HTDu HLC
        by_cases hkl : (k : Int) < (l.length : Int)
        all_goals
          first
            | (have b1 : ¬ (k : Int) < 60 := by omega)
            | skip
          go_wp2_with fail
          refine HAD.out.mono ?_
          rintro e w2 ⟨a13, c13, rfl, ho, hb⟩
          have HN13 : Hid (Nt wr (w2.alloc (.cells #[.slice a13 D'.length c13, .int .i64 m'] 24)) w2.heap.size ⟨a13, c13, D', m'⟩) := Nt.callFirst (u := wr) (t := ⟨a13, c13, D', m'⟩) (Below.refl _ _) ho hb
          have HT2 : Hid _ := HTr.out.to HN13.out.b
          clear ho hb q0 q1
          have q0 : (w2.alloc (.cells #[.slice a13 D'.length c13, .int .i64 m'] 24)).cell? ⟨w.heap.size, 0, none⟩ = some (.slice a C.length c) := HT2.out.l3.c0
          have q1 : (w2.alloc (.cells #[.slice a13 D'.length c13, .int .i64 m'] 24)).cell? ⟨w.heap.size, 1, none⟩ = some (.int .i64 nn) := HT2.out.l3.c1
          go_wp2_with fail
          generalize (w2.alloc (.cells #[.slice a13 D'.length c13, .int .i64 m'] 24)) = v2 at *
          generalize w2.heap.size = x13 at *
          refine (HAR.out _ HT2.out).mono ?_
          rintro e w3 ⟨a15, c15, rfl, ho, hb⟩
          have HN15 : Hid (Nt v2 (w3.alloc (.cells #[.slice a15 D'.length c15, .int .i64 m'] 24)) w3.heap.size ⟨a15, c15, D', m'⟩) := Nt.callFirst (u := v2) (t := ⟨a15, c15, D', m'⟩) (Below.refl _ _) ho hb
          have HT3 : Hid _ := HT2.out.to HN15.out.b
          clear ho hb q0 q1
          have HL13 : Hid (Loc (w3.alloc (.cells #[.slice a15 D'.length c15, .int .i64 m'] 24)) x13 ⟨a13, c13, D', m'⟩) := HN13.out.l.to HN15.out.b
          have q0 : (w3.alloc (.cells #[.slice a15 D'.length c15, .int .i64 m'] 24)).cell? ⟨x13, 0, none⟩ = some (.slice a13 D'.length c13) := HL13.out.c0
          have q1 : (w3.alloc (.cells #[.slice a15 D'.length c15, .int .i64 m'] 24)).cell? ⟨x13, 1, none⟩ = some (.int .i64 m') := HL13.out.c1
          have q2 : (w3.alloc (.cells #[.slice a15 D'.length c15, .int .i64 m'] 24)).cell? ⟨w3.heap.size, 0, none⟩ = some (.slice a15 D'.length c15) := HN15.out.l.c0
          have q3 : (w3.alloc (.cells #[.slice a15 D'.length c15, .int .i64 m'] 24)).cell? ⟨w3.heap.size, 1, none⟩ = some (.int .i64 m') := HN15.out.l.c1
          have HO13 : Hid ((w3.alloc (.cells #[.slice a15 D'.length c15, .int .i64 m'] 24)).ownsRow wr.heap.size 49 1 (.slice a13 D'.length c13) D'.length (ns .u16 D')) := own_below HN13.out.own HN15.out.b
          have HB3 : Hid (Below wr.heap.size wr (w3.alloc (.cells #[.slice a15 D'.length c15, .int .i64 m'] 24))) := below_to HN13.out.b HN15.out.b
          go_wp2_with fail
          generalize (w3.alloc (.cells #[.slice a15 D'.length c15, .int .i64 m'] 24)) = v3 at *
          generalize w3.heap.size = x15 at *
          refine (told_true HO13.out HN15.out.l.sl (by omega) HB3.out.size).mono ?_
          rintro e w4 ⟨rfl, hg⟩
          have HT4 : Hid _ := HTr.out.to (HB3.out.trans (grown_below hg HB3.out.size (fun g' hg' => (HO13.out.lt g' hg').1)))
          clear hg q0 q1 q2 q3
          have q0 : w4.cell? ⟨x5, 0, none⟩ = some (.slice (some ⟨g, 0, none⟩) C.length gc) := HT4.out.l7.c0
          have q1 : w4.cell? ⟨x5, 1, none⟩ = some (.int .i64 nn) := HT4.out.l7.c1
          have q2 : w4.cell? ⟨w.heap.size, 0, none⟩ = some (.slice a C.length c) := HT4.out.l3.c0
          have q3 : w4.cell? ⟨w.heap.size, 1, none⟩ = some (.int .i64 nn) := HT4.out.l3.c1
          go_wp2_with fail
          refine (kept_true HT4.out.cp HT4.out.l3.sl (by show C.length ≤ _; omega)).mono ?_
          rintro e w8 ⟨rfl, hb⟩
          have HB8 : Hid (Below w.heap.size w w8) := below_to HT4.out.b hb
          clear hb
          go_wp2_with fail
          refine (works_true _).mono ?_
          rintro e w9 ⟨rfl, hb⟩
          have HB9 : Hid (Below w.heap.size w w9) := below_to HB8.out hb
          clear hb
          go_wp2_with fail
          go_ret
          exact ⟨rfl, HB9.out⟩

end Go.Proofs.Ytpijgdfhkmailaa
