/- DERIVED. The walk of Steps. -/
import Derived.Test.YtaliaoapbjbfaaaQi
namespace Go.Proofs.Ytaliaoapbjbfaaa
open Go.RowKit

/-- a header's base and deltas may be -/
def OkH (B d0 d1 d2 d3 d4 : Int) : Prop := OkB B d0 ∧ OkB B d1 ∧ OkB B d2 ∧ OkB B d3 ∧ OkB B d4
instance (B d0 d1 d2 d3 d4 : Int) : Decidable (OkH B d0 d1 d2 d3 d4) := by unfold OkH; infer_instance
def sp (B d0 d1 d2 d3 d4 x p : Int) : Int := if OkH B d0 d1 d2 d3 d4 then stA B x p else 0
def spE (B d0 d1 d2 d3 d4 : Int) : Int := if OkH B d0 d1 d2 d3 d4 then 0 else 2
/-- what Steps answers -/
def spA (B d0 d1 d2 d3 d4 : Int) : Array Value := #[.int .i64 (sp B d0 d1 d2 d3 d4 d0 96), .int .i64 (sp B d0 d1 d2 d3 d4 0 48), .int .i64 (sp B d0 d1 d2 d3 d4 d1 96), .int .i64 (sp B d0 d1 d2 d3 d4 d2 48), .int .i64 (sp B d0 d1 d2 d3 d4 d3 96), .int .i64 (sp B d0 d1 d2 d3 d4 d4 48)]
theorem spA_ok {B d0 d1 d2 d3 d4 : Int} (h : OkH B d0 d1 d2 d3 d4) : spA B d0 d1 d2 d3 d4 = #[.int .i64 (stA B d0 96), .int .i64 (stA B 0 48), .int .i64 (stA B d1 96), .int .i64 (stA B d2 48), .int .i64 (stA B d3 96), .int .i64 (stA B d4 48)] := by unfold spA sp; simp only [if_pos h]
theorem spA_no {B d0 d1 d2 d3 d4 : Int} (h : ¬ OkH B d0 d1 d2 d3 d4) : spA B d0 d1 d2 d3 d4 = #[.int .i64 0, .int .i64 0, .int .i64 0, .int .i64 0, .int .i64 0, .int .i64 0] := by unfold spA sp; simp only [if_neg h]
theorem spE_ok {B d0 d1 d2 d3 d4 : Int} (h : OkH B d0 d1 d2 d3 d4) : spE B d0 d1 d2 d3 d4 = 0 := if_pos h
theorem spE_no {B d0 d1 d2 d3 d4 : Int} (h : ¬ OkH B d0 d1 d2 d3 d4) : spE B d0 d1 d2 d3 d4 = 2 := if_neg h
/-- while Steps walks: the header's base, what is answered, what is gathered -/
structure Sw (w v : World) (B : Int) (L : List Int) : Prop where
  base : v.cell? ⟨w.heap.size, 9, none⟩ = some (.int .i64 B)
  res : Ri 33 v (w.heap.size + 1) [0, 0, 0, 0, 0, 0]
  all : Ri 33 v (w.heap.size + 3) L
  big : w.heap.size + 4 ≤ v.heap.size
  bel : Below w.heap.size w v
theorem Sw.alloc {w v : World} {B : Int} {L : List Int} (h : Sw w v B L) (o : Obj) : Sw w (v.alloc o) B L :=
  have hb : Below v.heap.size v (v.alloc o) := from_alloc v o
  have := h.big
  ⟨by rw [newCell hb _ _ (by omega)]; exact h.base, h.res.to hb, h.all.to hb, Nat.le_trans h.big hb.size, h.bel.trans (hb.mono (by omega))⟩
theorem Sw.put {w v : World} {B : Int} {L : List Int} (h : Sw w v B L) (k : Nat) (x : Int) : Sw w (v.setCell ⟨w.heap.size + 3, k, none⟩ (.int .i64 x)) B (L.set k x) :=
  ⟨by rw [World.cell?_setCell_other _ _ _ _ (by simp)]; exact h.base, h.res.far (by show w.heap.size + 1 ≠ w.heap.size + 3; omega) _, h.all.set k x, by simpa using h.big, below_set h.bel (by show w.heap.size ≤ w.heap.size + 3; omega) _⟩
/-- what is gathered behind k planes, and what may be -/
def stl (B d0 d1 d2 d3 d4 : Int) (k : Nat) : List Int := match k with
  | 0 => [0, 0, 0, 0, 0, 0]
  | 1 => [stA B d0 96, stA B 0 48, 0, 0, 0, 0]
  | 2 => [stA B d0 96, stA B 0 48, stA B d1 96, stA B d2 48, 0, 0]
  | _ => [stA B d0 96, stA B 0 48, stA B d1 96, stA B d2 48, stA B d3 96, stA B d4 48]
def okk (B d0 d1 d2 d3 d4 : Int) (k : Nat) : Prop := match k with
  | 0 => True
  | 1 => OkB B d0
  | 2 => OkB B d0 ∧ OkB B d1 ∧ OkB B d2
  | _ => OkH B d0 d1 d2 d3 d4
structure Sk (w v : World) (B d0 d1 d2 d3 d4 : Int) (k : Nat) : Prop where
  s : Sw w v B (stl B d0 d1 d2 d3 d4 k)
  o : okk B d0 d1 d2 d3 d4 k
theorem stE_ok {b d : Int} (h : OkB b d) : stE b d = 0 := if_pos h
theorem stE_no {b d : Int} (h : ¬ OkB b d) : stE b d = 2 := if_neg h
theorem okB_zero {b d : Int} (h : OkB b d) : OkB b 0 := ⟨h.1, h.2.1, by omega, by omega⟩

theorem idx0 (v0 v1 v2 v3 v4 v5 : Value) (w : World) : (Instr.index 33 (.agg #[v0, v1, v2, v3, v4, v5]) (.int .i64 0)).run Try.prog w = .ok (.agg #[v0, v1]) w := by rfl
theorem idx1 (v0 v1 v2 v3 v4 v5 : Value) (w : World) : (Instr.index 33 (.agg #[v0, v1, v2, v3, v4, v5]) (.int .i64 1)).run Try.prog w = .ok (.agg #[v2, v3]) w := by rfl
theorem idx2 (v0 v1 v2 v3 v4 v5 : Value) (w : World) : (Instr.index 33 (.agg #[v0, v1, v2, v3, v4, v5]) (.int .i64 2)).run Try.prog w = .ok (.agg #[v4, v5]) w := by rfl
set_option maxRecDepth 100000 in
set_option maxHeartbeats 4000000 in
theorem steps_any {w : World} {c0 c1 c2 c3 c4 c5 c6 c7 c8 c15 c16 c17 c18 c19 c20 c21 c22 c23 c24 c25 c26 c27 c28 c29 : Value} {B d0 d1 d2 d3 d4 : Int} : Calls Try.prog 13 #[.agg #[c0, c1, c2, c3, c4, c5, c6, c7, c8, .int .i64 B, .int .i64 d0, .int .i64 d1, .int .i64 d2, .int .i64 d3, .int .i64 d4, c15, c16, c17, c18, c19, c20, c21, c22, c23, c24, c25, c26, c27, c28, c29]] w fun e w' => e = .returned (.tuple #[.agg (spA B d0 d1 d2 d3 d4), .int .i64 (spE B d0 d1 d2 d3 d4)]) ∧ Below w.heap.size w w' := by
  go_enter Try.func13, Try.ntmps13
  go_wp2_with fail
  go_loopw [27] (fun i wr => ∃ k : Nat, k ≤ 3 ∧ i = .int .i64 k ∧ Hid (Sk w wr B d0 d1 d2 d3 d4 k)) (fun i _ => 3 - (intOf i).toNat)
  case atStart =>
    refine ⟨0, by omega, rfl, ⟨⟨?_, ?_, ?_, ?_, ?_⟩, trivial⟩⟩
    · rw [newCell (from_alloc _ _) _ _ (by simp <;> omega), newCell (from_alloc _ _) _ _ (by simp <;> omega), newCell (from_alloc _ _) _ _ (by simp)]
      simp only [World.cell?, heap_alloc_new]
      rfl
    · exact ((Ri.built 33 (w.alloc _) [0, 0, 0, 0, 0, 0] (by simp)).to (from_alloc _ _)).to (from_alloc _ _)
    · exact Ri.built 33 _ [0, 0, 0, 0, 0, 0] (by simp)
    · simp
    · exact to_alloc (to_alloc (to_alloc (from_alloc w _) _) _) _
  case round =>
    obtain ⟨k, hk, rfl, H⟩ := hrel
    rename_i wr
    have hcase : k = 0 ∨ k = 1 ∨ k = 2 ∨ k = 3 := by omega
    rcases hcase with rfl | rfl | rfl | rfl
    · have HU : Hid (Sw w (wr.alloc (Obj.cells #[.int .i64 d0, .int .i64 0] 32)) B [0, 0, 0, 0, 0, 0]) := H.out.s.alloc _
      have HO : Hid (True) := H.out.o
      have c0 : (wr.alloc (Obj.cells #[.int .i64 d0, .int .i64 0] 32)).cell? ⟨wr.heap.size, 0, none⟩ = some (.int .i64 d0) := by simp only [World.cell?, heap_alloc_new]; rfl
      have c1 : (wr.alloc (Obj.cells #[.int .i64 d0, .int .i64 0] 32)).cell? ⟨wr.heap.size, 1, none⟩ = some (.int .i64 0) := by simp only [World.cell?, heap_alloc_new]; rfl
      have cb := HU.out.base
      have hix : ∀ x : World, (Instr.index 33 (.agg #[.int .i64 d0, .int .i64 0, .int .i64 d1, .int .i64 d2, .int .i64 d3, .int .i64 d4]) (.int .i64 0)).run Try.prog x = .ok (.agg #[.int .i64 d0, .int .i64 0]) x := fun x => idx0 _ _ _ _ _ _ x
      go_wp2_with fail
      generalize wr.alloc (Obj.cells #[.int .i64 d0, .int .i64 0] 32) = u at *
      have hbig := HU.out.big
      refine dc_any.mono ?_
      rintro e w' ⟨rfl, rfl⟩
      by_cases hp : OkB B d0
      · rw [stE_ok hp]
        go_wp2_with fail
        refine ac_any.mono ?_
        rintro e w' ⟨rfl, rfl⟩
        rw [stE_ok (okB_zero hp)]
        have f0 := HU.out.all.thaw 0
        have f1 := HU.out.all.thaw 1
        have g0 := HU.out.all.cell 0 (by show 0 < 6; omega)
        have g1 := HU.out.all.cell 1 (by show 1 < 6; omega)
        have HP : Hid (Sw w ((w'.setCell ⟨w.heap.size + 3, 0, none⟩ (.int .i64 (stA B d0 96))).setCell ⟨w.heap.size + 3, 1, none⟩ (.int .i64 (stA B 0 48))) B [stA B d0 96, stA B 0 48, 0, 0, 0, 0]) := (HU.out.put 0 (stA B d0 96)).put 1 (stA B 0 48)
        go_wp2_with fail
        go_roundw
        case rel => exact ⟨1, by omega, by go_num, ⟨HP.out, hp⟩⟩
        case measure => simp [intOf]
      · rw [stE_no hp]
        have HN : Hid (¬ OkH B d0 d1 d2 d3 d4) := fun h => hp h.1
        have f0 := HU.out.res.thaw 0
        have f1 := HU.out.res.thaw 1
        have f2 := HU.out.res.thaw 2
        have f3 := HU.out.res.thaw 3
        have f4 := HU.out.res.thaw 4
        have f5 := HU.out.res.thaw 5
        have g0 := HU.out.res.cell 0 (by decide)
        have g1 := HU.out.res.cell 1 (by decide)
        have g2 := HU.out.res.cell 2 (by decide)
        have g3 := HU.out.res.cell 3 (by decide)
        have g4 := HU.out.res.cell 4 (by decide)
        have g5 := HU.out.res.cell 5 (by decide)
        have HR : Hid (Ri 33 ((((((w'.setCell ⟨w.heap.size + 1, 0, none⟩ (.int .i64 (0))).setCell ⟨w.heap.size + 1, 1, none⟩ (.int .i64 (0))).setCell ⟨w.heap.size + 1, 2, none⟩ (.int .i64 (0))).setCell ⟨w.heap.size + 1, 3, none⟩ (.int .i64 (0))).setCell ⟨w.heap.size + 1, 4, none⟩ (.int .i64 (0))).setCell ⟨w.heap.size + 1, 5, none⟩ (.int .i64 (0))) (w.heap.size + 1) [0, 0, 0, 0, 0, 0]) := ((((((HU.out.res.set 0 (0)).set 1 (0)).set 2 (0)).set 3 (0)).set 4 (0)).set 5 (0))
        have HBE : Hid (Below w.heap.size w ((((((w'.setCell ⟨w.heap.size + 1, 0, none⟩ (.int .i64 (0))).setCell ⟨w.heap.size + 1, 1, none⟩ (.int .i64 (0))).setCell ⟨w.heap.size + 1, 2, none⟩ (.int .i64 (0))).setCell ⟨w.heap.size + 1, 3, none⟩ (.int .i64 (0))).setCell ⟨w.heap.size + 1, 4, none⟩ (.int .i64 (0))).setCell ⟨w.heap.size + 1, 5, none⟩ (.int .i64 (0)))) := (below_set (below_set (below_set (below_set (below_set (below_set HU.out.bel (by show w.heap.size ≤ w.heap.size + 1; omega) _) (by show w.heap.size ≤ w.heap.size + 1; omega) _) (by show w.heap.size ≤ w.heap.size + 1; omega) _) (by show w.heap.size ≤ w.heap.size + 1; omega) _) (by show w.heap.size ≤ w.heap.size + 1; omega) _) (by show w.heap.size ≤ w.heap.size + 1; omega) _)
        go_wp2_with fail
        generalize ((((((w'.setCell ⟨w.heap.size + 1, 0, none⟩ (.int .i64 (0))).setCell ⟨w.heap.size + 1, 1, none⟩ (.int .i64 (0))).setCell ⟨w.heap.size + 1, 2, none⟩ (.int .i64 (0))).setCell ⟨w.heap.size + 1, 3, none⟩ (.int .i64 (0))).setCell ⟨w.heap.size + 1, 4, none⟩ (.int .i64 (0))).setCell ⟨w.heap.size + 1, 5, none⟩ (.int .i64 (0))) = vv at *
        have r0 : vv.cell? ⟨w.heap.size + 1, 0, none⟩ = some (.int .i64 (0)) := HR.out.cell 0 (by show 0 < 6; omega)
        have r1 : vv.cell? ⟨w.heap.size + 1, 1, none⟩ = some (.int .i64 (0)) := HR.out.cell 1 (by show 1 < 6; omega)
        have r2 : vv.cell? ⟨w.heap.size + 1, 2, none⟩ = some (.int .i64 (0)) := HR.out.cell 2 (by show 2 < 6; omega)
        have r3 : vv.cell? ⟨w.heap.size + 1, 3, none⟩ = some (.int .i64 (0)) := HR.out.cell 3 (by show 3 < 6; omega)
        have r4 : vv.cell? ⟨w.heap.size + 1, 4, none⟩ = some (.int .i64 (0)) := HR.out.cell 4 (by show 4 < 6; omega)
        have r5 : vv.cell? ⟨w.heap.size + 1, 5, none⟩ = some (.int .i64 (0)) := HR.out.cell 5 (by show 5 < 6; omega)
        try simp only [Exit.inBlock, Exit.then]
        refine bodyPost_ret (by simp [results, Try.results13, go_sem, r0, r1, r2, r3, r4, r5]; try rfl) rfl ?_
        exact ⟨by rw [spA_no HN.out, spE_no HN.out], HBE.out⟩
    · have HU : Hid (Sw w (wr.alloc (Obj.cells #[.int .i64 d1, .int .i64 d2] 32)) B [stA B d0 96, stA B 0 48, 0, 0, 0, 0]) := H.out.s.alloc _
      have HO : Hid (OkB B d0) := H.out.o
      have c0 : (wr.alloc (Obj.cells #[.int .i64 d1, .int .i64 d2] 32)).cell? ⟨wr.heap.size, 0, none⟩ = some (.int .i64 d1) := by simp only [World.cell?, heap_alloc_new]; rfl
      have c1 : (wr.alloc (Obj.cells #[.int .i64 d1, .int .i64 d2] 32)).cell? ⟨wr.heap.size, 1, none⟩ = some (.int .i64 d2) := by simp only [World.cell?, heap_alloc_new]; rfl
      have cb := HU.out.base
      have hix : ∀ x : World, (Instr.index 33 (.agg #[.int .i64 d0, .int .i64 0, .int .i64 d1, .int .i64 d2, .int .i64 d3, .int .i64 d4]) (.int .i64 1)).run Try.prog x = .ok (.agg #[.int .i64 d1, .int .i64 d2]) x := fun x => idx1 _ _ _ _ _ _ x
      go_wp2_with fail
      generalize wr.alloc (Obj.cells #[.int .i64 d1, .int .i64 d2] 32) = u at *
      have hbig := HU.out.big
      refine dc_any.mono ?_
      rintro e w' ⟨rfl, rfl⟩
      by_cases hp : OkB B d1
      · rw [stE_ok hp]
        go_wp2_with fail
        refine ac_any.mono ?_
        rintro e w' ⟨rfl, rfl⟩
        by_cases hq : OkB B d2
        · rw [stE_ok hq]
          have f0 := HU.out.all.thaw 2
          have f1 := HU.out.all.thaw 3
          have g0 := HU.out.all.cell 2 (by show 2 < 6; omega)
          have g1 := HU.out.all.cell 3 (by show 3 < 6; omega)
          have HP : Hid (Sw w ((w'.setCell ⟨w.heap.size + 3, 2, none⟩ (.int .i64 (stA B d1 96))).setCell ⟨w.heap.size + 3, 3, none⟩ (.int .i64 (stA B d2 48))) B [stA B d0 96, stA B 0 48, stA B d1 96, stA B d2 48, 0, 0]) := (HU.out.put 2 (stA B d1 96)).put 3 (stA B d2 48)
          go_wp2_with fail
          go_roundw
          case rel => exact ⟨2, by omega, by go_num, ⟨HP.out, ⟨HO.out, hp, hq⟩⟩⟩
          case measure => simp [intOf]
        · rw [stE_no hq]
          have HN : Hid (¬ OkH B d0 d1 d2 d3 d4) := fun h => hq h.2.2.1
          have f0 := HU.out.res.thaw 0
          have f1 := HU.out.res.thaw 1
          have f2 := HU.out.res.thaw 2
          have f3 := HU.out.res.thaw 3
          have f4 := HU.out.res.thaw 4
          have f5 := HU.out.res.thaw 5
          have g0 := HU.out.res.cell 0 (by decide)
          have g1 := HU.out.res.cell 1 (by decide)
          have g2 := HU.out.res.cell 2 (by decide)
          have g3 := HU.out.res.cell 3 (by decide)
          have g4 := HU.out.res.cell 4 (by decide)
          have g5 := HU.out.res.cell 5 (by decide)
          have HR : Hid (Ri 33 ((((((w'.setCell ⟨w.heap.size + 1, 0, none⟩ (.int .i64 (0))).setCell ⟨w.heap.size + 1, 1, none⟩ (.int .i64 (0))).setCell ⟨w.heap.size + 1, 2, none⟩ (.int .i64 (0))).setCell ⟨w.heap.size + 1, 3, none⟩ (.int .i64 (0))).setCell ⟨w.heap.size + 1, 4, none⟩ (.int .i64 (0))).setCell ⟨w.heap.size + 1, 5, none⟩ (.int .i64 (0))) (w.heap.size + 1) [0, 0, 0, 0, 0, 0]) := ((((((HU.out.res.set 0 (0)).set 1 (0)).set 2 (0)).set 3 (0)).set 4 (0)).set 5 (0))
          have HBE : Hid (Below w.heap.size w ((((((w'.setCell ⟨w.heap.size + 1, 0, none⟩ (.int .i64 (0))).setCell ⟨w.heap.size + 1, 1, none⟩ (.int .i64 (0))).setCell ⟨w.heap.size + 1, 2, none⟩ (.int .i64 (0))).setCell ⟨w.heap.size + 1, 3, none⟩ (.int .i64 (0))).setCell ⟨w.heap.size + 1, 4, none⟩ (.int .i64 (0))).setCell ⟨w.heap.size + 1, 5, none⟩ (.int .i64 (0)))) := (below_set (below_set (below_set (below_set (below_set (below_set HU.out.bel (by show w.heap.size ≤ w.heap.size + 1; omega) _) (by show w.heap.size ≤ w.heap.size + 1; omega) _) (by show w.heap.size ≤ w.heap.size + 1; omega) _) (by show w.heap.size ≤ w.heap.size + 1; omega) _) (by show w.heap.size ≤ w.heap.size + 1; omega) _) (by show w.heap.size ≤ w.heap.size + 1; omega) _)
          go_wp2_with fail
          generalize ((((((w'.setCell ⟨w.heap.size + 1, 0, none⟩ (.int .i64 (0))).setCell ⟨w.heap.size + 1, 1, none⟩ (.int .i64 (0))).setCell ⟨w.heap.size + 1, 2, none⟩ (.int .i64 (0))).setCell ⟨w.heap.size + 1, 3, none⟩ (.int .i64 (0))).setCell ⟨w.heap.size + 1, 4, none⟩ (.int .i64 (0))).setCell ⟨w.heap.size + 1, 5, none⟩ (.int .i64 (0))) = vv at *
          have r0 : vv.cell? ⟨w.heap.size + 1, 0, none⟩ = some (.int .i64 (0)) := HR.out.cell 0 (by show 0 < 6; omega)
          have r1 : vv.cell? ⟨w.heap.size + 1, 1, none⟩ = some (.int .i64 (0)) := HR.out.cell 1 (by show 1 < 6; omega)
          have r2 : vv.cell? ⟨w.heap.size + 1, 2, none⟩ = some (.int .i64 (0)) := HR.out.cell 2 (by show 2 < 6; omega)
          have r3 : vv.cell? ⟨w.heap.size + 1, 3, none⟩ = some (.int .i64 (0)) := HR.out.cell 3 (by show 3 < 6; omega)
          have r4 : vv.cell? ⟨w.heap.size + 1, 4, none⟩ = some (.int .i64 (0)) := HR.out.cell 4 (by show 4 < 6; omega)
          have r5 : vv.cell? ⟨w.heap.size + 1, 5, none⟩ = some (.int .i64 (0)) := HR.out.cell 5 (by show 5 < 6; omega)
          try simp only [Exit.inBlock, Exit.then]
          refine bodyPost_ret (by simp [results, Try.results13, go_sem, r0, r1, r2, r3, r4, r5]; try rfl) rfl ?_
          exact ⟨by rw [spA_no HN.out, spE_no HN.out], HBE.out⟩
      · rw [stE_no hp]
        have HN : Hid (¬ OkH B d0 d1 d2 d3 d4) := fun h => hp h.2.1
        have f0 := HU.out.res.thaw 0
        have f1 := HU.out.res.thaw 1
        have f2 := HU.out.res.thaw 2
        have f3 := HU.out.res.thaw 3
        have f4 := HU.out.res.thaw 4
        have f5 := HU.out.res.thaw 5
        have g0 := HU.out.res.cell 0 (by decide)
        have g1 := HU.out.res.cell 1 (by decide)
        have g2 := HU.out.res.cell 2 (by decide)
        have g3 := HU.out.res.cell 3 (by decide)
        have g4 := HU.out.res.cell 4 (by decide)
        have g5 := HU.out.res.cell 5 (by decide)
        have HR : Hid (Ri 33 ((((((w'.setCell ⟨w.heap.size + 1, 0, none⟩ (.int .i64 (0))).setCell ⟨w.heap.size + 1, 1, none⟩ (.int .i64 (0))).setCell ⟨w.heap.size + 1, 2, none⟩ (.int .i64 (0))).setCell ⟨w.heap.size + 1, 3, none⟩ (.int .i64 (0))).setCell ⟨w.heap.size + 1, 4, none⟩ (.int .i64 (0))).setCell ⟨w.heap.size + 1, 5, none⟩ (.int .i64 (0))) (w.heap.size + 1) [0, 0, 0, 0, 0, 0]) := ((((((HU.out.res.set 0 (0)).set 1 (0)).set 2 (0)).set 3 (0)).set 4 (0)).set 5 (0))
        have HBE : Hid (Below w.heap.size w ((((((w'.setCell ⟨w.heap.size + 1, 0, none⟩ (.int .i64 (0))).setCell ⟨w.heap.size + 1, 1, none⟩ (.int .i64 (0))).setCell ⟨w.heap.size + 1, 2, none⟩ (.int .i64 (0))).setCell ⟨w.heap.size + 1, 3, none⟩ (.int .i64 (0))).setCell ⟨w.heap.size + 1, 4, none⟩ (.int .i64 (0))).setCell ⟨w.heap.size + 1, 5, none⟩ (.int .i64 (0)))) := (below_set (below_set (below_set (below_set (below_set (below_set HU.out.bel (by show w.heap.size ≤ w.heap.size + 1; omega) _) (by show w.heap.size ≤ w.heap.size + 1; omega) _) (by show w.heap.size ≤ w.heap.size + 1; omega) _) (by show w.heap.size ≤ w.heap.size + 1; omega) _) (by show w.heap.size ≤ w.heap.size + 1; omega) _) (by show w.heap.size ≤ w.heap.size + 1; omega) _)
        go_wp2_with fail
        generalize ((((((w'.setCell ⟨w.heap.size + 1, 0, none⟩ (.int .i64 (0))).setCell ⟨w.heap.size + 1, 1, none⟩ (.int .i64 (0))).setCell ⟨w.heap.size + 1, 2, none⟩ (.int .i64 (0))).setCell ⟨w.heap.size + 1, 3, none⟩ (.int .i64 (0))).setCell ⟨w.heap.size + 1, 4, none⟩ (.int .i64 (0))).setCell ⟨w.heap.size + 1, 5, none⟩ (.int .i64 (0))) = vv at *
        have r0 : vv.cell? ⟨w.heap.size + 1, 0, none⟩ = some (.int .i64 (0)) := HR.out.cell 0 (by show 0 < 6; omega)
        have r1 : vv.cell? ⟨w.heap.size + 1, 1, none⟩ = some (.int .i64 (0)) := HR.out.cell 1 (by show 1 < 6; omega)
        have r2 : vv.cell? ⟨w.heap.size + 1, 2, none⟩ = some (.int .i64 (0)) := HR.out.cell 2 (by show 2 < 6; omega)
        have r3 : vv.cell? ⟨w.heap.size + 1, 3, none⟩ = some (.int .i64 (0)) := HR.out.cell 3 (by show 3 < 6; omega)
        have r4 : vv.cell? ⟨w.heap.size + 1, 4, none⟩ = some (.int .i64 (0)) := HR.out.cell 4 (by show 4 < 6; omega)
        have r5 : vv.cell? ⟨w.heap.size + 1, 5, none⟩ = some (.int .i64 (0)) := HR.out.cell 5 (by show 5 < 6; omega)
        try simp only [Exit.inBlock, Exit.then]
        refine bodyPost_ret (by simp [results, Try.results13, go_sem, r0, r1, r2, r3, r4, r5]; try rfl) rfl ?_
        exact ⟨by rw [spA_no HN.out, spE_no HN.out], HBE.out⟩
    · have HU : Hid (Sw w (wr.alloc (Obj.cells #[.int .i64 d3, .int .i64 d4] 32)) B [stA B d0 96, stA B 0 48, stA B d1 96, stA B d2 48, 0, 0]) := H.out.s.alloc _
      have HO : Hid (OkB B d0 ∧ OkB B d1 ∧ OkB B d2) := H.out.o
      have c0 : (wr.alloc (Obj.cells #[.int .i64 d3, .int .i64 d4] 32)).cell? ⟨wr.heap.size, 0, none⟩ = some (.int .i64 d3) := by simp only [World.cell?, heap_alloc_new]; rfl
      have c1 : (wr.alloc (Obj.cells #[.int .i64 d3, .int .i64 d4] 32)).cell? ⟨wr.heap.size, 1, none⟩ = some (.int .i64 d4) := by simp only [World.cell?, heap_alloc_new]; rfl
      have cb := HU.out.base
      have hix : ∀ x : World, (Instr.index 33 (.agg #[.int .i64 d0, .int .i64 0, .int .i64 d1, .int .i64 d2, .int .i64 d3, .int .i64 d4]) (.int .i64 2)).run Try.prog x = .ok (.agg #[.int .i64 d3, .int .i64 d4]) x := fun x => idx2 _ _ _ _ _ _ x
      go_wp2_with fail
      generalize wr.alloc (Obj.cells #[.int .i64 d3, .int .i64 d4] 32) = u at *
      have hbig := HU.out.big
      refine dc_any.mono ?_
      rintro e w' ⟨rfl, rfl⟩
      by_cases hp : OkB B d3
      · rw [stE_ok hp]
        go_wp2_with fail
        refine ac_any.mono ?_
        rintro e w' ⟨rfl, rfl⟩
        by_cases hq : OkB B d4
        · rw [stE_ok hq]
          have f0 := HU.out.all.thaw 4
          have f1 := HU.out.all.thaw 5
          have g0 := HU.out.all.cell 4 (by show 4 < 6; omega)
          have g1 := HU.out.all.cell 5 (by show 5 < 6; omega)
          have HP : Hid (Sw w ((w'.setCell ⟨w.heap.size + 3, 4, none⟩ (.int .i64 (stA B d3 96))).setCell ⟨w.heap.size + 3, 5, none⟩ (.int .i64 (stA B d4 48))) B [stA B d0 96, stA B 0 48, stA B d1 96, stA B d2 48, stA B d3 96, stA B d4 48]) := (HU.out.put 4 (stA B d3 96)).put 5 (stA B d4 48)
          go_wp2_with fail
          go_roundw
          case rel => exact ⟨3, by omega, by go_num, ⟨HP.out, ⟨HO.out.1, HO.out.2.1, HO.out.2.2, hp, hq⟩⟩⟩
          case measure => simp [intOf]
        · rw [stE_no hq]
          have HN : Hid (¬ OkH B d0 d1 d2 d3 d4) := fun h => hq h.2.2.2.2
          have f0 := HU.out.res.thaw 0
          have f1 := HU.out.res.thaw 1
          have f2 := HU.out.res.thaw 2
          have f3 := HU.out.res.thaw 3
          have f4 := HU.out.res.thaw 4
          have f5 := HU.out.res.thaw 5
          have g0 := HU.out.res.cell 0 (by decide)
          have g1 := HU.out.res.cell 1 (by decide)
          have g2 := HU.out.res.cell 2 (by decide)
          have g3 := HU.out.res.cell 3 (by decide)
          have g4 := HU.out.res.cell 4 (by decide)
          have g5 := HU.out.res.cell 5 (by decide)
          have HR : Hid (Ri 33 ((((((w'.setCell ⟨w.heap.size + 1, 0, none⟩ (.int .i64 (0))).setCell ⟨w.heap.size + 1, 1, none⟩ (.int .i64 (0))).setCell ⟨w.heap.size + 1, 2, none⟩ (.int .i64 (0))).setCell ⟨w.heap.size + 1, 3, none⟩ (.int .i64 (0))).setCell ⟨w.heap.size + 1, 4, none⟩ (.int .i64 (0))).setCell ⟨w.heap.size + 1, 5, none⟩ (.int .i64 (0))) (w.heap.size + 1) [0, 0, 0, 0, 0, 0]) := ((((((HU.out.res.set 0 (0)).set 1 (0)).set 2 (0)).set 3 (0)).set 4 (0)).set 5 (0))
          have HBE : Hid (Below w.heap.size w ((((((w'.setCell ⟨w.heap.size + 1, 0, none⟩ (.int .i64 (0))).setCell ⟨w.heap.size + 1, 1, none⟩ (.int .i64 (0))).setCell ⟨w.heap.size + 1, 2, none⟩ (.int .i64 (0))).setCell ⟨w.heap.size + 1, 3, none⟩ (.int .i64 (0))).setCell ⟨w.heap.size + 1, 4, none⟩ (.int .i64 (0))).setCell ⟨w.heap.size + 1, 5, none⟩ (.int .i64 (0)))) := (below_set (below_set (below_set (below_set (below_set (below_set HU.out.bel (by show w.heap.size ≤ w.heap.size + 1; omega) _) (by show w.heap.size ≤ w.heap.size + 1; omega) _) (by show w.heap.size ≤ w.heap.size + 1; omega) _) (by show w.heap.size ≤ w.heap.size + 1; omega) _) (by show w.heap.size ≤ w.heap.size + 1; omega) _) (by show w.heap.size ≤ w.heap.size + 1; omega) _)
          go_wp2_with fail
          generalize ((((((w'.setCell ⟨w.heap.size + 1, 0, none⟩ (.int .i64 (0))).setCell ⟨w.heap.size + 1, 1, none⟩ (.int .i64 (0))).setCell ⟨w.heap.size + 1, 2, none⟩ (.int .i64 (0))).setCell ⟨w.heap.size + 1, 3, none⟩ (.int .i64 (0))).setCell ⟨w.heap.size + 1, 4, none⟩ (.int .i64 (0))).setCell ⟨w.heap.size + 1, 5, none⟩ (.int .i64 (0))) = vv at *
          have r0 : vv.cell? ⟨w.heap.size + 1, 0, none⟩ = some (.int .i64 (0)) := HR.out.cell 0 (by show 0 < 6; omega)
          have r1 : vv.cell? ⟨w.heap.size + 1, 1, none⟩ = some (.int .i64 (0)) := HR.out.cell 1 (by show 1 < 6; omega)
          have r2 : vv.cell? ⟨w.heap.size + 1, 2, none⟩ = some (.int .i64 (0)) := HR.out.cell 2 (by show 2 < 6; omega)
          have r3 : vv.cell? ⟨w.heap.size + 1, 3, none⟩ = some (.int .i64 (0)) := HR.out.cell 3 (by show 3 < 6; omega)
          have r4 : vv.cell? ⟨w.heap.size + 1, 4, none⟩ = some (.int .i64 (0)) := HR.out.cell 4 (by show 4 < 6; omega)
          have r5 : vv.cell? ⟨w.heap.size + 1, 5, none⟩ = some (.int .i64 (0)) := HR.out.cell 5 (by show 5 < 6; omega)
          try simp only [Exit.inBlock, Exit.then]
          refine bodyPost_ret (by simp [results, Try.results13, go_sem, r0, r1, r2, r3, r4, r5]; try rfl) rfl ?_
          exact ⟨by rw [spA_no HN.out, spE_no HN.out], HBE.out⟩
      · rw [stE_no hp]
        have HN : Hid (¬ OkH B d0 d1 d2 d3 d4) := fun h => hp h.2.2.2.1
        have f0 := HU.out.res.thaw 0
        have f1 := HU.out.res.thaw 1
        have f2 := HU.out.res.thaw 2
        have f3 := HU.out.res.thaw 3
        have f4 := HU.out.res.thaw 4
        have f5 := HU.out.res.thaw 5
        have g0 := HU.out.res.cell 0 (by decide)
        have g1 := HU.out.res.cell 1 (by decide)
        have g2 := HU.out.res.cell 2 (by decide)
        have g3 := HU.out.res.cell 3 (by decide)
        have g4 := HU.out.res.cell 4 (by decide)
        have g5 := HU.out.res.cell 5 (by decide)
        have HR : Hid (Ri 33 ((((((w'.setCell ⟨w.heap.size + 1, 0, none⟩ (.int .i64 (0))).setCell ⟨w.heap.size + 1, 1, none⟩ (.int .i64 (0))).setCell ⟨w.heap.size + 1, 2, none⟩ (.int .i64 (0))).setCell ⟨w.heap.size + 1, 3, none⟩ (.int .i64 (0))).setCell ⟨w.heap.size + 1, 4, none⟩ (.int .i64 (0))).setCell ⟨w.heap.size + 1, 5, none⟩ (.int .i64 (0))) (w.heap.size + 1) [0, 0, 0, 0, 0, 0]) := ((((((HU.out.res.set 0 (0)).set 1 (0)).set 2 (0)).set 3 (0)).set 4 (0)).set 5 (0))
        have HBE : Hid (Below w.heap.size w ((((((w'.setCell ⟨w.heap.size + 1, 0, none⟩ (.int .i64 (0))).setCell ⟨w.heap.size + 1, 1, none⟩ (.int .i64 (0))).setCell ⟨w.heap.size + 1, 2, none⟩ (.int .i64 (0))).setCell ⟨w.heap.size + 1, 3, none⟩ (.int .i64 (0))).setCell ⟨w.heap.size + 1, 4, none⟩ (.int .i64 (0))).setCell ⟨w.heap.size + 1, 5, none⟩ (.int .i64 (0)))) := (below_set (below_set (below_set (below_set (below_set (below_set HU.out.bel (by show w.heap.size ≤ w.heap.size + 1; omega) _) (by show w.heap.size ≤ w.heap.size + 1; omega) _) (by show w.heap.size ≤ w.heap.size + 1; omega) _) (by show w.heap.size ≤ w.heap.size + 1; omega) _) (by show w.heap.size ≤ w.heap.size + 1; omega) _) (by show w.heap.size ≤ w.heap.size + 1; omega) _)
        go_wp2_with fail
        generalize ((((((w'.setCell ⟨w.heap.size + 1, 0, none⟩ (.int .i64 (0))).setCell ⟨w.heap.size + 1, 1, none⟩ (.int .i64 (0))).setCell ⟨w.heap.size + 1, 2, none⟩ (.int .i64 (0))).setCell ⟨w.heap.size + 1, 3, none⟩ (.int .i64 (0))).setCell ⟨w.heap.size + 1, 4, none⟩ (.int .i64 (0))).setCell ⟨w.heap.size + 1, 5, none⟩ (.int .i64 (0))) = vv at *
        have r0 : vv.cell? ⟨w.heap.size + 1, 0, none⟩ = some (.int .i64 (0)) := HR.out.cell 0 (by show 0 < 6; omega)
        have r1 : vv.cell? ⟨w.heap.size + 1, 1, none⟩ = some (.int .i64 (0)) := HR.out.cell 1 (by show 1 < 6; omega)
        have r2 : vv.cell? ⟨w.heap.size + 1, 2, none⟩ = some (.int .i64 (0)) := HR.out.cell 2 (by show 2 < 6; omega)
        have r3 : vv.cell? ⟨w.heap.size + 1, 3, none⟩ = some (.int .i64 (0)) := HR.out.cell 3 (by show 3 < 6; omega)
        have r4 : vv.cell? ⟨w.heap.size + 1, 4, none⟩ = some (.int .i64 (0)) := HR.out.cell 4 (by show 4 < 6; omega)
        have r5 : vv.cell? ⟨w.heap.size + 1, 5, none⟩ = some (.int .i64 (0)) := HR.out.cell 5 (by show 5 < 6; omega)
        try simp only [Exit.inBlock, Exit.then]
        refine bodyPost_ret (by simp [results, Try.results13, go_sem, r0, r1, r2, r3, r4, r5]; try rfl) rfl ?_
        exact ⟨by rw [spA_no HN.out, spE_no HN.out], HBE.out⟩
    · have HU : Hid (Sw w wr B [stA B d0 96, stA B 0 48, stA B d1 96, stA B d2 48, stA B d3 96, stA B d4 48]) := H.out.s
      have HO : Hid (OkH B d0 d1 d2 d3 d4) := H.out.o
      have f0 := HU.out.res.thaw 0
      have f1 := HU.out.res.thaw 1
      have f2 := HU.out.res.thaw 2
      have f3 := HU.out.res.thaw 3
      have f4 := HU.out.res.thaw 4
      have f5 := HU.out.res.thaw 5
      have g0 := HU.out.res.cell 0 (by decide)
      have g1 := HU.out.res.cell 1 (by decide)
      have g2 := HU.out.res.cell 2 (by decide)
      have g3 := HU.out.res.cell 3 (by decide)
      have g4 := HU.out.res.cell 4 (by decide)
      have g5 := HU.out.res.cell 5 (by decide)
      have a0 := HU.out.all.cell 0 (by show 0 < 6; omega)
      have a1 := HU.out.all.cell 1 (by show 1 < 6; omega)
      have a2 := HU.out.all.cell 2 (by show 2 < 6; omega)
      have a3 := HU.out.all.cell 3 (by show 3 < 6; omega)
      have a4 := HU.out.all.cell 4 (by show 4 < 6; omega)
      have a5 := HU.out.all.cell 5 (by show 5 < 6; omega)
      have HR : Hid (Ri 33 ((((((wr.setCell ⟨w.heap.size + 1, 0, none⟩ (.int .i64 (stA B d0 96))).setCell ⟨w.heap.size + 1, 1, none⟩ (.int .i64 (stA B 0 48))).setCell ⟨w.heap.size + 1, 2, none⟩ (.int .i64 (stA B d1 96))).setCell ⟨w.heap.size + 1, 3, none⟩ (.int .i64 (stA B d2 48))).setCell ⟨w.heap.size + 1, 4, none⟩ (.int .i64 (stA B d3 96))).setCell ⟨w.heap.size + 1, 5, none⟩ (.int .i64 (stA B d4 48))) (w.heap.size + 1) [stA B d0 96, stA B 0 48, stA B d1 96, stA B d2 48, stA B d3 96, stA B d4 48]) := ((((((HU.out.res.set 0 (stA B d0 96)).set 1 (stA B 0 48)).set 2 (stA B d1 96)).set 3 (stA B d2 48)).set 4 (stA B d3 96)).set 5 (stA B d4 48))
      have HBE : Hid (Below w.heap.size w ((((((wr.setCell ⟨w.heap.size + 1, 0, none⟩ (.int .i64 (stA B d0 96))).setCell ⟨w.heap.size + 1, 1, none⟩ (.int .i64 (stA B 0 48))).setCell ⟨w.heap.size + 1, 2, none⟩ (.int .i64 (stA B d1 96))).setCell ⟨w.heap.size + 1, 3, none⟩ (.int .i64 (stA B d2 48))).setCell ⟨w.heap.size + 1, 4, none⟩ (.int .i64 (stA B d3 96))).setCell ⟨w.heap.size + 1, 5, none⟩ (.int .i64 (stA B d4 48)))) := (below_set (below_set (below_set (below_set (below_set (below_set HU.out.bel (by show w.heap.size ≤ w.heap.size + 1; omega) _) (by show w.heap.size ≤ w.heap.size + 1; omega) _) (by show w.heap.size ≤ w.heap.size + 1; omega) _) (by show w.heap.size ≤ w.heap.size + 1; omega) _) (by show w.heap.size ≤ w.heap.size + 1; omega) _) (by show w.heap.size ≤ w.heap.size + 1; omega) _)
      go_wp2_with fail
      generalize ((((((wr.setCell ⟨w.heap.size + 1, 0, none⟩ (.int .i64 (stA B d0 96))).setCell ⟨w.heap.size + 1, 1, none⟩ (.int .i64 (stA B 0 48))).setCell ⟨w.heap.size + 1, 2, none⟩ (.int .i64 (stA B d1 96))).setCell ⟨w.heap.size + 1, 3, none⟩ (.int .i64 (stA B d2 48))).setCell ⟨w.heap.size + 1, 4, none⟩ (.int .i64 (stA B d3 96))).setCell ⟨w.heap.size + 1, 5, none⟩ (.int .i64 (stA B d4 48))) = vv at *
      have r0 : vv.cell? ⟨w.heap.size + 1, 0, none⟩ = some (.int .i64 (stA B d0 96)) := HR.out.cell 0 (by show 0 < 6; omega)
      have r1 : vv.cell? ⟨w.heap.size + 1, 1, none⟩ = some (.int .i64 (stA B 0 48)) := HR.out.cell 1 (by show 1 < 6; omega)
      have r2 : vv.cell? ⟨w.heap.size + 1, 2, none⟩ = some (.int .i64 (stA B d1 96)) := HR.out.cell 2 (by show 2 < 6; omega)
      have r3 : vv.cell? ⟨w.heap.size + 1, 3, none⟩ = some (.int .i64 (stA B d2 48)) := HR.out.cell 3 (by show 3 < 6; omega)
      have r4 : vv.cell? ⟨w.heap.size + 1, 4, none⟩ = some (.int .i64 (stA B d3 96)) := HR.out.cell 4 (by show 4 < 6; omega)
      have r5 : vv.cell? ⟨w.heap.size + 1, 5, none⟩ = some (.int .i64 (stA B d4 48)) := HR.out.cell 5 (by show 5 < 6; omega)
      try simp only [Exit.inBlock, Exit.then]
      refine bodyPost_ret (by simp [results, Try.results13, go_sem, r0, r1, r2, r3, r4, r5]; try rfl) rfl ?_
      exact ⟨by rw [spA_ok HO.out, spE_ok HO.out], HBE.out⟩

end Go.Proofs.Ytaliaoapbjbfaaa
