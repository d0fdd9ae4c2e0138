/- DERIVED. The walk of the document's Steps. -/
import Derived.Test.YtaliaoapbjbfaaaQj
namespace Go.Proofs.Ytaliaoapbjbfaaa
open Go.RowKit

/-- the deltas by their places -/
def dd (d0 d1 d2 d3 d4 : Int) (k : Nat) : Int := [d0, d1, d2, d3, d4].getD k 0
/-- while the document's Steps walks: the header, what is answered -/
structure Sr (w v : World) (B d0 d1 d2 d3 d4 : Int) : Prop where
  base : v.cell? ⟨w.heap.size, 9, none⟩ = some (.int .i64 B)
  del : ∀ k, k < 5 → v.cell? ⟨w.heap.size, 10 + k, none⟩ = some (.int .i64 (dd d0 d1 d2 d3 d4 k))
  res : Ri 33 v (w.heap.size + 1) [0, 0, 0, 0, 0, 0]
  size : w.heap.size + 2 ≤ v.heap.size
  bel : Below w.heap.size w v
theorem Sr.to {w v u : World} {B d0 d1 d2 d3 d4 : Int} (h : Sr w v B d0 d1 d2 d3 d4) (hb : Below v.heap.size v u) : Sr w u B d0 d1 d2 d3 d4 :=
  have := h.size
  ⟨by rw [newCell hb _ _ (by omega)]; exact h.base, fun k hk => by rw [newCell hb _ _ (by omega)]; exact h.del k hk, h.res.to hb, Nat.le_trans h.size hb.size, h.bel.trans (hb.mono (by omega))⟩
theorem Sr.drewN {w v : World} {B d0 d1 d2 d3 d4 : Int} (h : Sr w v B d0 d1 d2 d3 d4) (n : Nat) : Sr w (v.drewN n) B d0 d1 d2 d3 d4 := h.to (below_drewN (Below.refl _ _) n)
theorem Sr.alloc {w v : World} {B d0 d1 d2 d3 d4 : Int} (h : Sr w v B d0 d1 d2 d3 d4) (o : Obj) : Sr w (v.alloc o) B d0 d1 d2 d3 d4 := h.to (from_alloc v o)
theorem Sr.far {w v : World} {B d0 d1 d2 d3 d4 : Int} (h : Sr w v B d0 d1 d2 d3 d4) {g : Nat} (hg : w.heap.size + 2 ≤ g) (k : Nat) (x : Value) : Sr w (v.setCell ⟨g, k, none⟩ x) B d0 d1 d2 d3 d4 :=
  ⟨by rw [World.cell?_setCell_other _ _ _ _ (by simp <;> omega)]; exact h.base, fun j hj => by rw [World.cell?_setCell_other _ _ _ _ (by simp <;> omega)]; exact h.del j hj, h.res.far (by show w.heap.size + 1 ≠ g; omega) _, by simpa using h.size, below_set h.bel (by show w.heap.size ≤ g; omega) _⟩
/-- in its second loop: what is gathered, both lists of deltas -/
structure Sq (w v : World) (g : Nat) (B d0 d1 d2 d3 d4 : Int) (k : Nat) : Prop where
  r : Sr w v B d0 d1 d2 d3 d4
  all : Ri 33 v g (stl B d0 d1 d2 d3 d4 k)
  dc : Ri 3 v (g + 1) [d0, d1, d3]
  ac : Ri 3 v (g + 2) [0, d2, d4]
  lo : w.heap.size + 2 ≤ g
theorem Sq.drewN {w v : World} {g : Nat} {B d0 d1 d2 d3 d4 : Int} {k : Nat} (h : Sq w v g B d0 d1 d2 d3 d4 k) (n : Nat) : Sq w (v.drewN n) g B d0 d1 d2 d3 d4 k := ⟨h.r.drewN n, ⟨h.all.heap⟩, ⟨h.dc.heap⟩, ⟨h.ac.heap⟩, h.lo⟩
theorem Sq.put {w v : World} {g : Nat} {B d0 d1 d2 d3 d4 : Int} {k j i : Nat} {x y : Int} (h : Sq w v g B d0 d1 d2 d3 d4 k) (e : ((stl B d0 d1 d2 d3 d4 k).set i x).set (i + 1) y = stl B d0 d1 d2 d3 d4 j) : Sq w ((v.setCell ⟨g, i, none⟩ (.int .i64 x)).setCell ⟨g, i + 1, none⟩ (.int .i64 y)) g B d0 d1 d2 d3 d4 j :=
  ⟨(h.r.far h.lo _ _).far h.lo _ _, by rw [← e]; exact (h.all.set i x).set (i + 1) y, (h.dc.far (by show g + 1 ≠ g; omega) _).far (by show g + 1 ≠ g; omega) _, (h.ac.far (by show g + 2 ≠ g; omega) _).far (by show g + 2 ≠ g; omega) _, h.lo⟩
theorem stA_ok {b d p : Int} (h : OkB b d) : stA b d p = stp b d p := if_pos h
theorem okH_at {B d0 d1 d2 d3 d4 : Int} (h : ∀ j, j < 5 → OkB B (dd d0 d1 d2 d3 d4 j)) : OkH B d0 d1 d2 d3 d4 := ⟨h 0 (by omega), h 1 (by omega), h 2 (by omega), h 3 (by omega), h 4 (by omega)⟩
theorem okH_get {B d0 d1 d2 d3 d4 : Int} (h : OkH B d0 d1 d2 d3 d4) (j : Nat) (hj : j < 5) : OkB B (dd d0 d1 d2 d3 d4 j) := by
  obtain ⟨h0, h1, h2, h3, h4⟩ := h
  match j, hj with
  | 0, _ => exact h0
  | 1, _ => exact h1
  | 2, _ => exact h2
  | 3, _ => exact h3
  | 4, _ => exact h4

set_option maxRecDepth 100000 in
set_option maxHeartbeats 4000000 in
theorem rsteps_any {w : World} {c0 c1 c2 c3 c4 c5 c6 c7 c8 c15 c16 c17 c18 c19 c20 c21 c22 c23 c24 c25 c26 c27 c28 c29 : Value} {B d0 d1 d2 d3 d4 : Int} : Calls Try.prog 14 #[.agg #[c0, c1, c2, c3, c4, c5, c6, c7, c8, .int .i64 B, .int .i64 d0, .int .i64 d1, .int .i64 d2, .int .i64 d3, .int .i64 d4, c15, c16, c17, c18, c19, c20, c21, c22, c23, c24, c25, c26, c27, c28, c29]] w fun e w' => e = .returned (.tuple #[.agg (spA B d0 d1 d2 d3 d4), .int .i64 (spE B d0 d1 d2 d3 d4)]) ∧ Below w.heap.size w w' := by
  go_enter Try.func14, Try.ntmps14
  go_wp2_with fail
  go_loopw [4] (fun i wr => ∃ k : Nat, k ≤ 5 ∧ i = .int .i64 k ∧ Hid (Sr w wr B d0 d1 d2 d3 d4 ∧ ∀ j, j < k → OkB B (dd d0 d1 d2 d3 d4 j))) (fun i _ => 5 - (intOf i).toNat)
  case atStart =>
    refine ⟨0, by omega, rfl, ⟨⟨?_, ?_, ?_, ?_, ?_⟩, fun j hj => by omega⟩⟩
    · rw [newCell (from_alloc _ _) _ _ (by simp)]
      simp only [World.cell?, heap_alloc_new]
      rfl
    · intro k hk
      rw [newCell (from_alloc _ _) _ _ (by simp)]
      simp only [World.cell?, heap_alloc_new]
      match k, hk with
      | 0, _ => rfl
      | 1, _ => rfl
      | 2, _ => rfl
      | 3, _ => rfl
      | 4, _ => rfl
    · exact Ri.built 33 (w.alloc _) [0, 0, 0, 0, 0, 0] (by simp)
    · simp
    · exact to_alloc (from_alloc w _) _
  case round =>
    obtain ⟨k, hk, rfl, H⟩ := hrel
    rename_i wr
    by_cases hlt : k < 5
    · have c0 : 0 ≤ (k : Int) := by omega
      have c1 : (k : Int) < 5 := by omega
      have cb := H.out.1.base
      have cd := H.out.1.del k hlt
      by_cases ho : OkB B (dd d0 d1 d2 d3 d4 k)
      · have HO : Hid (OkB B (dd d0 d1 d2 d3 d4 k)) := ho
        have HM : Hid (∀ u : World, Calls Try.prog 27 #[.int .i64 B, .int .i64 (dd d0 d1 d2 d3 d4 k)] u fun e w' => e = .returned (.bool true) ∧ w' = u) := fun u => by
          have := may_any (w := u) (b := B) (d := dd d0 d1 d2 d3 d4 k)
          rwa [decide_eq_true HO.out] at this
        clear ho
        generalize dd d0 d1 d2 d3 d4 k = x at cd HM
        go_wp2_with fail
        go_quiet ((go_at_call 27; exact Calls.quiet_of_same (HM.out _)))
        go_wp2_with fail
        go_roundw
        case rel => exact ⟨k + 1, by omega, by go_num, ⟨H.out.1.drewN _, fun j hj => by
          by_cases e : j = k
          · rw [e]; exact HO.out
          · exact H.out.2 j (by omega)⟩⟩
        case measure => simp [intOf]; omega
      · have HN : Hid (¬ OkH B d0 d1 d2 d3 d4) := fun h => ho (okH_get h k hlt)
        have HM : Hid (∀ u : World, Calls Try.prog 27 #[.int .i64 B, .int .i64 (dd d0 d1 d2 d3 d4 k)] u fun e w' => e = .returned (.bool false) ∧ w' = u) := fun u => by
          have := may_any (w := u) (b := B) (d := dd d0 d1 d2 d3 d4 k)
          rwa [decide_eq_false ho] at this
        clear ho
        generalize dd d0 d1 d2 d3 d4 k = x at cd HM
        go_wp2_with fail
        go_quiet ((go_at_call 27; exact Calls.quiet_of_same (HM.out _)))
        have HU : Hid (Sr w (wr.drewN nq) B d0 d1 d2 d3 d4) := H.out.1.drewN nq
        generalize wr.drewN nq = v1 at *
        have f0 := HU.out.res.thaw 0
        have f1 := HU.out.res.thaw 1
        have f2 := HU.out.res.thaw 2
        have f3 := HU.out.res.thaw 3
        have f4 := HU.out.res.thaw 4
        have f5 := HU.out.res.thaw 5
        have g0 := HU.out.res.cell 0 (by decide)
        have g1 := HU.out.res.cell 1 (by decide)
        have g2 := HU.out.res.cell 2 (by decide)
        have g3 := HU.out.res.cell 3 (by decide)
        have g4 := HU.out.res.cell 4 (by decide)
        have g5 := HU.out.res.cell 5 (by decide)
        have HR : Hid (Ri 33 ((((((v1.setCell ⟨w.heap.size + 1, 0, none⟩ (.int .i64 (0))).setCell ⟨w.heap.size + 1, 1, none⟩ (.int .i64 (0))).setCell ⟨w.heap.size + 1, 2, none⟩ (.int .i64 (0))).setCell ⟨w.heap.size + 1, 3, none⟩ (.int .i64 (0))).setCell ⟨w.heap.size + 1, 4, none⟩ (.int .i64 (0))).setCell ⟨w.heap.size + 1, 5, none⟩ (.int .i64 (0))) (w.heap.size + 1) [0, 0, 0, 0, 0, 0]) := ((((((HU.out.res.set 0 (0)).set 1 (0)).set 2 (0)).set 3 (0)).set 4 (0)).set 5 (0))
        have HBE : Hid (Below w.heap.size w ((((((v1.setCell ⟨w.heap.size + 1, 0, none⟩ (.int .i64 (0))).setCell ⟨w.heap.size + 1, 1, none⟩ (.int .i64 (0))).setCell ⟨w.heap.size + 1, 2, none⟩ (.int .i64 (0))).setCell ⟨w.heap.size + 1, 3, none⟩ (.int .i64 (0))).setCell ⟨w.heap.size + 1, 4, none⟩ (.int .i64 (0))).setCell ⟨w.heap.size + 1, 5, none⟩ (.int .i64 (0)))) := (below_set (below_set (below_set (below_set (below_set (below_set HU.out.bel (by show w.heap.size ≤ w.heap.size + 1; omega) _) (by show w.heap.size ≤ w.heap.size + 1; omega) _) (by show w.heap.size ≤ w.heap.size + 1; omega) _) (by show w.heap.size ≤ w.heap.size + 1; omega) _) (by show w.heap.size ≤ w.heap.size + 1; omega) _) (by show w.heap.size ≤ w.heap.size + 1; omega) _)
        go_wp2_with fail
        generalize ((((((v1.setCell ⟨w.heap.size + 1, 0, none⟩ (.int .i64 (0))).setCell ⟨w.heap.size + 1, 1, none⟩ (.int .i64 (0))).setCell ⟨w.heap.size + 1, 2, none⟩ (.int .i64 (0))).setCell ⟨w.heap.size + 1, 3, none⟩ (.int .i64 (0))).setCell ⟨w.heap.size + 1, 4, none⟩ (.int .i64 (0))).setCell ⟨w.heap.size + 1, 5, none⟩ (.int .i64 (0))) = vv at *
        have r0 : vv.cell? ⟨w.heap.size + 1, 0, none⟩ = some (.int .i64 (0)) := HR.out.cell 0 (by show 0 < 6; omega)
        have r1 : vv.cell? ⟨w.heap.size + 1, 1, none⟩ = some (.int .i64 (0)) := HR.out.cell 1 (by show 1 < 6; omega)
        have r2 : vv.cell? ⟨w.heap.size + 1, 2, none⟩ = some (.int .i64 (0)) := HR.out.cell 2 (by show 2 < 6; omega)
        have r3 : vv.cell? ⟨w.heap.size + 1, 3, none⟩ = some (.int .i64 (0)) := HR.out.cell 3 (by show 3 < 6; omega)
        have r4 : vv.cell? ⟨w.heap.size + 1, 4, none⟩ = some (.int .i64 (0)) := HR.out.cell 4 (by show 4 < 6; omega)
        have r5 : vv.cell? ⟨w.heap.size + 1, 5, none⟩ = some (.int .i64 (0)) := HR.out.cell 5 (by show 5 < 6; omega)
        try simp only [Exit.inBlock, Exit.then]
        refine bodyPost_ret (by simp [results, Try.results14, go_sem, r0, r1, r2, r3, r4, r5]; try rfl) rfl ?_
        exact ⟨by rw [spA_no HN.out, spE_no HN.out], HBE.out⟩
    · have HO : Hid (OkH B d0 d1 d2 d3 d4) := okH_at fun j hj => H.out.2 j (by omega)
      have H1 : Hid (Sr w (wr.alloc (Obj.cells #[.int .i64 0, .int .i64 0, .int .i64 0, .int .i64 0, .int .i64 0, .int .i64 0] 33)) B d0 d1 d2 d3 d4) := H.out.1.alloc _
      have H2 : Hid (Sr w ((wr.alloc (Obj.cells #[.int .i64 0, .int .i64 0, .int .i64 0, .int .i64 0, .int .i64 0, .int .i64 0] 33)).alloc (Obj.cells #[.int .i64 d0, .int .i64 d1, .int .i64 d3] 3)) B d0 d1 d2 d3 d4) := H1.out.alloc _
      have hlo := H.out.1.size
      have H3 : Hid (Sq w (((wr.alloc (Obj.cells #[.int .i64 0, .int .i64 0, .int .i64 0, .int .i64 0, .int .i64 0, .int .i64 0] 33)).alloc (Obj.cells #[.int .i64 d0, .int .i64 d1, .int .i64 d3] 3)).alloc (Obj.cells #[.int .i64 0, .int .i64 d2, .int .i64 d4] 3)) wr.heap.size B d0 d1 d2 d3 d4 0) := ⟨H2.out.alloc _, ((Ri.built 33 wr [0, 0, 0, 0, 0, 0] rfl).to (from_alloc _ _)).to (from_alloc _ _), (Ri.built 3 (wr.alloc (Obj.cells #[.int .i64 0, .int .i64 0, .int .i64 0, .int .i64 0, .int .i64 0, .int .i64 0] 33)) [d0, d1, d3] (by simp)).to (from_alloc _ _), Ri.built 3 ((wr.alloc (Obj.cells #[.int .i64 0, .int .i64 0, .int .i64 0, .int .i64 0, .int .i64 0, .int .i64 0] 33)).alloc (Obj.cells #[.int .i64 d0, .int .i64 d1, .int .i64 d3] 3)) [0, d2, d4] (by simp), hlo⟩
      have e0 : (wr.alloc (Obj.cells #[.int .i64 0, .int .i64 0, .int .i64 0, .int .i64 0, .int .i64 0, .int .i64 0] 33)).cell? ⟨w.heap.size, 10, none⟩ = some (.int .i64 d0) := H1.out.del 0 (by omega)
      have e1 : (wr.alloc (Obj.cells #[.int .i64 0, .int .i64 0, .int .i64 0, .int .i64 0, .int .i64 0, .int .i64 0] 33)).cell? ⟨w.heap.size, 11, none⟩ = some (.int .i64 d1) := H1.out.del 1 (by omega)
      have e3 : (wr.alloc (Obj.cells #[.int .i64 0, .int .i64 0, .int .i64 0, .int .i64 0, .int .i64 0, .int .i64 0] 33)).cell? ⟨w.heap.size, 13, none⟩ = some (.int .i64 d3) := H1.out.del 3 (by omega)
      have e2 : ((wr.alloc (Obj.cells #[.int .i64 0, .int .i64 0, .int .i64 0, .int .i64 0, .int .i64 0, .int .i64 0] 33)).alloc (Obj.cells #[.int .i64 d0, .int .i64 d1, .int .i64 d3] 3)).cell? ⟨w.heap.size, 12, none⟩ = some (.int .i64 d2) := H2.out.del 2 (by omega)
      have e4 : ((wr.alloc (Obj.cells #[.int .i64 0, .int .i64 0, .int .i64 0, .int .i64 0, .int .i64 0, .int .i64 0] 33)).alloc (Obj.cells #[.int .i64 d0, .int .i64 d1, .int .i64 d3] 3)).cell? ⟨w.heap.size, 14, none⟩ = some (.int .i64 d4) := H2.out.del 4 (by omega)
      have hnl : ¬ (k : Int) < 5 := by omega
      go_wp2_with fail
      clear e0 e1 e2 e3 e4 H1 H2
      generalize (((wr.alloc (Obj.cells #[.int .i64 0, .int .i64 0, .int .i64 0, .int .i64 0, .int .i64 0, .int .i64 0] 33)).alloc (Obj.cells #[.int .i64 d0, .int .i64 d1, .int .i64 d3] 3)).alloc (Obj.cells #[.int .i64 0, .int .i64 d2, .int .i64 d4] 3)) = v3 at *
      generalize wr.heap.size = g at *
      have HG : Hid (w.heap.size + 2 ≤ g) := hlo
      clear hlo H
      go_loopw [8] (fun i wx => ∃ k : Nat, k ≤ 3 ∧ i = .int .i64 k ∧ Hid (Sq w wx g B d0 d1 d2 d3 d4 k)) (fun i _ => 3 - (intOf i).toNat)
      case atStart => exact ⟨0, by omega, rfl, H3⟩
      case round =>
        obtain ⟨k2, hk2, rfl, H⟩ := hrel
        have hcase : k2 = 0 ∨ k2 = 1 ∨ k2 = 2 ∨ k2 = 3 := by omega
        rcases hcase with rfl | rfl | rfl | rfl
        · have cb := H.out.r.base
          have cd : wr.cell? ⟨g + 1, 0, none⟩ = some (.int .i64 d0) := H.out.dc.cell 0 (by show 0 < 3; omega)
          go_wp2_with fail
          go_quiet ((go_at_call 10; exact Calls.quiet_of_same rdc_any))
          have HX : Hid (Sq w (wr.drewN nq) g B d0 d1 d2 d3 d4 0) := H.out.drewN nq
          generalize wr.drewN nq = v4 at *
          clear H cb cd
          have cb := HX.out.r.base
          have cd : v4.cell? ⟨g + 2, 0, none⟩ = some (.int .i64 0) := HX.out.ac.cell 0 (by show 0 < 3; omega)
          go_wp2_with fail
          go_quiet ((go_at_call 12; exact Calls.quiet_of_same rac_any))
          have HY : Hid (Sq w (v4.drewN nq) g B d0 d1 d2 d3 d4 0) := HX.out.drewN nq
          generalize v4.drewN nq = v5 at *
          have f0 := HY.out.all.thaw 0
          have f1 := HY.out.all.thaw 1
          have g0 : v5.cell? ⟨g, 0, none⟩ = some (.int .i64 0) := HY.out.all.cell 0 (by show 0 < 6; omega)
          have g1 : v5.cell? ⟨g, 1, none⟩ = some (.int .i64 0) := HY.out.all.cell 1 (by show 1 < 6; omega)
          have HZ : Hid (Sq w ((v5.setCell ⟨g, 0, none⟩ (.int .i64 (stA B d0 96))).setCell ⟨g, 1, none⟩ (.int .i64 (stA B 0 48))) g B d0 d1 d2 d3 d4 1) := HY.out.put (i := 0) (j := 1) rfl
          go_wp2_with fail
          go_roundw
          case rel => exact ⟨1, by omega, by go_num, HZ⟩
          case measure => simp [intOf]
        · have cb := H.out.r.base
          have cd : wr.cell? ⟨g + 1, 1, none⟩ = some (.int .i64 d1) := H.out.dc.cell 1 (by show 1 < 3; omega)
          go_wp2_with fail
          go_quiet ((go_at_call 10; exact Calls.quiet_of_same rdc_any))
          have HX : Hid (Sq w (wr.drewN nq) g B d0 d1 d2 d3 d4 1) := H.out.drewN nq
          generalize wr.drewN nq = v4 at *
          clear H cb cd
          have cb := HX.out.r.base
          have cd : v4.cell? ⟨g + 2, 1, none⟩ = some (.int .i64 d2) := HX.out.ac.cell 1 (by show 1 < 3; omega)
          go_wp2_with fail
          go_quiet ((go_at_call 12; exact Calls.quiet_of_same rac_any))
          have HY : Hid (Sq w (v4.drewN nq) g B d0 d1 d2 d3 d4 1) := HX.out.drewN nq
          generalize v4.drewN nq = v5 at *
          have f0 := HY.out.all.thaw 2
          have f1 := HY.out.all.thaw 3
          have g0 : v5.cell? ⟨g, 2, none⟩ = some (.int .i64 0) := HY.out.all.cell 2 (by show 2 < 6; omega)
          have g1 : v5.cell? ⟨g, 3, none⟩ = some (.int .i64 0) := HY.out.all.cell 3 (by show 3 < 6; omega)
          have HZ : Hid (Sq w ((v5.setCell ⟨g, 2, none⟩ (.int .i64 (stA B d1 96))).setCell ⟨g, 3, none⟩ (.int .i64 (stA B d2 48))) g B d0 d1 d2 d3 d4 2) := HY.out.put (i := 2) (j := 2) rfl
          go_wp2_with fail
          go_roundw
          case rel => exact ⟨2, by omega, by go_num, HZ⟩
          case measure => simp [intOf]
        · have cb := H.out.r.base
          have cd : wr.cell? ⟨g + 1, 2, none⟩ = some (.int .i64 d3) := H.out.dc.cell 2 (by show 2 < 3; omega)
          go_wp2_with fail
          go_quiet ((go_at_call 10; exact Calls.quiet_of_same rdc_any))
          have HX : Hid (Sq w (wr.drewN nq) g B d0 d1 d2 d3 d4 2) := H.out.drewN nq
          generalize wr.drewN nq = v4 at *
          clear H cb cd
          have cb := HX.out.r.base
          have cd : v4.cell? ⟨g + 2, 2, none⟩ = some (.int .i64 d4) := HX.out.ac.cell 2 (by show 2 < 3; omega)
          go_wp2_with fail
          go_quiet ((go_at_call 12; exact Calls.quiet_of_same rac_any))
          have HY : Hid (Sq w (v4.drewN nq) g B d0 d1 d2 d3 d4 2) := HX.out.drewN nq
          generalize v4.drewN nq = v5 at *
          have f0 := HY.out.all.thaw 4
          have f1 := HY.out.all.thaw 5
          have g0 : v5.cell? ⟨g, 4, none⟩ = some (.int .i64 0) := HY.out.all.cell 4 (by show 4 < 6; omega)
          have g1 : v5.cell? ⟨g, 5, none⟩ = some (.int .i64 0) := HY.out.all.cell 5 (by show 5 < 6; omega)
          have HZ : Hid (Sq w ((v5.setCell ⟨g, 4, none⟩ (.int .i64 (stA B d3 96))).setCell ⟨g, 5, none⟩ (.int .i64 (stA B d4 48))) g B d0 d1 d2 d3 d4 3) := HY.out.put (i := 4) (j := 3) rfl
          go_wp2_with fail
          go_roundw
          case rel => exact ⟨3, by omega, by go_num, HZ⟩
          case measure => simp [intOf]
        · have HU := H.out.r
          have HB2 : Hid (Sr w wr B d0 d1 d2 d3 d4) := HU
          clear HU
          have HU : Hid (Sr w wr B d0 d1 d2 d3 d4) := HB2
          clear HB2
          have f0 := HU.out.res.thaw 0
          have f1 := HU.out.res.thaw 1
          have f2 := HU.out.res.thaw 2
          have f3 := HU.out.res.thaw 3
          have f4 := HU.out.res.thaw 4
          have f5 := HU.out.res.thaw 5
          have g0 := HU.out.res.cell 0 (by decide)
          have g1 := HU.out.res.cell 1 (by decide)
          have g2 := HU.out.res.cell 2 (by decide)
          have g3 := HU.out.res.cell 3 (by decide)
          have g4 := HU.out.res.cell 4 (by decide)
          have g5 := HU.out.res.cell 5 (by decide)
          have a0 : wr.cell? ⟨g, 0, none⟩ = some (.int .i64 (stA B d0 96)) := H.out.all.cell 0 (by show 0 < 6; omega)
          have a1 : wr.cell? ⟨g, 1, none⟩ = some (.int .i64 (stA B 0 48)) := H.out.all.cell 1 (by show 1 < 6; omega)
          have a2 : wr.cell? ⟨g, 2, none⟩ = some (.int .i64 (stA B d1 96)) := H.out.all.cell 2 (by show 2 < 6; omega)
          have a3 : wr.cell? ⟨g, 3, none⟩ = some (.int .i64 (stA B d2 48)) := H.out.all.cell 3 (by show 3 < 6; omega)
          have a4 : wr.cell? ⟨g, 4, none⟩ = some (.int .i64 (stA B d3 96)) := H.out.all.cell 4 (by show 4 < 6; omega)
          have a5 : wr.cell? ⟨g, 5, none⟩ = some (.int .i64 (stA B d4 48)) := H.out.all.cell 5 (by show 5 < 6; omega)
          have HR : Hid (Ri 33 ((((((wr.setCell ⟨w.heap.size + 1, 0, none⟩ (.int .i64 (stA B d0 96))).setCell ⟨w.heap.size + 1, 1, none⟩ (.int .i64 (stA B 0 48))).setCell ⟨w.heap.size + 1, 2, none⟩ (.int .i64 (stA B d1 96))).setCell ⟨w.heap.size + 1, 3, none⟩ (.int .i64 (stA B d2 48))).setCell ⟨w.heap.size + 1, 4, none⟩ (.int .i64 (stA B d3 96))).setCell ⟨w.heap.size + 1, 5, none⟩ (.int .i64 (stA B d4 48))) (w.heap.size + 1) [stA B d0 96, stA B 0 48, stA B d1 96, stA B d2 48, stA B d3 96, stA B d4 48]) := ((((((HU.out.res.set 0 (stA B d0 96)).set 1 (stA B 0 48)).set 2 (stA B d1 96)).set 3 (stA B d2 48)).set 4 (stA B d3 96)).set 5 (stA B d4 48))
          have HBE : Hid (Below w.heap.size w ((((((wr.setCell ⟨w.heap.size + 1, 0, none⟩ (.int .i64 (stA B d0 96))).setCell ⟨w.heap.size + 1, 1, none⟩ (.int .i64 (stA B 0 48))).setCell ⟨w.heap.size + 1, 2, none⟩ (.int .i64 (stA B d1 96))).setCell ⟨w.heap.size + 1, 3, none⟩ (.int .i64 (stA B d2 48))).setCell ⟨w.heap.size + 1, 4, none⟩ (.int .i64 (stA B d3 96))).setCell ⟨w.heap.size + 1, 5, none⟩ (.int .i64 (stA B d4 48)))) := (below_set (below_set (below_set (below_set (below_set (below_set HU.out.bel (by show w.heap.size ≤ w.heap.size + 1; omega) _) (by show w.heap.size ≤ w.heap.size + 1; omega) _) (by show w.heap.size ≤ w.heap.size + 1; omega) _) (by show w.heap.size ≤ w.heap.size + 1; omega) _) (by show w.heap.size ≤ w.heap.size + 1; omega) _) (by show w.heap.size ≤ w.heap.size + 1; omega) _)
          go_wp2_with fail
          generalize ((((((wr.setCell ⟨w.heap.size + 1, 0, none⟩ (.int .i64 (stA B d0 96))).setCell ⟨w.heap.size + 1, 1, none⟩ (.int .i64 (stA B 0 48))).setCell ⟨w.heap.size + 1, 2, none⟩ (.int .i64 (stA B d1 96))).setCell ⟨w.heap.size + 1, 3, none⟩ (.int .i64 (stA B d2 48))).setCell ⟨w.heap.size + 1, 4, none⟩ (.int .i64 (stA B d3 96))).setCell ⟨w.heap.size + 1, 5, none⟩ (.int .i64 (stA B d4 48))) = vv at *
          have r0 : vv.cell? ⟨w.heap.size + 1, 0, none⟩ = some (.int .i64 (stA B d0 96)) := HR.out.cell 0 (by show 0 < 6; omega)
          have r1 : vv.cell? ⟨w.heap.size + 1, 1, none⟩ = some (.int .i64 (stA B 0 48)) := HR.out.cell 1 (by show 1 < 6; omega)
          have r2 : vv.cell? ⟨w.heap.size + 1, 2, none⟩ = some (.int .i64 (stA B d1 96)) := HR.out.cell 2 (by show 2 < 6; omega)
          have r3 : vv.cell? ⟨w.heap.size + 1, 3, none⟩ = some (.int .i64 (stA B d2 48)) := HR.out.cell 3 (by show 3 < 6; omega)
          have r4 : vv.cell? ⟨w.heap.size + 1, 4, none⟩ = some (.int .i64 (stA B d3 96)) := HR.out.cell 4 (by show 4 < 6; omega)
          have r5 : vv.cell? ⟨w.heap.size + 1, 5, none⟩ = some (.int .i64 (stA B d4 48)) := HR.out.cell 5 (by show 5 < 6; omega)
          try simp only [Exit.inBlock, Exit.then]
          refine bodyPost_ret (by simp [results, Try.results14, go_sem, r0, r1, r2, r3, r4, r5]; try rfl) rfl ?_
          exact ⟨by rw [spA_ok HO.out, spE_ok HO.out], HBE.out⟩

end Go.Proofs.Ytaliaoapbjbfaaa
