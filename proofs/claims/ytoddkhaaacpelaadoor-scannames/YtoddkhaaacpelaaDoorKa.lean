/- DERIVED. The walk of ScanNames. -/
import Derived.Test.YtoddkhaaacpelaaDoorNd
import Derived.Test.YtoddkhaaacpelaaDoorOa
import Derived.Deep.DeepCutAuto
import Derived.Lib.QuietBelow
import Derived.Test.YtoddkhaaacpelaaDoorLx
namespace Go.Proofs.YtoddkhaaacpelaaDoor
open Go.RowKit Go.Sort

def nmA : List Int := [0, 5, 0, 0, -2, 1, 0, 0, 0, 0, 0, 0, 0, 0, 0, 0]
def nmB : List Int := [0, -9223372036854775808, 0, 0, -2, 1, 0, 0, 0, 0, 0, 0, 0, 0, 0, 0]
theorem nm1 : bas nmA 4 0 = 3 := by decide +kernel
theorem nm2 : mor nmA 4 0 = 4 := by decide +kernel
theorem nm3 : bas nmA 4 1 = 1 := by decide +kernel
theorem nm4 : bas nmA 4 15 = 0 := by decide +kernel
def nmS : List Int := [-1, 0, 3, 4, 5, 8, 16, 32, 64, 128, 4611686018427387904]
def nmE : List Int := [0, 1, 2, 3, 4, 5, 8, 9, 512, 513, 1024, 1025]
/-- Base, More of the block at a place, by what they come to -/
theorem base_lit {w : World} {g p : Nat} {z x : Int} (hz : z = 4) (hN : Nt w) (hs : Si w (some ⟨g, 0, none⟩) nmA) (hp : p < 16) (hx : bas nmA 4 p = x) (pi : Int) (hpi : pi = (p : Int)) : Calls Tryd.prog 7 #[.slice (some ⟨g, 0, none⟩) 16 16, .int .i64 z, .int .i64 pi] w fun e w' => e = .returned (.tuple #[.int .i64 x, .int .i64 0]) ∧ Hid (Below w.heap.size w w') := by
  subst hz hpi
  refine (base_yes (q := 16) (n := 4) hN (Or.inl ⟨rfl, rfl⟩) hs rfl rfl hp).mono ?_
  rintro e w' ⟨rfl, k, rfl⟩
  exact ⟨by rw [hx], below_drewN (Below.refl _ _) k⟩
theorem more_lit {w : World} {g p : Nat} {z x : Int} (hz : z = 4) (hN : Nt w) (hs : Si w (some ⟨g, 0, none⟩) nmA) (hp : p < 16) (hx : mor nmA 4 p = x) (pi : Int) (hpi : pi = (p : Int)) : Calls Tryd.prog 9 #[.slice (some ⟨g, 0, none⟩) 16 16, .int .i64 z, .int .i64 pi] w fun e w' => e = .returned (.tuple #[.int .i64 x, .int .i64 0]) ∧ Hid (Below w.heap.size w w') := by
  subst hz hpi
  refine (more_yes (q := 16) (n := 4) hN (Or.inl ⟨rfl, rfl⟩) hs rfl rfl hp).mono ?_
  rintro e w' ⟨rfl, k, rfl⟩
  exact ⟨by rw [hx], below_drewN (Below.refl _ _) k⟩
theorem si_take {w : World} {a : Option Addr} {C : List Int} (h : Si w a C) (m : Nat) (hm : m ≤ C.length) : Si w a (C.take m) := by
  rcases h with h | ⟨b, o, h1, h2, h3⟩
  · exact Or.inl (by rw [h]; simp)
  · refine Or.inr ⟨b, o, h1, h2, fun j hj => ?_⟩
    have hj' : j < m := by simp at hj; omega
    rw [h3 j (by omega), List.getD_eq_getElem?_getD, List.getD_eq_getElem?_getD, List.getElem?_take_of_lt hj']
/-- a row in the call's own memory, beside the table -/
structure Ks (w : World) (g : Nat) (C : List Int) (wr : World) : Prop where
  low : w.heap.size ≤ g
  row : Ri 3 wr g C
  nt : Nt wr
  bel : Below w.heap.size w wr
theorem Ks.set {w : World} {g : Nat} {C : List Int} {wr : World} (h : Ks w g C wr) (hN : Nt w) (k : Nat) (x : Int) : Ks w g (C.set k x) (wr.setCell ⟨g, k, none⟩ (.int .i64 x)) := ⟨h.low, h.row.set k x, hN.to (below_set h.bel h.low _), below_set h.bel h.low _⟩
theorem Ks.to {w : World} {g : Nat} {C : List Int} {wr wr' : World} (h : Ks w g C wr) (hb : Below wr.heap.size wr wr') : Ks w g C wr' := ⟨h.low, h.row.to hb, h.nt.to hb, below_to h.bel hb⟩

set_option maxRecDepth 100000 in
set_option maxHeartbeats 2000000 in
theorem names_walk {w : World} (hN : Nt w) : Calls Tryd.prog 5 #[] w fun e w' => e = .returned (.bool true) ∧ Below w.heap.size w w' := by
  have HN : Hid (Nt w) := hN
  have hmk : ∀ u : World, (Instr.makeSlice 22 (.int .i64 16) (.int .i64 16)).run Tryd.prog u = .ok (.slice (some ⟨u.heap.size, 0, none⟩) 16 16) (u.alloc (.cells (madeCells #[.int .i64 0] 16) 3)) := fun u => mk_ints (n := 16) (by omega) u
  have H0 : Hid (Ks w w.heap.size (List.replicate 16 0) (w.alloc (.cells (madeCells #[.int .i64 0] 16) 3))) := ⟨Nat.le_refl _, Ri.made 3 w 16 rfl, hN.to (from_alloc _ _), from_alloc _ _⟩
  clear hN
  go_enter Tryd.func5, Tryd.ntmps5
  go_upto_region 2 with fail
  clear hmk
  generalize hg : w.alloc (.cells (madeCells #[.int .i64 0] 16) 3) = v0 at *
  clear hg
  obtain ⟨g, hgg⟩ : ∃ g, w.heap.size = g := ⟨_, rfl⟩
  have HG : Hid (w.heap.size = g) := hgg
  rw [hgg] at H0 ⊢
  have c0 : v0.cell? ⟨g, 1, none⟩ = some (.int .i64 0) := H0.out.row.cell 1 (by decide)
  have f0 := H0.out.row.thaw 1
  have H1 : Hid (Ks w g _ (v0.setCell ⟨g, 1, none⟩ (.int .i64 5))) := H0.out.set HN.out 1 5
  clear H0
  go_upto_region 3 with fail
  generalize v0.setCell ⟨g, 1, none⟩ (.int .i64 5) = v1 at *
  clear c0 f0
  have c1 : v1.cell? ⟨g, 4, none⟩ = some (.int .i64 0) := H1.out.row.cell 4 (by decide)
  have f1 := H1.out.row.thaw 4
  have H2 : Hid (Ks w g _ (v1.setCell ⟨g, 4, none⟩ (.int .i64 (-2)))) := H1.out.set HN.out 4 (-2)
  clear H1
  go_upto_region 4 with fail
  generalize v1.setCell ⟨g, 4, none⟩ (.int .i64 (-2)) = v2 at *
  clear c1 f1
  have c2 : v2.cell? ⟨g, 5, none⟩ = some (.int .i64 0) := H2.out.row.cell 5 (by decide)
  have f2 := H2.out.row.thaw 5
  have H3 : Hid (Ks w g _ (v2.setCell ⟨g, 5, none⟩ (.int .i64 1))) := H2.out.set HN.out 5 1
  clear H2
  go_upto_region 5 with fail
  generalize v2.setCell ⟨g, 5, none⟩ (.int .i64 1) = v3 at *
  clear c2 f2
  have H4 : Hid (Ks w g nmA v3) := H3.out
  clear H3
  go_wp2_with fail
  refine (base_lit rfl H4.out.nt H4.out.row.si (p := 0) (by omega) nm1 _ rfl).mono ?_
  rintro e x0 ⟨rfl, B0⟩
  have G0 : Hid (Ks w g nmA x0) := H4.out.to B0.out
  clear H4 B0
  go_wp2_with fail
  refine (more_lit rfl G0.out.nt G0.out.row.si (p := 0) (by omega) nm2 _ rfl).mono ?_
  rintro e x1 ⟨rfl, B1⟩
  have G1 : Hid (Ks w g nmA x1) := G0.out.to B1.out
  clear G0 B1
  go_wp2_with fail
  refine (base_lit rfl G1.out.nt G1.out.row.si (p := 1) (by omega) nm3 _ rfl).mono ?_
  rintro e x2 ⟨rfl, B2⟩
  have G2 : Hid (Ks w g nmA x2) := G1.out.to B2.out
  clear G1 B2
  go_wp2_with fail
  refine (base_lit rfl G2.out.nt G2.out.row.si (p := 15) (by omega) nm4 _ rfl).mono ?_
  rintro e x3 ⟨rfl, B3⟩
  have G3 : Hid (Ks w g nmA x3) := G2.out.to B3.out
  clear G2 B3
  have c4 : x3.cell? ⟨g, 1, none⟩ = some (.int .i64 5) := G3.out.row.cell 1 (by decide)
  have f4 := G3.out.row.thaw 1
  have H5 : Hid (Ks w g nmB (x3.setCell ⟨g, 1, none⟩ (.int .i64 (-9223372036854775808)))) := G3.out.set HN.out 1 (-9223372036854775808)
  clear G3
  go_upto_region 12 with fail
  generalize x3.setCell ⟨g, 1, none⟩ (.int .i64 (-9223372036854775808)) = v5 at *
  clear c4 f4
  have HS0 : Hid (Ri 3 (v5.alloc (.cells #[.int .i64 (-1), .int .i64 0, .int .i64 3, .int .i64 4, .int .i64 5, .int .i64 8, .int .i64 16, .int .i64 32, .int .i64 64, .int .i64 128, .int .i64 4611686018427387904] 3)) v5.heap.size nmS ∧ Ks w g nmB (v5.alloc (.cells #[.int .i64 (-1), .int .i64 0, .int .i64 3, .int .i64 4, .int .i64 5, .int .i64 8, .int .i64 16, .int .i64 32, .int .i64 64, .int .i64 128, .int .i64 4611686018427387904] 3))) := ⟨Ri.built 3 v5 nmS rfl, H5.out.to (from_alloc _ _)⟩
  clear H5
  go_wp2_with fail
  generalize v5.alloc (.cells #[.int .i64 (-1), .int .i64 0, .int .i64 3, .int .i64 4, .int .i64 5, .int .i64 8, .int .i64 16, .int .i64 32, .int .i64 64, .int .i64 128, .int .i64 4611686018427387904] 3) = v6 at *
  generalize v5.heap.size = gs at *
  go_loopw [11] (fun s wr => ∃ k : Nat, k ≤ 11 ∧ s = .int .i64 k ∧ Ri 3 wr gs nmS ∧ Ks w g nmB wr) (fun s _ => 11 - (intOf s).toNat)
  case atStart => exact ⟨0, by omega, rfl, HS0.out.1, HS0.out.2⟩
  case round =>
    clear HS0
    obtain ⟨k, hk, rfl, hr, hks⟩ := hrel
    have HR : Hid (Ri 3 wr gs nmS) := hr
    have HK : Hid (Ks w g nmB wr) := hks
    clear hr hks
    have k0 : (0 : Int) ≤ (k : Int) := by omega
    by_cases hlt : k < 11
    · have k1 : (k : Int) < 11 := by omega
      have hc0 := HR.out.cell k hlt
      have hcs : ∀ d os, (grow (redrawn wr d) os).cell? ⟨gs, k, none⟩ = some (.int .i64 (nmS.getD k 0)) := fun d os => cell_regrown hc0 d os
      generalize nmS.getD k 0 = s at *
      have hcO : ∀ d os, Calls Tryd.prog 14 #[.int .i64 s, .int .i64 s] (grow (redrawn wr d) os) fun e w'' => e = .returned (.bool true) ∧ ∃ p : Regrown, w'' = grow (redrawn wr p.d) p.os := fun d os => Calls.regrown_of orders_walk
      have hcA : ∀ d os, Calls Tryd.prog 3 #[.slice (some ⟨g, 0, none⟩) 16 16, .int .i64 s, .int .i64 16] (grow (redrawn wr d) os) fun e w'' => e = .returned (.bool true) ∧ ∃ p : Regrown, w'' = grow (redrawn wr p.d) p.os := fun d os => Calls.regrown_of (contexts_walk (L := nmB) (HK.out.to (below_regrown wr d os)).nt (HK.out.to (below_regrown wr d os)).row.si (by decide))
      have hcB : ∀ d os, Calls Tryd.prog 3 #[.slice (some ⟨g, 0, none⟩) 15 16, .int .i64 s, .int .i64 0] (grow (redrawn wr d) os) fun e w'' => e = .returned (.bool true) ∧ ∃ p : Regrown, w'' = grow (redrawn wr p.d) p.os := fun d os => Calls.regrown_of (contexts_walk (L := nmB.take 15) (HK.out.to (below_regrown wr d os)).nt (si_take (HK.out.to (below_regrown wr d os)).row.si 15 (by decide)) (by decide))
      have CO : Hid _ := hcO
      have CA : Hid _ := hcA
      have CB : Hid _ := hcB
      have HX : Hid (∀ d os, Ri 3 (grow (redrawn wr d) os) gs nmS ∧ Ks w g nmB (grow (redrawn wr d) os)) := fun d os => ⟨HR.out.to (below_regrown wr d os), HK.out.to (below_regrown wr d os)⟩
      clear hcO hcA hcB hc0
      go_wp2_with fail
      refine wp_region_quiet_below (by kernel_rfl) (lexB_ok (by kernel_rfl) (by kernel_rfl) (by kernel_rfl)) ?_
      repeat (quiet_step (first | (with_reducible exact CO.out _ _) | (with_reducible exact CA.out _ _) | (with_reducible exact CB.out _ _)))
      refine wpQuiet_nil ?_
      intro _ hw'
      obtain ⟨⟨dq, osq⟩, hw''⟩ := hw'
      subst hw''
      go_wp2_with fail
      go_roundw
      case rel => exact ⟨k + 1, by omega, by go_num, (HX.out dq osq).1, (HX.out dq osq).2⟩
      case measure => simp [intOf]; omega
    · have k1 : ¬ (k : Int) < 11 := by omega
      have k2 : decide ((k : Int) < 11) = false := by rw [decide_eq_false_iff_not]; omega
      have HB : Hid (Below w.heap.size w wr) := HK.out.bel
      clear HK HR
      go_upto_region 18 with fail
      have HE0 : Hid (Ri 3 (wr.alloc (.cells #[.int .i64 0, .int .i64 1, .int .i64 2, .int .i64 3, .int .i64 4, .int .i64 5, .int .i64 8, .int .i64 9, .int .i64 512, .int .i64 513, .int .i64 1024, .int .i64 1025] 3)) wr.heap.size nmE ∧ Below w.heap.size w (wr.alloc (.cells #[.int .i64 0, .int .i64 1, .int .i64 2, .int .i64 3, .int .i64 4, .int .i64 5, .int .i64 8, .int .i64 9, .int .i64 512, .int .i64 513, .int .i64 1024, .int .i64 1025] 3))) := ⟨Ri.built 3 wr nmE rfl, to_alloc HB.out _⟩
      clear HB
      go_wp2_with fail
      generalize wr.alloc (.cells #[.int .i64 0, .int .i64 1, .int .i64 2, .int .i64 3, .int .i64 4, .int .i64 5, .int .i64 8, .int .i64 9, .int .i64 512, .int .i64 513, .int .i64 1024, .int .i64 1025] 3) = v7 at *
      generalize wr.heap.size = ge at *
      go_loopw [13] (fun s wx => ∃ k : Nat, k ≤ 12 ∧ s = .int .i64 k ∧ Ri 3 wx ge nmE ∧ Below w.heap.size w wx) (fun s _ => 12 - (intOf s).toNat)
      case atStart => exact ⟨0, by omega, rfl, HE0.out.1, HE0.out.2⟩
      case round =>
        clear HE0
        rename_i wy
        obtain ⟨j, hj, rfl, hr, hbe⟩ := hrel
        have HR : Hid _ := hr
        have HB : Hid _ := hbe
        clear hr hbe
        have j0 : (0 : Int) ≤ (j : Int) := by omega
        by_cases hlt2 : j < 12
        · have j1 : (j : Int) < 12 := by omega
          have hc0 := HR.out.cell j hlt2
          generalize nmE.getD j 0 = s at *
          go_wp2_with fail
          refine orders_walk.mono ?_
          rintro e w9 ⟨rfl, hb9⟩
          have HN2 : Hid (Ri 3 w9 ge nmE ∧ Below w.heap.size w w9) := ⟨HR.out.to hb9, below_to HB.out hb9⟩
          clear hb9 HR HB hc0
          go_wp2_with fail
          go_roundw
          case rel => exact ⟨j + 1, by omega, by go_num, HN2.out.1, HN2.out.2⟩
          case measure => simp [intOf]; omega
        · obtain rfl : j = 12 := by omega
          go_wp2_with (go_at_call 12; refine awake_any.mono ?_; rintro e w8 ⟨rfl, H8⟩)
          go_ret
          exact ⟨rfl, below_to HB.out H8.out⟩

end Go.Proofs.YtoddkhaaacpelaaDoor
