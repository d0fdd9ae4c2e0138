/- DERIVED. The walks of halves and works. -/
import Derived.Test.YtlcegnnhlfafgaaDc
namespace Go.Proofs.Ytlcegnnhlfafgaa
open Go.RowKit

/-- an upper half and a lower one -/
def hvL (p q k : Nat) : List Nat := (List.range 64).map fun i => if i < k then (if 31 < i then q else p) else 0
theorem hvL_len (p q k : Nat) : (hvL p q k).length = 64 := by simp [hvL]
theorem hvL_get (p q k i : Nat) (h : i < 64) : (hvL p q k).getD i 0 = if i < k then (if 31 < i then q else p) else 0 := by simp [hvL, h]
theorem hvL_zero (p q : Nat) : hvL p q 0 = List.replicate 64 0 := by simp [hvL]; rfl
theorem hvL_set (p q k : Nat) (h : k < 64) : (hvL p q k).set k (if 31 < k then q else p) = hvL p q (k + 1) := by
  refine list_eq_of_getD (by rw [List.length_set, hvL_len, hvL_len]) fun j hj => ?_
  rw [List.length_set, hvL_len] at hj
  rw [nat_set _ _ _ _ (by rw [hvL_len]; exact h), hvL_get _ _ _ _ hj, hvL_get _ _ _ _ hj]
  by_cases e : k = j
  · subst e; simp only [if_true, show k < k + 1 by omega]
  · rw [if_neg e]
    by_cases g : j < k
    · simp only [g, show j < k + 1 by omega, if_true]
    · simp only [g, show ¬ j < k + 1 by omega, if_false]
theorem hvL_byt {p q : Nat} (hp : p < 256) (hq : q < 256) (k : Nat) : Byt (hvL p q k) := fun j => by
  by_cases h : j < 64
  · rw [hvL_get _ _ _ _ h]; split; split <;> omega; omega
  · rw [List.getD_eq_getElem?_getD, List.getElem?_eq_none (by rw [hvL_len]; omega)]; exact Nat.zero_lt_succ _
/-- samples in new memory, alone in their block -/
def Bn (w w' : World) (e : Ending) (C : List Nat) (n : Nat) : Prop := ∃ g, e = .returned (.slice (some ⟨g, 0, none⟩) n n) ∧ Rw w' g C ∧ w.heap.size ≤ g ∧ Below w.heap.size w w'

set_option maxRecDepth 100000 in
set_option maxHeartbeats 1000000 in
theorem halves_any {w : World} {p q : Nat} : Calls Try.prog 21 #[.int .u8 (p : Int), .int .u8 (q : Int)] w fun e w' => Bn w w' e (hvL p q 64) 64 := by
  have hmk : ∀ u : World, (Instr.makeSlice 22 (.int .i64 64) (.int .i64 64)).run Try.prog u = .ok (.slice (some ⟨u.heap.size, 0, none⟩) 64 64) (u.alloc (.cells (madeCells #[.int .u8 0] 64) 5)) := fun u => mk_row (n := 64) (by omega) u
  have HR : Hid (Rw (w.alloc (.cells (madeCells #[.int .u8 0] 64) 5)) w.heap.size (hvL p q 0)) := by rw [hvL_zero]; exact Rw.made w 64
  have HB : Hid (Below w.heap.size w (w.alloc (.cells (madeCells #[.int .u8 0] 64) 5))) := from_alloc _ _
  go_enter Try.func21, Try.ntmps21
  go_wp2_with fail
  clear hmk
  generalize (w.alloc (.cells (madeCells #[.int .u8 0] 64) 5)) = v at *
  have HG : Hid (w.heap.size ≤ w.heap.size) := Nat.le_refl _
  generalize hg : w.heap.size = g at *
  have HGG : Hid (w.heap.size = g) := hg
  clear hg HG
  go_loopw [6] (fun i wr => ∃ k : Nat, k ≤ 64 ∧ i = .int .i64 k ∧ Rw wr g (hvL p q k) ∧ Below g w wr) (fun i _ => 64 - (intOf i).toNat)
  case atStart => exact ⟨0, by omega, rfl, HR.out, HB.out⟩
  case round =>
    clear HR HB
    obtain ⟨k, hk, rfl, hr, hb⟩ := hrel
    have k0 : (0 : Int) ≤ (k : Int) := by omega
    by_cases hlt : k < 64
    · have k1 : (k : Int) < 64 := by omega
      have c0 := hr.cell k (by rw [hvL_len]; exact hlt)
      have f0 := hr.thaw k
      by_cases h31 : 31 < k
      · have i31 : (31 : Int) < (k : Int) := by omega
        have HS : Hid (hvL p q (k + 1) = ((hvL p q k).set k p).set k q) := by show _ = _; rw [List.set_set, ← hvL_set _ _ _ hlt, if_pos h31]
        have c1 : (wr.setCell ⟨g, k, none⟩ (.int .u8 (p : Int))).cell? ⟨g, k, none⟩ = some (.int .u8 (p : Int)) := World.cell?_setCell_same _ _ _ c0
        have f1 : (wr.setCell ⟨g, k, none⟩ (.int .u8 (p : Int))).frozen? ⟨g, k, none⟩ = false := by rw [World.frozen?_setCell]; exact f0
        have HN : Hid (Rw ((wr.setCell ⟨g, k, none⟩ (.int .u8 (p : Int))).setCell ⟨g, k, none⟩ (.int .u8 (q : Int))) g (hvL p q (k + 1)) ∧ Below g w ((wr.setCell ⟨g, k, none⟩ (.int .u8 (p : Int))).setCell ⟨g, k, none⟩ (.int .u8 (q : Int)))) := ⟨by rw [HS.out]; exact (hr.set k p).set k q, below_set (below_set hb (Nat.le_refl _) _) (Nat.le_refl _) _⟩
        clear hr hb
        go_wp2_with fail
        go_roundw
        case rel => exact ⟨k + 1, by omega, by go_num, HN.out.1, HN.out.2⟩
        case measure => simp [intOf]; omega
      · have i31 : ¬ (31 : Int) < (k : Int) := by omega
        have HS : Hid (hvL p q (k + 1) = (hvL p q k).set k p) := by show _ = _; rw [← hvL_set _ _ _ hlt, if_neg h31]
        have HN : Hid (Rw (wr.setCell ⟨g, k, none⟩ (.int .u8 (p : Int))) g (hvL p q (k + 1)) ∧ Below g w (wr.setCell ⟨g, k, none⟩ (.int .u8 (p : Int)))) := ⟨by rw [HS.out]; exact hr.set k p, below_set hb (Nat.le_refl _) _⟩
        clear hr hb
        go_wp2_with fail
        go_roundw
        case rel => exact ⟨k + 1, by omega, by go_num, HN.out.1, HN.out.2⟩
        case measure => simp [intOf]; omega
    · obtain rfl : k = 64 := by omega
      have HN : Hid (Bn w wr (.returned (.slice (some ⟨g, 0, none⟩) 64 64)) (hvL p q 64) 64) := ⟨g, rfl, hr, by rw [HGG.out]; exact Nat.le_refl _, by rw [HGG.out]; exact hb⟩
      clear hr hb
      go_wp2_with fail
      go_ret
      exact HN.out

theorem works_ac : acF (lv (hvL 0 10 64) 4) 16 = [-40, -40, -40, -40, -40, -40, -40, -40, 40, 40, 40, 40, 40, 40, 40, 40] := by decide +kernel
theorem works_pd : pdL [100, 100, 100] [40, -40, 3] 2 = [101, 99, 100] := by decide +kernel
theorem sd4 : Sd 4 := ⟨by omega, by omega, rfl⟩
theorem Rw.built (w : World) (C : List Nat) {g : Nat} (h : w.heap.size = g) : Rw (w.alloc (.cells (ns .u8 C).toArray 5)) g C := by subst h; exact ⟨heap_alloc_new w _⟩
theorem byt3 : Byt [100, 100, 100] := fun j => by
  match j with
  | 0 => decide
  | 1 => decide
  | 2 => decide
  | j + 3 => simp

theorem eqBytes_at {w : World} {a b : Option Addr} {c d n m : Nat} {C D : List Nat} (h1 : Sl w .u8 a C) (h2 : Sl w .u8 b D) (e1 : C.length = n) (e2 : D.length = m) (hl : n ≤ 140737488355328) (hl2 : m ≤ 140737488355328) :
    Calls Try.prog 12 #[.slice a n c, .slice b m d] w fun e w' => e = .returned (.bool (eqB C D)) ∧ Below w.heap.size w w' := by
  subst e1 e2
  exact eqBytes_any h1 h2 hl hl2

set_option maxRecDepth 100000 in
set_option maxHeartbeats 1000000 in
theorem works_any {w : World} : Calls Try.prog 13 #[] w fun e w' => e = .returned (.bool true) ∧ Below w.heap.size w w' := by
  have e1 : eqI [-40, -40, -40, -40, -40, -40, -40, -40, 40, 40, 40, 40, 40, 40, 40, 40] [-40, -40, -40, -40, -40, -40, -40, -40, 40, 40, 40, 40, 40, 40, 40, 40] = true := eqI_self _
  have e2 : eqB [101, 99, 100] [101, 99, 100] = true := eqB_self _
  go_enter Try.func13, Try.ntmps13
  go_wp2_with fail
  refine (halves_any (p := 0) (q := 10)).mono ?_
  rintro e w1 ⟨g1, rfl, hr1, _, hb1⟩
  have HB1 : Hid (Below w.heap.size w w1) := hb1
  have HR1 : Hid (Rw w1 g1 (hvL 0 10 64)) := hr1
  clear hb1 hr1
  go_wp2_with fail
  refine (ac_ok (x := 4) (y := 4) (n := 16) (L := hvL 0 10 64) HR1.out.sl sd4 sd4 rfl (hvL_byt (by omega) (by omega) _) rfl).mono ?_
  rintro e w2 ⟨g2, c2, rfl, ho2, hb2⟩
  rw [works_ac] at ho2
  have HB2 : Hid (Below w.heap.size w w2) := below_to HB1.out hb2
  have HO2 : Hid (Oi w2 w1.heap.size (some ⟨g2, 0, none⟩) 16 c2 [-40, -40, -40, -40, -40, -40, -40, -40, 40, 40, 40, 40, 40, 40, 40, 40]) := ho2
  clear hb2 ho2 HB1 HR1
  go_wp2_with fail
  have HB3 : Hid (Below w.heap.size w ((w2.alloc (.cells #[.int .u8 100, .int .u8 100, .int .u8 100] 5)).alloc (.cells #[.int .i64 40, .int .i64 (-40), .int .i64 3] 3))) := to_alloc (to_alloc HB2.out _) _
  have HO3 : Hid (Oi ((w2.alloc (.cells #[.int .u8 100, .int .u8 100, .int .u8 100] 5)).alloc (.cells #[.int .i64 40, .int .i64 (-40), .int .i64 3] 3)) w1.heap.size (some ⟨g2, 0, none⟩) 16 c2 [-40, -40, -40, -40, -40, -40, -40, -40, 40, 40, 40, 40, 40, 40, 40, 40]) := HO2.out.to (to_alloc (from_alloc _ _) _)
  have HR3 : Hid (Rw ((w2.alloc (.cells #[.int .u8 100, .int .u8 100, .int .u8 100] 5)).alloc (.cells #[.int .i64 40, .int .i64 (-40), .int .i64 3] 3)) w2.heap.size [100, 100, 100]) := (Rw.built w2 [100, 100, 100] rfl).to (from_alloc _ _)
  have HI3 : Hid (Ri 3 ((w2.alloc (.cells #[.int .u8 100, .int .u8 100, .int .u8 100] 5)).alloc (.cells #[.int .i64 40, .int .i64 (-40), .int .i64 3] 3)) (w2.heap.size + 1) [40, -40, 3]) := Ri.built 3 _ [40, -40, 3] (by simp)
  generalize ((w2.alloc (.cells #[.int .u8 100, .int .u8 100, .int .u8 100] 5)).alloc (.cells #[.int .i64 40, .int .i64 (-40), .int .i64 3] 3)) = v3 at *
  clear HB2 HO2
  refine (predict_ok (C := [100, 100, 100]) (A := [40, -40, 3]) (n := 3) HR3.out.sl HI3.out.si byt3 ⟨by decide, rfl, by decide, by omega, by omega⟩ rfl).mono ?_
  rw [works_pd]
  rintro e w4 ⟨g4, rfl, hr4, _, hb4⟩
  have HB4 : Hid (Below w.heap.size w w4) := below_to HB3.out hb4
  have HO4 : Hid (Oi w4 w1.heap.size (some ⟨g2, 0, none⟩) 16 c2 [-40, -40, -40, -40, -40, -40, -40, -40, 40, 40, 40, 40, 40, 40, 40, 40]) := HO3.out.to hb4
  have HR4 : Hid (Rw w4 g4 [101, 99, 100]) := hr4
  clear HB3 HO3 HR3 HI3 hr4 hb4
  have HB5 : Hid (Below w.heap.size w (w4.alloc (.cells #[.int .i64 (-40), .int .i64 (-40), .int .i64 (-40), .int .i64 (-40), .int .i64 (-40), .int .i64 (-40), .int .i64 (-40), .int .i64 (-40), .int .i64 40, .int .i64 40, .int .i64 40, .int .i64 40, .int .i64 40, .int .i64 40, .int .i64 40, .int .i64 40] 3))) := to_alloc HB4.out _
  have HO5 : Hid (Oi (w4.alloc (.cells #[.int .i64 (-40), .int .i64 (-40), .int .i64 (-40), .int .i64 (-40), .int .i64 (-40), .int .i64 (-40), .int .i64 (-40), .int .i64 (-40), .int .i64 40, .int .i64 40, .int .i64 40, .int .i64 40, .int .i64 40, .int .i64 40, .int .i64 40, .int .i64 40] 3)) w1.heap.size (some ⟨g2, 0, none⟩) 16 c2 [-40, -40, -40, -40, -40, -40, -40, -40, 40, 40, 40, 40, 40, 40, 40, 40]) := HO4.out.to (from_alloc _ _)
  have HR5 : Hid (Rw (w4.alloc (.cells #[.int .i64 (-40), .int .i64 (-40), .int .i64 (-40), .int .i64 (-40), .int .i64 (-40), .int .i64 (-40), .int .i64 (-40), .int .i64 (-40), .int .i64 40, .int .i64 40, .int .i64 40, .int .i64 40, .int .i64 40, .int .i64 40, .int .i64 40, .int .i64 40] 3)) g4 [101, 99, 100]) := HR4.out.to (from_alloc _ _)
  have HI5 : Hid (Ri 3 (w4.alloc (.cells #[.int .i64 (-40), .int .i64 (-40), .int .i64 (-40), .int .i64 (-40), .int .i64 (-40), .int .i64 (-40), .int .i64 (-40), .int .i64 (-40), .int .i64 40, .int .i64 40, .int .i64 40, .int .i64 40, .int .i64 40, .int .i64 40, .int .i64 40, .int .i64 40] 3)) w4.heap.size [-40, -40, -40, -40, -40, -40, -40, -40, 40, 40, 40, 40, 40, 40, 40, 40]) := Ri.built 3 _ [-40, -40, -40, -40, -40, -40, -40, -40, 40, 40, 40, 40, 40, 40, 40, 40] rfl
  go_wp2_with fail
  refine (eqInts_at (n := 16) (m := 16) HO5.out.si HI5.out.si rfl rfl (by omega) (by omega)).mono ?_
  rintro e w6 ⟨rfl, hb6⟩
  have HB6 : Hid (Below w.heap.size w w6) := below_to HB5.out hb6
  have HR6 : Hid (Rw w6 g4 [101, 99, 100]) := HR5.out.to hb6
  clear hb6
  rw [e1]
  go_wp2_with fail
  refine (eqBytes_at (n := 3) (m := 3) (C := [101, 99, 100]) (D := [101, 99, 100]) (HR6.out.to (from_alloc _ _)).sl (Rw.built _ [101, 99, 100] rfl).sl rfl rfl (by omega) (by omega)).mono ?_
  rintro e w7 ⟨rfl, hb7⟩
  have HB7 : Hid (Below w.heap.size w w7) := below_to (to_alloc HB6.out _) hb7
  clear hb7
  rw [e2]
  go_wp2_with fail
  go_ret
  exact ⟨rfl, HB7.out⟩

end Go.Proofs.Ytlcegnnhlfafgaa
