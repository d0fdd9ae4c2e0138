/- DERIVED. Steps rise; the walk of QuantRise. -/
import Derived.Test.YtaliaoapbjbfaaaQl
import Derived.Test.YtaliaoapbjbfaaaQf
namespace Go.Proofs.Ytaliaoapbjbfaaa
open Go.RowKit

theorem cl_mono {x y l m : Int} (h : x ≤ y) (hl : l ≤ m) : cl x l m ≤ cl y l m := by unfold cl; repeat (first | split | omega)
theorem sq_mono {x y : Int} (h0 : 0 ≤ x) (h : x ≤ y) : x * x ≤ y * y := Int.mul_le_mul h h h0 (by omega)
theorem stq_mono {x y p : Int} (h0 : 0 ≤ x) (h : x ≤ y) (hp : 0 < p) : stq x p ≤ stq y p := by
  have := Int.ediv_le_ediv hp (sq_mono h0 h)
  unfold stq
  omega
theorem stp_mono {b d b' d' p : Int} (h : b + d ≤ b' + d') (hp : 0 < p) : stp b d p ≤ stp b' d' p := stq_mono (cl_lo (by omega)) (cl_mono h (by omega)) hp
theorem stp_lo {b d p : Int} (hp : 0 < p) : 4 ≤ stp b d p := by
  have h0 := cl_lo (v := b + d) (l := 0) (m := 255) (by omega)
  unfold stp
  generalize cl (b + d) 0 255 = q at *
  have := Int.ediv_nonneg (Int.mul_nonneg h0 h0) (show 0 ≤ p by omega)
  unfold stq
  omega
theorem stp_hi {b d : Int} : stp b d 48 ≤ 1613 := by
  have h0 := cl_lo (v := b + d) (l := 0) (m := 255) (by omega)
  have h1 := cl_hi (v := b + d) (l := 0) (m := 255) (by omega)
  unfold stp
  generalize cl (b + d) 0 255 = q at *
  obtain ⟨s0, s1⟩ := sq_bound h0 h1
  unfold stq
  omega
theorem stp_dc {b d : Int} : stp b d 96 ≤ stp b d 48 := by
  have h0 := cl_lo (v := b + d) (l := 0) (m := 255) (by omega)
  unfold stp
  generalize cl (b + d) 0 255 = q at *
  have := Int.mul_nonneg h0 h0
  unfold stq
  omega
theorem stA_lo {b d p : Int} (h : OkB b d) (hp : 0 < p) : 4 ≤ stA b d p := by rw [stA_ok h]; exact stp_lo hp
/-- what a base and a delta that are drawn tell -/
structure Rz (b d : Int) : Prop where
  o1 : OkB b d
  o2 : OkB (b + 1) d
  o3 : OkB b (d + 1)
  r1 : stA b d 96 ≤ stA (b + 1) d 96
  r2 : stA b d 96 ≤ stA b (d + 1) 96
  r3 : stA b d 48 ≤ stA (b + 1) d 48
  r4 : stA b d 48 ≤ stA b (d + 1) 48
  r5 : stA b d 96 ≤ stA b d 48
  r6 : 4 ≤ stA b d 96
  r7 : stA (b + 1) d 48 ≤ 1613
theorem rz_of {b d : Int} (h0 : 0 ≤ b) (h1 : b ≤ 254) (g0 : -31 ≤ d) (g1 : d ≤ 30) : Rz b d := by
  have o1 : OkB b d := ⟨h0, by omega, g0, by omega⟩
  have o2 : OkB (b + 1) d := ⟨by omega, by omega, g0, by omega⟩
  have o3 : OkB b (d + 1) := ⟨h0, by omega, by omega, by omega⟩
  refine ⟨o1, o2, o3, ?_, ?_, ?_, ?_, ?_, ?_, ?_⟩ <;> simp only [stA_ok o1, stA_ok o2, stA_ok o3]
  · exact stp_mono (by omega) (by omega)
  · exact stp_mono (by omega) (by omega)
  · exact stp_mono (by omega) (by omega)
  · exact stp_mono (by omega) (by omega)
  · exact stp_dc
  · exact stp_lo (by omega)
  · exact stp_hi
/-- a load of many cells under a guard that says yes -/
theorem wpList_load_if {P : Program} {ops : Array Oper} {rest : List Oper} {op : Oper} {a : Act} {w : World} {Q : Exit → Act → World → Prop} (hw : Region.wanted op (yielded ops a.tmps) = true) (ty : TypeId) (x : Operand) (ho : op.op = .load ty x)
    (b o : Nat) (hx : a.eval x = .pointer (some ⟨b, o, none⟩)) (cs : List Value) (d : TypeDesc) (hc : w.rangeAt b o cs)
    (hu : P.underlying ty = some d) (hd : d.isRow = true) (hi : (P.info? ty).map (·.size) = some cs.length)
    (h : wpList P ops Q rest (a.put op.dst (.agg cs.toArray)) w) : wpList P ops Q (op :: rest) a w :=
  wpList_step fun K hK => by rw [if_pos hw]; exact wp_load_mid ty x ho b o hx cs d hc hu hd hi (hK _ _ h)
/-- what a frame's steps tell -/
structure Sx (s0 s1 s2 s3 s4 s5 : Int) (lb : Bool) : Prop where
  a0 : 4 ≤ s0
  a1 : 4 ≤ s1
  a2 : 4 ≤ s2
  a3 : 4 ≤ s3
  a4 : 4 ≤ s4
  a5 : 4 ≤ s5
  b0 : lb = true → s0 = 4
  b1 : lb = true → s1 = 4
  b2 : lb = true → s2 = 4
  b3 : lb = true → s3 = 4
  b4 : lb = true → s4 = 4
  b5 : lb = true → s5 = 4
theorem sx_of {B d0 d1 d2 d3 d4 : Int} (h : OkH B d0 d1 d2 d3 d4) : Sx (stA B d0 96) (stA B 0 48) (stA B d1 96) (stA B d2 48) (stA B d3 96) (stA B d4 48) (lsB B d0 d1 d2 d3 d4) := by
  have hz : lsB B d0 d1 d2 d3 d4 = true → B = 0 ∧ d0 = 0 ∧ d1 = 0 ∧ d2 = 0 ∧ d3 = 0 ∧ d4 = 0 := fun e => by
    unfold lsB lsD at e
    rw [Bool.and_eq_true, beq_iff_eq, decide_eq_true_eq] at e
    exact e
  obtain ⟨h0, h1, h2, h3, h4⟩ := h
  refine ⟨stA_lo h0 (by omega), stA_lo (okB_zero h0) (by omega), stA_lo h1 (by omega), stA_lo h2 (by omega), stA_lo h3 (by omega), stA_lo h4 (by omega), ?_, ?_, ?_, ?_, ?_, ?_⟩
  all_goals
    intro e
    obtain ⟨rfl, rfl, rfl, rfl, rfl, rfl⟩ := hz e
    decide
/-- while the loop of QuantRise walks -/
structure Rw (w v : World) (g : Nat) (L : List Value) (s0 s1 s2 s3 s4 s5 : Int) : Prop where
  h : Hd 28 v w.heap.size L.toArray
  s : Hd 33 v g #[.int .i64 s0, .int .i64 s1, .int .i64 s2, .int .i64 s3, .int .i64 s4, .int .i64 s5]
  b : Below w.heap.size w v
theorem Rw.to {w v u : World} {g : Nat} {L : List Value} {s0 s1 s2 s3 s4 s5 : Int} (h : Rw w v g L s0 s1 s2 s3 s4 s5) (hb : Below v.heap.size v u) : Rw w u g L s0 s1 s2 s3 s4 s5 := ⟨h.h.to hb, h.s.to hb, h.b.trans (hb.mono h.b.size)⟩

set_option maxRecDepth 100000 in
set_option maxHeartbeats 4000000 in
theorem rise_walk {w : World} {x0 x1 : Int} {c0 c1 c2 c3 c4 c5 c6 c7 c8 c15 c16 c17 c18 c19 c20 c21 c22 c23 c24 c25 c26 c27 c28 c29 : Value} {B d0 d1 d2 d3 d4 : Int} : Calls Try.prog 7 #[.int .i64 x0, .int .i64 x1, .agg #[c0, c1, c2, c3, c4, c5, c6, c7, c8, .int .i64 B, .int .i64 d0, .int .i64 d1, .int .i64 d2, .int .i64 d3, .int .i64 d4, c15, c16, c17, c18, c19, c20, c21, c22, c23, c24, c25, c26, c27, c28, c29]] w fun e w' => e = .returned (.bool true) ∧ Below w.heap.size w w' := by
  have y0 := Int.emod_nonneg x0 (show (255 : Int) ≠ 0 by omega)
  have y1 := Int.emod_lt_of_pos x0 (show (0 : Int) < 255 by omega)
  have z0 := Int.emod_nonneg x1 (show (62 : Int) ≠ 0 by omega)
  have z1 := Int.emod_lt_of_pos x1 (show (0 : Int) < 62 by omega)
  generalize hy : x0 % 255 = y at *
  generalize hz : x1 % 62 = z at *
  have HY : Hid (x0 % 255 = y) := hy
  have HZ : Hid (x1 % 62 = z) := hz
  have HR : Hid (Rz y (z - 31)) := rz_of y0 (by omega) (by omega) (by omega)
  clear hy hz
  have K15 : Hid (∀ u : World, Calls Try.prog 15 #[.agg #[c0, c1, c2, c3, c4, c5, c6, c7, c8, .int .i64 B, .int .i64 d0, .int .i64 d1, .int .i64 d2, .int .i64 d3, .int .i64 d4, c15, c16, c17, c18, c19, c20, c21, c22, c23, c24, c25, c26, c27, c28, c29]] u fun e w' => e = .returned (.bool (lsB B d0 d1 d2 d3 d4)) ∧ Below u.heap.size u w') := fun u => lossless_any
  have K13 : Hid (∀ u : World, Calls Try.prog 13 #[.agg #[c0, c1, c2, c3, c4, c5, c6, c7, c8, .int .i64 B, .int .i64 d0, .int .i64 d1, .int .i64 d2, .int .i64 d3, .int .i64 d4, c15, c16, c17, c18, c19, c20, c21, c22, c23, c24, c25, c26, c27, c28, c29]] u fun e w' => e = .returned (.tuple #[.agg (spA B d0 d1 d2 d3 d4), .int .i64 (spE B d0 d1 d2 d3 d4)]) ∧ Below u.heap.size u w') := fun u => steps_any
  have HH : Hid (Hd 28 (w.alloc (.cells #[c0, c1, c2, c3, c4, c5, c6, c7, c8, .int .i64 B, .int .i64 d0, .int .i64 d1, .int .i64 d2, .int .i64 d3, .int .i64 d4, c15, c16, c17, c18, c19, c20, c21, c22, c23, c24, c25, c26, c27, c28, c29] 28)) w.heap.size #[c0, c1, c2, c3, c4, c5, c6, c7, c8, .int .i64 B, .int .i64 d0, .int .i64 d1, .int .i64 d2, .int .i64 d3, .int .i64 d4, c15, c16, c17, c18, c19, c20, c21, c22, c23, c24, c25, c26, c27, c28, c29]) := Hd.built 28 w _
  have HB : Hid (Below w.heap.size w (w.alloc (.cells #[c0, c1, c2, c3, c4, c5, c6, c7, c8, .int .i64 B, .int .i64 d0, .int .i64 d1, .int .i64 d2, .int .i64 d3, .int .i64 d4, c15, c16, c17, c18, c19, c20, c21, c22, c23, c24, c25, c26, c27, c28, c29] 28))) := from_alloc w _
  have HC : Hid ((#[c0, c1, c2, c3, c4, c5, c6, c7, c8, .int .i64 B, .int .i64 d0, .int .i64 d1, .int .i64 d2, .int .i64 d3, .int .i64 d4, c15, c16, c17, c18, c19, c20, c21, c22, c23, c24, c25, c26, c27, c28, c29] : Array Value).size = 30) := rfl
  go_enter Try.func7, Try.ntmps7
  go_wp2_with fail
  generalize w.alloc (.cells #[c0, c1, c2, c3, c4, c5, c6, c7, c8, .int .i64 B, .int .i64 d0, .int .i64 d1, .int .i64 d2, .int .i64 d3, .int .i64 d4, c15, c16, c17, c18, c19, c20, c21, c22, c23, c24, c25, c26, c27, c28, c29] 28) = v1 at *
  generalize (#[c0, c1, c2, c3, c4, c5, c6, c7, c8, .int .i64 B, .int .i64 d0, .int .i64 d1, .int .i64 d2, .int .i64 d3, .int .i64 d4, c15, c16, c17, c18, c19, c20, c21, c22, c23, c24, c25, c26, c27, c28, c29] : Array Value) = C at *
  obtain ⟨L, rfl⟩ : ∃ L : List Value, C = L.toArray := ⟨C.toList, by simp⟩
  have hsz : (Try.prog.info? 28).map (·.size) = some L.length := by rw [Try.size28]; have := HC.out; simp at this; rw [this]
  refine works_any.mono ?_
  rintro e w' ⟨rfl, rfl⟩
  go_wp2_with fail
  refine (bring_any (by omega) (by omega)).mono ?_
  rintro e w' ⟨rfl, rfl⟩
  rw [HY.out]
  go_wp2_with fail
  refine (bring_any (by omega) (by omega)).mono ?_
  rintro e w' ⟨rfl, rfl⟩
  rw [HZ.out]
  go_wp2_with fail
  refine dc_any.mono ?_
  rintro e w' ⟨rfl, rfl⟩
  rw [stE_ok HR.out.o1]
  go_wp2_with fail
  refine dc_any.mono ?_
  rintro e w' ⟨rfl, rfl⟩
  rw [stE_ok HR.out.o2]
  go_wp2_with fail
  refine dc_any.mono ?_
  rintro e w' ⟨rfl, rfl⟩
  rw [stE_ok HR.out.o3]
  go_wp2_with fail
  refine ac_any.mono ?_
  rintro e w' ⟨rfl, rfl⟩
  rw [stE_ok HR.out.o1]
  go_wp2_with fail
  refine ac_any.mono ?_
  rintro e w' ⟨rfl, rfl⟩
  rw [stE_ok HR.out.o2]
  go_wp2_with fail
  refine ac_any.mono ?_
  rintro e w' ⟨rfl, rfl⟩
  rw [stE_ok HR.out.o3]
  have r1 : ¬ stA (y + 1) (z - 31) 96 < stA y (z - 31) 96 := Int.not_lt.2 HR.out.r1
  have r2 : ¬ stA y (z - 31 + 1) 96 < stA y (z - 31) 96 := Int.not_lt.2 HR.out.r2
  have r3 : ¬ stA (y + 1) (z - 31) 48 < stA y (z - 31) 48 := Int.not_lt.2 HR.out.r3
  have r4 : ¬ stA y (z - 31 + 1) 48 < stA y (z - 31) 48 := Int.not_lt.2 HR.out.r4
  have r5 : ¬ stA y (z - 31) 48 < stA y (z - 31) 96 := Int.not_lt.2 HR.out.r5
  have r6 : ¬ stA y (z - 31) 96 < 4 := Int.not_lt.2 HR.out.r6
  have r7 : ¬ 1613 < stA (y + 1) (z - 31) 48 := Int.not_lt.2 HR.out.r7
  go_wp2_with (refine wpList_load_mid rfl 28 (.tmp 5) rfl w.heap.size 0 rfl L _ (HH.out.range rfl) Try.underlying28 rfl hsz ?_)
  clear r1 r2 r3 r4 r5 r6 r7
  refine (K13.out _).mono ?_
  rintro e w2 ⟨rfl, hb⟩
  by_cases hO : OkH B d0 d1 d2 d3 d4
  · have HX : Hid (Sx (stA B d0 96) (stA B 0 48) (stA B d1 96) (stA B d2 48) (stA B d3 96) (stA B d4 48) (lsB B d0 d1 d2 d3 d4)) := sx_of hO
    rw [spA_ok hO, spE_ok hO]
    clear hO
    generalize lsB B d0 d1 d2 d3 d4 = lb at *
    generalize stA B d0 96 = s0 at *
    generalize stA B 0 48 = s1 at *
    generalize stA B d1 96 = s2 at *
    generalize stA B d2 48 = s3 at *
    generalize stA B d3 96 = s4 at *
    generalize stA B d4 48 = s5 at *
    have HW : Hid (Rw w (w2.alloc (.cells #[.int .i64 s0, .int .i64 s1, .int .i64 s2, .int .i64 s3, .int .i64 s4, .int .i64 s5] 33)) w2.heap.size L s0 s1 s2 s3 s4 s5) := ⟨(HH.out.to hb).to (from_alloc _ _), Hd.built 33 _ _, to_alloc (HB.out.trans (hb.mono HB.out.size)) _⟩
    clear hb HH HB K13
    go_wp2_with fail
    generalize w2.alloc (.cells #[.int .i64 s0, .int .i64 s1, .int .i64 s2, .int .i64 s3, .int .i64 s4, .int .i64 s5] 33) = v3 at *
    generalize w2.heap.size = g at *
    go_loopw [21] (fun i wx => ∃ k : Nat, k ≤ 3 ∧ i = .int .i64 k ∧ Hid (Rw w wx g L s0 s1 s2 s3 s4 s5)) (fun i _ => 3 - (intOf i).toNat)
    case atStart => exact ⟨0, by omega, rfl, HW⟩
    case round =>
      obtain ⟨k, hk, rfl, H⟩ := hrel
      have hcase : k = 0 ∨ k = 1 ∨ k = 2 ∨ k = 3 := by omega
      rcases hcase with rfl | rfl | rfl | rfl
      · have n0 : ¬ s0 < 4 := Int.not_lt.2 HX.out.a0
        have n1 : ¬ s1 < 4 := Int.not_lt.2 HX.out.a1
        have p0 : wr.cell? ⟨g, 0, none⟩ = some (.int .i64 s0) := H.out.s.cell 0
        have p1 : wr.cell? ⟨g, 1, none⟩ = some (.int .i64 s1) := H.out.s.cell 1
        cases lb with
        | false =>
          go_wp2_with (refine wpList_load_if (by rfl) 28 (.tmp 5) rfl w.heap.size 0 rfl L _ (H.out.h.range rfl) Try.underlying28 rfl hsz ?_)
          refine (K15.out _).mono ?_
          rintro e w4 ⟨rfl, hb4⟩
          have HW4 : Hid (Rw w w4 g L s0 s1 s2 s3 s4 s5) := H.out.to hb4
          clear hb4
          go_wp2_with fail
          go_roundw
          case rel => exact ⟨1, by omega, by go_num, HW4⟩
          case measure => simp [intOf]
        | true =>
          have hq : ∀ u : World, (Op.equalIn 10000 32 (.agg #[.int .i64 s0, .int .i64 s1]) (.agg #[.int .i64 4, .int .i64 4])).run Try.prog u = .ok true u := fun u => by rw [eq2, HX.out.b0 rfl, HX.out.b1 rfl]; simp
          go_wp2_with (refine wpList_load_if (by rfl) 28 (.tmp 5) rfl w.heap.size 0 rfl L _ (H.out.h.range rfl) Try.underlying28 rfl hsz ?_)
          refine (K15.out _).mono ?_
          rintro e w4 ⟨rfl, hb4⟩
          have HW4 : Hid (Rw w w4 g L s0 s1 s2 s3 s4 s5) := H.out.to hb4
          clear hb4
          have p0' : w4.cell? ⟨g, 0, none⟩ = some (.int .i64 s0) := HW4.out.s.cell 0
          have p1' : w4.cell? ⟨g, 1, none⟩ = some (.int .i64 s1) := HW4.out.s.cell 1
          go_wp2_with fail
          go_roundw
          case rel => exact ⟨1, by omega, by go_num, HW4⟩
          case measure => simp [intOf]
      · have n0 : ¬ s2 < 4 := Int.not_lt.2 HX.out.a2
        have n1 : ¬ s3 < 4 := Int.not_lt.2 HX.out.a3
        have p0 : wr.cell? ⟨g, 2, none⟩ = some (.int .i64 s2) := H.out.s.cell 2
        have p1 : wr.cell? ⟨g, 3, none⟩ = some (.int .i64 s3) := H.out.s.cell 3
        cases lb with
        | false =>
          go_wp2_with (refine wpList_load_if (by rfl) 28 (.tmp 5) rfl w.heap.size 0 rfl L _ (H.out.h.range rfl) Try.underlying28 rfl hsz ?_)
          refine (K15.out _).mono ?_
          rintro e w4 ⟨rfl, hb4⟩
          have HW4 : Hid (Rw w w4 g L s0 s1 s2 s3 s4 s5) := H.out.to hb4
          clear hb4
          go_wp2_with fail
          go_roundw
          case rel => exact ⟨2, by omega, by go_num, HW4⟩
          case measure => simp [intOf]
        | true =>
          have hq : ∀ u : World, (Op.equalIn 10000 32 (.agg #[.int .i64 s2, .int .i64 s3]) (.agg #[.int .i64 4, .int .i64 4])).run Try.prog u = .ok true u := fun u => by rw [eq2, HX.out.b2 rfl, HX.out.b3 rfl]; simp
          go_wp2_with (refine wpList_load_if (by rfl) 28 (.tmp 5) rfl w.heap.size 0 rfl L _ (H.out.h.range rfl) Try.underlying28 rfl hsz ?_)
          refine (K15.out _).mono ?_
          rintro e w4 ⟨rfl, hb4⟩
          have HW4 : Hid (Rw w w4 g L s0 s1 s2 s3 s4 s5) := H.out.to hb4
          clear hb4
          have p0' : w4.cell? ⟨g, 2, none⟩ = some (.int .i64 s2) := HW4.out.s.cell 2
          have p1' : w4.cell? ⟨g, 3, none⟩ = some (.int .i64 s3) := HW4.out.s.cell 3
          go_wp2_with fail
          go_roundw
          case rel => exact ⟨2, by omega, by go_num, HW4⟩
          case measure => simp [intOf]
      · have n0 : ¬ s4 < 4 := Int.not_lt.2 HX.out.a4
        have n1 : ¬ s5 < 4 := Int.not_lt.2 HX.out.a5
        have p0 : wr.cell? ⟨g, 4, none⟩ = some (.int .i64 s4) := H.out.s.cell 4
        have p1 : wr.cell? ⟨g, 5, none⟩ = some (.int .i64 s5) := H.out.s.cell 5
        cases lb with
        | false =>
          go_wp2_with (refine wpList_load_if (by rfl) 28 (.tmp 5) rfl w.heap.size 0 rfl L _ (H.out.h.range rfl) Try.underlying28 rfl hsz ?_)
          refine (K15.out _).mono ?_
          rintro e w4 ⟨rfl, hb4⟩
          have HW4 : Hid (Rw w w4 g L s0 s1 s2 s3 s4 s5) := H.out.to hb4
          clear hb4
          go_wp2_with fail
          go_roundw
          case rel => exact ⟨3, by omega, by go_num, HW4⟩
          case measure => simp [intOf]
        | true =>
          have hq : ∀ u : World, (Op.equalIn 10000 32 (.agg #[.int .i64 s4, .int .i64 s5]) (.agg #[.int .i64 4, .int .i64 4])).run Try.prog u = .ok true u := fun u => by rw [eq2, HX.out.b4 rfl, HX.out.b5 rfl]; simp
          go_wp2_with (refine wpList_load_if (by rfl) 28 (.tmp 5) rfl w.heap.size 0 rfl L _ (H.out.h.range rfl) Try.underlying28 rfl hsz ?_)
          refine (K15.out _).mono ?_
          rintro e w4 ⟨rfl, hb4⟩
          have HW4 : Hid (Rw w w4 g L s0 s1 s2 s3 s4 s5) := H.out.to hb4
          clear hb4
          have p0' : w4.cell? ⟨g, 4, none⟩ = some (.int .i64 s4) := HW4.out.s.cell 4
          have p1' : w4.cell? ⟨g, 5, none⟩ = some (.int .i64 s5) := HW4.out.s.cell 5
          go_wp2_with fail
          go_roundw
          case rel => exact ⟨3, by omega, by go_num, HW4⟩
          case measure => simp [intOf]
      · go_wp2_with fail
        go_ret
        exact ⟨rfl, H.out.b⟩
  · rw [spA_no hO, spE_no hO]
    have HE : Hid (Below w.heap.size w (w2.alloc (.cells #[.int .i64 0, .int .i64 0, .int .i64 0, .int .i64 0, .int .i64 0, .int .i64 0] 33))) := to_alloc (HB.out.trans (hb.mono HB.out.size)) _
    clear hb hO
    go_wp2_with fail
    go_ret
    exact ⟨rfl, HE.out⟩

end Go.Proofs.Ytaliaoapbjbfaaa
