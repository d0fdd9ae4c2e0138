/- DERIVED. The walks of the statements' own 'has' and 'works'. -/
import Derived.Test.YtpijgdfhkmailabTg
namespace Go.Proofs.Ytpijgdfhkmailab
open Go.RowKit

set_option maxRecDepth 100000 in
set_option maxHeartbeats 1000000 in
theorem has_true {w : World} {a a2 : Option Addr} {c c2 : Nat} {C : List Nat} {n : Int} (h : Sl w .u16 a C) (h2 : Sl w .u16 a2 C) (hl : C.length ≤ 140737488355328) :
    Calls Try.prog 6 #[.agg #[.slice a C.length c, .int .i64 n], .int .i64 n, .slice a2 C.length c2] w fun e w' => e = .returned (.bool true) ∧ Below w.heap.size w w' := by
  by_cases h0 : C.length = 0
  · rw [h0]
    have HB : Hid (Below w.heap.size w (w.alloc (.cells #[.slice a 0 c, .int .i64 n] 24))) := (Below.refl _ _).alloc (Nat.le_refl _) _
    go_enter Try.func6, Try.ntmps6
    go_wp2
    go_loop [7] (fun i => i = .int .i64 0) (fun _ => 0)
    case atStart => rfl
    case round =>
      subst hrel
      go_wp2
      go_ret
      exact ⟨rfl, HB.out⟩
  · obtain ⟨b, o, rfl, hbl, hcell⟩ := h.form (by omega)
    obtain ⟨b2, o2, rfl, hbl2, hcell2⟩ := h2.form (by omega)
    have q1 : ∀ m, ((w.alloc (.cells #[.slice (some ⟨b, o, none⟩) C.length c, .int .i64 n] 24)).drewN m).cell? ⟨w.heap.size, 0, none⟩ = some (.slice (some ⟨b, o, none⟩) C.length c) := fun m => by simp
    have q2 : ∀ m j, j < C.length → ((w.alloc (.cells #[.slice (some ⟨b, o, none⟩) C.length c, .int .i64 n] 24)).drewN m).cell? ⟨b, o + j, none⟩ = some (.int .u16 (C.getD j 0 : Nat)) := fun m j hj => by
      show (w.alloc _).cell? _ = _
      rw [newCell ((Below.refl w.heap.size w).alloc (Nat.le_refl _) _) b _ hbl]; exact hcell _ hj
    have q3 : ∀ m j, j < C.length → ((w.alloc (.cells #[.slice (some ⟨b, o, none⟩) C.length c, .int .i64 n] 24)).drewN m).cell? ⟨b2, o2 + j, none⟩ = some (.int .u16 (C.getD j 0 : Nat)) := fun m j hj => by
      show (w.alloc _).cell? _ = _
      rw [newCell ((Below.refl w.heap.size w).alloc (Nat.le_refl _) _) b2 _ hbl2]; exact hcell2 _ hj
    have HB : Hid (∀ m, Below w.heap.size w ((w.alloc (.cells #[.slice (some ⟨b, o, none⟩) C.length c, .int .i64 n] 24)).drewN m)) := fun m => below_drewN ((Below.refl _ _).alloc (Nat.le_refl _) _) m
    have Q1 : Hid _ := q1
    have Q2 : Hid _ := q2
    have Q3 : Hid _ := q3
    clear q1 q2 q3 hcell hcell2 h h2
    go_enter Try.func6, Try.ntmps6
    go_wp2
    generalize w.alloc (.cells #[.slice (some ⟨b, o, none⟩) C.length c, .int .i64 n] 24) = W at *
    go_loopw [7] (fun i wr => ∃ k m : Nat, k ≤ C.length ∧ i = .int .i64 k ∧ wr = W.drewN m) (fun i _ => C.length - (intOf i).toNat)
    case atStart => exact ⟨0, 0, by omega, rfl, rfl⟩
    case round =>
      obtain ⟨k, m, hk, rfl, rfl⟩ := hrel
      by_cases hlt : k < C.length
      · have r0 := Q1.out m
        have r1 := Q2.out m k hlt
        have r2 := Q3.out m k hlt
        have b0 : 0 ≤ (k : Int) := by omega
        have b1 : (k : Int) < (C.length : Int) := by omega
        generalize C.getD k 0 = p1 at *
        have hne : ((p1 : Int) != (p1 : Int)) = false := by simp
        generalize hW : W.drewN m = u at *
        have HW : Hid (W.drewN m = u) := hW
        clear hW
        go_wp2
        go_quiet (fail)
        go_wp2
        go_roundw
        case rel => exact ⟨k + 1, m + nq, by omega, by go_num, by rw [← HW.out]; exact drewN_drewN _ _ _⟩
        case measure => simp [intOf]; omega
      · go_wp2
        go_ret
        exact ⟨rfl, HB.out m⟩

theorem flC2 : flC 2 = [16384, 32768] := by decide +kernel
theorem ad2 : ad [16384, 32768] 0 0 = [17408, 32768] := by decide +kernel
theorem adN0 : adN 0 = 1 := by decide +kernel
theorem av2 : av 2 [[16384, 32768], [17408, 32768]] = [16896, 32768] := by decide +kernel
theorem ok2 {x : Nat} {n : Int} (hx : x ≤ 32768) (h0 : 0 ≤ n) (h1 : n ≤ 32) : TOk [x, 32768] n :=
  ⟨by simp, by simp, rfl, h0, h1, fun i g1 g2 => by
    have e : i = 1 := by simp at g2; omega
    subst e; exact hx⟩

/-- a list that was built in place -/
theorem built_sl (w : World) (x y : Nat) (X Y : Int) (t : TypeId) (hx : X = (x : Int)) (hy : Y = (y : Int)) : Sl (w.alloc (.cells #[.int .u16 X, .int .u16 Y] t)) .u16 (some ⟨w.heap.size, 0, none⟩) [x, y] :=
  Or.inr ⟨w.heap.size, 0, rfl, by simp, fun j hj => by
    simp at hj
    rcases (show j = 0 ∨ j = 1 by omega) with rfl | rfl <;> simp [hx, hy]⟩

/-- a variable in block x that has a table -/
structure Loc (u : World) (x : Nat) (t : Tb) : Prop where
  low : x < u.heap.size
  c0 : u.cell? ⟨x, 0, none⟩ = some (.slice t.a t.C.length t.c)
  c1 : u.cell? ⟨x, 1, none⟩ = some (.int .i64 t.n)
  sl : Sl u .u16 t.a t.C
theorem Loc.to {u v : World} {x : Nat} {t : Tb} (h : Loc u x t) (hb : Below u.heap.size u v) : Loc v x t :=
  ⟨Nat.lt_of_lt_of_le h.low hb.size, by rw [newCell hb _ _ h.low]; exact h.c0, by rw [newCell hb _ _ h.low]; exact h.c1, h.sl.to hb⟩
theorem Loc.new {u : World} (t : Tb) (h : Sl u .u16 t.a t.C) : Loc (u.alloc (.cells #[.slice t.a t.C.length t.c, .int .i64 t.n] 24)) u.heap.size t :=
  ⟨by simp, by simp, by simp, h.alloc _⟩
theorem to_alloc {w u : World} (h : Below w.heap.size w u) (o : Obj) : Below w.heap.size w (u.alloc o) := below_alloc h (Nat.le_refl _) o
theorem from_alloc (u : World) (o : Obj) : Below u.heap.size u (u.alloc o) := (Below.refl _ _).alloc (Nat.le_refl _) _

theorem pair_ts {u : World} {a1 a2 : Option Addr} {c1 c2 x1 y1 x2 y2 : Nat} {n1 n2 : Int} (h1 : Sl u .u16 a1 [x1, y1]) (h2 : Sl u .u16 a2 [x2, y2]) (b1 : x1 < 65536 := by omega) (b2 : y1 < 65536 := by omega) (b3 : x2 < 65536 := by omega) (b4 : y2 < 65536 := by omega) :
    Ts (u.alloc (.cells #[.slice a1 2 c1, .int .i64 n1, .slice a2 2 c2, .int .i64 n2] 24)) u.heap.size 0 [⟨a1, c1, [x1, y1], n1⟩, ⟨a2, c2, [x2, y2], n2⟩] := by
  refine ⟨by simp, fun j t ht => ?_, fun j t ht => ?_, fun t ht => ?_⟩
  · rcases j with _ | _ | j
    · simp at ht; subst ht; simp
    · simp at ht; subst ht; simp
    · simp at ht
  · rcases j with _ | _ | j
    · simp at ht; subst ht; simp
    · simp at ht; subst ht; simp
    · simp at ht
  · have hu : ∀ x y : Nat, x < 65536 → y < 65536 → ∀ i, ([x, y] : List Nat).getD i 0 < 65536 := fun x y hx hy i => by
      rcases i with _ | _ | i <;> simp [List.getD_eq_getElem?_getD] <;> assumption
    simp at ht
    rcases ht with rfl | rfl
    · exact ⟨h1.alloc _, by simp, hu _ _ b1 b2⟩
    · exact ⟨h2.alloc _, by simp, hu _ _ b3 b4⟩

set_option maxRecDepth 100000 in
set_option maxHeartbeats 2000000 in
theorem works_true (w : World) : Calls Try.prog 12 #[] w fun e w' => e = .returned (.bool true) ∧ Below w.heap.size w w' := by
  go_enter Try.func12, Try.ntmps12
  go_wp2_with fail
  refine (flat_ok (n := 2) (by omega) (by omega)).mono ?_
  rintro e w1 ⟨g, c, rfl, ho, hb⟩
  rw [flC2] at ho ⊢
  have HL : Hid (Loc (w1.alloc (.cells #[.slice (some ⟨g, 0, none⟩) 2 c, .int .i64 0] 24)) w1.heap.size ⟨some ⟨g, 0, none⟩, c, [16384, 32768], 0⟩) := Loc.new ⟨some ⟨g, 0, none⟩, c, [16384, 32768], 0⟩ ho.sl
  have HB : Hid (Below w.heap.size w (w1.alloc (.cells #[.slice (some ⟨g, 0, none⟩) 2 c, .int .i64 0] 24))) := to_alloc hb _
  clear ho hb
  go_wp2_with fail
  generalize w1.alloc (.cells #[.slice (some ⟨g, 0, none⟩) 2 c, .int .i64 0] 24) = v1 at *
  generalize w1.heap.size = x1 at *
  refine (adapt_ok (C := [16384, 32768]) (n := 0) (s := 0) HL.out.sl (ok2 (by omega) (by omega) (by omega)) (by simp)).mono ?_
  rintro e w2 ⟨g2, c2, rfl, ho, hb⟩
  rw [ad2, adN0] at *
  have HM0 : Hid (Loc (w2.alloc (.cells #[.slice (some ⟨g2, 0, none⟩) 2 c2, .int .i64 1] 24)) w2.heap.size ⟨some ⟨g2, 0, none⟩, c2, [17408, 32768], 1⟩) := Loc.new ⟨some ⟨g2, 0, none⟩, c2, [17408, 32768], 1⟩ ho.sl
  have HL2 : Hid (Loc (w2.alloc (.cells #[.slice (some ⟨g2, 0, none⟩) 2 c2, .int .i64 1] 24)) x1 ⟨some ⟨g, 0, none⟩, c, [16384, 32768], 0⟩) := HL.out.to (to_alloc hb _)
  have HB2 : Hid (Below w.heap.size w (w2.alloc (.cells #[.slice (some ⟨g2, 0, none⟩) 2 c2, .int .i64 1] 24))) := below_to HB.out (to_alloc hb _)
  clear ho hb HL HB
  go_wp2_with fail
  generalize w2.alloc (.cells #[.slice (some ⟨g2, 0, none⟩) 2 c2, .int .i64 1] 24) = v2 at *
  generalize w2.heap.size = x2 at *
  refine (bounds_ok (C := [17408, 32768]) (n := 1) (i := 1) HM0.out.sl (ok2 (by omega) (by omega) (by omega)) (by simp)).mono ?_
  rintro e w3 ⟨rfl, hb⟩
  rw [show eb [17408, 32768] 1 = 17407 from by decide +kernel, show ee [17408, 32768] 1 = 32768 from by decide +kernel]
  have HM3 := HM0.out.to hb
  have HL3 := HL2.out.to hb
  have HB3 : Hid (Below w.heap.size w w3) := below_to HB2.out hb
  clear hb HM0 HL2 HB2
  have q0 : w3.cell? ⟨x1, 0, none⟩ = some (.slice (some ⟨g, 0, none⟩) 2 c) := HL3.c0
  have q1 : w3.cell? ⟨x1, 1, none⟩ = some (.int .i64 0) := HL3.c1
  have HL3' : Hid _ := HL3
  have HM3' : Hid _ := HM3
  clear HL3 HM3
  go_wp2_with fail
  refine (find_ok (C := [16384, 32768]) (n := 0) (p := 16384) HL3'.out.sl (ok2 (by omega) (by omega) (by omega)) (by omega)).mono ?_
  rintro e w4 ⟨s, rfl, hs, hb⟩
  obtain rfl : s = 1 := part_uniq (C := [16384, 32768]) (n := 0) (at' := 16384) (ok2 (by omega) (by omega) (by omega)) hs.1 (by simp) hs.2.1 hs.2.2 (by decide +kernel) (by decide +kernel)
  have HM4 := HM3'.out.to hb
  have HL4 := HL3'.out.to hb
  have HB4 : Hid (Below w.heap.size w w4) := below_to HB3.out hb
  clear hb HM3' HL3' HB3 q0 q1 hs
  have q0 : w4.cell? ⟨x1, 0, none⟩ = some (.slice (some ⟨g, 0, none⟩) 2 c) := HL4.c0
  have q1 : w4.cell? ⟨x1, 1, none⟩ = some (.int .i64 0) := HL4.c1
  have q2 : w4.cell? ⟨x2, 0, none⟩ = some (.slice (some ⟨g2, 0, none⟩) 2 c2) := HM4.c0
  have q3 : w4.cell? ⟨x2, 1, none⟩ = some (.int .i64 1) := HM4.c1
  have HL4' : Hid _ := HL4
  have HM4' : Hid _ := HM4
  clear HL4 HM4
  go_wp2_with fail
  have hts : Ts (w4.alloc (.cells #[.slice (some ⟨g, 0, none⟩) 2 c, .int .i64 0, .slice (some ⟨g2, 0, none⟩) 2 c2, .int .i64 1] 24)) w4.heap.size 0 [⟨some ⟨g, 0, none⟩, c, [16384, 32768], 0⟩, ⟨some ⟨g2, 0, none⟩, c2, [17408, 32768], 1⟩] :=
    pair_ts (HL4'.out.sl) (HM4'.out.sl)
  have HBx : Hid (Below w4.heap.size w4 (w4.alloc (.cells #[.slice (some ⟨g, 0, none⟩) 2 c, .int .i64 0, .slice (some ⟨g2, 0, none⟩) 2 c2, .int .i64 1] 24))) := from_alloc _ _
  generalize w4.alloc (.cells #[.slice (some ⟨g, 0, none⟩) 2 c, .int .i64 0, .slice (some ⟨g2, 0, none⟩) 2 c2, .int .i64 1] 24) = v4 at *
  generalize w4.heap.size = x4 at hts ⊢
  refine (average_some (L := [⟨some ⟨g, 0, none⟩, c, [16384, 32768], 0⟩, ⟨some ⟨g2, 0, none⟩, c2, [17408, 32768], 1⟩]) hts rfl (by simp)).mono ?_
  intro e w5 hav
  have hok : AvOk [⟨some ⟨g, 0, none⟩, c, [16384, 32768], 0⟩, ⟨some ⟨g2, 0, none⟩, c2, [17408, 32768], 1⟩] 2 := fun t ht => by
    simp at ht
    rcases ht with rfl | rfl
    · exact ⟨ok2 (n := 0) (by omega) (by omega) (by omega), rfl⟩
    · exact ⟨ok2 (n := 1) (by omega) (by omega) (by omega), rfl⟩
  rcases hav with ⟨_, hav⟩ | ⟨hno, _⟩
  · obtain ⟨g3, c3, rfl, ho, hb⟩ := hav
    simp only [List.map_cons, List.map_nil] at ho ⊢
    rw [show av ([16384, 32768] : List Nat).length [[16384, 32768], [17408, 32768]] = [16896, 32768] from av2] at *
    have HN5 : Loc (w5.alloc (.cells #[.slice (some ⟨g3, 0, none⟩) 2 c3, .int .i64 0] 24)) w5.heap.size ⟨some ⟨g3, 0, none⟩, c3, [16896, 32768], 0⟩ := Loc.new ⟨some ⟨g3, 0, none⟩, c3, [16896, 32768], 0⟩ ho.sl
    have HL5 : Loc (w5.alloc (.cells #[.slice (some ⟨g3, 0, none⟩) 2 c3, .int .i64 0] 24)) x1 ⟨some ⟨g, 0, none⟩, c, [16384, 32768], 0⟩ := (HL4'.out.to HBx.out).to (to_alloc hb _)
    have HM5 : Loc (w5.alloc (.cells #[.slice (some ⟨g3, 0, none⟩) 2 c3, .int .i64 0] 24)) x2 ⟨some ⟨g2, 0, none⟩, c2, [17408, 32768], 1⟩ := (HM4'.out.to HBx.out).to (to_alloc hb _)
    have HB5 : Hid (Below w.heap.size w (w5.alloc (.cells #[.slice (some ⟨g3, 0, none⟩) 2 c3, .int .i64 0] 24))) := below_to (below_to HB4.out HBx.out) (to_alloc hb _)
    clear hb ho HL4' HM4' HB4 HBx hts q0 q1 q2 q3 hok
    have HN : Hid _ := HN5
    have HL : Hid _ := HL5
    have HM : Hid _ := HM5
    have q0 : (w5.alloc (.cells #[.slice (some ⟨g3, 0, none⟩) 2 c3, .int .i64 0] 24)).cell? ⟨x1, 0, none⟩ = some (.slice (some ⟨g, 0, none⟩) 2 c) := HL5.c0
    have q1 : (w5.alloc (.cells #[.slice (some ⟨g3, 0, none⟩) 2 c3, .int .i64 0] 24)).cell? ⟨x1, 1, none⟩ = some (.int .i64 0) := HL5.c1
    clear HN5 HL5 HM5
    have HS5 : Hid ((w5.alloc (.cells #[.slice (some ⟨g3, 0, none⟩) 2 c3, .int .i64 0] 24)).heap.size = w5.heap.size + 1) := by unfold Hid; simp
    go_wp2_with fail
    generalize w5.alloc (.cells #[.slice (some ⟨g3, 0, none⟩) 2 c3, .int .i64 0] 24) = v5 at *
    generalize w5.heap.size = x5 at *
    rw [← HS5.out]
    refine (has_true (C := [16384, 32768]) (HL.out.sl.alloc _) (built_sl v5 16384 32768 16384 32768 29 rfl rfl) (by simp)).mono ?_
    rintro e w6 ⟨rfl, hb⟩
    have hb' := below_to (from_alloc v5 (.cells #[.int .u16 16384, .int .u16 32768] 29)) hb
    have HN6 : Hid _ := HN.out.to hb'
    have HM6 : Hid _ := HM.out.to hb'
    have HB6 : Hid (Below w.heap.size w w6) := below_to HB5.out hb'
    clear hb hb' HL HM HN HB5 q0 q1
    have q0 : w6.cell? ⟨x2, 0, none⟩ = some (.slice (some ⟨g2, 0, none⟩) 2 c2) := HM6.out.c0
    have q1 : w6.cell? ⟨x2, 1, none⟩ = some (.int .i64 1) := HM6.out.c1
    go_wp2_with fail
    refine (has_true (C := [17408, 32768]) (HM6.out.sl.alloc _) (built_sl w6 17408 32768 17408 32768 29 rfl rfl) (by simp)).mono ?_
    rintro e w7 ⟨rfl, hb⟩
    have hb' := below_to (from_alloc w6 (.cells #[.int .u16 17408, .int .u16 32768] 29)) hb
    have HN7 : Hid _ := HN6.out.to hb'
    have HB7 : Hid (Below w.heap.size w w7) := below_to HB6.out hb'
    clear hb hb' HM6 HN6 HB6 q0 q1
    have q0 : w7.cell? ⟨x5, 0, none⟩ = some (.slice (some ⟨g3, 0, none⟩) 2 c3) := HN7.out.c0
    have q1 : w7.cell? ⟨x5, 1, none⟩ = some (.int .i64 0) := HN7.out.c1
    go_wp2_with fail
    refine (has_true (C := [16896, 32768]) (HN7.out.sl.alloc _) (built_sl w7 16896 32768 16896 32768 29 rfl rfl) (by simp)).mono ?_
    rintro e w8 ⟨rfl, hb⟩
    have hb' := below_to (from_alloc w7 (.cells #[.int .u16 16896, .int .u16 32768] 29)) hb
    have HB8 : Hid (Below w.heap.size w w8) := below_to HB7.out hb'
    clear hb hb' HN7 HB7 q0 q1
    go_wp2_with fail
    go_ret
    exact ⟨rfl, HB8.out⟩
  · exact absurd hok hno

end Go.Proofs.Ytpijgdfhkmailab
