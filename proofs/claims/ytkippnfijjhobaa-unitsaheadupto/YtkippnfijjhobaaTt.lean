/- DERIVED. may; Bring. -/
import Derived.Test.YtkippnfijjhobaaTl
import Derived.Deep.RegionHeld3
namespace Go.Proofs.Ytkippnfijjhobaa
open Go.RowKit

theorem tmod_fix (i n : Int) (h : 0 < n) : (if i.tmod n < 0 then i.tmod n + n else i.tmod n) = i % n := by
  have h1 := Int.tmod_lt_of_pos i h
  rcases Int.lt_or_le i 0 with hi | hi
  · have e := Int.tmod_eq_emod (a := i) (b := n)
    have h2 := Int.emod_nonneg i (by omega : n ≠ 0)
    have h3 := Int.emod_lt_of_pos i h
    rw [e]
    split <;> split at * <;> first | omega | skip
    all_goals simp_all
    all_goals omega
  · have e := Int.tmod_eq_emod_of_nonneg (a := i) (b := n) hi
    have h2 := Int.emod_nonneg i (by omega : n ≠ 0)
    rw [e, if_neg (by omega)]

set_option maxRecDepth 100000 in
set_option maxHeartbeats 400000 in
theorem bring_any {w : World} {i n : Int} (h0 : 0 < n) (h1 : n ≤ 1099511627776) : Calls Try.prog 22 #[.int .i64 i, .int .i64 n] w fun e w' => e = .returned (.int .i64 (i % n)) ∧ w = w' := by
  have HT : Hid ((if i.tmod n < 0 then i.tmod n + n else i.tmod n) = i % n) := tmod_fix i n h0
  have b1 := Int.tmod_lt_of_pos i h0
  have b2 : -n < i.tmod n := by
    have := Int.lt_tmod_of_pos i h0
    omega
  have z : n ≠ 0 := by omega
  have z' : ¬ n ≤ 0 := by omega
  generalize i % n = r at *
  by_cases hz : i.tmod n < 0
  · have HR : Hid (r = i.tmod n + n) := by show _ = _; rw [← HT.out, if_pos hz]
    clear HT
    go_enter Try.func22, Try.ntmps22
    go_wp2_with fail
    go_ret
    exact ⟨by rw [HR.out]; rfl, rfl⟩
  · have HR : Hid (r = i.tmod n) := by show _ = _; rw [← HT.out, if_neg hz]
    clear HT
    go_enter Try.func22, Try.ntmps22
    go_wp2_with fail
    go_ret
    exact ⟨by rw [HR.out]; rfl, rfl⟩


/-- pieces that may be, out of any -/
def mayP (P : List Pc) : List Pc := P.map fun p => (1 + p.1 % 3, p.2.take 1048576)
theorem mayP_len (P : List Pc) : (mayP P).length = P.length := by simp [mayP]
theorem mayP_snoc {P : List Pc} {j : Nat} (hj : j < P.length) : mayP (P.take (j + 1)) = mayP (P.take j) ++ [(1 + (P.getD j p0).1 % 3, (P.getD j p0).2.take 1048576)] := by
  rw [take_snoc hj]; simp [mayP]
def MaI (B N : Nat) (w0 : World) (P : List Pc) (ov iv : Value) (wr : World) : Prop := ∃ (j : Nat) (L : List Oh), iv = .int .i64 (j : Int) ∧ j ≤ P.length ∧ Ow wr B ov L ∧ Hs wr N L (mayP (P.take j)) ∧ Below B w0 wr
theorem ma_step {B N j : Nat} {w0 w1 w' : World} {P : List Pc} {L : List Oh} {v' : Value} {h : Oh} (hj : j < P.length) (hN : N ≤ B) (hs : Hs w1 N L (mayP (P.take j))) (hh : Hd1 w1 N h (1 + (P.getD j p0).1 % 3, (P.getD j p0).2.take 1048576)) (hw' : Ow w' B v' (L ++ [h])) (hg : Below B w1 w') (hb : Below B w0 w') {I : Int} (hI : I = ((j + 1 : Nat) : Int)) : MaI B N w0 P v' (.int .i64 I) w' := by
  subst hI
  refine ⟨j + 1, _, rfl, by omega, hw', ?_, hb⟩
  rw [mayP_snoc hj]
  exact (hs.snoc hh).below hg hN

set_option maxHeartbeats 4000000 in
set_option maxRecDepth 100000 in
theorem may_any {w : World} {N : Nat} {v : Value} {P : List Pc} (h : Ob w N v P) (hN : N ≤ w.heap.size) (hPl : P.length ≤ 4398046511104) :
    Calls Try.prog 21 #[v] w fun e w' => ∃ v' L, e = .returned v' ∧ Ow w' w.heap.size v' L ∧ Hs w' N L (mayP P) ∧ Below w.heap.size w w' := by
  obtain ⟨a, c, rfl, hc⟩ := h.sl
  obtain ⟨B, hB⟩ : ∃ B, B = w.heap.size := ⟨_, rfl⟩
  rw [← hB] at hN ⊢
  have HH : Hid (Ob w N (.slice a P.length c) P) := h
  have HBz : Hid (B = w.heap.size) := hB
  clear h hB
  go_enter Try.func21, Try.ntmps21
  go_wp2_with fail
  go_loopw [3, 4] (fun ov iv wr => MaI B N w P ov iv wr) (fun _ iv _ => P.length - (intOf iv).toNat)
  case atStart => exact ⟨0, [], rfl, by omega, Ow.nil _ _, ⟨rfl, fun j hj => by simp [mayP] at hj⟩, by rw [HBz.out]; exact Below.refl _ _⟩
  case round =>
    obtain ⟨j, L, rfl, hj, ho, hs, hb⟩ := hrel
    have HB : Hid (Below B w wr) := hb
    have HS : Hid (Hs wr N L (mayP (P.take j))) := hs
    by_cases hlt : j < P.length
    · have HL1 : Hid (Ow wr B u3 L) := ho
      have hLj : L.length = j := by have := hs.len; rw [mayP_len, List.length_take] at this; omega
      have HLj : Hid (L.length = j) := hLj
      obtain ⟨bb, oo, rfl, hbN, hcell⟩ := HH.out.form (by omega)
      obtain ⟨ad, m, cc, hx0, hx1, hm, hby⟩ := hcell j hlt
      have hbw : bb < B := by omega
      have hBw : B ≤ wr.heap.size := by have := hb.size; have := HBz.out; omega
      have z0 : wr.drew.cell? ⟨bb, oo + j * 2, none⟩ = some (.int .i64 (P.getD j p0).1) := by show wr.cell? _ = _; rw [newCell hb bb _ hbw]; exact hx0
      have z1 : wr.drew.cell? ⟨bb, oo + j * 2 + 1, none⟩ = some (.slice ad m cc) := by show wr.cell? _ = _; rw [newCell hb bb _ hbw]; exact hx1
      have hi1 : (0 : Int) ≤ (j : Int) := by omega
      have hi2 : (j : Int) < (P.length : Int) := by omega
      have HBw : Hid (B ≤ wr.heap.size) := hBw
      have hmc := hby.ln.2
      have hm140 : m ≤ 140737488355328 := by have := hby.len; omega
      obtain ⟨m2, hm2⟩ : ∃ m2, m2 = min m 1048576 := ⟨_, rfl⟩
      have hct : ∀ t : World, (Instr.sliceAt 22 (.slice ad m cc) none (some (.int .i64 (min (m : Int) 1048576))) none).run Try.prog t = .ok (.slice (pa ad cc 0 1) m2 cc) t := fun t => cut_to (by omega) (by omega) t
      have HBY : Hid (By w N (.slice (pa ad cc 0 1) m2 cc) ((P.getD j p0).2.take 1048576)) := by
        have h1 := hby.part 0 m2 (by omega)
        rw [List.drop_zero, Nat.sub_zero] at h1
        have e : (P.getD j p0).2.take m2 = (P.getD j p0).2.take 1048576 := by
          rw [hm2]
          rcases Nat.le_total m 1048576 with h2 | h2
          · rw [Nat.min_eq_left h2, hm, List.take_of_length_le (Nat.le_refl _), List.take_of_length_le (by omega)]
          · rw [Nat.min_eq_right h2]
        rw [e] at h1
        exact h1
      have HR : Hid (∀ u : World, Calls Try.prog 22 #[.int .i64 (P.getD j p0).1, .int .i64 3] u fun e w' => e = .returned (.int .i64 ((P.getD j p0).1 % 3)) ∧ u = w') := fun u => bring_any (by omega) (by omega)
      have r0 : 0 ≤ (P.getD j p0).1 % 3 := Int.emod_nonneg _ (by omega)
      have r1 : (P.getD j p0).1 % 3 < 3 := Int.emod_lt_of_pos _ (by omega)
      have HX : Hid (∀ x : Int, x = (P.getD j p0).1 % 3 → 1 + x = (1 + (P.getD j p0).1 % 3, (P.getD j p0).2.take 1048576).1) := fun x hx => by rw [hx]
      generalize hA : pa ad cc 0 1 = A at *
      have HST : Hid (∀ (w1 w' : World) (v' : Value) (h : Oh) (I : Int), Hs w1 N L (mayP (P.take j)) → Hd1 w1 N h (1 + (P.getD j p0).1 % 3, (P.getD j p0).2.take 1048576) → Ow w' B v' (L ++ [h]) → Below B w1 w' → Below B w w' → I = ((j + 1 : Nat) : Int) → MaI B N w P v' (.int .i64 I) w') := fun w1 w' v' h I k1 k2 k3 k4 k5 k6 => ma_step hlt hN k1 k2 k3 k4 k5 k6
      generalize (P.getD j p0).1 % 3 = r at *
      generalize (P.getD j p0).1 = t at *
      have W1 : IntKind.i64.wrap (1 + r) = 1 + r := by rw [IntKind.wrap_i64]; omega
      have HW1 : Hid (IntKind.i64.wrap (1 + r) = 1 + r) := W1
      clear W1
      have hLa : Ow (wr.alloc (.cells #[.int .i64 (IntKind.i64.wrap (1 + r)), .slice A m2 cc] 44)).drew B u3 L := (HL1.out.alloc _).drew
      have hsa : B ≤ (wr.alloc (.cells #[.int .i64 (IntKind.i64.wrap (1 + r)), .slice A m2 cc] 44)).drew.heap.size := by have := HBw.out; simp; omega
      have HF : Hid (Below wr.heap.size wr (wr.alloc (.cells #[.int .i64 (IntKind.i64.wrap (1 + r)), .slice A m2 cc] 44)).drew) := below_drew (from_alloc _ _)
      clear hA hcell hx0 hx1 hm hby hb hBw hm2 hLj ho hs HX
      have x0 : (wr.alloc (.cells #[.int .i64 (IntKind.i64.wrap (1 + r)), .slice A m2 cc] 44)).drew.cell? ⟨bb, oo + j * 2, none⟩ = some (.int .i64 t) := by rw [newCell (HF.out.mono HBw.out) bb _ hbw]; exact z0
      have x1 : (wr.alloc (.cells #[.int .i64 (IntKind.i64.wrap (1 + r)), .slice A m2 cc] 44)).drew.cell? ⟨bb, oo + j * 2 + 1, none⟩ = some (.slice ad m cc) := by rw [newCell (HF.out.mono HBw.out) bb _ hbw]; exact z1
      have N0 : Hid ((wr.alloc (.cells #[.int .i64 (IntKind.i64.wrap (1 + r)), .slice A m2 cc] 44)).drew.cell? ⟨wr.heap.size, 0, none⟩ = some (.int .i64 (IntKind.i64.wrap (1 + r)))) := by show _ = _; simp
      have N1 : Hid ((wr.alloc (.cells #[.int .i64 (IntKind.i64.wrap (1 + r)), .slice A m2 cc] 44)).drew.cell? ⟨wr.heap.size, 1, none⟩ = some (Oh.body (IntKind.i64.wrap (1 + r), A, m2, cc))) := by show _ = _; simp [Oh.body]
      have NA : Hid (Ow (wr.alloc (.cells #[.int .i64 (IntKind.i64.wrap (1 + r)), .slice A m2 cc] 44)).drew B u3 L) := hLa
      have NB : Hid (B ≤ (wr.alloc (.cells #[.int .i64 (IntKind.i64.wrap (1 + r)), .slice A m2 cc] 44)).drew.heap.size) := hsa
      have NC : Hid (L.length < 4398046511104) := by have := HLj.out; show _ < _; omega
      have K6 : Hid (∀ w6, Below B (wr.alloc (.cells #[.int .i64 (IntKind.i64.wrap (1 + r)), .slice A m2 cc] 44)).drew w6 → w6.cell? ⟨bb, oo + j * 2, none⟩ = some (.int .i64 t) ∧ w6.cell? ⟨bb, oo + j * 2 + 1, none⟩ = some (.slice ad m cc)) := fun w6 hb6 => ⟨by rw [newCell hb6 bb _ hbw]; exact x0, by rw [newCell hb6 bb _ hbw]; exact x1⟩
      clear hLa hsa
      go_wp2_with fail
      go_region_held3? (fun x => x.cell? ⟨bb, oo + j * 2, none⟩ = some (.int .i64 t) ∧ x.cell? ⟨bb, oo + j * 2 + 1, none⟩ = some (.slice ad m cc)) (first | exact ⟨y0, y1⟩ | exact ⟨x0, x1⟩ | exact ⟨z0, z1⟩ | go_keep) (first
        | (refine step_append_pcV _ (by rfl) _ _ (by rfl) B wr.heap.size L u3 (IntKind.i64.wrap (1 + r), A, m2, cc) N0.out N1.out NA.out NB.out NC.out (by rfl) (by rfl) ?_; intro g cap w6 hO6 hg6 hat6 hb6; obtain ⟨y0, y1⟩ := K6.out _ hb6)
        | (go_at_call 22; (with_reducible refine (HR.out _).mono ?_); rintro e w5 ⟨rfl, rfl⟩))
      all_goals
        go_wp2_with fail
        refine ⟨?_, by simp [intOf]; omega⟩
        have hbb : Below B w (wr.alloc (.cells #[.int .i64 (IntKind.i64.wrap (1 + r)), .slice A m2 cc] 44)).drew := HB.out.trans (HF.out.mono HBw.out)
        exact HST.out (wr.alloc (.cells #[.int .i64 (IntKind.i64.wrap (1 + r)), .slice A m2 cc] 44)).drew _ _ (IntKind.i64.wrap (1 + r), A, m2, cc) _ (HS.out.below (HF.out.mono HBw.out) hN) ⟨HW1.out, HBY.out.below hbb hN⟩ hO6 hb6 (hbb.trans hb6) (by omega)
    · go_wp2_with fail
      go_ret
      have e : P.take j = P := List.take_of_length_le (by omega)
      rw [e] at hs
      exact ⟨_, L, rfl, ho, hs, HB.out⟩
end Go.Proofs.Ytkippnfijjhobaa
