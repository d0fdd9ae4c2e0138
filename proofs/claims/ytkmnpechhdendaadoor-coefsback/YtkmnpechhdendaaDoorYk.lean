/- DERIVED. The walks of may, Sign and awake. -/
import Derived.Test.YtkmnpechhdendaaDoorYj
namespace Go.Proofs.YtkmnpechhdendaaDoor
open Go.RowKit L3

/-- what may answers -/
def My (w w' : World) (e : Ending) (z : Int) (pl sg q : Nat) (L : List Int) : Prop := ∃ g, e = .returned (.agg #[.int .i64 z, .int .i64 (pl : Int), .int .i64 (sg : Int), .slice (some ⟨g, 0, none⟩) q q]) ∧ L10.Ri 3 w' g L ∧ w.heap.size ≤ g ∧ Below w.heap.size w w'
/-- the loop of may -/
structure MyI (w : World) (X Y g q : Nat) (z : Int) (pl sg : Nat) (lv : Value) (L : List Int) (iv : Value) (wr : World) : Prop where
  ex : ∃ i : Nat, i ≤ q ∧ i ≤ L.length ∧ iv = .int .i64 i ∧ L10.Ri 3 wr g (myL L q i)
  c0 : wr.cell? ⟨X, 0, none⟩ = some (.int .i64 z)
  c1 : wr.cell? ⟨X, 1, none⟩ = some (.int .i64 (pl : Int))
  c2 : wr.cell? ⟨X, 2, none⟩ = some (.int .i64 (sg : Int))
  c3 : wr.cell? ⟨X, 3, none⟩ = some lv
  fx : ∀ j, wr.frozen? ⟨X, j, none⟩ = false
  d : ∀ j, j < 4 → ∃ v, wr.cell? ⟨Y, j, none⟩ = some v
  fy : ∀ j, wr.frozen? ⟨Y, j, none⟩ = false
  bel : Below w.heap.size w wr
  ne : g ≠ X ∧ g ≠ Y ∧ X ≠ Y
  ge : w.heap.size ≤ X ∧ w.heap.size ≤ Y ∧ w.heap.size ≤ g
theorem MyI.put {w : World} {X Y g q : Nat} {z : Int} {pl sg : Nat} {lv : Value} {L : List Int} {wr : World} {i : Nat} (h : MyI w X Y g q z pl sg lv L (.int .i64 i) wr) (hi : i < q) (hl : i < L.length) : MyI w X Y g q z pl sg lv L (.int .i64 ((i + 1 : Nat) : Int)) (wr.setCell ⟨g, i, none⟩ (.int .i64 ((L.getD i 0).tmod 1048576))) := by
  obtain ⟨i', h1, h2, h3, h4⟩ := h.ex
  obtain rfl : i = i' := by simp only [Value.int.injEq, true_and] at h3; omega
  have oth : ∀ y j, g ≠ y → (wr.setCell ⟨g, i, none⟩ (.int .i64 ((L.getD i 0).tmod 1048576))).cell? ⟨y, j, none⟩ = wr.cell? ⟨y, j, none⟩ := fun y j hy => World.cell?_setCell_other _ _ _ _ (fun e => hy (by simp only [Addr.mk.injEq, and_true] at e; exact e.1))
  refine ⟨⟨i + 1, by omega, by omega, rfl, by rw [← myL_set L hi]; exact h4.set i _⟩, by rw [oth _ _ h.ne.1]; exact h.c0, by rw [oth _ _ h.ne.1]; exact h.c1, by rw [oth _ _ h.ne.1]; exact h.c2, by rw [oth _ _ h.ne.1]; exact h.c3, fun j => by simpa using h.fx j, fun j hj => by rw [oth _ _ h.ne.2.1]; exact h.d j hj, fun j => by simpa using h.fy j, L10.below_set h.bel h.ge.2.2 _, h.ne, h.ge⟩

set_option maxRecDepth 100000 in
set_option maxHeartbeats 2000000 in
theorem may_any {w : World} {a b c : Int} {la : Option Addr} {lc : Nat} {L : List Int} (hs : L10.Si w la L) {k n pl sg q : Nat} {z : Int} (h1 : a % 5 = (k : Int)) (hk : k < 5) (h2 : (4 : Int) * 2 ^ k = z) (hz : L10.Sz z n) (h3 : min z 32 = (n : Int)) (hq : n * n = q) (h4 : b % 3 = (pl : Int)) (h5 : c % 3 = (sg : Int)) :
    Calls Tryd.prog 9 #[.agg #[.int .i64 a, .int .i64 b, .int .i64 c, .slice la L.length lc]] w fun e w' => My w w' e z pl sg q (myL L q q) := by
  have hq1 : q ≤ 1024 := by rw [← hq]; exact hz.sd.sq
  have hnn : (n : Int) * (n : Int) = (q : Int) := by rw [← hq]; simp
  have hz0 : 4 ≤ z ∧ z ≤ 64 := by rcases hz with ⟨rfl, _⟩ | ⟨rfl, _⟩ | ⟨rfl, _⟩ | ⟨rfl, _⟩ | ⟨rfl, _⟩ <;> omega
  have hn1 : n ≤ 32 := hz.sd.hi
  have HB1 : Hid (∀ u : World, Calls Tryd.prog 23 #[.int .i64 a, .int .i64 5] u fun e w' => e = .returned (.int .i64 (k : Int)) ∧ u = w') := fun u => by rw [← h1]; exact L10.bring_any (by omega) (by omega)
  have HB2 : Hid (∀ u : World, Calls Tryd.prog 23 #[.int .i64 b, .int .i64 3] u fun e w' => e = .returned (.int .i64 (pl : Int)) ∧ u = w') := fun u => by rw [← h4]; exact L10.bring_any (by omega) (by omega)
  have HB3 : Hid (∀ u : World, Calls Tryd.prog 23 #[.int .i64 c, .int .i64 3] u fun e w' => e = .returned (.int .i64 (sg : Int)) ∧ u = w') := fun u => by rw [← h5]; exact L10.bring_any (by omega) (by omega)
  have HS : Hid (∀ u, Below w.heap.size w u → L10.Si u la L) := fun u hu => hs.to hu
  have k0 : (0 : Int) ≤ (k : Int) := by omega
  have k1 : (k : Int) < 64 := by omega
  have hmk := L10.mk_ints (n := q) (by omega)
  clear hs h1 h4 h5 hz hq
  go_enter Tryd.func9, Tryd.ntmps9
  go_wp2_with fail
  refine (HB1.out _).mono ?_
  rintro e w1 ⟨rfl, rfl⟩
  go_wp2_with fail
  refine (HB2.out _).mono ?_
  rintro e w1 ⟨rfl, rfl⟩
  go_wp2_with fail
  refine (HB3.out _).mono ?_
  rintro e w1 ⟨rfl, rfl⟩
  go_wp2_with fail
  have HS0 : Hid (MyI w w.heap.size (w.heap.size + 1) (w.heap.size + 1 + 1) q z pl sg (.slice la L.length lc) L (.int .i64 0) (((w.alloc (.cells #[.int .i64 z, .int .i64 (pl : Int), .int .i64 (sg : Int), .slice la L.length lc] 34)).alloc (.cells #[.int .i64 0, .int .i64 0, .int .i64 0, .slice none 0 0] 34)).alloc (.cells (madeCells #[.int .i64 0] q) 3))) := by
    refine ⟨⟨0, by omega, by omega, rfl, ?_⟩, ?_, ?_, ?_, ?_, fun j => ?_, fun j hj => ?_, fun j => ?_, L10.to_alloc (L10.to_alloc (L10.from_alloc w _) _) _, ⟨by omega, by omega, by omega⟩, ⟨by omega, by omega, by omega⟩⟩
    · rw [myL_zero]; exact L10.Ri.made 3 _ q (by simp)
    · simp [go_sem]
    · simp [go_sem]
    · simp [go_sem]
    · simp [go_sem]
    · simp [go_sem]
    · have : j = 0 ∨ j = 1 ∨ j = 2 ∨ j = 3 := by omega
      rcases this with rfl | rfl | rfl | rfl <;> simp [go_sem]
    · simp [go_sem]
  generalize ((w.alloc (.cells #[.int .i64 z, .int .i64 (pl : Int), .int .i64 (sg : Int), .slice la L.length lc] 34)).alloc (.cells #[.int .i64 0, .int .i64 0, .int .i64 0, .slice none 0 0] 34)).alloc (.cells (madeCells #[.int .i64 0] q) 3) = w1 at *
  generalize w.heap.size + 1 + 1 = g at *
  generalize w.heap.size + 1 = Y at *
  generalize hX : w.heap.size = X at *
  rw [← hX] at HS0 HS
  clear hmk HB1 HB2 HB3
  have HX : Hid (w.heap.size = X) := hX
  clear hX
  go_loopw [5] (fun iv wr => MyI w X Y g q z pl sg (.slice la L.length lc) L iv wr) (fun iv _ => q - (intOf iv).toNat)
  case atStart => first | exact HS0.out | (rw [← HX.out]; exact HS0.out)
  case round =>
    obtain ⟨i, hi, hil, rfl, hri⟩ := hrel.ex
    have HI : Hid (MyI w X Y g q z pl sg (.slice la L.length lc) L (.int .i64 (i : Int)) wr) := hrel
    have c0 := hrel.c0
    have c1 := hrel.c1
    have c2 := hrel.c2
    have c3 := hrel.c3
    have i0 : (0 : Int) ≤ (i : Int) := by omega
    by_cases hlt : i < q ∧ i < L.length
    · have l1 : (i : Int) < (q : Int) := by omega
      have l2 : (i : Int) < (L.length : Int) := by omega
      have hsi := HS.out wr hrel.bel
      obtain ⟨b0, o0, rfl, -, hcell⟩ := hsi.form (by omega)
      have hc := hcell i hlt.2
      have y1 := hri.cell i (by rw [myL_len]; exact hlt.1)
      have y2 := hri.thaw i
      have HN : Hid (MyI w X Y g q z pl sg (.slice (some ⟨b0, o0, none⟩) L.length lc) L (.int .i64 ((i + 1 : Nat) : Int)) (wr.setCell ⟨g, i, none⟩ (.int .i64 ((L.getD i 0).tmod 1048576)))) := hrel.put hlt.1 hlt.2
      have HT : Hid (-1048576 ≤ (L.getD i 0).tmod 1048576 ∧ (L.getD i 0).tmod 1048576 ≤ 1048576) := tmod_in _
      have t1 := HT.out.1
      have t2 := HT.out.2
      have hlq : Hid (i < q) := hlt.1
      generalize L.getD i 0 = v at *
      clear hri hrel hlt hcell hsi hi hil HI
      go_wp2_with fail
      have hq2 := hlq.out
      go_roundw
      case rel => exact HN.out
      case measure => simp [intOf]; omega
    · have HE : Hid (myL L q i = myL L q q) := myL_end L (by omega) hi
      have d0 := hrel.d 0 (by omega)
      have d1 := hrel.d 1 (by omega)
      have d2 := hrel.d 2 (by omega)
      have d3 := hrel.d 3 (by omega)
      obtain ⟨v0, d0⟩ := d0
      obtain ⟨v1, d1⟩ := d1
      obtain ⟨v2, d2⟩ := d2
      obtain ⟨v3, d3⟩ := d3
      have x3 := hrel.fx 3
      have y0 := hrel.fy 0
      have y1 := hrel.fy 1
      have y2 := hrel.fy 2
      have y3 := hrel.fy 3
      have hXY : X ≠ Y := hrel.ne.2.2
      have HRi : Hid (L10.Ri 3 wr g (myL L q q)) := by show L10.Ri 3 wr g _; rw [← HE.out]; exact hri
      have HF : Hid (My w (((((wr.setCell ⟨X, 3, none⟩ (.slice (some ⟨g, 0, none⟩) q q)).setCell ⟨Y, 0, none⟩ (.int .i64 z)).setCell ⟨Y, 1, none⟩ (.int .i64 (pl : Int))).setCell ⟨Y, 2, none⟩ (.int .i64 (sg : Int))).setCell ⟨Y, 3, none⟩ (.slice (some ⟨g, 0, none⟩) q q)) (.returned (.agg #[.int .i64 z, .int .i64 (pl : Int), .int .i64 (sg : Int), .slice (some ⟨g, 0, none⟩) q q])) z pl sg q (myL L q q)) := by
        obtain ⟨n1, n2, _⟩ := hrel.ne
        obtain ⟨e1, e2, e3⟩ := hrel.ge
        exact ⟨g, rfl, ((((HRi.out.far n1 _).far n2 _).far n2 _).far n2 _).far n2 _, e3, L10.below_set (L10.below_set (L10.below_set (L10.below_set (L10.below_set hrel.bel e1 _) e2 _) e2 _) e2 _) e2 _⟩
      by_cases hl1 : i < q
      · have l1 : (i : Int) < (q : Int) := by omega
        have l2 : ¬ (i : Int) < (L.length : Int) := by omega
        clear hrel hlt hri hi hil hl1
        go_wp2_with fail
        refine bodyPost_ret (v := .agg #[.int .i64 z, .int .i64 (pl : Int), .int .i64 (sg : Int), .slice (some ⟨g, 0, none⟩) q q]) ?_ rfl HF.out
        simp [results, Tryd.results9, go_sem, d0, d1, d2, d3]
      · have l1 : ¬ (i : Int) < (q : Int) := by omega
        clear hrel hlt hri hi hil hl1
        go_wp2_with fail
        refine bodyPost_ret (v := .agg #[.int .i64 z, .int .i64 (pl : Int), .int .i64 (sg : Int), .slice (some ⟨g, 0, none⟩) q q]) ?_ rfl HF.out
        simp [results, Tryd.results9, go_sem, d0, d1, d2, d3]

theorem sign_neg {w : World} {b o len c : Nat} {v : Int} (h0 : 0 < len) (hc : w.cell? ⟨b, o, none⟩ = some (.int .i64 v)) (hv : v < 0) : Calls Tryd.prog 16 #[.slice (some ⟨b, o, none⟩) len c] w fun e w' => e = .returned (.int .i64 1) ∧ w' = w := by
  have l0 : (0 : Int) < (len : Int) := by omega
  have l1 : ((len : Int) == 0) = false := by rw [beq_eq_false_iff_ne]; omega
  have l2 : (v == 0) = false := by rw [beq_eq_false_iff_ne]; omega
  go_enter Tryd.func16, Tryd.ntmps16
  go_wp2_with fail
  go_ret
  exact ⟨rfl, rfl⟩

end Go.Proofs.YtkmnpechhdendaaDoor
