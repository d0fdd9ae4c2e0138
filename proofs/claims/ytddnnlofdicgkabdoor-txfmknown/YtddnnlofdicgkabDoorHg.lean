/- DERIVED. The walk of columns. -/
import Derived.Test.YtddnnlofdicgkabDoorHf
namespace Go.Proofs.YtddnnlofdicgkabDoor
open Go.RowKit

set_option maxRecDepth 100000 in
set_option maxHeartbeats 2000000 in
theorem columns_any {w : World} {n g L K : Nat} {k : Int} {T : List Int → List Int} {f : Nat → Nat → Int} (hL : L = n * n) (hn : n ≤ 64) (hr : Ri 3 w g (tab n f)) (hq : Qt w) (hg : 0 < g)
    (hT : Tu K k n T) (hM : ∀ x, x < n → Mst (colL n f x) 1048576) :
    Calls Tryd.prog 29 #[.agg #[.int .i64 (n : Int), .slice (some ⟨g, 0, none⟩) L L], .func (.func K) #[.int .i64 k] #[]] w fun e w' => e = .returned (.tuple #[]) ∧ Ri 3 w' g (tab n (colsF n T f)) ∧ Kf g w w' := by
  have HB : Hid (Below w.heap.size w (w.alloc (.cells #[.int .i64 (n : Int), .slice (some ⟨g, 0, none⟩) L L] 38))) := from_alloc _ _
  have HG : Hid (g < w.heap.size) := hr.lt
  have HG0 : Hid (0 < g) := hg
  have HR : Hid (Ri 3 (w.alloc (.cells #[.int .i64 (n : Int), .slice (some ⟨g, 0, none⟩) L L] 38)) g (tab n (colsP n 0 T f))) := by
    show Ri _ _ _ _
    rw [cols_zero]
    exact hr.to HB.out
  have HQ : Hid (Qt (w.alloc (.cells #[.int .i64 (n : Int), .slice (some ⟨g, 0, none⟩) L L] 38))) := hq.to HB.out
  have HL : Hid (L = n * n) := hL
  have h2 : n * n ≤ 64 * 64 := Nat.mul_le_mul hn hn
  rw [← hL] at h2
  have HL4 : Hid (L ≤ 4096) := h2
  have hmk := mk_ints (n := n) (by omega)
  have c0 : (w.alloc (.cells #[.int .i64 (n : Int), .slice (some ⟨g, 0, none⟩) L L] 38)).cell? ⟨w.heap.size, 0, none⟩ = some (.int .i64 (n : Int)) := by simp [go_sem]
  have c1 : (w.alloc (.cells #[.int .i64 (n : Int), .slice (some ⟨g, 0, none⟩) L L] 38)).cell? ⟨w.heap.size, 1, none⟩ = some (.slice (some ⟨g, 0, none⟩) L L) := by simp [go_sem]
  have HZ : Hid ((w.alloc (.cells #[.int .i64 (n : Int), .slice (some ⟨g, 0, none⟩) L L] 38)).heap.size = w.heap.size + 1) := by show _ = _; simp
  have n64 : (n : Int) ≤ 64 := by omega
  have HT : Hid (Tu K k n T) := hT
  have hK := hT.enter
  have HM : Hid (∀ x, x < n → Mst (colL n f x) 1048576) := hM
  clear hr hL hn hq hM hT hg h2
  go_enter Tryd.func29, Tryd.ntmps29
  go_wp2_with fail
  generalize (w.alloc (.cells #[.int .i64 (n : Int), .slice (some ⟨g, 0, none⟩) L L] 38)) = V at *
  have HK : Hid (∀ v : World, Kf g V v → (v.cell? ⟨w.heap.size, 0, none⟩ = some (.int .i64 (n : Int)) ∧ v.cell? ⟨w.heap.size, 1, none⟩ = some (.slice (some ⟨g, 0, none⟩) L L))) := fun v hv =>
    ⟨by rw [hv.cell _ _ (by have := HZ.out; omega) (by have := HG.out; omega)]; exact c0, by rw [hv.cell _ _ (by have := HZ.out; omega) (by have := HG.out; omega)]; exact c1⟩
  clear c0 c1
  have HI : Hid (w.heap.size + 1 ≠ g) := by show _ ≠ _; have := HG.out; omega
  go_loopw [14] (fun i wr => ∃ (x : Nat) (D : List Int), x ≤ n ∧ i = .int .i64 x ∧ D.length = n ∧ Ri 3 wr g (tab n (colsP n x T f)) ∧ Ri 3 wr (w.heap.size + 1) D ∧ Kf g V wr) (fun i _ => n - (intOf i).toNat)
  case atStart => exact ⟨0, List.replicate n 0, by omega, rfl, by simp, HR.out.to (from_alloc _ _), Ri.made 3 V n HZ.out, (Kf.refl _ _).step (from_alloc _ _)⟩
  case round =>
    obtain ⟨x, D, hx, rfl, hD, hr, hi, hk⟩ := hrel
    have x0 : (0 : Int) ≤ (x : Int) := by omega
    by_cases hxn : x < n
    · have x1 : (x : Int) < (n : Int) := by omega
      obtain ⟨a0, a1⟩ := HK.out wr hk
      have HR1 : Hid (Ri 3 wr g (tab n (colsP n x T f))) := hr
      have HI1 : Hid (∃ D, D.length = n ∧ Ri 3 wr (w.heap.size + 1) D) := ⟨D, hD, hi⟩
      have HK1 : Hid (Kf g V wr) := hk
      have HX : Hid (x < n) := hxn
      clear hr hi hk hD D hxn hx
      go_wp2_with fail
      clear a0 a1
      go_loopw [19] (fun i wr => ∃ (y : Nat) (D : List Int), y ≤ n ∧ i = .int .i64 y ∧ D.length = n ∧ Hid (∀ j, j < y → D.getD j 0 = f j x) ∧ Ri 3 wr g (tab n (colsP n x T f)) ∧ Ri 3 wr (w.heap.size + 1) D ∧ Kf g V wr) (fun i _ => n - (intOf i).toNat)
      case atStart =>
        obtain ⟨D, hD, hi⟩ := HI1.out
        exact ⟨0, D, by omega, rfl, hD, fun j hj => by omega, HR1.out, hi, HK1.out⟩
      case round =>
        clear HR1 HI1 HK1
        obtain ⟨y, D, hy, rfl, hD, hcol, hr, hi, hk⟩ := hrel
        have y0 : (0 : Int) ≤ (y : Int) := by omega
        by_cases hyn : y < n
        · have y1 : (y : Int) < (n : Int) := by omega
          obtain ⟨a0, a1⟩ := HK.out wr hk
          have hxn := HX.out
          have hz := ix_lt (n := n) hyn hxn
          have HZ3 : Hid (y * n + x < L) := by show _ < _; rw [HL.out]; exact hz
          have d0 : wr.cell? ⟨g, y * n + x, none⟩ = some (.int .i64 (f y x)) := by rw [hr.cell _ (by rw [tab_len]; exact hz), tab_at n _ hyn hxn]; simp [colsP]
          have d1 := hi.thaw y
          have d2 := hi.cell y (by omega)
          have HR2 : Hid (Ri 3 (wr.setCell ⟨w.heap.size + 1, y, none⟩ (.int .i64 (f y x))) g (tab n (colsP n x T f))) := hr.far (by have := HI.out; exact fun e => this e.symm) _
          have HI2 : Hid (Ri 3 (wr.setCell ⟨w.heap.size + 1, y, none⟩ (.int .i64 (f y x))) (w.heap.size + 1) (D.set y (f y x))) := hi.set y _
          have HK2 : Hid (Kf g V (wr.setCell ⟨w.heap.size + 1, y, none⟩ (.int .i64 (f y x)))) := hk.setNew (by have := HZ.out; omega) _ _
          have HC2 : Hid (∀ j, j < y + 1 → (D.set y (f y x)).getD j 0 = f j x) := fun j hj => by
            rw [getD_set _ _ _ _ (by omega)]
            by_cases e : y = j
            · rw [if_pos e, e]
            · rw [if_neg e]; exact hcol.out j (by omega)
          have HD2 : Hid ((D.set y (f y x)).length = n) := by show _ = _; rw [List.length_set]; exact hD
          have HY : Hid (y < n) := hyn
          have e1 : (y : Int) * (n : Int) = ((y * n : Nat) : Int) := by rw [Int.natCast_mul]
          have e2 : ((y * n : Nat) : Int) + (x : Int) = ((y * n + x : Nat) : Int) := rfl
          have q0 : (0 : Int) ≤ ((y * n + x : Nat) : Int) := by omega
          have q1 : ((y * n + x : Nat) : Int) < (L : Int) := by have := HZ3.out; omega
          have q2 : ((y * n : Nat) : Int) ≤ 4096 := by have := HZ3.out; have := HL4.out; omega
          have q3 : (0 : Int) ≤ ((y * n : Nat) : Int) := by omega
          have q4 : (L : Int) ≤ 4096 := by have := HL4.out; omega
          generalize f y x = fv at *
          generalize y * n + x = z at *
          generalize y * n = p at *
          clear hr hi hk hcol hz hxn hyn
          go_wp2_with fail
          have hyn := HY.out
          go_roundw
          case rel => exact ⟨y + 1, D.set y fv, by omega, by go_num, HD2.out, HC2.out, HR2.out, HI2.out, HK2.out⟩
          case measure => simp [intOf]; omega
        · obtain rfl : y = n := by omega
          have HDc : D = colL y f x := col_of hD fun j hj => hcol.out j hj
          subst HDc
          have hxn := HX.out
          have HCall : Hid (Calls Tryd.prog K #[.int .i64 k, .slice (some ⟨w.heap.size + 1, 0, none⟩) y y] wr fun e w' => ∃ g', e = .returned (.slice (some ⟨g', 0, none⟩) y y) ∧ wr.heap.size ≤ g' ∧ Ri 3 w' g' (T (colL y f x)) ∧ Below wr.heap.size wr w') :=
            HT.out.call wr _ _ (colL y f x) (HQ.out.kf hk HG0.out) (colL_len _ _ _) hi.si (HM.out x hxn)
          have hlen := HT.out.len (colL y f x) (colL_len _ _ _)
          have HR3 : Hid (Ri 3 wr g (tab y (colsP y x T f))) := hr
          have HI3 : Hid (Ri 3 wr (w.heap.size + 1) (colL y f x)) := hi
          have HK3 : Hid (Kf g V wr) := hk
          have HLen : Hid ((T (colL y f x)).length = y) := hlen
          clear hr hi hk hcol hD hxn hlen
          go_wp2_with fail
          refine HCall.out.mono ?_
          rintro e w5 ⟨g5, rfl, hg5, hr5, hb5⟩
          have HG5 : Hid (g < g5) := by show _ < _; have := HR3.out.lt; omega
          have HI5 : Hid (w.heap.size + 1 < g5) := by show _ < _; have := HI3.out.lt; omega
          have HZ5 : Hid (w.heap.size < g5) := by show _ < _; have := HI3.out.lt; omega
          have HR4 : Hid (Ri 3 w5 g (tab y (colW y x 0 T f))) := by show Ri _ _ _ _; rw [colW_zero]; exact HR3.out.to hb5
          have HI4 : Hid (Ri 3 w5 (w.heap.size + 1) (colL y f x)) := HI3.out.to hb5
          have HT4 : Hid (Ri 3 w5 g5 (T (colL y f x))) := hr5
          have HK4 : Hid (Kf g V w5) := HK3.out.step hb5
          obtain ⟨a0, a1⟩ := HK.out w5 HK4.out
          clear hg5 hr5 hb5
          go_wp2_with fail
          clear a0 a1
          go_loopw [41] (fun i wv => ∃ (t : Nat), t ≤ y ∧ i = .int .i64 t ∧ Ri 3 wv g (tab y (colW y x t T f)) ∧ Ri 3 wv (w.heap.size + 1) (colL y f x) ∧ Ri 3 wv g5 (T (colL y f x)) ∧ Kf g V wv) (fun i _ => y - (intOf i).toNat)
          case atStart => exact ⟨0, by omega, rfl, HR4.out, HI4.out, HT4.out, HK4.out⟩
          case round =>
            clear HR3 HI3 HK3 HR4 HI4 HT4 HK4 HCall
            obtain ⟨t, ht, rfl, hr, hi, htt, hk⟩ := hrel
            have t0 : (0 : Int) ≤ (t : Int) := by omega
            by_cases htn : t < y
            · have t1 : (t : Int) < (y : Int) := by omega
              obtain ⟨a0, a1⟩ := HK.out wr hk
              have hxn := HX.out
              have hz := ix_lt (n := y) htn hxn
              have HZ3 : Hid (t * y + x < L) := by show _ < _; rw [HL.out]; exact hz
              have d0 : wr.cell? ⟨g5, t, none⟩ = some (.int .i64 ((T (colL y f x)).getD t 0)) := htt.cell t (by rw [HLen.out]; exact htn)
              have d1 := hr.thaw (t * y + x)
              have d2 := hr.cell (t * y + x) (by rw [tab_len]; exact hz)
              have HS : Hid (∀ v : World, Kf g V v → Ri 3 v g5 (T (colL y f x)) → (v.cell? ⟨w.heap.size, 0, none⟩ = some (.int .i64 (y : Int)) ∧ v.cell? ⟨w.heap.size, 1, none⟩ = some (.slice (some ⟨g, 0, none⟩) L L) ∧ v.cell? ⟨g5, t, none⟩ = some (.int .i64 ((T (colL y f x)).getD t 0)))) := fun v hv hv2 =>
                ⟨(HK.out v hv).1, (HK.out v hv).2, hv2.cell t (by rw [HLen.out]; exact htn)⟩
              have HR5 : Hid (Ri 3 (wr.drew.setCell ⟨g, t * y + x, none⟩ (.int .i64 ((T (colL y f x)).getD t 0))) g (tab y (colW y x (t + 1) T f))) := by
                show Ri _ _ _ _
                rw [← colW_step y x t T f htn hxn]
                exact hr.drew.set _ _
              have HI6 : Hid (Ri 3 (wr.drew.setCell ⟨g, t * y + x, none⟩ (.int .i64 ((T (colL y f x)).getD t 0))) (w.heap.size + 1) (colL y f x)) := hi.drew.far HI.out _
              have HT6 : Hid (Ri 3 (wr.drew.setCell ⟨g, t * y + x, none⟩ (.int .i64 ((T (colL y f x)).getD t 0))) g5 (T (colL y f x))) := htt.drew.far (by have := HG5.out; simp; omega) _
              have HK6 : Hid (Kf g V (wr.drew.setCell ⟨g, t * y + x, none⟩ (.int .i64 ((T (colL y f x)).getD t 0)))) := hk.drew.setCell _ _
              have HT7 : Hid (Ri 3 wr.drew g5 (T (colL y f x))) := htt.drew
              have HK7 : Hid (Kf g V wr.drew) := hk.drew
              have HTN : Hid (t < y) := htn
              have e1 : IntKind.i64.wrap ((t : Int) * (y : Int)) = ((t * y : Nat) : Int) := by rw [← Int.natCast_mul, IntKind.wrap_i64]; have := HZ3.out; have := HL4.out; omega
              have e2 : IntKind.i64.wrap (((t * y : Nat) : Int) + (x : Int)) = ((t * y + x : Nat) : Int) := by rw [IntKind.wrap_i64]; have := HZ3.out; have := HL4.out; omega
              have q0 : (0 : Int) ≤ ((t * y + x : Nat) : Int) := by omega
              have q1 : ((t * y + x : Nat) : Int) < (L : Int) := by have := HZ3.out; omega
              generalize (T (colL y f x)).getD t 0 = fv at *
              generalize (tab y (colW y x t T f)).getD (t * y + x) 0 = old at *
              generalize t * y + x = z at *
              generalize t * y = p at *
              clear hr hi hk htt hz hxn htn
              go_wp2_with fail
              go_region_held3 (fun v => v.cell? ⟨w.heap.size, 0, none⟩ = some (.int .i64 (y : Int)) ∧ v.cell? ⟨w.heap.size, 1, none⟩ = some (.slice (some ⟨g, 0, none⟩) L L) ∧ v.cell? ⟨g5, t, none⟩ = some (.int .i64 fv))
                ((first | exact HS.out _ HK7.out HT7.out | exact HS.out _ HK6.out HT6.out))
                ((fail))
              all_goals
                have htn := HTN.out
                go_wp2_with fail
                go_roundw
                case rel => exact ⟨t + 1, by omega, by go_num, HR5.out, HI6.out, HT6.out, HK6.out⟩
                case measure => simp [intOf]; omega
            · obtain rfl : t = y := by omega
              have hxn := HX.out
              have HR5 : Hid (Ri 3 wr g (tab t (colsP t (x + 1) T f))) := by show Ri _ _ _ _; rw [← colW_all]; exact hr
              have HI6 : Hid (Ri 3 wr (w.heap.size + 1) (colL t f x)) := hi
              have HK6 : Hid (Kf g V wr) := hk
              clear hr hi hk htt hxn
              go_wp2_with fail
              have hxn := HX.out
              go_roundw
              case rel => exact ⟨x + 1, colL t f x, by omega, by go_num, colL_len _ _ _, HR5.out, HI6.out, HK6.out⟩
              case measure => simp [intOf]; omega
    · obtain rfl : x = n := by omega
      have HR2 : Hid (Ri 3 wr g (tab x (colsF x T f))) := by show Ri _ _ _ _; rw [← cols_all]; exact hr
      have HK2 : Hid (Kf g w wr) := Kf.old HB.out hk
      clear hr hk hi
      go_wp2_with fail
      go_end0
      exact ⟨rfl, HR2.out, HK2.out⟩

end Go.Proofs.YtddnnlofdicgkabDoor
