/- DERIVED. The walk of rows. -/
import Derived.Test.YtddnnlofdicgkabDoorHd
namespace Go.Proofs.YtddnnlofdicgkabDoor
open Go.RowKit

/-- a function that turns rows of n numbers -/
structure Tu (K : Nat) (k : Int) (n : Nat) (T : List Int → List Int) : Prop where
  enter : ∀ (xs : Array Value) (u : World), (callFunc K xs).run Tryd.prog u = .ok (.enter K xs) u
  len : ∀ C, C.length = n → (T C).length = n
  call : ∀ (u : World) (a : Option Addr) (c : Nat) (C : List Int), Qt u → C.length = n → Si u a C → Mst C 1048576 → Calls Tryd.prog K #[.int .i64 k, .slice a n c] u fun e w' => ∃ g, e = .returned (.slice (some ⟨g, 0, none⟩) n n) ∧ u.heap.size ≤ g ∧ Ri 3 w' g (T C) ∧ Below u.heap.size u w'

set_option maxRecDepth 100000 in
set_option maxHeartbeats 1000000 in
theorem rows_any {w : World} {n g L many K : Nat} {k : Int} {T : List Int → List Int} {f : Nat → Nat → Int} (hL : L = n * n) (hn : n ≤ 64) (h0 : 0 < n) (hm : many ≤ n) (hr : Ri 3 w g (tab n f)) (hq : Qt w) (hg : 0 < g)
    (hT : Tu K k n T) (hM : ∀ y, y < many → Mst (rowL n f y) 1048576) :
    Calls Tryd.prog 27 #[.agg #[.int .i64 (n : Int), .slice (some ⟨g, 0, none⟩) L L], .int .i64 (many : Int), .func (.func K) #[.int .i64 k] #[]] w fun e w' => e = .returned (.tuple #[]) ∧ Ri 3 w' g (tab n (rowsF n many T f)) ∧ Kf g w w' := by
  have HB : Hid (Below w.heap.size w (w.alloc (.cells #[.int .i64 (n : Int), .slice (some ⟨g, 0, none⟩) L L] 38))) := from_alloc _ _
  have HG : Hid (g < w.heap.size) := hr.lt
  have HG0 : Hid (0 < g) := hg
  have HR : Hid (Ri 3 (w.alloc (.cells #[.int .i64 (n : Int), .slice (some ⟨g, 0, none⟩) L L] 38)) g (tab n (rowsF n 0 T f))) := by
    show Ri _ _ _ _
    rw [rows_zero]
    exact hr.to HB.out
  have HQ : Hid (Qt (w.alloc (.cells #[.int .i64 (n : Int), .slice (some ⟨g, 0, none⟩) L L] 38))) := hq.to HB.out
  have HL : Hid (L = n * n) := hL
  have c0 : (w.alloc (.cells #[.int .i64 (n : Int), .slice (some ⟨g, 0, none⟩) L L] 38)).cell? ⟨w.heap.size, 0, none⟩ = some (.int .i64 (n : Int)) := by simp [go_sem]
  have c1 : (w.alloc (.cells #[.int .i64 (n : Int), .slice (some ⟨g, 0, none⟩) L L] 38)).cell? ⟨w.heap.size, 1, none⟩ = some (.slice (some ⟨g, 0, none⟩) L L) := by simp [go_sem]
  have HZ : Hid (w.heap.size < (w.alloc (.cells #[.int .i64 (n : Int), .slice (some ⟨g, 0, none⟩) L L] 38)).heap.size) := by show _ < _; simp
  have s64 : (many : Int) ≤ 64 := by omega
  have HN : Hid (n ≤ 64) := hn
  have HN0 : Hid (0 < n) := h0
  have HMN : Hid (many ≤ n) := hm
  have HT : Hid (Tu K k n T) := hT
  have hK := hT.enter
  have HM : Hid (∀ y, y < many → Mst (rowL n f y) 1048576) := hM
  clear hr hL hn hq hM hT hm hg h0
  go_enter Tryd.func27, Tryd.ntmps27
  go_wp2_with fail
  generalize (w.alloc (.cells #[.int .i64 (n : Int), .slice (some ⟨g, 0, none⟩) L L] 38)) = V at *
  have HK : Hid (∀ v : World, Kf g V v → (v.cell? ⟨w.heap.size, 0, none⟩ = some (.int .i64 (n : Int)) ∧ v.cell? ⟨w.heap.size, 1, none⟩ = some (.slice (some ⟨g, 0, none⟩) L L))) := fun v hv =>
    ⟨by rw [hv.cell _ _ HZ.out (by have := HG.out; omega)]; exact c0, by rw [hv.cell _ _ HZ.out (by have := HG.out; omega)]; exact c1⟩
  clear c0 c1
  go_loopw [8] (fun i wr => ∃ y : Nat, y ≤ many ∧ i = .int .i64 y ∧ Ri 3 wr g (tab n (rowsF n y T f)) ∧ Kf g V wr) (fun i _ => many - (intOf i).toNat)
  case atStart => exact ⟨0, by omega, rfl, HR.out, Kf.refl _ _⟩
  case round =>
    obtain ⟨y, hy, rfl, hr, hk⟩ := hrel
    have y0 : (0 : Int) ≤ (y : Int) := by omega
    by_cases hlt : y < many
    · have y1 : (y : Int) < (many : Int) := by omega
      obtain ⟨x0, x1⟩ := HK.out wr hk
      have hyn : y < n := by have := HMN.out; omega
      have hp := ix_le (n := n) hyn
      have HRow : Hid (∀ v : World, Calls Tryd.prog 23 #[.agg #[.int .i64 (n : Int), .slice (some ⟨g, 0, none⟩) L L], .int .i64 (y : Int)] v fun e w' => e = .returned (.slice (some ⟨g, y * n, none⟩) n (L - y * n)) ∧ Below v.heap.size v w') := fun v => row_any HL.out HN.out hyn
      have hlen := HT.out.len (rowL n f y) (rowL_len _ _ _)
      have HTn : Hid (∀ v : World, Below wr.drew.heap.size wr.drew v → Calls Tryd.prog K #[.int .i64 k, .slice (some ⟨g, y * n, none⟩) n (L - y * n)] v fun e w' => ∃ g', e = .returned (.slice (some ⟨g', 0, none⟩) n n) ∧ v.heap.size ≤ g' ∧ Ri 3 w' g' (T (rowL n f y)) ∧ Below v.heap.size v w') := fun v hv => by
        refine HT.out.call v _ _ (rowL n f y) (((HQ.out.kf hk HG0.out).drew).to hv) (rowL_len _ _ _) ?_ (HM.out y hlt)
        have h1 := (hr.drew.to hv).si.seg (y * n) n (by rw [tab_len]; exact hp)
        rw [sg_row n _ hyn, rows_row, Nat.zero_add] at h1
        exact h1
      have HNN : Hid ((T (rowL n f y)).length = Nat.min n n) := by unfold Hid; rw [hlen]; exact (Nat.min_self n).symm
      have HPos : Hid (0 < (T (rowL n f y)).length) := by unfold Hid; rw [hlen]; exact HN0.out
      have HST : Hid (splice (tab n (rowsF n y T f)) (y * n) (T (rowL n f y)) = tab n (rowsF n (y + 1) T f)) := rows_step n T f hyn hlen
      have HRR : Hid (∀ v : World, Below wr.drew.heap.size wr.drew v → Ri 3 v g (tab n (rowsF n y T f))) := fun v hv => hr.drew.to hv
      have HF : Hid (y * n + (T (rowL n f y)).length ≤ (tab n (rowsF n y T f)).length) := by
        unfold Hid
        rw [hlen, tab_len]; omega
      have HKr : Hid (Kf g V wr) := hk
      have HLT : Hid (y < many) := hlt
      have hbd : Below wr.drew.heap.size wr.drew wr.drew := Below.refl _ _
      generalize hD : T (rowL n f y) = D at *
      clear hr hk hp hlen hD hlt hy hyn
      go_wp2_with fail
      go_region_held3 (fun v => v.cell? ⟨w.heap.size, 0, none⟩ = some (.int .i64 (n : Int)) ∧ v.cell? ⟨w.heap.size, 1, none⟩ = some (.slice (some ⟨g, 0, none⟩) L L))
        ((exact HK.out _ (by first | exact HKr.out.drew.step (by assumption) | exact (HKr.out.drew.step (by assumption)).kb (by assumption))))
        (first
          | (go_at_call 23; refine (HRow.out _).mono ?_; rintro e w6 ⟨rfl, hb6⟩; have hz6 := below_to (by assumption) hb6; (try have hr6 := Ri.to (by assumption) hb6))
          | (with_reducible refine (HTn.out _ (by assumption)).mono ?_; rintro e w6 ⟨g6, rfl, hg6, hr6, hb6⟩; have hz6 := below_to (by assumption) hb6)
          | (refine step_copy_ri rfl (.tmp 13) (.tmp 18) rfl _ _ _ _ _ _ (by rfl) (by rfl) g (y * n) _ D (HRR.out _ (by assumption)) HNN.out HPos.out (by rfl) (Ri.si (by assumption)) HF.out ?_; intro w7 hr7 hk7))
      all_goals
        go_wp2_with fail
        have hlt := HLT.out
        go_roundw
        case rel => exact ⟨y + 1, by omega, by go_num, by rw [← HST.out]; exact hr7, (HKr.out.drew.step (by assumption)).kb hk7⟩
        case measure => simp [intOf]; omega
    · obtain rfl : y = many := by omega
      have HR2 : Hid (Ri 3 wr g (tab n (rowsF n y T f))) := hr
      have HK2 : Hid (Kf g w wr) := Kf.old HB.out hk
      clear hr hk
      go_wp2_with fail
      go_end0
      exact ⟨rfl, HR2.out, HK2.out⟩

end Go.Proofs.YtddnnlofdicgkabDoor
