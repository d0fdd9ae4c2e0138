/- DERIVED. The walks of first, block and works. -/
import Derived.Test.YtddnnlofdicgkabDoorHk
namespace Go.Proofs.YtddnnlofdicgkabDoor
open Go.RowKit

/-- n numbers, the first one v, the others x -/
def fs (n : Nat) (v x : Int) : List Int := (List.replicate n x).set 0 v
theorem fs_len (n : Nat) (v x : Int) : (fs n v x).length = n := by simp [fs]
theorem fs_get (n : Nat) (v x : Int) (j : Nat) (hj : j < n) : (fs n v x).getD j 0 = if j = 0 then v else x := by
  unfold fs
  rw [getD_set _ _ _ _ (by simp; omega)]
  by_cases e : j = 0
  · subst e; simp
  · rw [if_neg (by omega), if_neg e]; simp [hj]

set_option maxRecDepth 100000 in
set_option maxHeartbeats 400000 in
theorem first_any {w : World} {n : Nat} {v x : Int} (h0 : 0 < n) (hn : n ≤ 4096) : Calls Tryd.prog 14 #[.int .i64 (n : Int), .int .i64 v, .int .i64 x] w fun e w' => e = .returned (.slice (some ⟨w.heap.size, 0, none⟩) n n) ∧ Ri 3 w' w.heap.size (fs n v x) ∧ Below w.heap.size w w' := by
  have hmk := mk_ints (n := n) (by omega)
  have n1 : (n : Int) ≤ 4096 := by omega
  have n0 : (0 : Int) < (n : Int) := by omega
  have HN0 : Hid (0 < n) := h0
  clear h0 hn
  go_enter Tryd.func14, Tryd.ntmps14
  go_wp2_with fail
  go_loopw [8] (fun i wr => ∃ y : Nat, y ≤ n ∧ i = .int .i64 y ∧ Ri 3 wr w.heap.size (mx n y (fun _ => x) zf) ∧ Below w.heap.size w wr) (fun i _ => n - (intOf i).toNat)
  case atStart =>
    refine ⟨0, by omega, rfl, ?_, from_alloc _ _⟩
    rw [← mx_zero n (fun _ => x) zf (fun _ _ => rfl)]
    exact Ri.made 3 w n rfl
  case round =>
    obtain ⟨y, hy, rfl, hr, hb⟩ := hrel
    have y0 : (0 : Int) ≤ (y : Int) := by omega
    by_cases hlt : y < n
    · have y1 : (y : Int) < (n : Int) := by omega
      have d1 := hr.thaw y
      have d2 := hr.cell y (by rw [mx_len]; exact hlt)
      have HR2 : Hid (Ri 3 (wr.setCell ⟨w.heap.size, y, none⟩ (.int .i64 x)) w.heap.size (mx n (y + 1) (fun _ => x) zf)) := by
        show Ri _ _ _ _
        rw [← mx_set n y (fun _ => x) zf hlt]
        exact hr.set y _
      have HB2 : Hid (Below w.heap.size w wr) := hb
      have HK : Hid (y < n) := hlt
      clear hr hb hlt hy
      go_wp2_with fail
      have hlt := HK.out
      go_roundw
      case rel => exact ⟨y + 1, by omega, by go_num, HR2.out, below_set HB2.out (by simp) _⟩
      case measure => simp [intOf]; omega
    · obtain rfl : y = n := by omega
      have d1 := hr.thaw 0
      have d2 := hr.cell 0 (by rw [mx_len]; exact HN0.out)
      have HR2 : Hid (Ri 3 (wr.setCell ⟨w.heap.size, 0, none⟩ (.int .i64 v)) w.heap.size (fs y v x)) := by
        show Ri _ _ _ _
        have e : mx y y (fun _ => x) zf = List.replicate y x := ext_getD (by rw [mx_len]; simp) fun j hj => by
          rw [mx_len] at hj
          rw [mx_get _ _ _ _ _ hj, if_pos hj]; simp [hj]
        have h1 := hr.set 0 v
        rw [e] at h1
        exact h1
      have HB2 : Hid (Below w.heap.size w wr) := hb
      clear hr hb
      go_wp2_with fail
      go_ret
      exact ⟨rfl, HR2.out, below_set HB2.out (by simp) _⟩

/-- a block of numbers none of which is beyond M -/
def Nb (w w' : World) (e : Ending) (L : Nat) (M : Int) : Prop := ∃ D, e = .returned (.slice (some ⟨w.heap.size, 0, none⟩) L L) ∧ D.length = L ∧ Mst D M ∧ Ri 3 w' w.heap.size D ∧ Below w.heap.size w w'
structure BlI (w : World) (L : Nat) (M : Int) (i : Value) (wr : World) : Prop where
  ex : ∃ (y : Nat) (D : List Int), y ≤ L ∧ i = .int .i64 y ∧ D.length = L ∧ Mst D M ∧ Ri 3 wr w.heap.size D ∧ Below w.heap.size w wr
theorem mst_set {D : List Int} {M x : Int} {j : Nat} (h : Mst D M) (h0 : -M ≤ x ∧ x ≤ M) : Mst (D.set j x) M := fun k hk => by
  rw [List.length_set] at hk
  by_cases e : j = k
  · subst e; rw [getD_set _ _ _ _ hk, if_pos rfl]; exact h0
  · rw [List.getD_eq_getElem?_getD, List.getElem?_set_ne e, ← List.getD_eq_getElem?_getD]; exact h k hk

set_option maxRecDepth 100000 in
set_option maxHeartbeats 1000000 in
theorem block_any {w : World} {a : Option Addr} {c n L : Nat} {C : List Int} {M : Int} (hs : Si w a C) (hl : C.length ≤ 140737488355328) (hn : n ≤ 64) (hL : L = n * n) (hM0 : 0 ≤ M) (hM1 : M ≤ 1048576) :
    Calls Tryd.prog 9 #[.slice a C.length c, .int .i64 (n : Int), .int .i64 M] w fun e w' => Nb w w' e L M := by
  have h2 : n * n ≤ 64 * 64 := Nat.mul_le_mul hn hn
  rw [← hL] at h2
  have e1 : (n : Int) * (n : Int) = (L : Int) := by rw [hL, Int.natCast_mul]
  have L1 : (L : Int) ≤ 4096 := by omega
  have hmk := mk_ints (n := L) (by omega)
  have HC : Hid (Si w a C) := hs
  have hmod : ∀ v : Int, 0 ≤ v % (2 * M + 1) ∧ v % (2 * M + 1) ≤ 2 * M := fun v => by
    have e1 := Int.emod_nonneg v (b := 2 * M + 1) (by omega)
    have e2 := Int.emod_lt_of_pos v (b := 2 * M + 1) (by omega)
    omega
  have HMo : Hid (∀ v : Int, 0 ≤ v % (2 * M + 1) ∧ v % (2 * M + 1) ≤ 2 * M) := hmod
  clear hs hL h2 hmod
  go_enter Tryd.func9, Tryd.ntmps9
  go_wp2_with fail
  go_loopw [8] (fun i wr => BlI w L M i wr) (fun i _ => L - (intOf i).toNat)
  case atStart => exact ⟨⟨0, List.replicate L 0, by omega, rfl, by simp, fun k hk => by rw [List.length_replicate] at hk; simp [hk]; omega, Ri.made 3 w L rfl, from_alloc _ _⟩⟩
  case round =>
    obtain ⟨y, D, hy, rfl, hD, hM, hr, hb⟩ := hrel
    have y0 : (0 : Int) ≤ (y : Int) := by omega
    by_cases hlt : y < L
    · have y1 : (y : Int) < (L : Int) := by omega
      have d1 := hr.thaw y
      have d2 := hr.cell y (by omega)
      have HRel : Hid (∀ (wz : World) (x : Int), Ri 3 wz w.heap.size D → Below w.heap.size w wz → -M ≤ x ∧ x ≤ M → BlI w L M (.int .i64 ((y : Int) + 1)) (wz.setCell ⟨w.heap.size, y, none⟩ (.int .i64 x))) := fun wz x h1 h3 h4 =>
        ⟨⟨y + 1, D.set y x, by omega, by go_num, by rw [List.length_set]; exact hD, mst_set hM h4, h1.set y x, below_set h3 (by simp) _⟩⟩
      have HR : Hid (Ri 3 wr w.heap.size D) := hr
      have HB : Hid (Below w.heap.size w wr) := hb
      have HK : Hid (y < L) := hlt
      by_cases h0 : C.length = 0
      · rw [h0]
        obtain ⟨q0, q1⟩ := HMo.out (3 * (y : Int))
        clear hr hb hM hD h0 hlt hy
        go_wp2_with (go_at_call 6; refine (bring_any (by omega) (by omega)).mono ?_; rintro e w' ⟨rfl, rfl⟩)
        have hlt := HK.out
        go_roundw
        case rel => exact HRel.out _ _ HR.out HB.out (by omega)
        case measure => simp [intOf]; omega
      · obtain ⟨b, o, rfl, hbl, hc⟩ := HC.out.form (by omega)
        have hmn : y % C.length < C.length := Nat.mod_lt _ (by omega)
        have c0 : wr.cell? ⟨b, o + y % C.length, none⟩ = some (.int .i64 (C.getD (y % C.length) 0)) := by rw [newCell hb _ _ hbl]; exact hc _ hmn
        have e0 : (y : Int) % (C.length : Int) = ((y % C.length : Nat) : Int) := rfl
        have e1' : (0 : Int) ≤ ((y % C.length : Nat) : Int) := by omega
        have e2 : ((y % C.length : Nat) : Int) < (C.length : Int) := by omega
        have e3 : (0 : Int) < (C.length : Int) := by omega
        have e4 : (C.length : Int) ≠ 0 := by omega
        generalize C.getD (y % C.length) 0 = x at *
        generalize y % C.length = r at *
        clear hr hb hM hD h0 hc hmn hlt hy
        go_wp2_with fail
        go_quiet (fail)
        have HRq : Hid (Ri 3 (wr.drewN nq) w.heap.size D) := ⟨HR.out.heap⟩
        have HBq : Hid (Below w.heap.size w (wr.drewN nq)) := below_drewN HB.out nq
        have d1q : (wr.drewN nq).frozen? ⟨w.heap.size, y, none⟩ = false := d1
        have d2q : (wr.drewN nq).cell? ⟨w.heap.size, y, none⟩ = some (.int .i64 (D.getD y 0)) := d2
        clear d1 d2 c0
        generalize wr.drewN nq = wz at *
        go_wp2_with fail
        refine (bring_any (by omega) (by omega)).mono ?_
        rintro e w' ⟨rfl, rfl⟩
        obtain ⟨q0, q1⟩ := HMo.out (wrap64 (x + wrap64 (wrap64 ((y : Int) / (C.length : Int)) * 17)))
        go_wp2_with fail
        have hlt := HK.out
        go_roundw
        case rel => exact HRel.out _ _ HRq.out HBq.out (by omega)
        case measure => simp [intOf]; omega
    · obtain rfl : y = L := by omega
      have HR : Hid (Ri 3 wr w.heap.size D) := hr
      have HB : Hid (Below w.heap.size w wr) := hb
      have HD : Hid (D.length = y) := hD
      have HM : Hid (Mst D M) := hM
      clear hr hb hM hD
      go_wp2_with fail
      go_ret
      exact ⟨D, rfl, HD.out, HM.out, HR.out, HB.out⟩

end Go.Proofs.YtddnnlofdicgkabDoor
