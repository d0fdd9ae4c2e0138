/- DERIVED. The walk of TxfmKnown. -/
import Derived.Test.YtddnnlofdicgkabDoorIp
import Derived.Deep.DeepCutAuto
import Derived.Deep.CutRange
namespace Go.Proofs.YtddnnlofdicgkabDoor
open Go.RowKit

theorem in4 (k : Int) : k ∈ tys 4 ↔ 0 ≤ k ∧ k < 10 := by
  constructor
  · exact fun h => tys_lt h
  · intro h
    have := kin4 k.toNat (by omega)
    rwa [show ((k.toNat : Nat) : Int) = k from by omega] at this
theorem in9 (k : Int) : k ∈ upL 9 ↔ 0 ≤ k ∧ k < 9 := by
  unfold upL
  rw [List.mem_map]
  constructor
  · rintro ⟨i, hi, rfl⟩; have := List.mem_range.1 hi; omega
  · intro h; exact ⟨k.toNat, List.mem_range.2 (by omega), by omega⟩
theorem in8 (k : Int) : k ∈ tys 8 ↔ 0 ≤ k ∧ k < 9 := in9 k
theorem in16 (k : Int) : k ∈ tys 16 ↔ 0 ≤ k ∧ k < 9 := in9 k
theorem in32 (k : Int) : k ∈ tys 32 ↔ k = 0 ∨ k = 8 := by rw [show tys 32 = [0, 8] from rfl]; simp
theorem in64 (k : Int) : k ∈ tys 64 ↔ k = 0 := by rw [show tys 64 = [0] from rfl]; simp
theorem wrg_ok {n k : Int} {C : List Int} {s : Nat} {M : Int} (h : wrg n k C s M = 0) : k ∈ tys n ∧ C.length = s * s ∧ Mst C M := by
  unfold wrg at h
  split at h
  · exact absurd h (by decide)
  · split at h
    · split at h
      · split at h
        · rename_i h1 h2 h3 h4
          exact ⟨h2, h3, bdB_mst h4⟩
        · exact absurd h (by decide)
      · exact absurd h (by decide)
    · exact absurd h (by decide)
theorem zero_bd (m : Nat) (M : Int) (h : 0 ≤ M) : Mst (List.replicate m 0) M := fun j hj => by
  rw [List.length_replicate] at hj
  simp [hj]; omega
theorem sdl4 : (sdN 4).toNat = 4 := by decide
theorem sdl8 : (sdN 8).toNat = 8 := by decide
theorem sdl16 : (sdN 16).toNat = 16 := by decide
theorem sdl32 : (sdN 32).toNat = 32 := by decide
theorem sdl64 : (sdN 64).toNat = 32 := by decide
/-- Inverse and Forward: the error alone -/
theorem inv_code {w : World} {g Z : Nat} {n k W : Int} {C : List Int} (hq : Qt w) (hr : Ri 3 w g C) (hl : C.length = Z) (hZ : Z ≤ 140737488355328) (hW : wrg n k C (sdN n).toNat 1048576 = W) :
    Calls Tryd.prog 10 #[.int .i64 n, .int .i64 k, .slice (some ⟨g, 0, none⟩) Z Z] w fun e w' => ∃ a l c, e = .returned (.tuple #[.slice a l c, .int .i64 W]) ∧ Below w.heap.size w w' := by
  subst hl
  by_cases h0 : W = 0
  · subst h0
    obtain ⟨hk, hC, hM⟩ := wrg_ok hW
    have hsz := tys_size (List.ne_nil_of_mem hk)
    have hk0 := tys_lt hk
    obtain ⟨nn, rfl⟩ : ∃ nn : Nat, n = (nn : Int) := ⟨n.toNat, by omega⟩
    obtain ⟨kk, rfl⟩ : ∃ kk : Nat, k = (kk : Int) := ⟨k.toNat, by omega⟩
    have hsd := (sd_of hk).1
    rw [hsd, Int.toNat_natCast] at hC
    refine (tinv_ok hq hr.si (Nat.le_refl _) hr.lt hk rfl hC hM).mono ?_
    rintro e w' ⟨g', c', rfl, _, hb⟩
    exact ⟨_, _, _, rfl, hb⟩
  · refine (inv_bad hr.si hZ (by rw [hW]; exact h0)).mono ?_
    rintro e w' ⟨rfl, hb⟩
    exact ⟨_, _, _, by rw [hW], hb⟩
theorem fwd_code {w : World} {g Z : Nat} {n k W : Int} {C : List Int} (hq : Qt w) (hr : Ri 3 w g C) (hl : C.length = Z) (hZ : Z ≤ 140737488355328) (hW : wrg n k C n.toNat 255 = W) :
    Calls Tryd.prog 11 #[.int .i64 n, .int .i64 k, .slice (some ⟨g, 0, none⟩) Z Z] w fun e w' => ∃ a l c, e = .returned (.tuple #[.slice a l c, .int .i64 W]) ∧ Below w.heap.size w w' := by
  subst hl
  by_cases h0 : W = 0
  · subst h0
    obtain ⟨hk, hC, hM⟩ := wrg_ok hW
    have hsz := tys_size (List.ne_nil_of_mem hk)
    have hk0 := tys_lt hk
    obtain ⟨nn, rfl⟩ : ∃ nn : Nat, n = (nn : Int) := ⟨n.toNat, by omega⟩
    obtain ⟨kk, rfl⟩ : ∃ kk : Nat, k = (kk : Int) := ⟨k.toNat, by omega⟩
    rw [Int.toNat_natCast] at hC
    refine (tfwd_ok hq hr.si (Nat.le_refl _) hr.lt hk rfl hC hM).mono ?_
    rintro e w' ⟨g', c', rfl, _, hb⟩
    exact ⟨_, _, _, rfl, hb⟩
  · refine (fwd_bad hr.si hZ (by rw [hW]; exact h0)).mono ?_
    rintro e w' ⟨rfl, hb⟩
    exact ⟨_, _, _, by rw [hW], hb⟩
theorem inv_none {w : World} {n k W : Int} (hW : wrg n k [] (sdN n).toNat 1048576 = W) (h0 : W ≠ 0) :
    Calls Tryd.prog 10 #[.int .i64 n, .int .i64 k, .slice none 0 0] w fun e w' => ∃ a l c, e = .returned (.tuple #[.slice a l c, .int .i64 W]) ∧ Below w.heap.size w w' := by
  refine (inv_bad (C := []) (Si.nil _ _) (by simp) (by rw [hW]; exact h0)).mono ?_
  rintro e w' ⟨rfl, hb⟩
  exact ⟨_, _, _, by rw [hW], hb⟩
theorem wrg_no {n k : Int} {C : List Int} {s : Nat} {M : Int} (h : tys n = []) : wrg n k C s M = 2 := by unfold wrg; rw [if_pos h]
theorem wrg_kind {n k : Int} {C : List Int} {s : Nat} {M : Int} (h : tys n ≠ []) (hk : ¬ k ∈ tys n) : wrg n k C s M = 80 := by unfold wrg; rw [if_neg h, if_neg hk]
theorem wrg_yes {n k : Int} {C : List Int} {s : Nat} {M : Int} (hk : k ∈ tys n) (hC : C.length = s * s) (hM : Mst C M) : wrg n k C s M = 0 := by unfold wrg; rw [if_neg (List.ne_nil_of_mem hk), if_pos hk, if_pos hC, if_pos (bdB_yes hM)]
theorem wrg_len {n k : Int} {C : List Int} {s : Nat} {M : Int} (hk : k ∈ tys n) (hC : C.length ≠ s * s) : wrg n k C s M = 2 := by unfold wrg; rw [if_neg (List.ne_nil_of_mem hk), if_pos hk, if_neg hC]
theorem wrg_num {n k : Int} {C : List Int} {s : Nat} {M : Int} (hk : k ∈ tys n) (hC : C.length = s * s) (hM : bdB C M = false) : wrg n k C s M = 2 := by unfold wrg; rw [if_neg (List.ne_nil_of_mem hk), if_pos hk, if_pos hC, hM]; rfl

theorem kk1 : tab 4 (invF 4 4 0 (fs 16 160 0)) = fs 16 5 5 := by decide +kernel
theorem kk2 : tab 4 (fwdF 4 9 (fs 16 1 0)) = fs 16 1 0 := by decide +kernel

set_option maxRecDepth 100000 in
set_option maxHeartbeats 8000000 in
theorem known_walk {w : World} (hq : Qt w) : Calls Tryd.prog 4 #[] w fun e w' => e = .returned (.bool true) ∧ Below w.heap.size w w' := by
  have HQ : Hid (Qt w) := hq
  clear hq
  go_enter Tryd.func4, Tryd.ntmps4
  go_wp2_with fail
  have HB2 : Hid (Below w.heap.size w (w.alloc (.cells #[.int .i64 4, .int .i64 8, .int .i64 16, .int .i64 32, .int .i64 64, .int .i64 5, .int .i64 0, .int .i64 (-4), .int .i64 128] 3))) := from_alloc _ _
  have HR2 : Hid (Ri 3 (w.alloc (.cells #[.int .i64 4, .int .i64 8, .int .i64 16, .int .i64 32, .int .i64 64, .int .i64 5, .int .i64 0, .int .i64 (-4), .int .i64 128] 3)) w.heap.size [4, 8, 16, 32, 64, 5, 0, -4, 128]) := Ri.built 3 w [4, 8, 16, 32, 64, 5, 0, -4, 128] rfl
  generalize (w.alloc (.cells #[.int .i64 4, .int .i64 8, .int .i64 16, .int .i64 32, .int .i64 64, .int .i64 5, .int .i64 0, .int .i64 (-4), .int .i64 128] 3)) = V at *
  go_loopw [34] (fun i wr => ∃ y : Nat, y ≤ 9 ∧ i = .int .i64 y ∧ Ri 3 wr w.heap.size [4, 8, 16, 32, 64, 5, 0, -4, 128] ∧ Below w.heap.size w wr) (fun i _ => 9 - (intOf i).toNat)
  case atStart => exact ⟨0, by omega, rfl, HR2.out, HB2.out⟩
  case round =>
    clear HR2 HB2
    obtain ⟨y, hy, rfl, hr, hb⟩ := hrel
    by_cases hlt : y < 9
    · have hyy : y = 0 ∨ y = 1 ∨ y = 2 ∨ y = 3 ∨ y = 4 ∨ y = 5 ∨ y = 6 ∨ y = 7 ∨ y = 8 := by omega
      have y0 : (0 : Int) ≤ (y : Int) := by omega
      have y9 : (y : Int) < 9 := by omega
      have HYl : Hid (y < 9) := hlt
      clear hlt hy
      rcases hyy with hyi | hyi | hyi | hyi | hyi | hyi | hyi | hyi | hyi
      · as_aux_lemma =>
        have c0 : wr.cell? ⟨w.heap.size, y, none⟩ = some (.int .i64 4) := by rw [hyi]; exact hr.cell 0 (by decide)
        clear hyi
        obtain ⟨ZI, hZI⟩ : ∃ Z : Nat, Z = 16 := ⟨_, rfl⟩
        have hmkI : ∀ u : World, (Instr.makeSlice 22 (.int .i64 16) (.int .i64 16)).run Tryd.prog u = .ok (.slice (some ⟨u.heap.size, 0, none⟩) ZI ZI) (u.alloc (.cells (madeCells #[.int .i64 0] ZI) 3)) := by subst hZI; exact mk_ints (n := 16) (by omega)
        have HZI : Hid (ZI = 16) := hZI
        clear hZI
        have HB3 : Hid (Below w.heap.size w wr) := hb
        have HR3 : Hid (Ri 3 wr w.heap.size [4, 8, 16, 32, 64, 5, 0, -4, 128]) := hr
        clear hb hr
        go_wp2_with fail
        clear c0
        go_loopw [4] (fun i wv => ∃ z : Nat, z ≤ 13 ∧ i = .int .i64 ((z : Int) - 1) ∧ Ri 3 wv w.heap.size [4, 8, 16, 32, 64, 5, 0, -4, 128] ∧ Below w.heap.size w wv) (fun i _ => (12 - intOf i).toNat)
        case atStart => exact ⟨0, by omega, rfl, HR3.out, HB3.out⟩
        case round =>
          clear HR3 HB3
          obtain ⟨z, hz, rfl, hr, hb⟩ := hrel
          have HR4 : Hid (Ri 3 wr w.heap.size [4, 8, 16, 32, 64, 5, 0, -4, 128]) := hr
          have HB4 : Hid (Below w.heap.size w wr) := hb
          clear hb hr
          by_cases hlt : z < 13
          · have HZ : Hid (z < 13) := hlt
            generalize hk : (z : Int) - 1 = k at *
            have HKz : Hid ((z : Int) - 1 = k) := hk
            have k12 : k < 12 := by omega
            have km1 : -1 ≤ k := by omega
            clear hk hlt hz
            go_upto_region 8 with fail
            go_cut [5] from 40 to 136 (fun s5 wx => s5 = .bool (decide (k ∈ tys 4)) ∧ wx = wr)
            case first =>
              by_cases h0 : 0 ≤ k
              · by_cases h1 : k < 10
                · have HIn : Hid (k ∈ tys 4) := (in4 k).2 ⟨h0, h1⟩
                  go_wp2_with fail
                  go_meet
                  exact ⟨by rw [decide_eq_true (HIn.out)], rfl⟩
                · have HIn : Hid (¬ k ∈ tys 4) := fun h => h1 ((in4 k).1 h).2
                  go_wp2_with fail
                  go_meet
                  exact ⟨by rw [decide_eq_false (HIn.out)], rfl⟩
              · have HIn : Hid (¬ k ∈ tys 4) := fun h => h0 ((in4 k).1 h).1
                go_wp2_with fail
                go_meet
                exact ⟨by rw [decide_eq_false (HIn.out)], rfl⟩
            obtain ⟨rfl, rfl⟩ := hcut
            generalize wc = w4 at *
            by_cases hin : k ∈ tys 4
            · 
              have HWI : Hid (wrg 4 k (List.replicate ZI 0) (sdN 4).toNat 1048576 = 0) := wrg_yes hin (by rw [List.length_replicate, HZI.out, sdl4]) (zero_bd _ _ (by omega))
              have HWF : Hid (wrg 4 k (List.replicate ZI 0) ((4 : Int)).toNat 255 = 0) := wrg_yes hin (by rw [List.length_replicate, HZI.out]; decide) (zero_bd _ _ (by omega))
              rw [decide_eq_true (hin)]
              clear hin
              go_wp2_with fail
              have HN5 : Hid (Ri 3 (w4.alloc (.cells (madeCells #[.int .i64 0] ZI) 3)) w4.heap.size (List.replicate ZI 0)) := Ri.made 3 w4 ZI rfl
              have HB5 : Hid (Below w.heap.size w (w4.alloc (.cells (madeCells #[.int .i64 0] ZI) 3))) := to_alloc HB4.out _
              have HR5 : Hid (Ri 3 (w4.alloc (.cells (madeCells #[.int .i64 0] ZI) 3)) w.heap.size [4, 8, 16, 32, 64, 5, 0, -4, 128]) := HR4.out.to (from_alloc _ _)
              generalize (w4.alloc (.cells (madeCells #[.int .i64 0] ZI) 3)) = w5 at *
              generalize w4.heap.size = g5 at *
              refine (inv_code (HQ.out.to HB5.out) HN5.out (by simp) (by have := HZI.out; omega) HWI.out).mono ?_
              rintro e w6 ⟨a6, l6, c6, rfl, hb6⟩
              have HB6 : Hid (Below w.heap.size w w6) := below_to HB5.out hb6
              have HR6 : Hid (Ri 3 w6 w.heap.size [4, 8, 16, 32, 64, 5, 0, -4, 128]) := HR5.out.to hb6
              clear hb6
              go_wp2_with fail
              have HN7 : Hid (Ri 3 (w6.alloc (.cells (madeCells #[.int .i64 0] ZI) 3)) w6.heap.size (List.replicate ZI 0)) := Ri.made 3 w6 ZI rfl
              have HB7 : Hid (Below w.heap.size w (w6.alloc (.cells (madeCells #[.int .i64 0] ZI) 3))) := to_alloc HB6.out _
              have HR7 : Hid (Ri 3 (w6.alloc (.cells (madeCells #[.int .i64 0] ZI) 3)) w.heap.size [4, 8, 16, 32, 64, 5, 0, -4, 128]) := HR6.out.to (from_alloc _ _)
              generalize (w6.alloc (.cells (madeCells #[.int .i64 0] ZI) 3)) = w7 at *
              generalize w6.heap.size = g7 at *
              refine (fwd_code (HQ.out.to HB7.out) HN7.out (by simp) (by have := HZI.out; omega) HWF.out).mono ?_
              rintro e w8 ⟨a8, l8, c8, rfl, hb8⟩
              have HB8 : Hid (Below w.heap.size w w8) := below_to HB7.out hb8
              have HR8 : Hid (Ri 3 w8 w.heap.size [4, 8, 16, 32, 64, 5, 0, -4, 128]) := HR7.out.to hb8
              clear hb8
              go_wp2_with fail
              have hlt := HZ.out
              have hkz := HKz.out
              go_roundw
              case rel => exact ⟨z + 1, by omega, by congr 1; omega, HR8.out, HB8.out⟩
              case measure => simp [intOf]; omega
            · 
              have HWI : Hid (wrg 4 k (List.replicate ZI 0) (sdN 4).toNat 1048576 = 80) := wrg_kind (by decide) hin
              have HWF : Hid (wrg 4 k (List.replicate ZI 0) ((4 : Int)).toNat 255 = 80) := wrg_kind (by decide) hin
              rw [decide_eq_false (hin)]
              clear hin
              go_wp2_with fail
              have HN5 : Hid (Ri 3 (w4.alloc (.cells (madeCells #[.int .i64 0] ZI) 3)) w4.heap.size (List.replicate ZI 0)) := Ri.made 3 w4 ZI rfl
              have HB5 : Hid (Below w.heap.size w (w4.alloc (.cells (madeCells #[.int .i64 0] ZI) 3))) := to_alloc HB4.out _
              have HR5 : Hid (Ri 3 (w4.alloc (.cells (madeCells #[.int .i64 0] ZI) 3)) w.heap.size [4, 8, 16, 32, 64, 5, 0, -4, 128]) := HR4.out.to (from_alloc _ _)
              generalize (w4.alloc (.cells (madeCells #[.int .i64 0] ZI) 3)) = w5 at *
              generalize w4.heap.size = g5 at *
              refine (inv_code (HQ.out.to HB5.out) HN5.out (by simp) (by have := HZI.out; omega) HWI.out).mono ?_
              rintro e w6 ⟨a6, l6, c6, rfl, hb6⟩
              have HB6 : Hid (Below w.heap.size w w6) := below_to HB5.out hb6
              have HR6 : Hid (Ri 3 w6 w.heap.size [4, 8, 16, 32, 64, 5, 0, -4, 128]) := HR5.out.to hb6
              clear hb6
              go_wp2_with fail
              have HN7 : Hid (Ri 3 (w6.alloc (.cells (madeCells #[.int .i64 0] ZI) 3)) w6.heap.size (List.replicate ZI 0)) := Ri.made 3 w6 ZI rfl
              have HB7 : Hid (Below w.heap.size w (w6.alloc (.cells (madeCells #[.int .i64 0] ZI) 3))) := to_alloc HB6.out _
              have HR7 : Hid (Ri 3 (w6.alloc (.cells (madeCells #[.int .i64 0] ZI) 3)) w.heap.size [4, 8, 16, 32, 64, 5, 0, -4, 128]) := HR6.out.to (from_alloc _ _)
              generalize (w6.alloc (.cells (madeCells #[.int .i64 0] ZI) 3)) = w7 at *
              generalize w6.heap.size = g7 at *
              refine (fwd_code (HQ.out.to HB7.out) HN7.out (by simp) (by have := HZI.out; omega) HWF.out).mono ?_
              rintro e w8 ⟨a8, l8, c8, rfl, hb8⟩
              have HB8 : Hid (Below w.heap.size w w8) := below_to HB7.out hb8
              have HR8 : Hid (Ri 3 w8 w.heap.size [4, 8, 16, 32, 64, 5, 0, -4, 128]) := HR7.out.to hb8
              clear hb8
              go_wp2_with fail
              have hlt := HZ.out
              have hkz := HKz.out
              go_roundw
              case rel => exact ⟨z + 1, by omega, by congr 1; omega, HR8.out, HB8.out⟩
              case measure => simp [intOf]; omega
          · have HB5 : Hid (Below w.heap.size w wr) := HB4.out
            have z12 : ¬ (z : Int) - 1 < 12 := by omega
            go_wp2_with fail
            go_roundw
            case rel => exact ⟨y + 1, by have := HYl.out; omega, by go_num, HR4.out, HB5.out⟩
            case measure => have := HYl.out; simp [intOf]; omega
      · as_aux_lemma =>
        have c0 : wr.cell? ⟨w.heap.size, y, none⟩ = some (.int .i64 8) := by rw [hyi]; exact hr.cell 1 (by decide)
        clear hyi
        obtain ⟨ZI, hZI⟩ : ∃ Z : Nat, Z = 64 := ⟨_, rfl⟩
        have hmkI : ∀ u : World, (Instr.makeSlice 22 (.int .i64 64) (.int .i64 64)).run Tryd.prog u = .ok (.slice (some ⟨u.heap.size, 0, none⟩) ZI ZI) (u.alloc (.cells (madeCells #[.int .i64 0] ZI) 3)) := by subst hZI; exact mk_ints (n := 64) (by omega)
        have HZI : Hid (ZI = 64) := hZI
        clear hZI
        have HB3 : Hid (Below w.heap.size w wr) := hb
        have HR3 : Hid (Ri 3 wr w.heap.size [4, 8, 16, 32, 64, 5, 0, -4, 128]) := hr
        clear hb hr
        go_wp2_with fail
        clear c0
        go_loopw [4] (fun i wv => ∃ z : Nat, z ≤ 13 ∧ i = .int .i64 ((z : Int) - 1) ∧ Ri 3 wv w.heap.size [4, 8, 16, 32, 64, 5, 0, -4, 128] ∧ Below w.heap.size w wv) (fun i _ => (12 - intOf i).toNat)
        case atStart => exact ⟨0, by omega, rfl, HR3.out, HB3.out⟩
        case round =>
          clear HR3 HB3
          obtain ⟨z, hz, rfl, hr, hb⟩ := hrel
          have HR4 : Hid (Ri 3 wr w.heap.size [4, 8, 16, 32, 64, 5, 0, -4, 128]) := hr
          have HB4 : Hid (Below w.heap.size w wr) := hb
          clear hb hr
          by_cases hlt : z < 13
          · have HZ : Hid (z < 13) := hlt
            generalize hk : (z : Int) - 1 = k at *
            have HKz : Hid ((z : Int) - 1 = k) := hk
            have k12 : k < 12 := by omega
            have km1 : -1 ≤ k := by omega
            clear hk hlt hz
            go_upto_region 8 with fail
            go_cut [5] from 40 to 136 (fun s5 wx => s5 = .bool (decide (k ∈ tys 8)) ∧ wx = wr)
            case first =>
              by_cases h0 : 0 ≤ k
              · by_cases h1 : k < 9
                · have HIn : Hid (k ∈ tys 8) := (in8 k).2 ⟨h0, h1⟩
                  go_wp2_with fail
                  go_meet
                  exact ⟨by rw [decide_eq_true (HIn.out)], rfl⟩
                · have HIn : Hid (¬ k ∈ tys 8) := fun h => h1 ((in8 k).1 h).2
                  go_wp2_with fail
                  go_meet
                  exact ⟨by rw [decide_eq_false (HIn.out)], rfl⟩
              · have HIn : Hid (¬ k ∈ tys 8) := fun h => h0 ((in8 k).1 h).1
                go_wp2_with fail
                go_meet
                exact ⟨by rw [decide_eq_false (HIn.out)], rfl⟩
            obtain ⟨rfl, rfl⟩ := hcut
            generalize wc = w4 at *
            by_cases hin : k ∈ tys 8
            · 
              have HWI : Hid (wrg 8 k (List.replicate ZI 0) (sdN 8).toNat 1048576 = 0) := wrg_yes hin (by rw [List.length_replicate, HZI.out, sdl8]) (zero_bd _ _ (by omega))
              have HWF : Hid (wrg 8 k (List.replicate ZI 0) ((8 : Int)).toNat 255 = 0) := wrg_yes hin (by rw [List.length_replicate, HZI.out]; decide) (zero_bd _ _ (by omega))
              rw [decide_eq_true (hin)]
              clear hin
              go_wp2_with fail
              have HN5 : Hid (Ri 3 (w4.alloc (.cells (madeCells #[.int .i64 0] ZI) 3)) w4.heap.size (List.replicate ZI 0)) := Ri.made 3 w4 ZI rfl
              have HB5 : Hid (Below w.heap.size w (w4.alloc (.cells (madeCells #[.int .i64 0] ZI) 3))) := to_alloc HB4.out _
              have HR5 : Hid (Ri 3 (w4.alloc (.cells (madeCells #[.int .i64 0] ZI) 3)) w.heap.size [4, 8, 16, 32, 64, 5, 0, -4, 128]) := HR4.out.to (from_alloc _ _)
              generalize (w4.alloc (.cells (madeCells #[.int .i64 0] ZI) 3)) = w5 at *
              generalize w4.heap.size = g5 at *
              refine (inv_code (HQ.out.to HB5.out) HN5.out (by simp) (by have := HZI.out; omega) HWI.out).mono ?_
              rintro e w6 ⟨a6, l6, c6, rfl, hb6⟩
              have HB6 : Hid (Below w.heap.size w w6) := below_to HB5.out hb6
              have HR6 : Hid (Ri 3 w6 w.heap.size [4, 8, 16, 32, 64, 5, 0, -4, 128]) := HR5.out.to hb6
              clear hb6
              go_wp2_with fail
              have HN7 : Hid (Ri 3 (w6.alloc (.cells (madeCells #[.int .i64 0] ZI) 3)) w6.heap.size (List.replicate ZI 0)) := Ri.made 3 w6 ZI rfl
              have HB7 : Hid (Below w.heap.size w (w6.alloc (.cells (madeCells #[.int .i64 0] ZI) 3))) := to_alloc HB6.out _
              have HR7 : Hid (Ri 3 (w6.alloc (.cells (madeCells #[.int .i64 0] ZI) 3)) w.heap.size [4, 8, 16, 32, 64, 5, 0, -4, 128]) := HR6.out.to (from_alloc _ _)
              generalize (w6.alloc (.cells (madeCells #[.int .i64 0] ZI) 3)) = w7 at *
              generalize w6.heap.size = g7 at *
              refine (fwd_code (HQ.out.to HB7.out) HN7.out (by simp) (by have := HZI.out; omega) HWF.out).mono ?_
              rintro e w8 ⟨a8, l8, c8, rfl, hb8⟩
              have HB8 : Hid (Below w.heap.size w w8) := below_to HB7.out hb8
              have HR8 : Hid (Ri 3 w8 w.heap.size [4, 8, 16, 32, 64, 5, 0, -4, 128]) := HR7.out.to hb8
              clear hb8
              go_wp2_with fail
              have hlt := HZ.out
              have hkz := HKz.out
              go_roundw
              case rel => exact ⟨z + 1, by omega, by congr 1; omega, HR8.out, HB8.out⟩
              case measure => simp [intOf]; omega
            · 
              have HWI : Hid (wrg 8 k (List.replicate ZI 0) (sdN 8).toNat 1048576 = 80) := wrg_kind (by decide) hin
              have HWF : Hid (wrg 8 k (List.replicate ZI 0) ((8 : Int)).toNat 255 = 80) := wrg_kind (by decide) hin
              rw [decide_eq_false (hin)]
              clear hin
              go_wp2_with fail
              have HN5 : Hid (Ri 3 (w4.alloc (.cells (madeCells #[.int .i64 0] ZI) 3)) w4.heap.size (List.replicate ZI 0)) := Ri.made 3 w4 ZI rfl
              have HB5 : Hid (Below w.heap.size w (w4.alloc (.cells (madeCells #[.int .i64 0] ZI) 3))) := to_alloc HB4.out _
              have HR5 : Hid (Ri 3 (w4.alloc (.cells (madeCells #[.int .i64 0] ZI) 3)) w.heap.size [4, 8, 16, 32, 64, 5, 0, -4, 128]) := HR4.out.to (from_alloc _ _)
              generalize (w4.alloc (.cells (madeCells #[.int .i64 0] ZI) 3)) = w5 at *
              generalize w4.heap.size = g5 at *
              refine (inv_code (HQ.out.to HB5.out) HN5.out (by simp) (by have := HZI.out; omega) HWI.out).mono ?_
              rintro e w6 ⟨a6, l6, c6, rfl, hb6⟩
              have HB6 : Hid (Below w.heap.size w w6) := below_to HB5.out hb6
              have HR6 : Hid (Ri 3 w6 w.heap.size [4, 8, 16, 32, 64, 5, 0, -4, 128]) := HR5.out.to hb6
              clear hb6
              go_wp2_with fail
              have HN7 : Hid (Ri 3 (w6.alloc (.cells (madeCells #[.int .i64 0] ZI) 3)) w6.heap.size (List.replicate ZI 0)) := Ri.made 3 w6 ZI rfl
              have HB7 : Hid (Below w.heap.size w (w6.alloc (.cells (madeCells #[.int .i64 0] ZI) 3))) := to_alloc HB6.out _
              have HR7 : Hid (Ri 3 (w6.alloc (.cells (madeCells #[.int .i64 0] ZI) 3)) w.heap.size [4, 8, 16, 32, 64, 5, 0, -4, 128]) := HR6.out.to (from_alloc _ _)
              generalize (w6.alloc (.cells (madeCells #[.int .i64 0] ZI) 3)) = w7 at *
              generalize w6.heap.size = g7 at *
              refine (fwd_code (HQ.out.to HB7.out) HN7.out (by simp) (by have := HZI.out; omega) HWF.out).mono ?_
              rintro e w8 ⟨a8, l8, c8, rfl, hb8⟩
              have HB8 : Hid (Below w.heap.size w w8) := below_to HB7.out hb8
              have HR8 : Hid (Ri 3 w8 w.heap.size [4, 8, 16, 32, 64, 5, 0, -4, 128]) := HR7.out.to hb8
              clear hb8
              go_wp2_with fail
              have hlt := HZ.out
              have hkz := HKz.out
              go_roundw
              case rel => exact ⟨z + 1, by omega, by congr 1; omega, HR8.out, HB8.out⟩
              case measure => simp [intOf]; omega
          · have HB5 : Hid (Below w.heap.size w wr) := HB4.out
            have z12 : ¬ (z : Int) - 1 < 12 := by omega
            go_wp2_with fail
            go_roundw
            case rel => exact ⟨y + 1, by have := HYl.out; omega, by go_num, HR4.out, HB5.out⟩
            case measure => have := HYl.out; simp [intOf]; omega
      · as_aux_lemma =>
        have c0 : wr.cell? ⟨w.heap.size, y, none⟩ = some (.int .i64 16) := by rw [hyi]; exact hr.cell 2 (by decide)
        clear hyi
        obtain ⟨ZI, hZI⟩ : ∃ Z : Nat, Z = 256 := ⟨_, rfl⟩
        have hmkI : ∀ u : World, (Instr.makeSlice 22 (.int .i64 256) (.int .i64 256)).run Tryd.prog u = .ok (.slice (some ⟨u.heap.size, 0, none⟩) ZI ZI) (u.alloc (.cells (madeCells #[.int .i64 0] ZI) 3)) := by subst hZI; exact mk_ints (n := 256) (by omega)
        have HZI : Hid (ZI = 256) := hZI
        clear hZI
        have HB3 : Hid (Below w.heap.size w wr) := hb
        have HR3 : Hid (Ri 3 wr w.heap.size [4, 8, 16, 32, 64, 5, 0, -4, 128]) := hr
        clear hb hr
        go_wp2_with fail
        clear c0
        go_loopw [4] (fun i wv => ∃ z : Nat, z ≤ 13 ∧ i = .int .i64 ((z : Int) - 1) ∧ Ri 3 wv w.heap.size [4, 8, 16, 32, 64, 5, 0, -4, 128] ∧ Below w.heap.size w wv) (fun i _ => (12 - intOf i).toNat)
        case atStart => exact ⟨0, by omega, rfl, HR3.out, HB3.out⟩
        case round =>
          clear HR3 HB3
          obtain ⟨z, hz, rfl, hr, hb⟩ := hrel
          have HR4 : Hid (Ri 3 wr w.heap.size [4, 8, 16, 32, 64, 5, 0, -4, 128]) := hr
          have HB4 : Hid (Below w.heap.size w wr) := hb
          clear hb hr
          by_cases hlt : z < 13
          · have HZ : Hid (z < 13) := hlt
            generalize hk : (z : Int) - 1 = k at *
            have HKz : Hid ((z : Int) - 1 = k) := hk
            have k12 : k < 12 := by omega
            have km1 : -1 ≤ k := by omega
            clear hk hlt hz
            go_upto_region 8 with fail
            go_cut [5] from 40 to 136 (fun s5 wx => s5 = .bool (decide (k ∈ tys 16)) ∧ wx = wr)
            case first =>
              by_cases h0 : 0 ≤ k
              · by_cases h1 : k < 9
                · have HIn : Hid (k ∈ tys 16) := (in16 k).2 ⟨h0, h1⟩
                  go_wp2_with fail
                  go_meet
                  exact ⟨by rw [decide_eq_true (HIn.out)], rfl⟩
                · have HIn : Hid (¬ k ∈ tys 16) := fun h => h1 ((in16 k).1 h).2
                  go_wp2_with fail
                  go_meet
                  exact ⟨by rw [decide_eq_false (HIn.out)], rfl⟩
              · have HIn : Hid (¬ k ∈ tys 16) := fun h => h0 ((in16 k).1 h).1
                go_wp2_with fail
                go_meet
                exact ⟨by rw [decide_eq_false (HIn.out)], rfl⟩
            obtain ⟨rfl, rfl⟩ := hcut
            generalize wc = w4 at *
            by_cases hin : k ∈ tys 16
            · 
              have HWI : Hid (wrg 16 k (List.replicate ZI 0) (sdN 16).toNat 1048576 = 0) := wrg_yes hin (by rw [List.length_replicate, HZI.out, sdl16]) (zero_bd _ _ (by omega))
              have HWF : Hid (wrg 16 k (List.replicate ZI 0) ((16 : Int)).toNat 255 = 0) := wrg_yes hin (by rw [List.length_replicate, HZI.out]; decide) (zero_bd _ _ (by omega))
              rw [decide_eq_true (hin)]
              clear hin
              go_wp2_with fail
              have HN5 : Hid (Ri 3 (w4.alloc (.cells (madeCells #[.int .i64 0] ZI) 3)) w4.heap.size (List.replicate ZI 0)) := Ri.made 3 w4 ZI rfl
              have HB5 : Hid (Below w.heap.size w (w4.alloc (.cells (madeCells #[.int .i64 0] ZI) 3))) := to_alloc HB4.out _
              have HR5 : Hid (Ri 3 (w4.alloc (.cells (madeCells #[.int .i64 0] ZI) 3)) w.heap.size [4, 8, 16, 32, 64, 5, 0, -4, 128]) := HR4.out.to (from_alloc _ _)
              generalize (w4.alloc (.cells (madeCells #[.int .i64 0] ZI) 3)) = w5 at *
              generalize w4.heap.size = g5 at *
              refine (inv_code (HQ.out.to HB5.out) HN5.out (by simp) (by have := HZI.out; omega) HWI.out).mono ?_
              rintro e w6 ⟨a6, l6, c6, rfl, hb6⟩
              have HB6 : Hid (Below w.heap.size w w6) := below_to HB5.out hb6
              have HR6 : Hid (Ri 3 w6 w.heap.size [4, 8, 16, 32, 64, 5, 0, -4, 128]) := HR5.out.to hb6
              clear hb6
              go_wp2_with fail
              have HN7 : Hid (Ri 3 (w6.alloc (.cells (madeCells #[.int .i64 0] ZI) 3)) w6.heap.size (List.replicate ZI 0)) := Ri.made 3 w6 ZI rfl
              have HB7 : Hid (Below w.heap.size w (w6.alloc (.cells (madeCells #[.int .i64 0] ZI) 3))) := to_alloc HB6.out _
              have HR7 : Hid (Ri 3 (w6.alloc (.cells (madeCells #[.int .i64 0] ZI) 3)) w.heap.size [4, 8, 16, 32, 64, 5, 0, -4, 128]) := HR6.out.to (from_alloc _ _)
              generalize (w6.alloc (.cells (madeCells #[.int .i64 0] ZI) 3)) = w7 at *
              generalize w6.heap.size = g7 at *
              refine (fwd_code (HQ.out.to HB7.out) HN7.out (by simp) (by have := HZI.out; omega) HWF.out).mono ?_
              rintro e w8 ⟨a8, l8, c8, rfl, hb8⟩
              have HB8 : Hid (Below w.heap.size w w8) := below_to HB7.out hb8
              have HR8 : Hid (Ri 3 w8 w.heap.size [4, 8, 16, 32, 64, 5, 0, -4, 128]) := HR7.out.to hb8
              clear hb8
              go_wp2_with fail
              have hlt := HZ.out
              have hkz := HKz.out
              go_roundw
              case rel => exact ⟨z + 1, by omega, by congr 1; omega, HR8.out, HB8.out⟩
              case measure => simp [intOf]; omega
            · 
              have HWI : Hid (wrg 16 k (List.replicate ZI 0) (sdN 16).toNat 1048576 = 80) := wrg_kind (by decide) hin
              have HWF : Hid (wrg 16 k (List.replicate ZI 0) ((16 : Int)).toNat 255 = 80) := wrg_kind (by decide) hin
              rw [decide_eq_false (hin)]
              clear hin
              go_wp2_with fail
              have HN5 : Hid (Ri 3 (w4.alloc (.cells (madeCells #[.int .i64 0] ZI) 3)) w4.heap.size (List.replicate ZI 0)) := Ri.made 3 w4 ZI rfl
              have HB5 : Hid (Below w.heap.size w (w4.alloc (.cells (madeCells #[.int .i64 0] ZI) 3))) := to_alloc HB4.out _
              have HR5 : Hid (Ri 3 (w4.alloc (.cells (madeCells #[.int .i64 0] ZI) 3)) w.heap.size [4, 8, 16, 32, 64, 5, 0, -4, 128]) := HR4.out.to (from_alloc _ _)
              generalize (w4.alloc (.cells (madeCells #[.int .i64 0] ZI) 3)) = w5 at *
              generalize w4.heap.size = g5 at *
              refine (inv_code (HQ.out.to HB5.out) HN5.out (by simp) (by have := HZI.out; omega) HWI.out).mono ?_
              rintro e w6 ⟨a6, l6, c6, rfl, hb6⟩
              have HB6 : Hid (Below w.heap.size w w6) := below_to HB5.out hb6
              have HR6 : Hid (Ri 3 w6 w.heap.size [4, 8, 16, 32, 64, 5, 0, -4, 128]) := HR5.out.to hb6
              clear hb6
              go_wp2_with fail
              have HN7 : Hid (Ri 3 (w6.alloc (.cells (madeCells #[.int .i64 0] ZI) 3)) w6.heap.size (List.replicate ZI 0)) := Ri.made 3 w6 ZI rfl
              have HB7 : Hid (Below w.heap.size w (w6.alloc (.cells (madeCells #[.int .i64 0] ZI) 3))) := to_alloc HB6.out _
              have HR7 : Hid (Ri 3 (w6.alloc (.cells (madeCells #[.int .i64 0] ZI) 3)) w.heap.size [4, 8, 16, 32, 64, 5, 0, -4, 128]) := HR6.out.to (from_alloc _ _)
              generalize (w6.alloc (.cells (madeCells #[.int .i64 0] ZI) 3)) = w7 at *
              generalize w6.heap.size = g7 at *
              refine (fwd_code (HQ.out.to HB7.out) HN7.out (by simp) (by have := HZI.out; omega) HWF.out).mono ?_
              rintro e w8 ⟨a8, l8, c8, rfl, hb8⟩
              have HB8 : Hid (Below w.heap.size w w8) := below_to HB7.out hb8
              have HR8 : Hid (Ri 3 w8 w.heap.size [4, 8, 16, 32, 64, 5, 0, -4, 128]) := HR7.out.to hb8
              clear hb8
              go_wp2_with fail
              have hlt := HZ.out
              have hkz := HKz.out
              go_roundw
              case rel => exact ⟨z + 1, by omega, by congr 1; omega, HR8.out, HB8.out⟩
              case measure => simp [intOf]; omega
          · have HB5 : Hid (Below w.heap.size w wr) := HB4.out
            have z12 : ¬ (z : Int) - 1 < 12 := by omega
            go_wp2_with fail
            go_roundw
            case rel => exact ⟨y + 1, by have := HYl.out; omega, by go_num, HR4.out, HB5.out⟩
            case measure => have := HYl.out; simp [intOf]; omega
      · as_aux_lemma =>
        have c0 : wr.cell? ⟨w.heap.size, y, none⟩ = some (.int .i64 32) := by rw [hyi]; exact hr.cell 3 (by decide)
        clear hyi
        obtain ⟨ZI, hZI⟩ : ∃ Z : Nat, Z = 1024 := ⟨_, rfl⟩
        have hmkI : ∀ u : World, (Instr.makeSlice 22 (.int .i64 1024) (.int .i64 1024)).run Tryd.prog u = .ok (.slice (some ⟨u.heap.size, 0, none⟩) ZI ZI) (u.alloc (.cells (madeCells #[.int .i64 0] ZI) 3)) := by subst hZI; exact mk_ints (n := 1024) (by omega)
        have HZI : Hid (ZI = 1024) := hZI
        clear hZI
        have HB3 : Hid (Below w.heap.size w wr) := hb
        have HR3 : Hid (Ri 3 wr w.heap.size [4, 8, 16, 32, 64, 5, 0, -4, 128]) := hr
        clear hb hr
        go_wp2_with fail
        clear c0
        go_loopw [4] (fun i wv => ∃ z : Nat, z ≤ 13 ∧ i = .int .i64 ((z : Int) - 1) ∧ Ri 3 wv w.heap.size [4, 8, 16, 32, 64, 5, 0, -4, 128] ∧ Below w.heap.size w wv) (fun i _ => (12 - intOf i).toNat)
        case atStart => exact ⟨0, by omega, rfl, HR3.out, HB3.out⟩
        case round =>
          clear HR3 HB3
          obtain ⟨z, hz, rfl, hr, hb⟩ := hrel
          have HR4 : Hid (Ri 3 wr w.heap.size [4, 8, 16, 32, 64, 5, 0, -4, 128]) := hr
          have HB4 : Hid (Below w.heap.size w wr) := hb
          clear hb hr
          by_cases hlt : z < 13
          · have HZ : Hid (z < 13) := hlt
            generalize hk : (z : Int) - 1 = k at *
            have HKz : Hid ((z : Int) - 1 = k) := hk
            have k12 : k < 12 := by omega
            have km1 : -1 ≤ k := by omega
            clear hk hlt hz
            go_upto_region 8 with fail
            go_cut [5] from 40 to 136 (fun s5 wx => s5 = .bool (decide (k ∈ tys 32)) ∧ wx = wr)
            case first =>
              by_cases h0 : 0 ≤ k
              · by_cases h1 : k = 0
                · have HIn : Hid (k ∈ tys 32) := (in32 k).2 (Or.inl h1)
                  have z0 : (k == 0) = true := by rw [beq_iff_eq]; exact h1
                  clear h1
                  go_wp2_with fail
                  go_meet
                  exact ⟨by rw [decide_eq_true (HIn.out)], rfl⟩
                · have z0 : (k == 0) = false := by rw [beq_eq_false_iff_ne]; exact h1
                  by_cases h2 : k = 8
                  · have HIn : Hid (k ∈ tys 32) := (in32 k).2 (Or.inr h2)
                    have z8 : (k == 8) = true := by rw [beq_iff_eq]; exact h2
                    clear h1 h2
                    go_wp2_with fail
                    go_meet
                    exact ⟨by rw [decide_eq_true (HIn.out)], rfl⟩
                  · have HIn : Hid (¬ k ∈ tys 32) := fun h => by rcases (in32 k).1 h with e | e; exact h1 e; exact h2 e
                    have z8 : (k == 8) = false := by rw [beq_eq_false_iff_ne]; exact h2
                    clear h1 h2
                    go_wp2_with fail
                    go_meet
                    exact ⟨by rw [decide_eq_false (HIn.out)], rfl⟩
              · have HIn : Hid (¬ k ∈ tys 32) := fun h => by rcases (in32 k).1 h with e | e <;> omega
                go_wp2_with fail
                go_meet
                exact ⟨by rw [decide_eq_false (HIn.out)], rfl⟩
            obtain ⟨rfl, rfl⟩ := hcut
            generalize wc = w4 at *
            by_cases hin : k ∈ tys 32
            · 
              have HWI : Hid (wrg 32 k (List.replicate ZI 0) (sdN 32).toNat 1048576 = 0) := wrg_yes hin (by rw [List.length_replicate, HZI.out, sdl32]) (zero_bd _ _ (by omega))
              have HWF : Hid (wrg 32 k (List.replicate ZI 0) ((32 : Int)).toNat 255 = 0) := wrg_yes hin (by rw [List.length_replicate, HZI.out]; decide) (zero_bd _ _ (by omega))
              rw [decide_eq_true (hin)]
              clear hin
              go_wp2_with fail
              have HN5 : Hid (Ri 3 (w4.alloc (.cells (madeCells #[.int .i64 0] ZI) 3)) w4.heap.size (List.replicate ZI 0)) := Ri.made 3 w4 ZI rfl
              have HB5 : Hid (Below w.heap.size w (w4.alloc (.cells (madeCells #[.int .i64 0] ZI) 3))) := to_alloc HB4.out _
              have HR5 : Hid (Ri 3 (w4.alloc (.cells (madeCells #[.int .i64 0] ZI) 3)) w.heap.size [4, 8, 16, 32, 64, 5, 0, -4, 128]) := HR4.out.to (from_alloc _ _)
              generalize (w4.alloc (.cells (madeCells #[.int .i64 0] ZI) 3)) = w5 at *
              generalize w4.heap.size = g5 at *
              refine (inv_code (HQ.out.to HB5.out) HN5.out (by simp) (by have := HZI.out; omega) HWI.out).mono ?_
              rintro e w6 ⟨a6, l6, c6, rfl, hb6⟩
              have HB6 : Hid (Below w.heap.size w w6) := below_to HB5.out hb6
              have HR6 : Hid (Ri 3 w6 w.heap.size [4, 8, 16, 32, 64, 5, 0, -4, 128]) := HR5.out.to hb6
              clear hb6
              go_wp2_with fail
              have HN7 : Hid (Ri 3 (w6.alloc (.cells (madeCells #[.int .i64 0] ZI) 3)) w6.heap.size (List.replicate ZI 0)) := Ri.made 3 w6 ZI rfl
              have HB7 : Hid (Below w.heap.size w (w6.alloc (.cells (madeCells #[.int .i64 0] ZI) 3))) := to_alloc HB6.out _
              have HR7 : Hid (Ri 3 (w6.alloc (.cells (madeCells #[.int .i64 0] ZI) 3)) w.heap.size [4, 8, 16, 32, 64, 5, 0, -4, 128]) := HR6.out.to (from_alloc _ _)
              generalize (w6.alloc (.cells (madeCells #[.int .i64 0] ZI) 3)) = w7 at *
              generalize w6.heap.size = g7 at *
              refine (fwd_code (HQ.out.to HB7.out) HN7.out (by simp) (by have := HZI.out; omega) HWF.out).mono ?_
              rintro e w8 ⟨a8, l8, c8, rfl, hb8⟩
              have HB8 : Hid (Below w.heap.size w w8) := below_to HB7.out hb8
              have HR8 : Hid (Ri 3 w8 w.heap.size [4, 8, 16, 32, 64, 5, 0, -4, 128]) := HR7.out.to hb8
              clear hb8
              go_wp2_with fail
              have hlt := HZ.out
              have hkz := HKz.out
              go_roundw
              case rel => exact ⟨z + 1, by omega, by congr 1; omega, HR8.out, HB8.out⟩
              case measure => simp [intOf]; omega
            · 
              have HWI : Hid (wrg 32 k (List.replicate ZI 0) (sdN 32).toNat 1048576 = 80) := wrg_kind (by decide) hin
              have HWF : Hid (wrg 32 k (List.replicate ZI 0) ((32 : Int)).toNat 255 = 80) := wrg_kind (by decide) hin
              rw [decide_eq_false (hin)]
              clear hin
              go_wp2_with fail
              have HN5 : Hid (Ri 3 (w4.alloc (.cells (madeCells #[.int .i64 0] ZI) 3)) w4.heap.size (List.replicate ZI 0)) := Ri.made 3 w4 ZI rfl
              have HB5 : Hid (Below w.heap.size w (w4.alloc (.cells (madeCells #[.int .i64 0] ZI) 3))) := to_alloc HB4.out _
              have HR5 : Hid (Ri 3 (w4.alloc (.cells (madeCells #[.int .i64 0] ZI) 3)) w.heap.size [4, 8, 16, 32, 64, 5, 0, -4, 128]) := HR4.out.to (from_alloc _ _)
              generalize (w4.alloc (.cells (madeCells #[.int .i64 0] ZI) 3)) = w5 at *
              generalize w4.heap.size = g5 at *
              refine (inv_code (HQ.out.to HB5.out) HN5.out (by simp) (by have := HZI.out; omega) HWI.out).mono ?_
              rintro e w6 ⟨a6, l6, c6, rfl, hb6⟩
              have HB6 : Hid (Below w.heap.size w w6) := below_to HB5.out hb6
              have HR6 : Hid (Ri 3 w6 w.heap.size [4, 8, 16, 32, 64, 5, 0, -4, 128]) := HR5.out.to hb6
              clear hb6
              go_wp2_with fail
              have HN7 : Hid (Ri 3 (w6.alloc (.cells (madeCells #[.int .i64 0] ZI) 3)) w6.heap.size (List.replicate ZI 0)) := Ri.made 3 w6 ZI rfl
              have HB7 : Hid (Below w.heap.size w (w6.alloc (.cells (madeCells #[.int .i64 0] ZI) 3))) := to_alloc HB6.out _
              have HR7 : Hid (Ri 3 (w6.alloc (.cells (madeCells #[.int .i64 0] ZI) 3)) w.heap.size [4, 8, 16, 32, 64, 5, 0, -4, 128]) := HR6.out.to (from_alloc _ _)
              generalize (w6.alloc (.cells (madeCells #[.int .i64 0] ZI) 3)) = w7 at *
              generalize w6.heap.size = g7 at *
              refine (fwd_code (HQ.out.to HB7.out) HN7.out (by simp) (by have := HZI.out; omega) HWF.out).mono ?_
              rintro e w8 ⟨a8, l8, c8, rfl, hb8⟩
              have HB8 : Hid (Below w.heap.size w w8) := below_to HB7.out hb8
              have HR8 : Hid (Ri 3 w8 w.heap.size [4, 8, 16, 32, 64, 5, 0, -4, 128]) := HR7.out.to hb8
              clear hb8
              go_wp2_with fail
              have hlt := HZ.out
              have hkz := HKz.out
              go_roundw
              case rel => exact ⟨z + 1, by omega, by congr 1; omega, HR8.out, HB8.out⟩
              case measure => simp [intOf]; omega
          · have HB5 : Hid (Below w.heap.size w wr) := HB4.out
            have z12 : ¬ (z : Int) - 1 < 12 := by omega
            go_wp2_with fail
            go_roundw
            case rel => exact ⟨y + 1, by have := HYl.out; omega, by go_num, HR4.out, HB5.out⟩
            case measure => have := HYl.out; simp [intOf]; omega
      · as_aux_lemma =>
        have c0 : wr.cell? ⟨w.heap.size, y, none⟩ = some (.int .i64 64) := by rw [hyi]; exact hr.cell 4 (by decide)
        clear hyi
        obtain ⟨ZI, hZI⟩ : ∃ Z : Nat, Z = 1024 := ⟨_, rfl⟩
        obtain ⟨ZF, hZF⟩ : ∃ Z : Nat, Z = 4096 := ⟨_, rfl⟩
        have hmkI : ∀ u : World, (Instr.makeSlice 22 (.int .i64 1024) (.int .i64 1024)).run Tryd.prog u = .ok (.slice (some ⟨u.heap.size, 0, none⟩) ZI ZI) (u.alloc (.cells (madeCells #[.int .i64 0] ZI) 3)) := by subst hZI; exact mk_ints (n := 1024) (by omega)
        have hmkF : ∀ u : World, (Instr.makeSlice 22 (.int .i64 4096) (.int .i64 4096)).run Tryd.prog u = .ok (.slice (some ⟨u.heap.size, 0, none⟩) ZF ZF) (u.alloc (.cells (madeCells #[.int .i64 0] ZF) 3)) := by subst hZF; exact mk_ints (n := 4096) (by omega)
        have HZI : Hid (ZI = 1024) := hZI
        have HZF : Hid (ZF = 4096) := hZF
        clear hZI hZF
        have HB3 : Hid (Below w.heap.size w wr) := hb
        have HR3 : Hid (Ri 3 wr w.heap.size [4, 8, 16, 32, 64, 5, 0, -4, 128]) := hr
        clear hb hr
        go_wp2_with fail
        clear c0
        go_loopw [4] (fun i wv => ∃ z : Nat, z ≤ 13 ∧ i = .int .i64 ((z : Int) - 1) ∧ Ri 3 wv w.heap.size [4, 8, 16, 32, 64, 5, 0, -4, 128] ∧ Below w.heap.size w wv) (fun i _ => (12 - intOf i).toNat)
        case atStart => exact ⟨0, by omega, rfl, HR3.out, HB3.out⟩
        case round =>
          clear HR3 HB3
          obtain ⟨z, hz, rfl, hr, hb⟩ := hrel
          have HR4 : Hid (Ri 3 wr w.heap.size [4, 8, 16, 32, 64, 5, 0, -4, 128]) := hr
          have HB4 : Hid (Below w.heap.size w wr) := hb
          clear hb hr
          by_cases hlt : z < 13
          · have HZ : Hid (z < 13) := hlt
            generalize hk : (z : Int) - 1 = k at *
            have HKz : Hid ((z : Int) - 1 = k) := hk
            have k12 : k < 12 := by omega
            have km1 : -1 ≤ k := by omega
            clear hk hlt hz
            go_upto_region 8 with fail
            go_cut [5] from 40 to 136 (fun s5 wx => s5 = .bool (decide (k ∈ tys 64)) ∧ wx = wr)
            case first =>
              by_cases h0 : 0 ≤ k
              · by_cases h1 : k = 0
                · have HIn : Hid (k ∈ tys 64) := (in64 k).2 h1
                  have z0 : (k == 0) = true := by rw [beq_iff_eq]; exact h1
                  clear h1
                  go_wp2_with fail
                  go_meet
                  exact ⟨by rw [decide_eq_true (HIn.out)], rfl⟩
                · have HIn : Hid (¬ k ∈ tys 64) := fun h => h1 ((in64 k).1 h)
                  have z0 : (k == 0) = false := by rw [beq_eq_false_iff_ne]; exact h1
                  clear h1
                  go_wp2_with fail
                  go_meet
                  exact ⟨by rw [decide_eq_false (HIn.out)], rfl⟩
              · have HIn : Hid (¬ k ∈ tys 64) := fun h => by have := (in64 k).1 h; omega
                go_wp2_with fail
                go_meet
                exact ⟨by rw [decide_eq_false (HIn.out)], rfl⟩
            obtain ⟨rfl, rfl⟩ := hcut
            generalize wc = w4 at *
            by_cases hin : k ∈ tys 64
            · 
              have HWI : Hid (wrg 64 k (List.replicate ZI 0) (sdN 64).toNat 1048576 = 0) := wrg_yes hin (by rw [List.length_replicate, HZI.out, sdl64]) (zero_bd _ _ (by omega))
              have HWF : Hid (wrg 64 k (List.replicate ZF 0) ((64 : Int)).toNat 255 = 0) := wrg_yes hin (by rw [List.length_replicate, HZF.out]; decide) (zero_bd _ _ (by omega))
              rw [decide_eq_true (hin)]
              clear hin
              go_wp2_with fail
              have HN5 : Hid (Ri 3 (w4.alloc (.cells (madeCells #[.int .i64 0] ZI) 3)) w4.heap.size (List.replicate ZI 0)) := Ri.made 3 w4 ZI rfl
              have HB5 : Hid (Below w.heap.size w (w4.alloc (.cells (madeCells #[.int .i64 0] ZI) 3))) := to_alloc HB4.out _
              have HR5 : Hid (Ri 3 (w4.alloc (.cells (madeCells #[.int .i64 0] ZI) 3)) w.heap.size [4, 8, 16, 32, 64, 5, 0, -4, 128]) := HR4.out.to (from_alloc _ _)
              generalize (w4.alloc (.cells (madeCells #[.int .i64 0] ZI) 3)) = w5 at *
              generalize w4.heap.size = g5 at *
              refine (inv_code (HQ.out.to HB5.out) HN5.out (by simp) (by have := HZI.out; omega) HWI.out).mono ?_
              rintro e w6 ⟨a6, l6, c6, rfl, hb6⟩
              have HB6 : Hid (Below w.heap.size w w6) := below_to HB5.out hb6
              have HR6 : Hid (Ri 3 w6 w.heap.size [4, 8, 16, 32, 64, 5, 0, -4, 128]) := HR5.out.to hb6
              clear hb6
              go_wp2_with fail
              have HN7 : Hid (Ri 3 (w6.alloc (.cells (madeCells #[.int .i64 0] ZF) 3)) w6.heap.size (List.replicate ZF 0)) := Ri.made 3 w6 ZF rfl
              have HB7 : Hid (Below w.heap.size w (w6.alloc (.cells (madeCells #[.int .i64 0] ZF) 3))) := to_alloc HB6.out _
              have HR7 : Hid (Ri 3 (w6.alloc (.cells (madeCells #[.int .i64 0] ZF) 3)) w.heap.size [4, 8, 16, 32, 64, 5, 0, -4, 128]) := HR6.out.to (from_alloc _ _)
              generalize (w6.alloc (.cells (madeCells #[.int .i64 0] ZF) 3)) = w7 at *
              generalize w6.heap.size = g7 at *
              refine (fwd_code (HQ.out.to HB7.out) HN7.out (by simp) (by have := HZF.out; omega) HWF.out).mono ?_
              rintro e w8 ⟨a8, l8, c8, rfl, hb8⟩
              have HB8 : Hid (Below w.heap.size w w8) := below_to HB7.out hb8
              have HR8 : Hid (Ri 3 w8 w.heap.size [4, 8, 16, 32, 64, 5, 0, -4, 128]) := HR7.out.to hb8
              clear hb8
              go_wp2_with fail
              have hlt := HZ.out
              have hkz := HKz.out
              go_roundw
              case rel => exact ⟨z + 1, by omega, by congr 1; omega, HR8.out, HB8.out⟩
              case measure => simp [intOf]; omega
            · 
              have HWI : Hid (wrg 64 k (List.replicate ZI 0) (sdN 64).toNat 1048576 = 80) := wrg_kind (by decide) hin
              have HWF : Hid (wrg 64 k (List.replicate ZF 0) ((64 : Int)).toNat 255 = 80) := wrg_kind (by decide) hin
              rw [decide_eq_false (hin)]
              clear hin
              go_wp2_with fail
              have HN5 : Hid (Ri 3 (w4.alloc (.cells (madeCells #[.int .i64 0] ZI) 3)) w4.heap.size (List.replicate ZI 0)) := Ri.made 3 w4 ZI rfl
              have HB5 : Hid (Below w.heap.size w (w4.alloc (.cells (madeCells #[.int .i64 0] ZI) 3))) := to_alloc HB4.out _
              have HR5 : Hid (Ri 3 (w4.alloc (.cells (madeCells #[.int .i64 0] ZI) 3)) w.heap.size [4, 8, 16, 32, 64, 5, 0, -4, 128]) := HR4.out.to (from_alloc _ _)
              generalize (w4.alloc (.cells (madeCells #[.int .i64 0] ZI) 3)) = w5 at *
              generalize w4.heap.size = g5 at *
              refine (inv_code (HQ.out.to HB5.out) HN5.out (by simp) (by have := HZI.out; omega) HWI.out).mono ?_
              rintro e w6 ⟨a6, l6, c6, rfl, hb6⟩
              have HB6 : Hid (Below w.heap.size w w6) := below_to HB5.out hb6
              have HR6 : Hid (Ri 3 w6 w.heap.size [4, 8, 16, 32, 64, 5, 0, -4, 128]) := HR5.out.to hb6
              clear hb6
              go_wp2_with fail
              have HN7 : Hid (Ri 3 (w6.alloc (.cells (madeCells #[.int .i64 0] ZF) 3)) w6.heap.size (List.replicate ZF 0)) := Ri.made 3 w6 ZF rfl
              have HB7 : Hid (Below w.heap.size w (w6.alloc (.cells (madeCells #[.int .i64 0] ZF) 3))) := to_alloc HB6.out _
              have HR7 : Hid (Ri 3 (w6.alloc (.cells (madeCells #[.int .i64 0] ZF) 3)) w.heap.size [4, 8, 16, 32, 64, 5, 0, -4, 128]) := HR6.out.to (from_alloc _ _)
              generalize (w6.alloc (.cells (madeCells #[.int .i64 0] ZF) 3)) = w7 at *
              generalize w6.heap.size = g7 at *
              refine (fwd_code (HQ.out.to HB7.out) HN7.out (by simp) (by have := HZF.out; omega) HWF.out).mono ?_
              rintro e w8 ⟨a8, l8, c8, rfl, hb8⟩
              have HB8 : Hid (Below w.heap.size w w8) := below_to HB7.out hb8
              have HR8 : Hid (Ri 3 w8 w.heap.size [4, 8, 16, 32, 64, 5, 0, -4, 128]) := HR7.out.to hb8
              clear hb8
              go_wp2_with fail
              have hlt := HZ.out
              have hkz := HKz.out
              go_roundw
              case rel => exact ⟨z + 1, by omega, by congr 1; omega, HR8.out, HB8.out⟩
              case measure => simp [intOf]; omega
          · have HB5 : Hid (Below w.heap.size w wr) := HB4.out
            have z12 : ¬ (z : Int) - 1 < 12 := by omega
            go_wp2_with fail
            go_roundw
            case rel => exact ⟨y + 1, by have := HYl.out; omega, by go_num, HR4.out, HB5.out⟩
            case measure => have := HYl.out; simp [intOf]; omega
      · as_aux_lemma =>
        have c0 : wr.cell? ⟨w.heap.size, y, none⟩ = some (.int .i64 5) := by rw [hyi]; exact hr.cell 5 (by decide)
        clear hyi
        obtain ⟨ZI, hZI⟩ : ∃ Z : Nat, Z = 25 := ⟨_, rfl⟩
        have hmkI : ∀ u : World, (Instr.makeSlice 22 (.int .i64 25) (.int .i64 25)).run Tryd.prog u = .ok (.slice (some ⟨u.heap.size, 0, none⟩) ZI ZI) (u.alloc (.cells (madeCells #[.int .i64 0] ZI) 3)) := by subst hZI; exact mk_ints (n := 25) (by omega)
        have HZI : Hid (ZI = 25) := hZI
        clear hZI
        have HB3 : Hid (Below w.heap.size w wr) := hb
        have HR3 : Hid (Ri 3 wr w.heap.size [4, 8, 16, 32, 64, 5, 0, -4, 128]) := hr
        clear hb hr
        go_wp2_with fail
        clear c0
        go_loopw [4] (fun i wv => ∃ z : Nat, z ≤ 13 ∧ i = .int .i64 ((z : Int) - 1) ∧ Ri 3 wv w.heap.size [4, 8, 16, 32, 64, 5, 0, -4, 128] ∧ Below w.heap.size w wv) (fun i _ => (12 - intOf i).toNat)
        case atStart => exact ⟨0, by omega, rfl, HR3.out, HB3.out⟩
        case round =>
          clear HR3 HB3
          obtain ⟨z, hz, rfl, hr, hb⟩ := hrel
          have HR4 : Hid (Ri 3 wr w.heap.size [4, 8, 16, 32, 64, 5, 0, -4, 128]) := hr
          have HB4 : Hid (Below w.heap.size w wr) := hb
          clear hb hr
          by_cases hlt : z < 13
          · have HZ : Hid (z < 13) := hlt
            generalize hk : (z : Int) - 1 = k at *
            have HKz : Hid ((z : Int) - 1 = k) := hk
            have k12 : k < 12 := by omega
            have km1 : -1 ≤ k := by omega
            clear hk hlt hz
            go_upto_region 8 with fail
            go_cut [5] from 40 to 136 (fun s5 wx => s5 = .bool (decide (k ∈ tys 5)) ∧ wx = wr)
            case first =>
              have HNo : Hid (¬ k ∈ tys 5) := by show ¬ _; rw [show tys 5 = [] from rfl]; simp
              by_cases h0 : 0 ≤ k
              · 
                go_wp2_with fail
                go_meet
                exact ⟨by rw [decide_eq_false (HNo.out)], rfl⟩
              · have h0' : ¬ 0 ≤ k := h0
                go_wp2_with fail
                go_meet
                exact ⟨by rw [decide_eq_false (HNo.out)], rfl⟩
            obtain ⟨rfl, rfl⟩ := hcut
            generalize wc = w4 at *
            have hin : ¬ k ∈ tys 5 := by rw [show tys 5 = [] from rfl]; simp
            have HWI : Hid (wrg 5 k (List.replicate ZI 0) (sdN 5).toNat 1048576 = 2) := wrg_no rfl
            have HWF : Hid (wrg 5 k (List.replicate ZI 0) ((5 : Int)).toNat 255 = 2) := wrg_no rfl
            rw [decide_eq_false (hin)]
            clear hin
            go_wp2_with fail
            have HN5 : Hid (Ri 3 (w4.alloc (.cells (madeCells #[.int .i64 0] ZI) 3)) w4.heap.size (List.replicate ZI 0)) := Ri.made 3 w4 ZI rfl
            have HB5 : Hid (Below w.heap.size w (w4.alloc (.cells (madeCells #[.int .i64 0] ZI) 3))) := to_alloc HB4.out _
            have HR5 : Hid (Ri 3 (w4.alloc (.cells (madeCells #[.int .i64 0] ZI) 3)) w.heap.size [4, 8, 16, 32, 64, 5, 0, -4, 128]) := HR4.out.to (from_alloc _ _)
            generalize (w4.alloc (.cells (madeCells #[.int .i64 0] ZI) 3)) = w5 at *
            generalize w4.heap.size = g5 at *
            refine (inv_code (HQ.out.to HB5.out) HN5.out (by simp) (by have := HZI.out; omega) HWI.out).mono ?_
            rintro e w6 ⟨a6, l6, c6, rfl, hb6⟩
            have HB6 : Hid (Below w.heap.size w w6) := below_to HB5.out hb6
            have HR6 : Hid (Ri 3 w6 w.heap.size [4, 8, 16, 32, 64, 5, 0, -4, 128]) := HR5.out.to hb6
            clear hb6
            go_wp2_with fail
            have HN7 : Hid (Ri 3 (w6.alloc (.cells (madeCells #[.int .i64 0] ZI) 3)) w6.heap.size (List.replicate ZI 0)) := Ri.made 3 w6 ZI rfl
            have HB7 : Hid (Below w.heap.size w (w6.alloc (.cells (madeCells #[.int .i64 0] ZI) 3))) := to_alloc HB6.out _
            have HR7 : Hid (Ri 3 (w6.alloc (.cells (madeCells #[.int .i64 0] ZI) 3)) w.heap.size [4, 8, 16, 32, 64, 5, 0, -4, 128]) := HR6.out.to (from_alloc _ _)
            generalize (w6.alloc (.cells (madeCells #[.int .i64 0] ZI) 3)) = w7 at *
            generalize w6.heap.size = g7 at *
            refine (fwd_code (HQ.out.to HB7.out) HN7.out (by simp) (by have := HZI.out; omega) HWF.out).mono ?_
            rintro e w8 ⟨a8, l8, c8, rfl, hb8⟩
            have HB8 : Hid (Below w.heap.size w w8) := below_to HB7.out hb8
            have HR8 : Hid (Ri 3 w8 w.heap.size [4, 8, 16, 32, 64, 5, 0, -4, 128]) := HR7.out.to hb8
            clear hb8
            go_wp2_with fail
            have hlt := HZ.out
            have hkz := HKz.out
            go_roundw
            case rel => exact ⟨z + 1, by omega, by congr 1; omega, HR8.out, HB8.out⟩
            case measure => simp [intOf]; omega
          · have HB5 : Hid (Below w.heap.size w wr) := HB4.out
            have z12 : ¬ (z : Int) - 1 < 12 := by omega
            go_wp2_with fail
            go_roundw
            case rel => exact ⟨y + 1, by have := HYl.out; omega, by go_num, HR4.out, HB5.out⟩
            case measure => have := HYl.out; simp [intOf]; omega
      · as_aux_lemma =>
        have c0 : wr.cell? ⟨w.heap.size, y, none⟩ = some (.int .i64 0) := by rw [hyi]; exact hr.cell 6 (by decide)
        clear hyi
        obtain ⟨ZI, hZI⟩ : ∃ Z : Nat, Z = 0 := ⟨_, rfl⟩
        have hmkI : ∀ u : World, (Instr.makeSlice 22 (.int .i64 0) (.int .i64 0)).run Tryd.prog u = .ok (.slice (some ⟨u.heap.size, 0, none⟩) ZI ZI) (u.alloc (.cells (madeCells #[.int .i64 0] ZI) 3)) := by subst hZI; exact mk_ints (n := 0) (by omega)
        have HZI : Hid (ZI = 0) := hZI
        clear hZI
        have HB3 : Hid (Below w.heap.size w wr) := hb
        have HR3 : Hid (Ri 3 wr w.heap.size [4, 8, 16, 32, 64, 5, 0, -4, 128]) := hr
        clear hb hr
        go_wp2_with fail
        clear c0
        go_loopw [4] (fun i wv => ∃ z : Nat, z ≤ 13 ∧ i = .int .i64 ((z : Int) - 1) ∧ Ri 3 wv w.heap.size [4, 8, 16, 32, 64, 5, 0, -4, 128] ∧ Below w.heap.size w wv) (fun i _ => (12 - intOf i).toNat)
        case atStart => exact ⟨0, by omega, rfl, HR3.out, HB3.out⟩
        case round =>
          clear HR3 HB3
          obtain ⟨z, hz, rfl, hr, hb⟩ := hrel
          have HR4 : Hid (Ri 3 wr w.heap.size [4, 8, 16, 32, 64, 5, 0, -4, 128]) := hr
          have HB4 : Hid (Below w.heap.size w wr) := hb
          clear hb hr
          by_cases hlt : z < 13
          · have HZ : Hid (z < 13) := hlt
            generalize hk : (z : Int) - 1 = k at *
            have HKz : Hid ((z : Int) - 1 = k) := hk
            have k12 : k < 12 := by omega
            have km1 : -1 ≤ k := by omega
            clear hk hlt hz
            go_upto_region 8 with fail
            go_cut [5] from 40 to 136 (fun s5 wx => s5 = .bool (decide (k ∈ tys 0)) ∧ wx = wr)
            case first =>
              have HNo : Hid (¬ k ∈ tys 0) := by show ¬ _; rw [show tys 0 = [] from rfl]; simp
              by_cases h0 : 0 ≤ k
              · 
                go_wp2_with fail
                go_meet
                exact ⟨by rw [decide_eq_false (HNo.out)], rfl⟩
              · have h0' : ¬ 0 ≤ k := h0
                go_wp2_with fail
                go_meet
                exact ⟨by rw [decide_eq_false (HNo.out)], rfl⟩
            obtain ⟨rfl, rfl⟩ := hcut
            generalize wc = w4 at *
            have hin : ¬ k ∈ tys 0 := by rw [show tys 0 = [] from rfl]; simp
            have HWI : Hid (wrg 0 k (List.replicate ZI 0) (sdN 0).toNat 1048576 = 2) := wrg_no rfl
            have HWF : Hid (wrg 0 k (List.replicate ZI 0) ((0 : Int)).toNat 255 = 2) := wrg_no rfl
            rw [decide_eq_false (hin)]
            clear hin
            go_wp2_with fail
            have HN5 : Hid (Ri 3 (w4.alloc (.cells (madeCells #[.int .i64 0] ZI) 3)) w4.heap.size (List.replicate ZI 0)) := Ri.made 3 w4 ZI rfl
            have HB5 : Hid (Below w.heap.size w (w4.alloc (.cells (madeCells #[.int .i64 0] ZI) 3))) := to_alloc HB4.out _
            have HR5 : Hid (Ri 3 (w4.alloc (.cells (madeCells #[.int .i64 0] ZI) 3)) w.heap.size [4, 8, 16, 32, 64, 5, 0, -4, 128]) := HR4.out.to (from_alloc _ _)
            generalize (w4.alloc (.cells (madeCells #[.int .i64 0] ZI) 3)) = w5 at *
            generalize w4.heap.size = g5 at *
            refine (inv_code (HQ.out.to HB5.out) HN5.out (by simp) (by have := HZI.out; omega) HWI.out).mono ?_
            rintro e w6 ⟨a6, l6, c6, rfl, hb6⟩
            have HB6 : Hid (Below w.heap.size w w6) := below_to HB5.out hb6
            have HR6 : Hid (Ri 3 w6 w.heap.size [4, 8, 16, 32, 64, 5, 0, -4, 128]) := HR5.out.to hb6
            clear hb6
            go_wp2_with fail
            have HN7 : Hid (Ri 3 (w6.alloc (.cells (madeCells #[.int .i64 0] ZI) 3)) w6.heap.size (List.replicate ZI 0)) := Ri.made 3 w6 ZI rfl
            have HB7 : Hid (Below w.heap.size w (w6.alloc (.cells (madeCells #[.int .i64 0] ZI) 3))) := to_alloc HB6.out _
            have HR7 : Hid (Ri 3 (w6.alloc (.cells (madeCells #[.int .i64 0] ZI) 3)) w.heap.size [4, 8, 16, 32, 64, 5, 0, -4, 128]) := HR6.out.to (from_alloc _ _)
            generalize (w6.alloc (.cells (madeCells #[.int .i64 0] ZI) 3)) = w7 at *
            generalize w6.heap.size = g7 at *
            refine (fwd_code (HQ.out.to HB7.out) HN7.out (by simp) (by have := HZI.out; omega) HWF.out).mono ?_
            rintro e w8 ⟨a8, l8, c8, rfl, hb8⟩
            have HB8 : Hid (Below w.heap.size w w8) := below_to HB7.out hb8
            have HR8 : Hid (Ri 3 w8 w.heap.size [4, 8, 16, 32, 64, 5, 0, -4, 128]) := HR7.out.to hb8
            clear hb8
            go_wp2_with fail
            have hlt := HZ.out
            have hkz := HKz.out
            go_roundw
            case rel => exact ⟨z + 1, by omega, by congr 1; omega, HR8.out, HB8.out⟩
            case measure => simp [intOf]; omega
          · have HB5 : Hid (Below w.heap.size w wr) := HB4.out
            have z12 : ¬ (z : Int) - 1 < 12 := by omega
            go_wp2_with fail
            go_roundw
            case rel => exact ⟨y + 1, by have := HYl.out; omega, by go_num, HR4.out, HB5.out⟩
            case measure => have := HYl.out; simp [intOf]; omega
      · as_aux_lemma =>
        have c0 : wr.cell? ⟨w.heap.size, y, none⟩ = some (.int .i64 (-4)) := by rw [hyi]; exact hr.cell 7 (by decide)
        clear hyi
        obtain ⟨ZI, hZI⟩ : ∃ Z : Nat, Z = 16 := ⟨_, rfl⟩
        have hmkI : ∀ u : World, (Instr.makeSlice 22 (.int .i64 16) (.int .i64 16)).run Tryd.prog u = .ok (.slice (some ⟨u.heap.size, 0, none⟩) ZI ZI) (u.alloc (.cells (madeCells #[.int .i64 0] ZI) 3)) := by subst hZI; exact mk_ints (n := 16) (by omega)
        have HZI : Hid (ZI = 16) := hZI
        clear hZI
        have HB3 : Hid (Below w.heap.size w wr) := hb
        have HR3 : Hid (Ri 3 wr w.heap.size [4, 8, 16, 32, 64, 5, 0, -4, 128]) := hr
        clear hb hr
        go_wp2_with fail
        clear c0
        go_loopw [4] (fun i wv => ∃ z : Nat, z ≤ 13 ∧ i = .int .i64 ((z : Int) - 1) ∧ Ri 3 wv w.heap.size [4, 8, 16, 32, 64, 5, 0, -4, 128] ∧ Below w.heap.size w wv) (fun i _ => (12 - intOf i).toNat)
        case atStart => exact ⟨0, by omega, rfl, HR3.out, HB3.out⟩
        case round =>
          clear HR3 HB3
          obtain ⟨z, hz, rfl, hr, hb⟩ := hrel
          have HR4 : Hid (Ri 3 wr w.heap.size [4, 8, 16, 32, 64, 5, 0, -4, 128]) := hr
          have HB4 : Hid (Below w.heap.size w wr) := hb
          clear hb hr
          by_cases hlt : z < 13
          · have HZ : Hid (z < 13) := hlt
            generalize hk : (z : Int) - 1 = k at *
            have HKz : Hid ((z : Int) - 1 = k) := hk
            have k12 : k < 12 := by omega
            have km1 : -1 ≤ k := by omega
            clear hk hlt hz
            go_upto_region 8 with fail
            go_cut [5] from 40 to 136 (fun s5 wx => s5 = .bool (decide (k ∈ tys (-4))) ∧ wx = wr)
            case first =>
              have HNo : Hid (¬ k ∈ tys (-4)) := by show ¬ _; rw [show tys (-4) = [] from rfl]; simp
              by_cases h0 : 0 ≤ k
              · 
                go_wp2_with fail
                go_meet
                exact ⟨by rw [decide_eq_false (HNo.out)], rfl⟩
              · have h0' : ¬ 0 ≤ k := h0
                go_wp2_with fail
                go_meet
                exact ⟨by rw [decide_eq_false (HNo.out)], rfl⟩
            obtain ⟨rfl, rfl⟩ := hcut
            generalize wc = w4 at *
            have hin : ¬ k ∈ tys (-4) := by rw [show tys (-4) = [] from rfl]; simp
            have HWI : Hid (wrg (-4) k (List.replicate ZI 0) (sdN (-4)).toNat 1048576 = 2) := wrg_no rfl
            have HWF : Hid (wrg (-4) k (List.replicate ZI 0) (((-4) : Int)).toNat 255 = 2) := wrg_no rfl
            rw [decide_eq_false (hin)]
            clear hin
            go_wp2_with fail
            have HN5 : Hid (Ri 3 (w4.alloc (.cells (madeCells #[.int .i64 0] ZI) 3)) w4.heap.size (List.replicate ZI 0)) := Ri.made 3 w4 ZI rfl
            have HB5 : Hid (Below w.heap.size w (w4.alloc (.cells (madeCells #[.int .i64 0] ZI) 3))) := to_alloc HB4.out _
            have HR5 : Hid (Ri 3 (w4.alloc (.cells (madeCells #[.int .i64 0] ZI) 3)) w.heap.size [4, 8, 16, 32, 64, 5, 0, -4, 128]) := HR4.out.to (from_alloc _ _)
            generalize (w4.alloc (.cells (madeCells #[.int .i64 0] ZI) 3)) = w5 at *
            generalize w4.heap.size = g5 at *
            refine (inv_code (HQ.out.to HB5.out) HN5.out (by simp) (by have := HZI.out; omega) HWI.out).mono ?_
            rintro e w6 ⟨a6, l6, c6, rfl, hb6⟩
            have HB6 : Hid (Below w.heap.size w w6) := below_to HB5.out hb6
            have HR6 : Hid (Ri 3 w6 w.heap.size [4, 8, 16, 32, 64, 5, 0, -4, 128]) := HR5.out.to hb6
            clear hb6
            go_wp2_with fail
            have HN7 : Hid (Ri 3 (w6.alloc (.cells (madeCells #[.int .i64 0] ZI) 3)) w6.heap.size (List.replicate ZI 0)) := Ri.made 3 w6 ZI rfl
            have HB7 : Hid (Below w.heap.size w (w6.alloc (.cells (madeCells #[.int .i64 0] ZI) 3))) := to_alloc HB6.out _
            have HR7 : Hid (Ri 3 (w6.alloc (.cells (madeCells #[.int .i64 0] ZI) 3)) w.heap.size [4, 8, 16, 32, 64, 5, 0, -4, 128]) := HR6.out.to (from_alloc _ _)
            generalize (w6.alloc (.cells (madeCells #[.int .i64 0] ZI) 3)) = w7 at *
            generalize w6.heap.size = g7 at *
            refine (fwd_code (HQ.out.to HB7.out) HN7.out (by simp) (by have := HZI.out; omega) HWF.out).mono ?_
            rintro e w8 ⟨a8, l8, c8, rfl, hb8⟩
            have HB8 : Hid (Below w.heap.size w w8) := below_to HB7.out hb8
            have HR8 : Hid (Ri 3 w8 w.heap.size [4, 8, 16, 32, 64, 5, 0, -4, 128]) := HR7.out.to hb8
            clear hb8
            go_wp2_with fail
            have hlt := HZ.out
            have hkz := HKz.out
            go_roundw
            case rel => exact ⟨z + 1, by omega, by congr 1; omega, HR8.out, HB8.out⟩
            case measure => simp [intOf]; omega
          · have HB5 : Hid (Below w.heap.size w wr) := HB4.out
            have z12 : ¬ (z : Int) - 1 < 12 := by omega
            go_wp2_with fail
            go_roundw
            case rel => exact ⟨y + 1, by have := HYl.out; omega, by go_num, HR4.out, HB5.out⟩
            case measure => have := HYl.out; simp [intOf]; omega
      · as_aux_lemma =>
        have c0 : wr.cell? ⟨w.heap.size, y, none⟩ = some (.int .i64 128) := by rw [hyi]; exact hr.cell 8 (by decide)
        clear hyi
        obtain ⟨ZI, hZI⟩ : ∃ Z : Nat, Z = 1024 := ⟨_, rfl⟩
        obtain ⟨ZF, hZF⟩ : ∃ Z : Nat, Z = 16384 := ⟨_, rfl⟩
        have hmkI : ∀ u : World, (Instr.makeSlice 22 (.int .i64 1024) (.int .i64 1024)).run Tryd.prog u = .ok (.slice (some ⟨u.heap.size, 0, none⟩) ZI ZI) (u.alloc (.cells (madeCells #[.int .i64 0] ZI) 3)) := by subst hZI; exact mk_ints (n := 1024) (by omega)
        have hmkF : ∀ u : World, (Instr.makeSlice 22 (.int .i64 16384) (.int .i64 16384)).run Tryd.prog u = .ok (.slice (some ⟨u.heap.size, 0, none⟩) ZF ZF) (u.alloc (.cells (madeCells #[.int .i64 0] ZF) 3)) := by subst hZF; exact mk_ints (n := 16384) (by omega)
        have HZI : Hid (ZI = 1024) := hZI
        have HZF : Hid (ZF = 16384) := hZF
        clear hZI hZF
        have HB3 : Hid (Below w.heap.size w wr) := hb
        have HR3 : Hid (Ri 3 wr w.heap.size [4, 8, 16, 32, 64, 5, 0, -4, 128]) := hr
        clear hb hr
        go_wp2_with fail
        clear c0
        go_loopw [4] (fun i wv => ∃ z : Nat, z ≤ 13 ∧ i = .int .i64 ((z : Int) - 1) ∧ Ri 3 wv w.heap.size [4, 8, 16, 32, 64, 5, 0, -4, 128] ∧ Below w.heap.size w wv) (fun i _ => (12 - intOf i).toNat)
        case atStart => exact ⟨0, by omega, rfl, HR3.out, HB3.out⟩
        case round =>
          clear HR3 HB3
          obtain ⟨z, hz, rfl, hr, hb⟩ := hrel
          have HR4 : Hid (Ri 3 wr w.heap.size [4, 8, 16, 32, 64, 5, 0, -4, 128]) := hr
          have HB4 : Hid (Below w.heap.size w wr) := hb
          clear hb hr
          by_cases hlt : z < 13
          · have HZ : Hid (z < 13) := hlt
            generalize hk : (z : Int) - 1 = k at *
            have HKz : Hid ((z : Int) - 1 = k) := hk
            have k12 : k < 12 := by omega
            have km1 : -1 ≤ k := by omega
            clear hk hlt hz
            go_upto_region 8 with fail
            go_cut [5] from 40 to 136 (fun s5 wx => s5 = .bool (decide (k ∈ tys 128)) ∧ wx = wr)
            case first =>
              have HNo : Hid (¬ k ∈ tys 128) := by show ¬ _; rw [show tys 128 = [] from rfl]; simp
              by_cases h0 : 0 ≤ k
              · 
                go_wp2_with fail
                go_meet
                exact ⟨by rw [decide_eq_false (HNo.out)], rfl⟩
              · have h0' : ¬ 0 ≤ k := h0
                go_wp2_with fail
                go_meet
                exact ⟨by rw [decide_eq_false (HNo.out)], rfl⟩
            obtain ⟨rfl, rfl⟩ := hcut
            generalize wc = w4 at *
            have hin : ¬ k ∈ tys 128 := by rw [show tys 128 = [] from rfl]; simp
            have HWI : Hid (wrg 128 k (List.replicate ZI 0) (sdN 128).toNat 1048576 = 2) := wrg_no rfl
            have HWF : Hid (wrg 128 k (List.replicate ZF 0) ((128 : Int)).toNat 255 = 2) := wrg_no rfl
            rw [decide_eq_false (hin)]
            clear hin
            go_wp2_with fail
            have HN5 : Hid (Ri 3 (w4.alloc (.cells (madeCells #[.int .i64 0] ZI) 3)) w4.heap.size (List.replicate ZI 0)) := Ri.made 3 w4 ZI rfl
            have HB5 : Hid (Below w.heap.size w (w4.alloc (.cells (madeCells #[.int .i64 0] ZI) 3))) := to_alloc HB4.out _
            have HR5 : Hid (Ri 3 (w4.alloc (.cells (madeCells #[.int .i64 0] ZI) 3)) w.heap.size [4, 8, 16, 32, 64, 5, 0, -4, 128]) := HR4.out.to (from_alloc _ _)
            generalize (w4.alloc (.cells (madeCells #[.int .i64 0] ZI) 3)) = w5 at *
            generalize w4.heap.size = g5 at *
            refine (inv_code (HQ.out.to HB5.out) HN5.out (by simp) (by have := HZI.out; omega) HWI.out).mono ?_
            rintro e w6 ⟨a6, l6, c6, rfl, hb6⟩
            have HB6 : Hid (Below w.heap.size w w6) := below_to HB5.out hb6
            have HR6 : Hid (Ri 3 w6 w.heap.size [4, 8, 16, 32, 64, 5, 0, -4, 128]) := HR5.out.to hb6
            clear hb6
            go_wp2_with fail
            have HN7 : Hid (Ri 3 (w6.alloc (.cells (madeCells #[.int .i64 0] ZF) 3)) w6.heap.size (List.replicate ZF 0)) := Ri.made 3 w6 ZF rfl
            have HB7 : Hid (Below w.heap.size w (w6.alloc (.cells (madeCells #[.int .i64 0] ZF) 3))) := to_alloc HB6.out _
            have HR7 : Hid (Ri 3 (w6.alloc (.cells (madeCells #[.int .i64 0] ZF) 3)) w.heap.size [4, 8, 16, 32, 64, 5, 0, -4, 128]) := HR6.out.to (from_alloc _ _)
            generalize (w6.alloc (.cells (madeCells #[.int .i64 0] ZF) 3)) = w7 at *
            generalize w6.heap.size = g7 at *
            refine (fwd_code (HQ.out.to HB7.out) HN7.out (by simp) (by have := HZF.out; omega) HWF.out).mono ?_
            rintro e w8 ⟨a8, l8, c8, rfl, hb8⟩
            have HB8 : Hid (Below w.heap.size w w8) := below_to HB7.out hb8
            have HR8 : Hid (Ri 3 w8 w.heap.size [4, 8, 16, 32, 64, 5, 0, -4, 128]) := HR7.out.to hb8
            clear hb8
            go_wp2_with fail
            have hlt := HZ.out
            have hkz := HKz.out
            go_roundw
            case rel => exact ⟨z + 1, by omega, by congr 1; omega, HR8.out, HB8.out⟩
            case measure => simp [intOf]; omega
          · have HB5 : Hid (Below w.heap.size w wr) := HB4.out
            have z12 : ¬ (z : Int) - 1 < 12 := by omega
            go_wp2_with fail
            go_roundw
            case rel => exact ⟨y + 1, by have := HYl.out; omega, by go_num, HR4.out, HB5.out⟩
            case measure => have := HYl.out; simp [intOf]; omega
    · obtain rfl : y = 9 := by omega
      have HB3 : Hid (Below w.heap.size w wr) := hb
      clear hb hr
      go_wp2_with fail
      refine (first_any (n := 16) (v := 160) (x := 0) (by omega) (by omega)).mono ?_
      rintro e u1a ⟨rfl, hr, hb⟩
      have HRa : Hid (Ri 3 u1a wr.heap.size (fs 16 160 0)) := hr
      have HBa : Hid (Below w.heap.size w u1a) := below_to HB3.out hb
      clear hr hb
      go_wp2_with fail
      refine (tinv_go (n := 4) (k := 0) (s := 4) (M := 16) (L := 16) (HQ.out.to HBa.out) HRa.out.si (fs_len _ _ _) (by omega) HRa.out.lt (kin4 0 (by omega)) rfl rfl (bdB_mst (by decide +kernel)) kk1 rfl).mono ?_
      rintro e u1b ⟨g1, c1, rfl, -, ho, hb⟩
      have HOg1_1 : Hid (Si u1b (some ⟨g1, 0, none⟩) (fs 16 5 5)) := ho.si
      have HB1x : Hid (Below w.heap.size w u1b) := below_to HBa.out hb
      clear ho hb HRa HBa
      go_wp2_with fail
      refine (first_any (n := 16) (v := 1) (x := 0) (by omega) (by omega)).mono ?_
      rintro e u2a ⟨rfl, hr, hb⟩
      have HRa : Hid (Ri 3 u2a u1b.heap.size (fs 16 1 0)) := hr
      have HBa : Hid (Below w.heap.size w u2a) := below_to HB1x.out hb
      have HOg1_2a : Hid (Si u2a (some ⟨g1, 0, none⟩) (fs 16 5 5)) := HOg1_1.out.to hb
      clear hr hb
      go_wp2_with fail
      refine (tfwd_go (n := 4) (k := 9) (s := 4) (M := 16) (L := 16) (HQ.out.to HBa.out) HRa.out.si (fs_len _ _ _) (by omega) HRa.out.lt (kin4 9 (by omega)) rfl rfl (bdB_mst (by decide +kernel)) kk2 rfl).mono ?_
      rintro e u2b ⟨g2, c2, rfl, -, ho, hb⟩
      have HOg2_2 : Hid (Si u2b (some ⟨g2, 0, none⟩) (fs 16 1 0)) := ho.si
      have HB2x : Hid (Below w.heap.size w u2b) := below_to HBa.out hb
      have HOg1_2 : Hid (Si u2b (some ⟨g1, 0, none⟩) (fs 16 5 5)) := HOg1_2a.out.to hb
      clear ho hb HRa HBa
      obtain ⟨Z3, hZ3⟩ : ∃ Z : Nat, Z = 15 := ⟨_, rfl⟩
      have hmk3 : ∀ u : World, (Instr.makeSlice 22 (.int .i64 15) (.int .i64 15)).run Tryd.prog u = .ok (.slice (some ⟨u.heap.size, 0, none⟩) Z3 Z3) (u.alloc (.cells (madeCells #[.int .i64 0] Z3) 3)) := by subst hZ3; exact mk_ints (n := 15) (by omega)
      have HZ3 : Hid (Z3 = 15) := hZ3
      clear hZ3
      go_wp2_with fail
      have hb : Below u2b.heap.size u2b (u2b.alloc (.cells (madeCells #[.int .i64 0] Z3) 3)) := from_alloc _ _
      have HRa : Hid (Ri 3 (u2b.alloc (.cells (madeCells #[.int .i64 0] Z3) 3)) u2b.heap.size (List.replicate Z3 0)) := Ri.made 3 u2b Z3 rfl
      have HBa : Hid (Below w.heap.size w (u2b.alloc (.cells (madeCells #[.int .i64 0] Z3) 3))) := to_alloc HB2x.out _
      have HOg1_3a : Hid (Si (u2b.alloc (.cells (madeCells #[.int .i64 0] Z3) 3)) (some ⟨g1, 0, none⟩) (fs 16 5 5)) := HOg1_2.out.to hb
      have HOg2_3a : Hid (Si (u2b.alloc (.cells (madeCells #[.int .i64 0] Z3) 3)) (some ⟨g2, 0, none⟩) (fs 16 1 0)) := HOg2_2.out.to hb
      clear hb
      generalize (u2b.alloc (.cells (madeCells #[.int .i64 0] Z3) 3)) = u3a at *
      generalize u2b.heap.size = gz3 at *
      refine (inv_code (n := 4) (k := 0) (Z := Z3) (W := 2) (HQ.out.to HBa.out) HRa.out (by simp) (by have := HZ3.out; omega) (wrg_len (kin4 0 (by omega)) (by rw [List.length_replicate, HZ3.out]; decide))).mono ?_
      rintro e u3b ⟨a3, l3, c3, rfl, hb⟩
      have HB3x : Hid (Below w.heap.size w u3b) := below_to HBa.out hb
      have HOg1_3 : Hid (Si u3b (some ⟨g1, 0, none⟩) (fs 16 5 5)) := HOg1_3a.out.to hb
      have HOg2_3 : Hid (Si u3b (some ⟨g2, 0, none⟩) (fs 16 1 0)) := HOg2_3a.out.to hb
      clear hb HRa HBa
      go_wp2_with fail
      refine (first_any (n := 16) (v := 256) (x := 0) (by omega) (by omega)).mono ?_
      rintro e u4a ⟨rfl, hr, hb⟩
      have HRa : Hid (Ri 3 u4a u3b.heap.size (fs 16 256 0)) := hr
      have HBa : Hid (Below w.heap.size w u4a) := below_to HB3x.out hb
      have HOg1_4a : Hid (Si u4a (some ⟨g1, 0, none⟩) (fs 16 5 5)) := HOg1_3.out.to hb
      have HOg2_4a : Hid (Si u4a (some ⟨g2, 0, none⟩) (fs 16 1 0)) := HOg2_3.out.to hb
      clear hr hb
      go_wp2_with fail
      refine (fwd_code (n := 4) (k := 0) (Z := 16) (W := 2) (HQ.out.to HBa.out) HRa.out (fs_len _ _ _) (by omega) (wrg_num (kin4 0 (by omega)) rfl (by decide +kernel))).mono ?_
      rintro e u4b ⟨a4, l4, c4, rfl, hb⟩
      have HB4x : Hid (Below w.heap.size w u4b) := below_to HBa.out hb
      have HOg1_4 : Hid (Si u4b (some ⟨g1, 0, none⟩) (fs 16 5 5)) := HOg1_4a.out.to hb
      have HOg2_4 : Hid (Si u4b (some ⟨g2, 0, none⟩) (fs 16 1 0)) := HOg2_4a.out.to hb
      clear hb HRa HBa
      go_wp2_with fail
      refine (first_any (n := 16) (v := (-256)) (x := 0) (by omega) (by omega)).mono ?_
      rintro e u5a ⟨rfl, hr, hb⟩
      have HRa : Hid (Ri 3 u5a u4b.heap.size (fs 16 (-256) 0)) := hr
      have HBa : Hid (Below w.heap.size w u5a) := below_to HB4x.out hb
      have HOg1_5a : Hid (Si u5a (some ⟨g1, 0, none⟩) (fs 16 5 5)) := HOg1_4.out.to hb
      have HOg2_5a : Hid (Si u5a (some ⟨g2, 0, none⟩) (fs 16 1 0)) := HOg2_4.out.to hb
      clear hr hb
      go_wp2_with fail
      refine (fwd_code (n := 4) (k := 0) (Z := 16) (W := 2) (HQ.out.to HBa.out) HRa.out (fs_len _ _ _) (by omega) (wrg_num (kin4 0 (by omega)) rfl (by decide +kernel))).mono ?_
      rintro e u5b ⟨a5, l5, c5, rfl, hb⟩
      have HB5x : Hid (Below w.heap.size w u5b) := below_to HBa.out hb
      have HOg1_5 : Hid (Si u5b (some ⟨g1, 0, none⟩) (fs 16 5 5)) := HOg1_5a.out.to hb
      have HOg2_5 : Hid (Si u5b (some ⟨g2, 0, none⟩) (fs 16 1 0)) := HOg2_5a.out.to hb
      clear hb HRa HBa
      go_wp2_with fail
      refine (first_any (n := 16) (v := 1048577) (x := 0) (by omega) (by omega)).mono ?_
      rintro e u6a ⟨rfl, hr, hb⟩
      have HRa : Hid (Ri 3 u6a u5b.heap.size (fs 16 1048577 0)) := hr
      have HBa : Hid (Below w.heap.size w u6a) := below_to HB5x.out hb
      have HOg1_6a : Hid (Si u6a (some ⟨g1, 0, none⟩) (fs 16 5 5)) := HOg1_5.out.to hb
      have HOg2_6a : Hid (Si u6a (some ⟨g2, 0, none⟩) (fs 16 1 0)) := HOg2_5.out.to hb
      clear hr hb
      go_wp2_with fail
      refine (inv_code (n := 4) (k := 0) (Z := 16) (W := 2) (HQ.out.to HBa.out) HRa.out (fs_len _ _ _) (by omega) (wrg_num (kin4 0 (by omega)) rfl (by decide +kernel))).mono ?_
      rintro e u6b ⟨a6, l6, c6, rfl, hb⟩
      have HB6x : Hid (Below w.heap.size w u6b) := below_to HBa.out hb
      have HOg1_6 : Hid (Si u6b (some ⟨g1, 0, none⟩) (fs 16 5 5)) := HOg1_6a.out.to hb
      have HOg2_6 : Hid (Si u6b (some ⟨g2, 0, none⟩) (fs 16 1 0)) := HOg2_6a.out.to hb
      clear hb HRa HBa
      go_wp2_with fail
      refine (first_any (n := 16) (v := (-1048576)) (x := 0) (by omega) (by omega)).mono ?_
      rintro e u7a ⟨rfl, hr, hb⟩
      have HRa : Hid (Ri 3 u7a u6b.heap.size (fs 16 (-1048576) 0)) := hr
      have HBa : Hid (Below w.heap.size w u7a) := below_to HB6x.out hb
      have HOg1_7a : Hid (Si u7a (some ⟨g1, 0, none⟩) (fs 16 5 5)) := HOg1_6.out.to hb
      have HOg2_7a : Hid (Si u7a (some ⟨g2, 0, none⟩) (fs 16 1 0)) := HOg2_6.out.to hb
      clear hr hb
      go_wp2_with fail
      refine (inv_code (n := 4) (k := 9) (Z := 16) (W := 0) (HQ.out.to HBa.out) HRa.out (fs_len _ _ _) (by omega) (wrg_yes (kin4 9 (by omega)) rfl (bdB_mst (by decide +kernel)))).mono ?_
      rintro e u7b ⟨a7, l7, c7, rfl, hb⟩
      have HB7x : Hid (Below w.heap.size w u7b) := below_to HBa.out hb
      have HOg1_7 : Hid (Si u7b (some ⟨g1, 0, none⟩) (fs 16 5 5)) := HOg1_7a.out.to hb
      have HOg2_7 : Hid (Si u7b (some ⟨g2, 0, none⟩) (fs 16 1 0)) := HOg2_7a.out.to hb
      clear hb HRa HBa
      obtain ⟨Z8, hZ8⟩ : ∃ Z : Nat, Z = 4096 := ⟨_, rfl⟩
      have hmk8 : ∀ u : World, (Instr.makeSlice 22 (.int .i64 4096) (.int .i64 4096)).run Tryd.prog u = .ok (.slice (some ⟨u.heap.size, 0, none⟩) Z8 Z8) (u.alloc (.cells (madeCells #[.int .i64 0] Z8) 3)) := by subst hZ8; exact mk_ints (n := 4096) (by omega)
      have HZ8 : Hid (Z8 = 4096) := hZ8
      clear hZ8
      go_wp2_with fail
      have hb : Below u7b.heap.size u7b (u7b.alloc (.cells (madeCells #[.int .i64 0] Z8) 3)) := from_alloc _ _
      have HRa : Hid (Ri 3 (u7b.alloc (.cells (madeCells #[.int .i64 0] Z8) 3)) u7b.heap.size (List.replicate Z8 0)) := Ri.made 3 u7b Z8 rfl
      have HBa : Hid (Below w.heap.size w (u7b.alloc (.cells (madeCells #[.int .i64 0] Z8) 3))) := to_alloc HB7x.out _
      have HOg1_8a : Hid (Si (u7b.alloc (.cells (madeCells #[.int .i64 0] Z8) 3)) (some ⟨g1, 0, none⟩) (fs 16 5 5)) := HOg1_7.out.to hb
      have HOg2_8a : Hid (Si (u7b.alloc (.cells (madeCells #[.int .i64 0] Z8) 3)) (some ⟨g2, 0, none⟩) (fs 16 1 0)) := HOg2_7.out.to hb
      clear hb
      generalize (u7b.alloc (.cells (madeCells #[.int .i64 0] Z8) 3)) = u8a at *
      generalize u7b.heap.size = gz8 at *
      refine (inv_code (n := 64) (k := 0) (Z := Z8) (W := 2) (HQ.out.to HBa.out) HRa.out (by simp) (by have := HZ8.out; omega) (wrg_len (kin0 (n := 64) (by decide)) (by rw [List.length_replicate, HZ8.out]; decide))).mono ?_
      rintro e u8b ⟨a8, l8, c8, rfl, hb⟩
      have HB8x : Hid (Below w.heap.size w u8b) := below_to HBa.out hb
      have HOg1_8 : Hid (Si u8b (some ⟨g1, 0, none⟩) (fs 16 5 5)) := HOg1_8a.out.to hb
      have HOg2_8 : Hid (Si u8b (some ⟨g2, 0, none⟩) (fs 16 1 0)) := HOg2_8a.out.to hb
      clear hb HRa HBa
      go_wp2_with fail
      refine (inv_none (n := 4) (k := 10) (W := 80) (wrg_kind (by decide) (fun h => absurd ((in4 10).1 h).2 (by decide))) (by decide)).mono ?_
      rintro e u9b ⟨a9, l9, c9, rfl, hb⟩
      have HB9x : Hid (Below w.heap.size w u9b) := below_to HB8x.out hb
      have HOg1_9 : Hid (Si u9b (some ⟨g1, 0, none⟩) (fs 16 5 5)) := HOg1_8.out.to hb
      have HOg2_9 : Hid (Si u9b (some ⟨g2, 0, none⟩) (fs 16 1 0)) := HOg2_8.out.to hb
      clear hb
      go_wp2_with fail
      refine (inv_none (n := 5) (k := 99) (W := 2) (wrg_no rfl) (by decide)).mono ?_
      rintro e u10b ⟨a10, l10, c10, rfl, hb⟩
      have HB10x : Hid (Below w.heap.size w u10b) := below_to HB9x.out hb
      have HOg1_10 : Hid (Si u10b (some ⟨g1, 0, none⟩) (fs 16 5 5)) := HOg1_9.out.to hb
      have HOg2_10 : Hid (Si u10b (some ⟨g2, 0, none⟩) (fs 16 1 0)) := HOg2_9.out.to hb
      clear hb
      go_wp2_with fail
      refine (works_any (HQ.out.to HB10x.out)).mono ?_
      rintro e u11 ⟨rfl, hb⟩
      have HB11x : Hid (Below w.heap.size w u11) := below_to HB10x.out hb
      have HOg1_11 : Hid (Si u11 (some ⟨g1, 0, none⟩) (fs 16 5 5)) := HOg1_10.out.to hb
      have HOg2_11 : Hid (Si u11 (some ⟨g2, 0, none⟩) (fs 16 1 0)) := HOg2_10.out.to hb
      clear hb
      go_wp2_with fail
      refine (first_any (n := 16) (v := 5) (x := 5) (by omega) (by omega)).mono ?_
      rintro e u12a ⟨rfl, hr, hb⟩
      have HRa : Hid (Ri 3 u12a u11.heap.size (fs 16 5 5)) := hr
      have HBa : Hid (Below w.heap.size w u12a) := below_to HB11x.out hb
      have HOg1_12a : Hid (Si u12a (some ⟨g1, 0, none⟩) (fs 16 5 5)) := HOg1_11.out.to hb
      have HOg2_12a : Hid (Si u12a (some ⟨g2, 0, none⟩) (fs 16 1 0)) := HOg2_11.out.to hb
      clear hr hb
      go_wp2_with fail
      refine (eq_yes HOg1_12a.out HRa.out.si (fs_len _ _ _) (fs_len _ _ _) rfl (by omega)).mono ?_
      rintro e u12 ⟨rfl, hb⟩
      have HB12x : Hid (Below w.heap.size w u12) := below_to HBa.out hb
      have HOg2_12 : Hid (Si u12 (some ⟨g2, 0, none⟩) (fs 16 1 0)) := HOg2_12a.out.to hb
      clear hb HRa HBa
      go_wp2_with fail
      refine (first_any (n := 16) (v := 1) (x := 0) (by omega) (by omega)).mono ?_
      rintro e u13a ⟨rfl, hr, hb⟩
      have HRa : Hid (Ri 3 u13a u12.heap.size (fs 16 1 0)) := hr
      have HBa : Hid (Below w.heap.size w u13a) := below_to HB12x.out hb
      have HOg2_13a : Hid (Si u13a (some ⟨g2, 0, none⟩) (fs 16 1 0)) := HOg2_12.out.to hb
      clear hr hb
      go_wp2_with fail
      refine (eq_yes HOg2_13a.out HRa.out.si (fs_len _ _ _) (fs_len _ _ _) rfl (by omega)).mono ?_
      rintro e u13 ⟨rfl, hb⟩
      have HB13x : Hid (Below w.heap.size w u13) := below_to HBa.out hb
      clear hb HRa HBa
      go_wp2_with fail
      go_ret
      exact ⟨rfl, HB13x.out⟩

end Go.Proofs.YtddnnlofdicgkabDoor
