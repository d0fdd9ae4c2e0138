/- DERIVED. The walks of wrong, Inverse and Forward. -/
import Derived.Test.YtddnnlofdicgkabDoorHj
import Derived.Test.YtddnnlofdicgkabDoorFh
namespace Go.Proofs.YtddnnlofdicgkabDoor
open Go.RowKit

/-- none beyond a bound -/
def bdB (C : List Int) (M : Int) : Bool := (List.range C.length).all fun j => decide (-M ≤ C.getD j 0) && decide (C.getD j 0 ≤ M)
theorem bdB_yes {C : List Int} {M : Int} (h : Mst C M) : bdB C M = true := by
  simp only [bdB, List.all_eq_true, List.mem_range, Bool.and_eq_true, decide_eq_true_eq]
  exact h
theorem bdB_mst {C : List Int} {M : Int} (h : bdB C M = true) : Mst C M := by
  simp only [bdB, List.all_eq_true, List.mem_range, Bool.and_eq_true, decide_eq_true_eq] at h
  exact h
theorem bdB_no {C : List Int} {M : Int} {j : Nat} (hj : j < C.length) (h : ¬ (-M ≤ C.getD j 0 ∧ C.getD j 0 ≤ M)) : bdB C M = false := by
  cases e : bdB C M
  · rfl
  · exact absurd (bdB_mst e j hj) h
/-- what is wrong -/
def wrg (n k : Int) (C : List Int) (s : Nat) (M : Int) : Int :=
  if tys n = [] then 2 else if k ∈ tys n then (if C.length = s * s then (if bdB C M = true then 0 else 2) else 2) else 80
theorem tys_len (n : Int) : (tys n).length ≤ 10 := by
  unfold tys
  split; simp [upL]; split; simp [upL]; split; simp; split; simp; simp

set_option maxRecDepth 100000 in
set_option maxHeartbeats 400000 in
theorem wrong_any {w : World} {a : Option Addr} {c : Nat} {n k side M : Int} {C : List Int} (hs : Si w a C) (hl : C.length ≤ 140737488355328) (hM0 : 0 ≤ M) (hM1 : M ≤ 1048576) (hsd : tys n ≠ [] → ∃ s : Nat, side = (s : Int) ∧ s ≤ 64) :
    Calls Tryd.prog 16 #[.int .i64 n, .int .i64 k, .slice a C.length c, .int .i64 side, .int .i64 M] w fun e w' => e = .returned (.int .i64 (wrg n k C side.toNat M)) ∧ Below w.heap.size w w' := by
  have HSd : Hid (Calls Tryd.prog 7 #[.int .i64 n] w fun e w' => e = .returned (.tuple #[.int .i64 (sdN n), .int .i64 (sdE n)]) ∧ Below w.heap.size w w') := side_any
  have HS : Hid (Si w a C) := hs
  clear hs
  by_cases h : tys n = []
  · have HW : Hid (wrg n k C side.toNat M = 2) := by show _ = _; unfold wrg; rw [if_pos h]
    have H2 : Hid (sdE n = 2) := by show _ = _; unfold sdE; rw [if_pos h]
    clear h hsd
    go_enter Tryd.func16, Tryd.ntmps16
    go_wp2_with fail
    refine HSd.out.mono ?_
    rintro e w1 ⟨rfl, hb1⟩
    rw [H2.out]
    have HB1 : Hid (Below w.heap.size w w1) := hb1
    clear hb1
    go_wp2_with fail
    go_ret
    exact ⟨by rw [HW.out]; rfl, HB1.out⟩
  · have H2 : Hid (sdE n = 0) := by show _ = _; unfold sdE; rw [if_neg h]
    obtain ⟨s, rfl, hs64⟩ := hsd h
    have HT : Hid (∀ v : World, Calls Tryd.prog 8 #[.int .i64 n] v fun e w' => Ow v w' e (tys n)) := fun v => types_any
    have HW : Hid (wrg n k C ((s : Int)).toNat M = if k ∈ tys n then (if C.length = s * s then (if bdB C M = true then 0 else 2) else 2) else 80) := by show _ = _; unfold wrg; rw [if_neg h, Int.toNat_natCast]
    have HTl : Hid ((tys n).length ≤ 1048576) := by show _ ≤ _; have := tys_len n; omega
    clear h hsd
    go_enter Tryd.func16, Tryd.ntmps16
    go_wp2_with fail
    refine HSd.out.mono ?_
    rintro e w1 ⟨rfl, hb1⟩
    rw [H2.out]
    have HB1 : Hid (Below w.heap.size w w1) := hb1
    clear hb1
    go_wp2_with fail
    refine (HT.out _).mono ?_
    rintro e w2 ⟨ta, tc, rfl, ho2, hb2⟩
    have HB2 : Hid (Below w.heap.size w w2) := below_to HB1.out hb2
    have HO2 : Hid (Si w2 ta (tys n)) := ho2.si
    clear ho2 hb2
    go_wp2_with fail
    refine (contains_any HO2.out HTl.out).mono ?_
    rintro e w3 ⟨rfl, rfl⟩
    by_cases hk : k ∈ tys n
    · have HW1 : Hid (wrg n k C ((s : Int)).toNat M = if C.length = s * s then (if bdB C M = true then 0 else 2) else 2) := by show _ = _; rw [HW.out, if_pos hk]
      rw [show decide (k ∈ tys n) = true from by simp [hk]]
      clear hk
      have hss : s * s ≤ 64 * 64 := Nat.mul_le_mul hs64 hs64
      have e1 : (s : Int) * (s : Int) = ((s * s : Nat) : Int) := by rw [Int.natCast_mul]
      have q1 : ((s * s : Nat) : Int) ≤ 4096 := by omega
      have q0 : (0 : Int) ≤ ((s * s : Nat) : Int) := by omega
      have HSS : Hid (s * s ≤ 4096) := hss
      clear hss
      by_cases hc : C.length = s * s
      · have HW2 : Hid (wrg n k C ((s : Int)).toNat M = if bdB C M = true then 0 else 2) := by show _ = _; rw [HW1.out, if_pos hc]
        have z : ((C.length : Int) != ((s * s : Nat) : Int)) = false := by simp [hc]
        have l1 : (C.length : Int) ≤ 4096 := by have := HSS.out; omega
        clear hc
        generalize s * s = S at *
        go_wp2_with fail
        go_loopw [35] (fun i wr => ∃ y : Nat, y ≤ C.length ∧ i = .int .i64 y ∧ wr = w3 ∧ Hid (∀ j, j < y → -M ≤ C.getD j 0 ∧ C.getD j 0 ≤ M)) (fun i _ => C.length - (intOf i).toNat)
        case atStart => exact ⟨0, by omega, rfl, rfl, fun j hj => by omega⟩
        case round =>
          obtain ⟨y, hy, rfl, rfl, HN⟩ := hrel
          have y0 : (0 : Int) ≤ (y : Int) := by omega
          by_cases hlt : y < C.length
          · have y1 : (y : Int) < (C.length : Int) := by omega
            obtain ⟨b, o, rfl, hbl, hcl⟩ := HS.out.form (by omega)
            have c0 := hcl y hlt
            rw [← newCell HB2.out _ _ hbl] at c0
            have HK : Hid (y < C.length) := hlt
            by_cases hv : -M ≤ C.getD y 0
            · by_cases hv2 : C.getD y 0 ≤ M
              · have HN2 : Hid (∀ j, j < y + 1 → -M ≤ C.getD j 0 ∧ C.getD j 0 ≤ M) := fun j hj => by
                  by_cases e : j = y
                  · rw [e]; exact ⟨hv, hv2⟩
                  · exact HN.out j (by omega)
                clear hcl hlt hy HN
                generalize C.getD y 0 = x at *
                have t1 : ¬ x < -M := by omega
                have t2 : ¬ M < x := by omega
                go_wp2_with fail
                have hlt := HK.out
                go_roundw
                case rel => exact ⟨y + 1, by omega, by go_num, by first | rfl | trivial, HN2.out⟩
                case measure => simp [intOf]; omega
              · have HF : Hid (bdB C M = false) := bdB_no hlt (fun e => hv2 e.2)
                clear hcl hlt hy HN
                generalize C.getD y 0 = x at *
                have t1 : ¬ x < -M := by omega
                have t2 : M < x := by omega
                go_wp2_with fail
                go_ret
                exact ⟨by first | (rw [HW2.out, HF.out]; rfl) | (have e := HW2.out; rw [HF.out, Int.toNat_natCast] at e; rw [e]; rfl), HB2.out⟩
            · have HF : Hid (bdB C M = false) := bdB_no hlt (fun e => hv e.1)
              clear hcl hlt hy HN
              generalize C.getD y 0 = x at *
              have t1 : x < -M := by omega
              go_wp2_with fail
              go_ret
              exact ⟨by first | (rw [HW2.out, HF.out]; rfl) | (have e := HW2.out; rw [HF.out, Int.toNat_natCast] at e; rw [e]; rfl), HB2.out⟩
          · obtain rfl : y = C.length := by omega
            have HF : Hid (bdB C M = true) := bdB_yes HN.out
            go_wp2_with fail
            go_ret
            exact ⟨by first | (rw [HW2.out, HF.out]; rfl) | (have e := HW2.out; rw [HF.out, Int.toNat_natCast] at e; rw [e]; rfl), HB2.out⟩
      · have HW2 : Hid (wrg n k C ((s : Int)).toNat M = 2) := by show _ = _; rw [HW1.out, if_neg hc]
        have z : ((C.length : Int) != ((s * s : Nat) : Int)) = true := by rw [bne_iff_ne]; omega
        clear hc
        generalize s * s = S at *
        go_wp2_with fail
        go_ret
        exact ⟨by first | (rw [HW2.out]; rfl) | (have e := HW2.out; rw [Int.toNat_natCast] at e; rw [e]; rfl), HB2.out⟩
    · have HW1 : Hid (wrg n k C ((s : Int)).toNat M = 80) := by show _ = _; rw [HW.out, if_neg hk]
      rw [show decide (k ∈ tys n) = false from by simp [hk]]
      clear hk
      go_wp2_with fail
      go_ret
      exact ⟨by rw [HW1.out]; rfl, HB2.out⟩

def bkB (n k : Nat) : Bool := decide (4 ≤ n) && p2 n && decide (n ≤ kL (kR k)) && decide (n ≤ kL (kC k)) && decide (k < 10) && decide (0 < min n 32)
theorem bkB_all : ∀ n ∈ [4, 8, 16, 32, 64], ∀ k, k < 10 → ((k : Nat) : Int) ∈ tys ((n : Nat) : Int) → bkB n k = true := by decide +kernel
theorem tys_lt {n k : Int} (h : k ∈ tys n) : 0 ≤ k ∧ k < 10 := by
  unfold tys upL at h
  split at h
  · obtain ⟨i, hi, rfl⟩ := List.mem_map.1 h; have := List.mem_range.1 hi; omega
  · split at h
    · obtain ⟨i, hi, rfl⟩ := List.mem_map.1 h; have := List.mem_range.1 hi; omega
    · split at h
      · simp at h; omega
      · split at h
        · simp at h; omega
        · simp at h
theorem bk_of {n k : Nat} (h : (k : Int) ∈ tys (n : Int)) : Bk n (min n 32) k := by
  have h1 := tys_size (n := (n : Int)) (List.ne_nil_of_mem h)
  have h2 := tys_lt h
  have h3 : bkB n k = true := bkB_all n (by simp; omega) k (by omega) h
  simp only [bkB, Bool.and_eq_true, decide_eq_true_eq] at h3
  obtain ⟨⟨⟨⟨⟨a1, a2⟩, a3⟩, a4⟩, a5⟩, a6⟩ := h3
  exact ⟨⟨a1, a3, a2⟩, ⟨a1, a4, a2⟩, Nat.min_le_left _ _, a6, a5⟩
theorem sd_of {n : Nat} {k : Int} (h : k ∈ tys (n : Int)) : sdN (n : Int) = ((min n 32 : Nat) : Int) ∧ sdE (n : Int) = 0 := by
  have hne := List.ne_nil_of_mem h
  unfold sdN sdE
  rw [if_neg hne, if_neg hne]
  exact ⟨by omega, rfl⟩
/-- a row of one's own, and no error; an error -/
def N3 (w w' : World) (e : Ending) (C : List Int) : Prop := ∃ g c, e = .returned (.tuple #[.slice (some ⟨g, 0, none⟩) C.length c, .int .i64 0]) ∧ Oi w' w.heap.size (some ⟨g, 0, none⟩) C.length c C ∧ Below w.heap.size w w'
def N4 (w w' : World) (e : Ending) (x : Int) : Prop := e = .returned (.tuple #[.slice none 0 0, .int .i64 x]) ∧ Below w.heap.size w w'

set_option maxRecDepth 100000 in
set_option maxHeartbeats 400000 in
theorem inv_bad {w : World} {a : Option Addr} {c : Nat} {n k : Int} {C : List Int} (hs : Si w a C) (hl : C.length ≤ 140737488355328) (hx : wrg n k C (sdN n).toNat 1048576 ≠ 0) :
    Calls Tryd.prog 10 #[.int .i64 n, .int .i64 k, .slice a C.length c] w fun e w' => N4 w w' e (wrg n k C (sdN n).toNat 1048576) := by
  have HSd : Hid (Calls Tryd.prog 7 #[.int .i64 n] w fun e w' => e = .returned (.tuple #[.int .i64 (sdN n), .int .i64 (sdE n)]) ∧ Below w.heap.size w w') := side_any
  have HW : Hid (∀ v, Below w.heap.size w v → Calls Tryd.prog 16 #[.int .i64 n, .int .i64 k, .slice a C.length c, .int .i64 (sdN n), .int .i64 1048576] v fun e w' => e = .returned (.int .i64 (wrg n k C (sdN n).toNat 1048576)) ∧ Below v.heap.size v w') := fun v hv =>
    wrong_any (hs.to hv) hl (by omega) (by omega) (fun h => by
      have := tys_size h
      refine ⟨(sdN n).toNat, ?_, ?_⟩ <;> unfold sdN <;> rw [if_neg h] <;> omega)
  have z : (wrg n k C (sdN n).toNat 1048576 != 0) = true := by rw [bne_iff_ne]; exact hx
  clear hs hx
  generalize wrg n k C (sdN n).toNat 1048576 = W at *
  go_enter Tryd.func10, Tryd.ntmps10
  go_wp2_with fail
  refine HSd.out.mono ?_
  rintro e w1 ⟨rfl, hb1⟩
  have HB1 : Hid (Below w.heap.size w w1) := hb1
  clear hb1
  generalize sdN n = sd at *
  go_wp2_with fail
  refine (HW.out _ HB1.out).mono ?_
  rintro e w2 ⟨rfl, hb2⟩
  have HB2 : Hid (Below w.heap.size w w2) := below_to HB1.out hb2
  clear hb2
  go_wp2_with fail
  go_ret2
  exact ⟨rfl, HB2.out⟩

set_option maxRecDepth 100000 in
set_option maxHeartbeats 400000 in
theorem fwd_bad {w : World} {a : Option Addr} {c : Nat} {n k : Int} {C : List Int} (hs : Si w a C) (hl : C.length ≤ 140737488355328) (hx : wrg n k C n.toNat 255 ≠ 0) :
    Calls Tryd.prog 11 #[.int .i64 n, .int .i64 k, .slice a C.length c] w fun e w' => N4 w w' e (wrg n k C n.toNat 255) := by
  have HSd : Hid (Calls Tryd.prog 7 #[.int .i64 n] w fun e w' => e = .returned (.tuple #[.int .i64 (sdN n), .int .i64 (sdE n)]) ∧ Below w.heap.size w w') := side_any
  have HW : Hid (∀ v, Below w.heap.size w v → Calls Tryd.prog 16 #[.int .i64 n, .int .i64 k, .slice a C.length c, .int .i64 n, .int .i64 255] v fun e w' => e = .returned (.int .i64 (wrg n k C n.toNat 255)) ∧ Below v.heap.size v w') := fun v hv =>
    wrong_any (hs.to hv) hl (by omega) (by omega) (fun h => by
      have := tys_size h
      exact ⟨n.toNat, by omega, by omega⟩)
  have z : (wrg n k C n.toNat 255 != 0) = true := by rw [bne_iff_ne]; exact hx
  clear hs hx
  generalize wrg n k C n.toNat 255 = W at *
  go_enter Tryd.func11, Tryd.ntmps11
  go_wp2_with fail
  refine HSd.out.mono ?_
  rintro e w1 ⟨rfl, hb1⟩
  have HB1 : Hid (Below w.heap.size w w1) := hb1
  clear hb1
  generalize sdN n = sd at *
  go_wp2_with fail
  refine (HW.out _ HB1.out).mono ?_
  rintro e w2 ⟨rfl, hb2⟩
  have HB2 : Hid (Below w.heap.size w w2) := below_to HB1.out hb2
  clear hb2
  go_wp2_with fail
  go_ret2
  exact ⟨rfl, HB2.out⟩

set_option maxRecDepth 100000 in
set_option maxHeartbeats 400000 in
theorem tinv_ok {w : World} {b o c s : Nat} {n k : Nat} {C : List Int} (hq : Qt w) (hs : Si w (some ⟨b, o, none⟩) C) (hcap : C.length ≤ c) (hbl : b < w.heap.size) (hk : (k : Int) ∈ tys (n : Int)) (hsd : s = min n 32) (hC : C.length = s * s) (hM : Mst C 1048576) :
    Calls Tryd.prog 10 #[.int .i64 (n : Int), .int .i64 (k : Int), .slice (some ⟨b, o, none⟩) C.length c] w fun e w' => N3 w w' e (tab n (invF n s k C)) := by
  have hBk : Bk n s k := by rw [hsd]; exact bk_of hk
  obtain ⟨hs1, hs2⟩ := sd_of hk
  rw [← hsd] at hs1
  have hn := hBk.n64
  have hss : s * s ≤ 64 * 64 := Nat.mul_le_mul (Nat.le_trans hBk.le hn) (Nat.le_trans hBk.le hn)
  have HSd : Hid (Calls Tryd.prog 7 #[.int .i64 (n : Int)] w fun e w' => e = .returned (.tuple #[.int .i64 (s : Int), .int .i64 0]) ∧ Below w.heap.size w w') := by
    have := side_any (w := w) (n := (n : Int))
    rw [hs1, hs2] at this
    exact this
  have HW : Hid (∀ v, Below w.heap.size w v → Calls Tryd.prog 16 #[.int .i64 (n : Int), .int .i64 (k : Int), .slice (some ⟨b, o, none⟩) C.length c, .int .i64 (s : Int), .int .i64 1048576] v fun e w' => e = .returned (.int .i64 0) ∧ Below v.heap.size v w') := fun v hv => by
    have h1 := wrong_any (c := c) (n := (n : Int)) (k := (k : Int)) (side := (s : Int)) (M := 1048576) (hs.to hv) (by omega) (by omega) (by omega) (fun _ => ⟨s, rfl, Nat.le_trans hBk.le hn⟩)
    have h2 : wrg n k C ((s : Int)).toNat 1048576 = 0 := by unfold wrg; rw [if_neg (List.ne_nil_of_mem hk), if_pos hk, Int.toNat_natCast, if_pos hC, if_pos (bdB_yes hM)]
    rw [h2] at h1
    exact h1
  have HQ : Hid (Qt w) := hq
  have HS : Hid (Si w (some ⟨b, o, none⟩) C) := hs
  have HBk : Hid (Bk n s k) := hBk
  have HC : Hid (C.length = s * s) := hC
  have HCp : Hid (C.length ≤ c) := hcap
  have HBl : Hid (b < w.heap.size) := hbl
  obtain ⟨L, hL⟩ : ∃ L, L = n * n := ⟨_, rfl⟩
  have HL : Hid (L = n * n) := hL
  clear hq hs hBk hs1 hs2 hn hss hk hsd hC hM hcap hbl hL
  go_enter Tryd.func10, Tryd.ntmps10
  go_wp2_with fail
  refine HSd.out.mono ?_
  rintro e w1 ⟨rfl, hb1⟩
  have HB1 : Hid (Below w.heap.size w w1) := hb1
  clear hb1
  go_wp2_with fail
  refine (HW.out _ HB1.out).mono ?_
  rintro e w2 ⟨rfl, hb2⟩
  have HB2 : Hid (Below w.heap.size w w2) := below_to HB1.out hb2
  clear hb2
  go_wp2_with fail
  refine (empty_any HL.out HBk.out.n64).mono ?_
  rintro e w3 ⟨rfl, hr3, hb3⟩
  have HR3 : Hid (Ri 3 w3 (w2.heap.size + 1) (tab n (fun _ _ => 0))) := hr3
  have HB3 : Hid (Below w.heap.size w w3) := below_to HB2.out hb3
  have HG3 : Hid (w.heap.size ≤ w2.heap.size) := HB2.out.size
  clear hr3 hb3
  generalize hg : w2.heap.size + 1 = g at *
  have HGg : Hid (w.heap.size < g) := by show _ < _; have := HG3.out; omega
  clear hg
  go_wp2_with fail
  have HB4 : Hid (Below w3.heap.size w3 (w3.alloc (.cells #[.int .i64 (n : Int), .slice (some ⟨g, 0, none⟩) L L] 38))) := from_alloc _ _
  have HZ4 : Hid (w3.heap.size < (w3.alloc (.cells #[.int .i64 (n : Int), .slice (some ⟨g, 0, none⟩) L L] 38)).heap.size) := by show _ < _; simp
  have HN4 : Hid (w3.heap.size ≠ g) := by show _ ≠ _; have := HR3.out.lt; omega
  have c0 : (w3.alloc (.cells #[.int .i64 (n : Int), .slice (some ⟨g, 0, none⟩) L L] 38)).cell? ⟨w3.heap.size, 0, none⟩ = some (.int .i64 (n : Int)) := by simp [go_sem]
  have c1 : (w3.alloc (.cells #[.int .i64 (n : Int), .slice (some ⟨g, 0, none⟩) L L] 38)).cell? ⟨w3.heap.size, 1, none⟩ = some (.slice (some ⟨g, 0, none⟩) L L) := by simp [go_sem]
  have HR4 : Hid (Ri 3 (w3.alloc (.cells #[.int .i64 (n : Int), .slice (some ⟨g, 0, none⟩) L L] 38)) g (tab n (fun _ _ => 0))) := HR3.out.to HB4.out
  have HBB : Hid (Below w.heap.size w (w3.alloc (.cells #[.int .i64 (n : Int), .slice (some ⟨g, 0, none⟩) L L] 38))) := below_to HB3.out HB4.out
  generalize (w3.alloc (.cells #[.int .i64 (n : Int), .slice (some ⟨g, 0, none⟩) L L] 38)) = V at *
  refine (lay_any HL.out HBk.out.n64 HBk.out.le HBk.out.pos HC.out HCp.out HR4.out (HS.out.to HBB.out) (by have := HBl.out; have := HGg.out; omega)).mono ?_
  rintro e w5 ⟨rfl, hr5, hk5⟩
  have HR5 : Hid (Ri 3 w5 g (tab n (layF s C))) := hr5
  have HK5 : Hid (Kf g V w5) := hk5
  have a0 : w5.cell? ⟨w3.heap.size, 0, none⟩ = some (.int .i64 (n : Int)) := by rw [hk5.cell _ _ HZ4.out HN4.out]; exact c0
  have a1 : w5.cell? ⟨w3.heap.size, 1, none⟩ = some (.slice (some ⟨g, 0, none⟩) L L) := by rw [hk5.cell _ _ HZ4.out HN4.out]; exact c1
  have HQ5 : Hid (Qt w5) := (HQ.out.to HBB.out).kf hk5 (by have := HGg.out; omega)
  clear hr5 hk5 c0 c1
  go_wp2_with fail
  refine (binv_any HBk.out HL.out HR5.out HQ5.out (by have := HGg.out; omega)).mono ?_
  rintro e w6 ⟨rfl, hr6, hk6⟩
  have HR6 : Hid (Ri 3 w6 g (tab n (invF n s k C))) := hr6
  have HK6 : Hid (Kf g V w6) := HK5.out.trans hk6
  have d1 : w6.cell? ⟨w3.heap.size, 1, none⟩ = some (.slice (some ⟨g, 0, none⟩) L L) := by rw [hk6.cell _ _ (Nat.lt_of_lt_of_le HZ4.out HK5.out.size) HN4.out]; exact a1
  clear hr6 hk6 a0 a1
  go_wp2_with fail
  go_ret2
  refine ⟨g, L, ?_, ?_, HBB.out.trans (HK6.out.below (Nat.le_of_lt HGg.out) HBB.out.size)⟩
  · rw [tab_len, ← HL.out]; rfl
  · have h1 := HR6.out.oi (Nat.le_of_lt HGg.out) (by rw [tab_len]; have := Nat.mul_le_mul HBk.out.n64 HBk.out.n64; omega)
    rw [tab_len, ← HL.out] at *
    exact h1

set_option maxRecDepth 100000 in
set_option maxHeartbeats 400000 in
theorem tfwd_ok {w : World} {b o c s : Nat} {n k : Nat} {C : List Int} (hq : Qt w) (hs : Si w (some ⟨b, o, none⟩) C) (hcap : C.length ≤ c) (hbl : b < w.heap.size) (hk : (k : Int) ∈ tys (n : Int)) (hsd : s = min n 32) (hC : C.length = n * n) (hM : Mst C 255) :
    Calls Tryd.prog 11 #[.int .i64 (n : Int), .int .i64 (k : Int), .slice (some ⟨b, o, none⟩) C.length c] w fun e w' => N3 w w' e (tab s (fwdF n k C)) := by
  have hBk : Bk n s k := by rw [hsd]; exact bk_of hk
  obtain ⟨hs1, hs2⟩ := sd_of hk
  rw [← hsd] at hs1
  have hn := hBk.n64
  have hss : n * n ≤ 64 * 64 := Nat.mul_le_mul hn hn
  have HSd : Hid (Calls Tryd.prog 7 #[.int .i64 (n : Int)] w fun e w' => e = .returned (.tuple #[.int .i64 (s : Int), .int .i64 0]) ∧ Below w.heap.size w w') := by
    have := side_any (w := w) (n := (n : Int))
    rw [hs1, hs2] at this
    exact this
  have HW : Hid (∀ v, Below w.heap.size w v → Calls Tryd.prog 16 #[.int .i64 (n : Int), .int .i64 (k : Int), .slice (some ⟨b, o, none⟩) C.length c, .int .i64 (n : Int), .int .i64 255] v fun e w' => e = .returned (.int .i64 0) ∧ Below v.heap.size v w') := fun v hv => by
    have h1 := wrong_any (c := c) (n := (n : Int)) (k := (k : Int)) (side := (n : Int)) (M := 255) (hs.to hv) (by omega) (by omega) (by omega) (fun _ => ⟨n, rfl, hn⟩)
    have h2 : wrg n k C ((n : Int)).toNat 255 = 0 := by unfold wrg; rw [if_neg (List.ne_nil_of_mem hk), if_pos hk, Int.toNat_natCast, if_pos hC, if_pos (bdB_yes hM)]
    rw [h2] at h1
    exact h1
  have HQ : Hid (Qt w) := hq
  have HS : Hid (Si w (some ⟨b, o, none⟩) C) := hs
  have HBk : Hid (Bk n s k) := hBk
  have HC : Hid (C.length = n * n) := hC
  have HM : Hid (Mst C 255) := hM
  have HCp : Hid (C.length ≤ c) := hcap
  have HBl : Hid (b < w.heap.size) := hbl
  have HN0 : Hid (0 < n) := by show _ < _; have := hBk.row.four; omega
  obtain ⟨L, hL⟩ : ∃ L, L = n * n := ⟨_, rfl⟩
  obtain ⟨M, hMM⟩ : ∃ M, M = s * s := ⟨_, rfl⟩
  have HL : Hid (L = n * n) := hL
  have HMM : Hid (M = s * s) := hMM
  clear hq hs hBk hs1 hs2 hn hss hk hsd hC hM hcap hbl hL hMM
  go_enter Tryd.func11, Tryd.ntmps11
  go_wp2_with fail
  refine HSd.out.mono ?_
  rintro e w1 ⟨rfl, hb1⟩
  have HB1 : Hid (Below w.heap.size w w1) := hb1
  clear hb1
  go_wp2_with fail
  refine (HW.out _ HB1.out).mono ?_
  rintro e w2 ⟨rfl, hb2⟩
  have HB2 : Hid (Below w.heap.size w w2) := below_to HB1.out hb2
  clear hb2
  go_wp2_with fail
  refine (empty_any HL.out HBk.out.n64).mono ?_
  rintro e w3 ⟨rfl, hr3, hb3⟩
  have HR3 : Hid (Ri 3 w3 (w2.heap.size + 1) (tab n (fun _ _ => 0))) := hr3
  have HB3 : Hid (Below w.heap.size w w3) := below_to HB2.out hb3
  have HG3 : Hid (w.heap.size ≤ w2.heap.size) := HB2.out.size
  clear hr3 hb3
  generalize hg : w2.heap.size + 1 = g at *
  have HGg : Hid (w.heap.size < g) := by show _ < _; have := HG3.out; omega
  clear hg
  go_wp2_with fail
  have HB4 : Hid (Below w3.heap.size w3 (w3.alloc (.cells #[.int .i64 (n : Int), .slice (some ⟨g, 0, none⟩) L L] 38))) := from_alloc _ _
  have HZ4 : Hid (w3.heap.size < (w3.alloc (.cells #[.int .i64 (n : Int), .slice (some ⟨g, 0, none⟩) L L] 38)).heap.size) := by show _ < _; simp
  have HN4 : Hid (w3.heap.size ≠ g) := by show _ ≠ _; have := HR3.out.lt; omega
  have c0 : (w3.alloc (.cells #[.int .i64 (n : Int), .slice (some ⟨g, 0, none⟩) L L] 38)).cell? ⟨w3.heap.size, 0, none⟩ = some (.int .i64 (n : Int)) := by simp [go_sem]
  have c1 : (w3.alloc (.cells #[.int .i64 (n : Int), .slice (some ⟨g, 0, none⟩) L L] 38)).cell? ⟨w3.heap.size, 1, none⟩ = some (.slice (some ⟨g, 0, none⟩) L L) := by simp [go_sem]
  have HR4 : Hid (Ri 3 (w3.alloc (.cells #[.int .i64 (n : Int), .slice (some ⟨g, 0, none⟩) L L] 38)) g (tab n (fun _ _ => 0))) := HR3.out.to HB4.out
  have HBB : Hid (Below w.heap.size w (w3.alloc (.cells #[.int .i64 (n : Int), .slice (some ⟨g, 0, none⟩) L L] 38))) := below_to HB3.out HB4.out
  generalize (w3.alloc (.cells #[.int .i64 (n : Int), .slice (some ⟨g, 0, none⟩) L L] 38)) = V at *
  refine (lay_any HL.out HBk.out.n64 (Nat.le_refl _) HN0.out HC.out HCp.out HR4.out (HS.out.to HBB.out) (by have := HBl.out; have := HGg.out; omega)).mono ?_
  rintro e w5 ⟨rfl, hr5, hk5⟩
  have HR5 : Hid (Ri 3 w5 g (tab n (layF n C))) := hr5
  have HK5 : Hid (Kf g V w5) := hk5
  have a0 : w5.cell? ⟨w3.heap.size, 0, none⟩ = some (.int .i64 (n : Int)) := by rw [hk5.cell _ _ HZ4.out HN4.out]; exact c0
  have a1 : w5.cell? ⟨w3.heap.size, 1, none⟩ = some (.slice (some ⟨g, 0, none⟩) L L) := by rw [hk5.cell _ _ HZ4.out HN4.out]; exact c1
  have HQ5 : Hid (Qt w5) := (HQ.out.to HBB.out).kf hk5 (by have := HGg.out; omega)
  clear hr5 hk5 c0 c1
  go_wp2_with fail
  refine (bfwd_any HBk.out HM.out HL.out HR5.out HQ5.out (by have := HGg.out; omega)).mono ?_
  rintro e w6 ⟨rfl, hr6, hk6⟩
  have HR6 : Hid (Ri 3 w6 g (tab n (fwdF n k C))) := hr6
  have HK6 : Hid (Kf g V w6) := HK5.out.trans hk6
  have d0 : w6.cell? ⟨w3.heap.size, 0, none⟩ = some (.int .i64 (n : Int)) := by rw [hk6.cell _ _ (Nat.lt_of_lt_of_le HZ4.out HK5.out.size) HN4.out]; exact a0
  have d1 : w6.cell? ⟨w3.heap.size, 1, none⟩ = some (.slice (some ⟨g, 0, none⟩) L L) := by rw [hk6.cell _ _ (Nat.lt_of_lt_of_le HZ4.out HK5.out.size) HN4.out]; exact a1
  have HB6 : Hid (Below w.heap.size w w6) := HBB.out.trans (HK6.out.below (Nat.le_of_lt HGg.out) HBB.out.size)
  clear hr6 hk6 a0 a1
  go_wp2_with fail
  refine (corner_any HL.out HBk.out.n64 HBk.out.pos HBk.out.le HMM.out HR6.out).mono ?_
  rintro e w7 ⟨g7, c7, rfl, ho7, hb7⟩
  have HO7 : Hid (Oi w7 w.heap.size (some ⟨g7, 0, none⟩) M c7 (tab s (fwdF n k C))) := ⟨own_mono ho7.own HB6.out.size⟩
  have HB7 : Hid (Below w.heap.size w w7) := below_to HB6.out hb7
  clear ho7 hb7
  go_wp2_with fail
  go_ret2
  refine ⟨g7, c7, ?_, ?_, HB7.out⟩
  · rw [tab_len, ← HMM.out]; rfl
  · rw [tab_len, ← HMM.out]; exact HO7.out

end Go.Proofs.YtddnnlofdicgkabDoor
