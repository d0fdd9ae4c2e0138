/- DERIVED. The document's Weights, Back and On of any kind; the walk of asked. -/
import Derived.Test.YtddnnlofdicgkaaDoorJa
namespace Go.Proofs.YtddnnlofdicgkaaDoor
open Go.RowKit

/-- what Weights answers -/
def Wm (w : World) (v : Value) (k n : Nat) : Prop := (k = 3 ∧ v = .slice none 0 0) ∨ (k < 3 ∧ ∃ a c b G, v = .slice a n c ∧ Mt w a n (kW (k : Int) n) b G)
theorem Wm.to {w w' : World} {v : Value} {k n : Nat} (h : Wm w v k n) (hb : Below w.heap.size w w') : Wm w' v k n := by
  rcases h with h | ⟨h1, a, c, b, G, h2, h3⟩
  · exact Or.inl h
  · exact Or.inr ⟨h1, a, c, b, G, h2, h3.to hb⟩
theorem kR_lt {k : Nat} (_h : k < 10) : kR k < 4 := by unfold kR; split <;> omega
theorem kC_lt {k : Nat} (h : k < 10) : kC k < 4 := by unfold kC; split <;> omega
theorem weights_wm {w : World} {k n : Nat} (hk : k < 4) (h : Tk k n) : Calls Tryd.prog 32 #[.int .i64 (k : Int), .int .i64 (n : Int)] w fun e w' => ∃ v, e = .returned v ∧ Wm w' v k n ∧ Below w.heap.size w w' := by
  by_cases h3 : k = 3
  · subst h3
    refine (weights_wht (w := w) (n := n)).mono ?_
    rintro e w' ⟨rfl, rfl⟩
    exact ⟨_, rfl, Or.inl ⟨rfl, rfl⟩, Below.refl _ _⟩
  · refine (weights_any (w := w) (q := k) (by omega) (by have := h.four; omega) h.le).mono ?_
    rintro e w' ⟨a, c, b, G, rfl, hm, hb⟩
    exact ⟨_, rfl, Or.inr ⟨by omega, a, c, b, G, rfl, hm⟩, hb⟩
theorem rback_go {w : World} {v : Value} {k n c : Nat} {a : Option Addr} {C : List Int} (hm : Wm w v k n) (h : Tk k n) (hs : Si w a C) (hC : C.length = n) (hM : Mst C 1048576) :
    Calls Tryd.prog 34 #[v, .slice a n c] w fun e w' => ∃ g, e = .returned (.slice (some ⟨g, 0, none⟩) n n) ∧ w.heap.size ≤ g ∧ Ri 3 w' g (invR k C) ∧ Below w.heap.size w w' := by
  have hl := inv_len h hC
  rcases hm with ⟨rfl, rfl⟩ | ⟨hk, m, d, b0, G, rfl, hmt⟩
  · have h1 := rback_wht (c := c) hs (by rw [hC]; exact h.wht) hM
    rw [hC] at h1
    refine h1.mono ?_
    rintro e w' ⟨g, rfl, hg, hr, hb⟩
    exact ⟨g, by rw [← hl]; rfl, hg, hr, hb⟩
  · have hI : invR (k : Int) C = wr (kW k n) C := by unfold invR; rw [if_neg (by omega), hC]
    refine (back_any (c := c) (d := d) hs hmt hC (by have := h.four; omega) h.le hM (fun _ _ => kW_le _ _ _ _)).mono ?_
    rintro e w' ⟨g, rfl, hg, hr, hb⟩
    exact ⟨g, by rw [wr_len, hC], hg, by rw [hI]; exact hr, hb⟩
theorem ron_go {w : World} {v : Value} {k n c : Nat} {a : Option Addr} {C : List Int} (hm : Wm w v k n) (h : Tk k n) (hs : Si w a C) (hC : C.length = n) (hM : Mst C 1048576) :
    Calls Tryd.prog 39 #[v, .slice a n c] w fun e w' => ∃ g, e = .returned (.slice (some ⟨g, 0, none⟩) n n) ∧ w.heap.size ≤ g ∧ Ri 3 w' g (fwdR k C) ∧ Below w.heap.size w w' := by
  have hl := fwd_len h hC
  rcases hm with ⟨rfl, rfl⟩ | ⟨hk, m, d, b0, G, rfl, hmt⟩
  · have h1 := ron_wht (c := c) hs (by rw [hC]; exact h.wht) hM
    rw [hC] at h1
    refine h1.mono ?_
    rintro e w' ⟨g, rfl, hg, hr, hb⟩
    exact ⟨g, by rw [← hl]; rfl, hg, hr, hb⟩
  · have hI : fwdR (k : Int) C = wr (fun i j => kW k n j i) C := by unfold fwdR; rw [if_neg (by omega), hC]
    refine (on_any (c := c) (d := d) hs hmt hC (by have := h.four; omega) h.le hM (fun _ _ => kW_le _ _ _ _)).mono ?_
    rintro e w' ⟨g, rfl, hg, hr, hb⟩
    exact ⟨g, by rw [wr_len, hC], hg, by rw [hI]; exact hr, hb⟩

theorem mem_take_succ {T : List Int} {y : Nat} {k : Int} (h : y < T.length) : (k ∈ T.take (y + 1)) ↔ (k ∈ T.take y ∨ T.getD y 0 = k) := by
  rw [List.take_add_one, List.mem_append, List.getElem?_eq_getElem h]
  simp only [Option.toList_some, List.mem_singleton, List.getD_eq_getElem?_getD, List.getElem?_eq_getElem h, Option.getD_some]
  exact or_congr Iff.rfl ⟨Eq.symm, Eq.symm⟩
structure HaI (T : List Int) (k : Int) (w0 : World) (s i : Value) (wr : World) : Prop where
  ex : ∃ (y : Nat) (b : Bool), y ≤ T.length ∧ i = .int .i64 y ∧ s = .bool b ∧ (b = true ↔ k ∈ T.take y) ∧ wr = w0

set_option maxRecDepth 100000 in
set_option maxHeartbeats 1000000 in
theorem asked_any {w : World} {a : Option Addr} {c : Nat} {n k side M : Int} {C : List Int} (hs : Si w a C) (hl : C.length ≤ 140737488355328) (hM0 : 0 ≤ M) (hM1 : M ≤ 1048576) (hsd : tys n ≠ [] → ∃ s : Nat, side = (s : Int) ∧ s ≤ 64) :
    Calls Tryd.prog 30 #[.int .i64 n, .int .i64 k, .slice a C.length c, .int .i64 side, .int .i64 M] w fun e w' => e = .returned (.int .i64 (wrg n k C side.toNat M)) ∧ Below w.heap.size w w' := by
  have HS : Hid (Si w a C) := hs
  clear hs
  by_cases h : tys n = []
  · have HW : Hid (wrg n k C side.toNat M = 2) := by show _ = _; unfold wrg; rw [if_pos h]
    have HT : Hid (Calls Tryd.prog 13 #[.int .i64 n] w fun e w' => ∃ a c, e = .returned (.slice a 0 c) ∧ Below w.heap.size w w') := rtypes_any.mono (by
      rintro e w' ⟨a, c, rfl, ho, hb⟩
      exact ⟨a, c, by rw [h]; rfl, hb⟩)
    clear h hsd
    go_enter Tryd.func30, Tryd.ntmps30
    go_wp2_with fail
    refine HT.out.mono ?_
    rintro e w1 ⟨ta, tc, rfl, hb1⟩
    have HB1 : Hid (Below w.heap.size w w1) := hb1
    clear hb1
    go_wp2_with fail
    go_ret
    exact ⟨by rw [HW.out]; rfl, HB1.out⟩
  · obtain ⟨s, rfl, hs64⟩ := hsd h
    have HT : Hid (Calls Tryd.prog 13 #[.int .i64 n] w fun e w' => Ow w w' e (tys n)) := rtypes_any
    have HW : Hid (wrg n k C ((s : Int)).toNat M = if k ∈ tys n then (if C.length = s * s then (if bdB C M = true then 0 else 2) else 2) else 80) := by show _ = _; unfold wrg; rw [if_neg h, Int.toNat_natCast]
    have HTl : Hid ((tys n).length ≤ 10) := tys_len n
    have l0 : ((((tys n).length : Nat) : Int) == 0) = false := by
      rw [beq_eq_false_iff_ne]
      have := List.length_pos_iff.2 h
      omega
    have l10 : (((tys n).length : Nat) : Int) ≤ 10 := by have := HTl.out; omega
    clear h hsd
    generalize tys n = T at *
    go_enter Tryd.func30, Tryd.ntmps30
    go_wp2_with fail
    refine HT.out.mono ?_
    rintro e w1 ⟨ta, tc, rfl, ho1, hb1⟩
    have HB2 : Hid (Below w.heap.size w w1) := hb1
    have HO1 : Hid (Si w1 ta T) := ho1.si
    clear hb1 ho1
    go_wp2_with fail
    go_loopw [12, 13] (fun s i wr => HaI T k w1 s i wr) (fun _ i _ => T.length - (intOf i).toNat)
    case atStart => exact ⟨⟨0, false, by omega, rfl, rfl, by simp, rfl⟩⟩
    case round =>
      obtain ⟨y, b, hy, rfl, rfl, hbb, rfl⟩ := hrel
      have y0 : (0 : Int) ≤ (y : Int) := by omega
      by_cases hlt : y < T.length
      · have y1 : (y : Int) < ((T.length : Nat) : Int) := by omega
        obtain ⟨bt, ot, rfl, _, hct⟩ := HO1.out.form (by omega)
        have c0 := hct y hlt
        have HK : Hid (y < T.length) := hlt
        have hmt := mem_take_succ (k := k) hlt
        cases b
        · by_cases hv : T.getD y 0 = k
          · have e0 : (T.getD y 0 == k) = true := by rw [beq_iff_eq]; exact hv
            have HR : Hid (true = true ↔ k ∈ T.take (y + 1)) := by show _ ↔ _; rw [hmt]; exact ⟨fun _ => Or.inr hv, fun _ => rfl⟩
            clear hv hct hlt hy hmt hbb
            generalize T.getD y 0 = x at *
            go_wp2_with fail
            have hlt := HK.out
            go_roundw
            case rel => exact ⟨⟨y + 1, true, by omega, by go_num, rfl, HR.out, rfl⟩⟩
            case measure => simp [intOf]; omega
          · have e0 : (T.getD y 0 == k) = false := by rw [beq_eq_false_iff_ne]; exact hv
            have HR : Hid (false = true ↔ k ∈ T.take (y + 1)) := by
              show _ ↔ _
              rw [hmt]
              exact ⟨fun h => (by cases h), fun h => (by rcases h with h | h; exact hbb.2 h; exact absurd h hv)⟩
            clear hv hct hlt hy hmt hbb
            generalize T.getD y 0 = x at *
            go_wp2_with fail
            have hlt := HK.out
            go_roundw
            case rel => exact ⟨⟨y + 1, false, by omega, by go_num, rfl, HR.out, rfl⟩⟩
            case measure => simp [intOf]; omega
        · have HR : Hid (true = true ↔ k ∈ T.take (y + 1)) := by show _ ↔ _; rw [hmt]; exact ⟨fun _ => Or.inl (hbb.1 rfl), fun _ => rfl⟩
          clear hct hlt hy hmt hbb
          go_wp2_with fail
          have hlt := HK.out
          go_roundw
          case rel => exact ⟨⟨y + 1, true, by omega, by go_num, rfl, HR.out, rfl⟩⟩
          case measure => simp [intOf]; omega
      · obtain rfl : y = T.length := by omega
        rw [List.take_length] at hbb
        clear hlt hy
        cases b
        · have HW1 : Hid (wrg n k C ((s : Int)).toNat M = 80) := by show _ = _; rw [HW.out, if_neg (fun hm => by have := hbb.2 hm; cases this)]
          clear hbb
          go_wp2_with fail
          go_ret
          exact ⟨by first | (rw [HW1.out]; rfl) | (have e := HW1.out; rw [Int.toNat_natCast] at e; rw [e]; rfl), HB2.out⟩
        · have HW1 : Hid (wrg n k C ((s : Int)).toNat M = if C.length = s * s then (if bdB C M = true then 0 else 2) else 2) := by show _ = _; rw [HW.out, if_pos (hbb.1 rfl)]
          clear hbb
          have hss : s * s ≤ 64 * 64 := Nat.mul_le_mul hs64 hs64
          have e1 : (s : Int) * (s : Int) = ((s * s : Nat) : Int) := by rw [Int.natCast_mul]
          have q1 : ((s * s : Nat) : Int) ≤ 4096 := by omega
          have q0 : (0 : Int) ≤ ((s * s : Nat) : Int) := by omega
          have HSS : Hid (s * s ≤ 4096) := hss
          clear hss
          by_cases hc : C.length = s * s
          · have HW2 : Hid (wrg n k C ((s : Int)).toNat M = if bdB C M = true then 0 else 2) := by show _ = _; rw [HW1.out, if_pos hc]
            have z : ((C.length : Int) != ((s * s : Nat) : Int)) = false := by simp [hc]
            have l1 : (C.length : Int) ≤ 4096 := by have := HSS.out; omega
            clear hc
            generalize s * s = S at *
            go_wp2_with fail
            go_loopw [14] (fun i wv => ∃ y : Nat, y ≤ C.length ∧ i = .int .i64 y ∧ wv = wr ∧ Hid (∀ j, j < y → -M ≤ C.getD j 0 ∧ C.getD j 0 ≤ M)) (fun i _ => C.length - (intOf i).toNat)
            case atStart => exact ⟨0, by omega, rfl, rfl, fun j hj => by omega⟩
            case round =>
              obtain ⟨y, hy, rfl, rfl, HN⟩ := hrel
              have y0 : (0 : Int) ≤ (y : Int) := by omega
              by_cases hlt : y < C.length
              · have y1 : (y : Int) < (C.length : Int) := by omega
                obtain ⟨b, o, rfl, hbl, hcl⟩ := HS.out.form (by omega)
                have c0 := hcl y hlt
                rw [← newCell HB2.out _ _ hbl] at c0
                have HK : Hid (y < C.length) := hlt
                by_cases hv : -M ≤ C.getD y 0
                · by_cases hv2 : C.getD y 0 ≤ M
                  · have HN2 : Hid (∀ j, j < y + 1 → -M ≤ C.getD j 0 ∧ C.getD j 0 ≤ M) := fun j hj => by
                      by_cases e : j = y
                      · rw [e]; exact ⟨hv, hv2⟩
                      · exact HN.out j (by omega)
                    clear hcl hlt hy HN
                    generalize C.getD y 0 = x at *
                    have t1 : ¬ x < -M := by omega
                    have t2 : ¬ M < x := by omega
                    go_wp2_with fail
                    have hlt := HK.out
                    go_roundw
                    case rel => exact ⟨y + 1, by omega, by go_num, by first | rfl | trivial, HN2.out⟩
                    case measure => simp [intOf]; omega
                  · have HF : Hid (bdB C M = false) := bdB_no hlt (fun e => hv2 e.2)
                    clear hcl hlt hy HN
                    generalize C.getD y 0 = x at *
                    have t1 : ¬ x < -M := by omega
                    have t2 : M < x := by omega
                    go_wp2_with fail
                    go_ret
                    exact ⟨by first | (rw [HW2.out, HF.out]; rfl) | (have e := HW2.out; rw [HF.out, Int.toNat_natCast] at e; rw [e]; rfl), HB2.out⟩
                · have HF : Hid (bdB C M = false) := bdB_no hlt (fun e => hv e.1)
                  clear hcl hlt hy HN
                  generalize C.getD y 0 = x at *
                  have t1 : x < -M := by omega
                  go_wp2_with fail
                  go_ret
                  exact ⟨by first | (rw [HW2.out, HF.out]; rfl) | (have e := HW2.out; rw [HF.out, Int.toNat_natCast] at e; rw [e]; rfl), HB2.out⟩
              · obtain rfl : y = C.length := by omega
                have HF : Hid (bdB C M = true) := bdB_yes HN.out
                go_wp2_with fail
                go_ret
                exact ⟨by first | (rw [HW2.out, HF.out]; rfl) | (have e := HW2.out; rw [HF.out, Int.toNat_natCast] at e; rw [e]; rfl), HB2.out⟩
          · have HW2 : Hid (wrg n k C ((s : Int)).toNat M = 2) := by show _ = _; rw [HW1.out, if_neg hc]
            have z : ((C.length : Int) != ((s * s : Nat) : Int)) = true := by rw [bne_iff_ne]; omega
            clear hc
            generalize s * s = S at *
            go_wp2_with fail
            go_ret
            exact ⟨by first | (rw [HW2.out]; rfl) | (have e := HW2.out; rw [Int.toNat_natCast] at e; rw [e]; rfl), HB2.out⟩

end Go.Proofs.YtddnnlofdicgkaaDoor
