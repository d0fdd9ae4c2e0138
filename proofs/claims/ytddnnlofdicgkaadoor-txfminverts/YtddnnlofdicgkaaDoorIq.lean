/- DERIVED. The walk of TxfmTypes. -/
import Derived.Test.YtddnnlofdicgkaaDoorHm
import Derived.Test.YtddnnlofdicgkaaDoorJa
namespace Go.Proofs.YtddnnlofdicgkaaDoor
open Go.RowKit

theorem Oi.set {w : World} {B n c g : Nat} {C : List Int} (h : Oi w B (some ⟨g, 0, none⟩) n c C) (k : Nat) (x : Int) : Oi (w.setCell ⟨g, k, none⟩ (.int .i64 x)) B (some ⟨g, 0, none⟩) n c (C.set k x) := by
  refine ⟨?_⟩
  rw [is_set]
  exact (h.own.stored k _).1
theorem Si.far {w : World} {a : Option Addr} {C : List Int} (h : Si w a C) {g o : Nat} (hg : ∀ b p, a = some ⟨b, p, none⟩ → b ≠ g) (v : Value) : Si (w.setCell ⟨g, o, none⟩ v) a C := by
  rcases h with h | ⟨b, p, h1, h2, h3⟩
  · exact Or.inl h
  · refine Or.inr ⟨b, p, h1, by simpa using h2, fun j hj => ?_⟩
    rw [World.cell?_setCell_other _ _ _ _ (by have := hg b p h1; simp; try omega)]
    exact h3 j hj

set_option maxRecDepth 100000 in
set_option maxHeartbeats 2000000 in
theorem types_walk {w : World} {x : Int} (hq : Qt w) : Calls Tryd.prog 3 #[.int .i64 x] w fun e w' => e = .returned (.bool true) ∧ Below w.heap.size w w' := by
  have HQ : Hid (Qt w) := hq
  clear hq
  go_enter Tryd.func3, Tryd.ntmps3
  go_wp2_with fail
  go_loopw [3] (fun i wr => ∃ y : Nat, y ≤ 72 ∧ i = .int .i64 ((y : Int) - 2) ∧ Below w.heap.size w wr) (fun i _ => (70 - intOf i).toNat)
  case atStart => exact ⟨0, by omega, rfl, Below.refl _ _⟩
  case round =>
    obtain ⟨y, hy, rfl, hb⟩ := hrel
    have y0 : (0 : Int) ≤ (y : Int) := by omega
    have y2 : (y : Int) ≤ 72 := by omega
    by_cases hlt : y < 72
    · have y1 : (y : Int) - 2 < 70 := by omega
      have HB1 : Hid (Below w.heap.size w wr) := hb
      have HY : Hid (y < 72) := hlt
      clear hb
      by_cases hz : y = 0
      · have z : ((y : Int) - 2 == -2) = true := by rw [beq_iff_eq]; omega
        clear hz hlt hy
        go_wp2_with fail
        refine (types_any (w := wr) (n := x)).mono ?_
        rintro e w2 ⟨a2, c2, rfl, ho2, hb2⟩
        have HO2 : Hid (Oi w2 wr.heap.size a2 (tys (x)).length c2 (tys (x))) := ho2
        have HB2 : Hid (Below w.heap.size w w2) := below_to HB1.out hb2
        clear ho2 hb2
        go_wp2_with fail
        refine (types_any (w := w2) (n := x)).mono ?_
        rintro e w3 ⟨a3, c3, rfl, ho3, hb3⟩
        have HAp : Hid (∀ g3 o3, a3 = some ⟨g3, o3, none⟩ → ∀ g2 o2, a2 = some ⟨g2, o2, none⟩ → g3 ≠ g2) := fun g3 o3 h3 g2 o2 h2 => by
          subst h2; subst h3
          have e1 := (HO2.out.own.lt g2 rfl).2
          have e2 := (ho3.own.lt g3 rfl).1
          omega
        have HO3 : Hid (Oi w3 wr.heap.size a2 (tys (x)).length c2 (tys (x))) := HO2.out.to hb3
        have HS3 : Hid (Si w3 a3 (tys (x))) := ho3.si
        have HB3 : Hid (Below w.heap.size w w3) := below_to HB2.out hb3
        clear ho3 hb3
        go_wp2_with fail
        refine (side_any (w := w3) (n := x)).mono ?_
        rintro e w4 ⟨rfl, hb4⟩
        have HO4 : Hid (Oi w4 wr.heap.size a2 (tys (x)).length c2 (tys (x))) := HO3.out.to hb4
        have HS4 : Hid (Si w4 a3 (tys (x))) := HS3.out.to hb4
        have HB4 : Hid (Below w.heap.size w w4) := below_to HB3.out hb4
        clear hb4
        go_wp2_with fail
        refine (rside_any (w := w4) (n := x)).mono ?_
        rintro e w5 ⟨rfl, hb5⟩
        have HO5 : Hid (Oi w5 wr.heap.size a2 (tys (x)).length c2 (tys (x))) := HO4.out.to hb5
        have HS5 : Hid (Si w5 a3 (tys (x))) := HS4.out.to hb5
        have HB5 : Hid (Below w.heap.size w w5) := below_to HB4.out hb5
        clear hb5
        have s1 : (sdN (x) != sdN (x)) = false := by simp
        have s2 : (sdE (x) != sdE (x)) = false := by simp
        go_wp2_with fail
        refine (rtypes_any (w := w5) (n := x)).mono ?_
        rintro e w6 ⟨a6, c6, rfl, ho6, hb6⟩
        have HO6 : Hid (Oi w6 wr.heap.size a2 (tys (x)).length c2 (tys (x))) := HO5.out.to hb6
        have HS6 : Hid (Si w6 a3 (tys (x))) := HS5.out.to hb6
        have HR6 : Hid (Si w6 a6 (tys (x))) := ho6.si
        have HB6 : Hid (Below w.heap.size w w6) := below_to HB5.out hb6
        clear ho6 hb6
        go_wp2_with fail
        refine (eq_yes (w := w6) HO6.out.si HR6.out rfl rfl rfl (by have := tys_len (x); omega)).mono ?_
        rintro e w7 ⟨rfl, hb7⟩
        have HO7 : Hid (Oi w7 wr.heap.size a2 (tys (x)).length c2 (tys (x))) := HO6.out.to hb7
        have HS7 : Hid (Si w7 a3 (tys (x))) := HS6.out.to hb7
        have HB7 : Hid (Below w.heap.size w w7) := below_to HB6.out hb7
        have HWr : Hid (w.heap.size ≤ wr.heap.size) := HB1.out.size
        clear hb7
        go_wp2_with fail
        have HTl : Hid ((tys (x)).length ≤ 10) := tys_len _
        have t1 : (((tys (x)).length : Nat) : Int) ≤ 10 := by have := HTl.out; omega
        generalize wr.heap.size = B0 at *
        go_loopw [11] (fun i wv => ∃ (k : Nat) (D : List Int), k ≤ (tys (x)).length ∧ i = .int .i64 k ∧ Oi wv B0 a2 (tys (x)).length c2 D ∧ Si wv a3 (tys (x)) ∧ Below w.heap.size w wv) (fun i _ => (tys (x)).length - (intOf i).toNat)
        case atStart => exact ⟨0, _, by omega, rfl, HO7.out, HS7.out, HB7.out⟩
        case round =>
          obtain ⟨k, D, hk, rfl, ho, hs, hb⟩ := hrel
          have k0 : (0 : Int) ≤ (k : Int) := by omega
          by_cases hlt2 : k < (tys (x)).length
          · have k1 : (k : Int) < (((tys (x)).length : Nat) : Int) := by omega
            obtain ⟨g2, cap2, hv2, hg2, hl2⟩ := ho.own.form (by omega)
            simp only [Value.slice.injEq] at hv2
            obtain ⟨ha2, _, _⟩ := hv2
            have HA2 : Hid (a2 = some ⟨g2, 0, none⟩) := ha2
            clear ha2
            rw [HA2.out] at ho
            have d0 := ho.cellAt k hlt2
            have d1 : wr.frozen? ⟨g2, k, none⟩ = false := ho.own.frozenAt k
            have HO8 : Hid (Oi (wr.setCell ⟨g2, k, none⟩ (.int .i64 99)) B0 (some ⟨g2, 0, none⟩) (tys (x)).length c2 (D.set k 99)) := ho.set k 99
            have HS8 : Hid (Si (wr.setCell ⟨g2, k, none⟩ (.int .i64 99)) a3 (tys (x))) := hs.far (fun g3 o3 h3 => HAp.out g3 o3 h3 g2 0 HA2.out) _
            have HB8 : Hid (Below w.heap.size w (wr.setCell ⟨g2, k, none⟩ (.int .i64 99))) := below_set hb (by have := (ho.own.lt g2 rfl).1; have := HWr.out; simp; omega) _
            have HK : Hid (k < (tys (x)).length) := hlt2
            clear ho hs hb hlt2 hk hg2 hl2
            rw [HA2.out]
            go_wp2_with fail
            have hlt2 := HK.out
            go_roundw
            case rel => exact ⟨k + 1, D.set k 99, by omega, by go_num, by first | exact HO8.out | (rw [HA2.out]; exact HO8.out), HS8.out, HB8.out⟩
            case measure => simp [intOf]; omega
          · obtain rfl : k = (tys (x)).length := by omega
            have HS9 : Hid (Si wr a3 (tys (x))) := hs
            have HB9 : Hid (Below w.heap.size w wr) := hb
            clear ho hs hb
            go_wp2_with fail
            refine (rtypes_any (n := x)).mono ?_
            rintro e w10 ⟨a10, c10, rfl, ho10, hb10⟩
            have HS10 : Hid (Si w10 a3 (tys (x))) := HS9.out.to hb10
            have HR10 : Hid (Si w10 a10 (tys (x))) := ho10.si
            have HB10 : Hid (Below w.heap.size w w10) := below_to HB9.out hb10
            clear ho10 hb10
            go_wp2_with fail
            refine (eq_yes (w := w10) HS10.out HR10.out rfl rfl rfl (by have := HTl.out; omega)).mono ?_
            rintro e w11 ⟨rfl, hb11⟩
            have HB11 : Hid (Below w.heap.size w w11) := below_to HB10.out hb11
            clear hb11
            go_wp2_with fail
            have hlt := HY.out
            go_roundw
            case rel => exact ⟨y + 1, by omega, by first | go_num | (congr 1; omega) | skip, HB11.out⟩
            case measure => simp [intOf]; omega
      · have z : ((y : Int) - 2 == -2) = false := by rw [beq_eq_false_iff_ne]; omega
        clear hz hlt hy
        go_wp2_with fail
        refine (types_any (w := wr) (n := (y : Int) - 2)).mono ?_
        rintro e w2 ⟨a2, c2, rfl, ho2, hb2⟩
        have HO2 : Hid (Oi w2 wr.heap.size a2 (tys ((y : Int) - 2)).length c2 (tys ((y : Int) - 2))) := ho2
        have HB2 : Hid (Below w.heap.size w w2) := below_to HB1.out hb2
        clear ho2 hb2
        go_wp2_with fail
        refine (types_any (w := w2) (n := (y : Int) - 2)).mono ?_
        rintro e w3 ⟨a3, c3, rfl, ho3, hb3⟩
        have HAp : Hid (∀ g3 o3, a3 = some ⟨g3, o3, none⟩ → ∀ g2 o2, a2 = some ⟨g2, o2, none⟩ → g3 ≠ g2) := fun g3 o3 h3 g2 o2 h2 => by
          subst h2; subst h3
          have e1 := (HO2.out.own.lt g2 rfl).2
          have e2 := (ho3.own.lt g3 rfl).1
          omega
        have HO3 : Hid (Oi w3 wr.heap.size a2 (tys ((y : Int) - 2)).length c2 (tys ((y : Int) - 2))) := HO2.out.to hb3
        have HS3 : Hid (Si w3 a3 (tys ((y : Int) - 2))) := ho3.si
        have HB3 : Hid (Below w.heap.size w w3) := below_to HB2.out hb3
        clear ho3 hb3
        go_wp2_with fail
        refine (side_any (w := w3) (n := (y : Int) - 2)).mono ?_
        rintro e w4 ⟨rfl, hb4⟩
        have HO4 : Hid (Oi w4 wr.heap.size a2 (tys ((y : Int) - 2)).length c2 (tys ((y : Int) - 2))) := HO3.out.to hb4
        have HS4 : Hid (Si w4 a3 (tys ((y : Int) - 2))) := HS3.out.to hb4
        have HB4 : Hid (Below w.heap.size w w4) := below_to HB3.out hb4
        clear hb4
        go_wp2_with fail
        refine (rside_any (w := w4) (n := (y : Int) - 2)).mono ?_
        rintro e w5 ⟨rfl, hb5⟩
        have HO5 : Hid (Oi w5 wr.heap.size a2 (tys ((y : Int) - 2)).length c2 (tys ((y : Int) - 2))) := HO4.out.to hb5
        have HS5 : Hid (Si w5 a3 (tys ((y : Int) - 2))) := HS4.out.to hb5
        have HB5 : Hid (Below w.heap.size w w5) := below_to HB4.out hb5
        clear hb5
        have s1 : (sdN ((y : Int) - 2) != sdN ((y : Int) - 2)) = false := by simp
        have s2 : (sdE ((y : Int) - 2) != sdE ((y : Int) - 2)) = false := by simp
        go_wp2_with fail
        refine (rtypes_any (w := w5) (n := (y : Int) - 2)).mono ?_
        rintro e w6 ⟨a6, c6, rfl, ho6, hb6⟩
        have HO6 : Hid (Oi w6 wr.heap.size a2 (tys ((y : Int) - 2)).length c2 (tys ((y : Int) - 2))) := HO5.out.to hb6
        have HS6 : Hid (Si w6 a3 (tys ((y : Int) - 2))) := HS5.out.to hb6
        have HR6 : Hid (Si w6 a6 (tys ((y : Int) - 2))) := ho6.si
        have HB6 : Hid (Below w.heap.size w w6) := below_to HB5.out hb6
        clear ho6 hb6
        go_wp2_with fail
        refine (eq_yes (w := w6) HO6.out.si HR6.out rfl rfl rfl (by have := tys_len ((y : Int) - 2); omega)).mono ?_
        rintro e w7 ⟨rfl, hb7⟩
        have HO7 : Hid (Oi w7 wr.heap.size a2 (tys ((y : Int) - 2)).length c2 (tys ((y : Int) - 2))) := HO6.out.to hb7
        have HS7 : Hid (Si w7 a3 (tys ((y : Int) - 2))) := HS6.out.to hb7
        have HB7 : Hid (Below w.heap.size w w7) := below_to HB6.out hb7
        have HWr : Hid (w.heap.size ≤ wr.heap.size) := HB1.out.size
        clear hb7
        go_wp2_with fail
        have HTl : Hid ((tys ((y : Int) - 2)).length ≤ 10) := tys_len _
        have t1 : (((tys ((y : Int) - 2)).length : Nat) : Int) ≤ 10 := by have := HTl.out; omega
        generalize wr.heap.size = B0 at *
        go_loopw [11] (fun i wv => ∃ (k : Nat) (D : List Int), k ≤ (tys ((y : Int) - 2)).length ∧ i = .int .i64 k ∧ Oi wv B0 a2 (tys ((y : Int) - 2)).length c2 D ∧ Si wv a3 (tys ((y : Int) - 2)) ∧ Below w.heap.size w wv) (fun i _ => (tys ((y : Int) - 2)).length - (intOf i).toNat)
        case atStart => exact ⟨0, _, by omega, rfl, HO7.out, HS7.out, HB7.out⟩
        case round =>
          obtain ⟨k, D, hk, rfl, ho, hs, hb⟩ := hrel
          have k0 : (0 : Int) ≤ (k : Int) := by omega
          by_cases hlt2 : k < (tys ((y : Int) - 2)).length
          · have k1 : (k : Int) < (((tys ((y : Int) - 2)).length : Nat) : Int) := by omega
            obtain ⟨g2, cap2, hv2, hg2, hl2⟩ := ho.own.form (by omega)
            simp only [Value.slice.injEq] at hv2
            obtain ⟨ha2, _, _⟩ := hv2
            have HA2 : Hid (a2 = some ⟨g2, 0, none⟩) := ha2
            clear ha2
            rw [HA2.out] at ho
            have d0 := ho.cellAt k hlt2
            have d1 : wr.frozen? ⟨g2, k, none⟩ = false := ho.own.frozenAt k
            have HO8 : Hid (Oi (wr.setCell ⟨g2, k, none⟩ (.int .i64 99)) B0 (some ⟨g2, 0, none⟩) (tys ((y : Int) - 2)).length c2 (D.set k 99)) := ho.set k 99
            have HS8 : Hid (Si (wr.setCell ⟨g2, k, none⟩ (.int .i64 99)) a3 (tys ((y : Int) - 2))) := hs.far (fun g3 o3 h3 => HAp.out g3 o3 h3 g2 0 HA2.out) _
            have HB8 : Hid (Below w.heap.size w (wr.setCell ⟨g2, k, none⟩ (.int .i64 99))) := below_set hb (by have := (ho.own.lt g2 rfl).1; have := HWr.out; simp; omega) _
            have HK : Hid (k < (tys ((y : Int) - 2)).length) := hlt2
            clear ho hs hb hlt2 hk hg2 hl2
            rw [HA2.out]
            go_wp2_with fail
            have hlt2 := HK.out
            go_roundw
            case rel => exact ⟨k + 1, D.set k 99, by omega, by go_num, by first | exact HO8.out | (rw [HA2.out]; exact HO8.out), HS8.out, HB8.out⟩
            case measure => simp [intOf]; omega
          · obtain rfl : k = (tys ((y : Int) - 2)).length := by omega
            have HS9 : Hid (Si wr a3 (tys ((y : Int) - 2))) := hs
            have HB9 : Hid (Below w.heap.size w wr) := hb
            clear ho hs hb
            go_wp2_with fail
            refine (rtypes_any (n := (y : Int) - 2)).mono ?_
            rintro e w10 ⟨a10, c10, rfl, ho10, hb10⟩
            have HS10 : Hid (Si w10 a3 (tys ((y : Int) - 2))) := HS9.out.to hb10
            have HR10 : Hid (Si w10 a10 (tys ((y : Int) - 2))) := ho10.si
            have HB10 : Hid (Below w.heap.size w w10) := below_to HB9.out hb10
            clear ho10 hb10
            go_wp2_with fail
            refine (eq_yes (w := w10) HS10.out HR10.out rfl rfl rfl (by have := HTl.out; omega)).mono ?_
            rintro e w11 ⟨rfl, hb11⟩
            have HB11 : Hid (Below w.heap.size w w11) := below_to HB10.out hb11
            clear hb11
            go_wp2_with fail
            have hlt := HY.out
            go_roundw
            case rel => exact ⟨y + 1, by omega, by first | go_num | (congr 1; omega) | skip, HB11.out⟩
            case measure => simp [intOf]; omega
    · have y1 : ¬ (y : Int) - 2 < 70 := by omega
      have HB1 : Hid (Below w.heap.size w wr) := hb
      have HQ1 : Hid (Qt wr) := HQ.out.to hb
      clear hb hlt
      go_wp2_with fail
      refine (works_any HQ1.out).mono ?_
      rintro e w2 ⟨rfl, hb2⟩
      have HB2 : Hid (Below w.heap.size w w2) := below_to HB1.out hb2
      clear hb2
      go_wp2_with fail
      go_ret
      exact ⟨rfl, HB2.out⟩

end Go.Proofs.YtddnnlofdicgkaaDoor
