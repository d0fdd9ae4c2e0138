/- DERIVED. The walk of the statement PlaneLaid. -/
import Derived.Test.YtlgfkkegehpllaaLb
namespace Go.Proofs.Ytlgfkkegehpllaa
open Go.RowKit

/-- nothing but the count of draws has turned -/
def Dn (v w : World) : Prop := ∃ m, w = v.drewN m
theorem Dn.refl (v : World) : Dn v v := ⟨0, rfl⟩
theorem Dn.drewN {v w : World} (h : Dn v w) (n : Nat) : Dn v (w.drewN n) := by obtain ⟨m, rfl⟩ := h; exact ⟨m + n, drewN_drewN _ _ _⟩
theorem Dn.cell {v w : World} (h : Dn v w) (a : Addr) : w.cell? a = v.cell? a := by obtain ⟨m, rfl⟩ := h; rfl
theorem Dn.below {v w : World} (h : Dn v w) : Below v.heap.size v w := by obtain ⟨m, rfl⟩ := h; exact below_drewN (Below.refl _ _) m
def LdInv (v : World) (g n : Nat) (iv : Value) (wr : World) : Prop := ∃ (k : Nat) (B : List Nat), k ≤ n ∧ iv = .int .i64 k ∧ B.length = n ∧ Rw wr g B ∧ Kb g v wr
theorem Rw.setI {w : World} {g : Nat} {C : List Nat} (h : Rw w g C) (k : Nat) {e : Int} (he : 0 ≤ e) : Rw (w.setCell ⟨g, k, none⟩ (.int .u8 e)) g (C.set k e.toNat) := by
  have := h.set k e.toNat
  rwa [Int.toNat_of_nonneg he] at this

set_option maxRecDepth 100000 in
set_option maxHeartbeats 4000000 in
theorem laid_walk {u : World} {a : Option Addr} {c : Nat} {C : List Nat} {W H RX RY RW RH seed : Int} (hs : Sl u .u8 a C) (hc : C.length ≤ c) :
    Calls Try.prog 6 #[.agg #[.int .i64 W, .int .i64 H, .slice a C.length c], .agg #[.int .i64 RX, .int .i64 RY, .int .i64 RW, .int .i64 RH], .int .i64 seed] u fun e w' => e = .returned (.bool true) ∧ Below u.heap.size u w' := by
  have HSL : Hid (Sl u .u8 a C) := hs
  have HCC : Hid (C.length ≤ c) := hc
  clear hs hc
  go_enter Try.func6, Try.ntmps6
  go_wp2_with fail
  refine works_true.mono ?_
  rintro e w1 ⟨rfl, hb⟩
  have d0 : w1.cell? ⟨u.heap.size, 0, none⟩ = some (.int .i64 W) := by rw [newCell hb _ _ (by simp; omega)]; simp
  have d1 : w1.cell? ⟨u.heap.size, 1, none⟩ = some (.int .i64 H) := by rw [newCell hb _ _ (by simp; omega)]; simp
  have d2 : w1.cell? ⟨u.heap.size, 2, none⟩ = some (.slice a C.length c) := by rw [newCell hb _ _ (by simp; omega)]; simp
  have d3 : w1.cell? ⟨u.heap.size + 1, 0, none⟩ = some (.int .i64 RX) := by rw [newCell hb _ _ (by simp)]; simp
  have d4 : w1.cell? ⟨u.heap.size + 1, 1, none⟩ = some (.int .i64 RY) := by rw [newCell hb _ _ (by simp)]; simp
  have d5 : w1.cell? ⟨u.heap.size + 1, 2, none⟩ = some (.int .i64 RW) := by rw [newCell hb _ _ (by simp)]; simp
  have d6 : w1.cell? ⟨u.heap.size + 1, 3, none⟩ = some (.int .i64 RH) := by rw [newCell hb _ _ (by simp)]; simp
  have f1 : ∀ k, w1.frozen? ⟨u.heap.size + 1, k, none⟩ = false := fun k => by rw [newFrozen hb _ _ (by simp)]; simp
  have HB1 : Hid (Below u.heap.size u w1) := below_to (to_alloc (from_alloc u _) _) hb
  have hz1 : u.heap.size + 1 < w1.heap.size := by have := hb.size; simp at this; omega
  have HF1 : Hid _ := f1
  clear hb f1
  go_wp2_with fail
  refine check_any.mono ?_
  rintro e w2 ⟨rfl, hb⟩
  have c0 : w2.cell? ⟨u.heap.size, 0, none⟩ = some (.int .i64 W) := by rw [newCell hb _ _ (by omega)]; exact d0
  have c1 : w2.cell? ⟨u.heap.size, 1, none⟩ = some (.int .i64 H) := by rw [newCell hb _ _ (by omega)]; exact d1
  have c2 : w2.cell? ⟨u.heap.size, 2, none⟩ = some (.slice a C.length c) := by rw [newCell hb _ _ (by omega)]; exact d2
  have c3 : w2.cell? ⟨u.heap.size + 1, 0, none⟩ = some (.int .i64 RX) := by rw [newCell hb _ _ (by omega)]; exact d3
  have c4 : w2.cell? ⟨u.heap.size + 1, 1, none⟩ = some (.int .i64 RY) := by rw [newCell hb _ _ (by omega)]; exact d4
  have c5 : w2.cell? ⟨u.heap.size + 1, 2, none⟩ = some (.int .i64 RW) := by rw [newCell hb _ _ (by omega)]; exact d5
  have c6 : w2.cell? ⟨u.heap.size + 1, 3, none⟩ = some (.int .i64 RH) := by rw [newCell hb _ _ (by omega)]; exact d6
  have HF2 : Hid (∀ k, w2.frozen? ⟨u.heap.size + 1, k, none⟩ = false) := fun k => by rw [newFrozen hb _ _ (by omega)]; exact HF1.out k
  have HB2 : Hid (Below u.heap.size u w2) := below_to HB1.out hb
  have hz2 : u.heap.size + 1 < w2.heap.size := Nat.lt_of_lt_of_le hz1 hb.size
  clear hb d0 d1 d2 d3 d4 d5 d6 hz1 HB1 HF1
  by_cases hp : POk W H C
  · rw [ck_ok hp]
    obtain ⟨x, y, rfl, rfl, hx0, hx1, hy0, hy1, hl⟩ := hp.nat
    have hpr := prod_le hx1 hy1
    have h0 : 0 < C.length := by rw [hl]; exact Nat.mul_pos hx0 hy0
    have hnC : (C.length : Int) ≤ 262144 := by omega
    obtain ⟨b, o, rfl, hbl, hcell⟩ := HSL.out.form h0
    have HL : Hid (C.length = x * y) := hl
    have HCE : Hid (∀ j, j < C.length → u.cell? ⟨b, o + j, none⟩ = some (.int .u8 (C.getD j 0 : Nat))) := hcell
    have HBL : Hid (b < u.heap.size) := hbl
    clear hl hp hpr hcell hbl
    go_wp2_with fail
    refine (solid_yes hx0 hx1 hy0 hy1 HL.out).mono ?_
    rintro e w3 ⟨rfl, hb⟩
    have d0 : w3.cell? ⟨u.heap.size, 0, none⟩ = some (.int .i64 (x : Int)) := by rw [newCell hb _ _ (by omega)]; exact c0
    have d1 : w3.cell? ⟨u.heap.size, 1, none⟩ = some (.int .i64 (y : Int)) := by rw [newCell hb _ _ (by omega)]; exact c1
    have d2 : w3.cell? ⟨u.heap.size, 2, none⟩ = some (.slice (some ⟨b, o, none⟩) C.length c) := by rw [newCell hb _ _ (by omega)]; exact c2
    have d3 : w3.cell? ⟨u.heap.size + 1, 0, none⟩ = some (.int .i64 RX) := by rw [newCell hb _ _ (by omega)]; exact c3
    have d4 : w3.cell? ⟨u.heap.size + 1, 1, none⟩ = some (.int .i64 RY) := by rw [newCell hb _ _ (by omega)]; exact c4
    have d5 : w3.cell? ⟨u.heap.size + 1, 2, none⟩ = some (.int .i64 RW) := by rw [newCell hb _ _ (by omega)]; exact c5
    have d6 : w3.cell? ⟨u.heap.size + 1, 3, none⟩ = some (.int .i64 RH) := by rw [newCell hb _ _ (by omega)]; exact c6
    have HF3 : Hid (∀ k, w3.frozen? ⟨u.heap.size + 1, k, none⟩ = false) := fun k => by rw [newFrozen hb _ _ (by omega)]; exact HF2.out k
    have HB3 : Hid (Below u.heap.size u w3) := below_to HB2.out hb
    have hz3 : u.heap.size + 1 < w3.heap.size := Nat.lt_of_lt_of_le hz2 hb.size
    clear hb c0 c1 c2 c3 c4 c5 c6 hz2 HB2 HF2
    go_wp2_with fail
    refine (inside_ok hx0 hx1 hy0 hy1).mono ?_
    rintro e w4 ⟨X, Y, w, h, rfl, hw0, hh0, hX, hY, hb⟩
    have c0 : w4.cell? ⟨u.heap.size, 0, none⟩ = some (.int .i64 (x : Int)) := by rw [newCell hb _ _ (by omega)]; exact d0
    have c1 : w4.cell? ⟨u.heap.size, 1, none⟩ = some (.int .i64 (y : Int)) := by rw [newCell hb _ _ (by omega)]; exact d1
    have c2 : w4.cell? ⟨u.heap.size, 2, none⟩ = some (.slice (some ⟨b, o, none⟩) C.length c) := by rw [newCell hb _ _ (by omega)]; exact d2
    have c3 : w4.cell? ⟨u.heap.size + 1, 0, none⟩ = some (.int .i64 RX) := by rw [newCell hb _ _ (by omega)]; exact d3
    have c4 : w4.cell? ⟨u.heap.size + 1, 1, none⟩ = some (.int .i64 RY) := by rw [newCell hb _ _ (by omega)]; exact d4
    have c5 : w4.cell? ⟨u.heap.size + 1, 2, none⟩ = some (.int .i64 RW) := by rw [newCell hb _ _ (by omega)]; exact d5
    have c6 : w4.cell? ⟨u.heap.size + 1, 3, none⟩ = some (.int .i64 RH) := by rw [newCell hb _ _ (by omega)]; exact d6
    have f4 : ∀ k, w4.frozen? ⟨u.heap.size + 1, k, none⟩ = false := fun k => by rw [newFrozen hb _ _ (by omega)]; exact HF3.out k
    have HB4 : Hid (Below u.heap.size u w4) := below_to HB3.out hb
    have hz4 : u.heap.size + 1 < w4.heap.size := Nat.lt_of_lt_of_le hz3 hb.size
    clear hb d0 d1 d2 d3 d4 d5 d6 hz3 HB3 HF3
    obtain ⟨n, hn⟩ : ∃ n, n = w * h := ⟨_, rfl⟩
    have hnb : n ≤ 262144 := by rw [hn]; exact prod_le (by omega) (by omega)
    have en : (w : Int) * (h : Int) = (n : Int) := by rw [← Int.natCast_mul, hn]
    have n1 : (n : Int) ≤ 262144 := by omega
    have hmk := mk_row (n := n) (by omega)
    have HN : Hid (n = w * h) := hn
    clear hn
    have HBT : Hid (Below u.heap.size u ((((w4.setCell ⟨u.heap.size + 1, 0, none⟩ (.int .i64 (X : Int))).setCell ⟨u.heap.size + 1, 1, none⟩ (.int .i64 (Y : Int))).setCell ⟨u.heap.size + 1, 2, none⟩ (.int .i64 (w : Int))).setCell ⟨u.heap.size + 1, 3, none⟩ (.int .i64 (h : Int)))) := below_set (below_set (below_set (below_set HB4.out (by simp) _) (by simp) _) (by simp) _) (by simp) _
    have hTz : ((((w4.setCell ⟨u.heap.size + 1, 0, none⟩ (.int .i64 (X : Int))).setCell ⟨u.heap.size + 1, 1, none⟩ (.int .i64 (Y : Int))).setCell ⟨u.heap.size + 1, 2, none⟩ (.int .i64 (w : Int))).setCell ⟨u.heap.size + 1, 3, none⟩ (.int .i64 (h : Int))).heap.size = w4.heap.size := by simp
    have e0 : (((((w4.setCell ⟨u.heap.size + 1, 0, none⟩ (.int .i64 (X : Int))).setCell ⟨u.heap.size + 1, 1, none⟩ (.int .i64 (Y : Int))).setCell ⟨u.heap.size + 1, 2, none⟩ (.int .i64 (w : Int))).setCell ⟨u.heap.size + 1, 3, none⟩ (.int .i64 (h : Int))).alloc (.cells (madeCells #[.int .u8 0] n) 5)).cell? ⟨u.heap.size, 0, none⟩ = some (.int .i64 (x : Int)) := by rw [newCell (from_alloc _ _) _ _ (by rw [hTz]; omega)]; simpa [go_sem] using c0
    have e1 : (((((w4.setCell ⟨u.heap.size + 1, 0, none⟩ (.int .i64 (X : Int))).setCell ⟨u.heap.size + 1, 1, none⟩ (.int .i64 (Y : Int))).setCell ⟨u.heap.size + 1, 2, none⟩ (.int .i64 (w : Int))).setCell ⟨u.heap.size + 1, 3, none⟩ (.int .i64 (h : Int))).alloc (.cells (madeCells #[.int .u8 0] n) 5)).cell? ⟨u.heap.size, 1, none⟩ = some (.int .i64 (y : Int)) := by rw [newCell (from_alloc _ _) _ _ (by rw [hTz]; omega)]; simpa [go_sem] using c1
    have e2 : (((((w4.setCell ⟨u.heap.size + 1, 0, none⟩ (.int .i64 (X : Int))).setCell ⟨u.heap.size + 1, 1, none⟩ (.int .i64 (Y : Int))).setCell ⟨u.heap.size + 1, 2, none⟩ (.int .i64 (w : Int))).setCell ⟨u.heap.size + 1, 3, none⟩ (.int .i64 (h : Int))).alloc (.cells (madeCells #[.int .u8 0] n) 5)).cell? ⟨u.heap.size, 2, none⟩ = some (.slice (some ⟨b, o, none⟩) C.length c) := by rw [newCell (from_alloc _ _) _ _ (by rw [hTz]; omega)]; simpa [go_sem] using c2
    have e3 : (((((w4.setCell ⟨u.heap.size + 1, 0, none⟩ (.int .i64 (X : Int))).setCell ⟨u.heap.size + 1, 1, none⟩ (.int .i64 (Y : Int))).setCell ⟨u.heap.size + 1, 2, none⟩ (.int .i64 (w : Int))).setCell ⟨u.heap.size + 1, 3, none⟩ (.int .i64 (h : Int))).alloc (.cells (madeCells #[.int .u8 0] n) 5)).cell? ⟨u.heap.size + 1, 0, none⟩ = some (.int .i64 (X : Int)) := by rw [newCell (from_alloc _ _) _ _ (by rw [hTz]; omega), set_cell_ne (by omega), set_cell_ne (by omega), set_cell_ne (by omega)]; exact World.cell?_setCell_same _ _ _ c3
    have e4 : (((((w4.setCell ⟨u.heap.size + 1, 0, none⟩ (.int .i64 (X : Int))).setCell ⟨u.heap.size + 1, 1, none⟩ (.int .i64 (Y : Int))).setCell ⟨u.heap.size + 1, 2, none⟩ (.int .i64 (w : Int))).setCell ⟨u.heap.size + 1, 3, none⟩ (.int .i64 (h : Int))).alloc (.cells (madeCells #[.int .u8 0] n) 5)).cell? ⟨u.heap.size + 1, 1, none⟩ = some (.int .i64 (Y : Int)) := by rw [newCell (from_alloc _ _) _ _ (by rw [hTz]; omega), set_cell_ne (by omega), set_cell_ne (by omega)]; exact World.cell?_setCell_same _ _ _ (by rw [set_cell_ne (by omega)]; exact c4)
    have e5 : (((((w4.setCell ⟨u.heap.size + 1, 0, none⟩ (.int .i64 (X : Int))).setCell ⟨u.heap.size + 1, 1, none⟩ (.int .i64 (Y : Int))).setCell ⟨u.heap.size + 1, 2, none⟩ (.int .i64 (w : Int))).setCell ⟨u.heap.size + 1, 3, none⟩ (.int .i64 (h : Int))).alloc (.cells (madeCells #[.int .u8 0] n) 5)).cell? ⟨u.heap.size + 1, 2, none⟩ = some (.int .i64 (w : Int)) := by rw [newCell (from_alloc _ _) _ _ (by rw [hTz]; omega), set_cell_ne (by omega)]; exact World.cell?_setCell_same _ _ _ (by rw [set_cell_ne (by omega), set_cell_ne (by omega)]; exact c5)
    have e6 : (((((w4.setCell ⟨u.heap.size + 1, 0, none⟩ (.int .i64 (X : Int))).setCell ⟨u.heap.size + 1, 1, none⟩ (.int .i64 (Y : Int))).setCell ⟨u.heap.size + 1, 2, none⟩ (.int .i64 (w : Int))).setCell ⟨u.heap.size + 1, 3, none⟩ (.int .i64 (h : Int))).alloc (.cells (madeCells #[.int .u8 0] n) 5)).cell? ⟨u.heap.size + 1, 3, none⟩ = some (.int .i64 (h : Int)) := by rw [newCell (from_alloc _ _) _ _ (by rw [hTz]; omega)]; exact World.cell?_setCell_same _ _ _ (by rw [set_cell_ne (by omega), set_cell_ne (by omega), set_cell_ne (by omega)]; exact c6)
    have HRV : Hid (Rw (((((w4.setCell ⟨u.heap.size + 1, 0, none⟩ (.int .i64 (X : Int))).setCell ⟨u.heap.size + 1, 1, none⟩ (.int .i64 (Y : Int))).setCell ⟨u.heap.size + 1, 2, none⟩ (.int .i64 (w : Int))).setCell ⟨u.heap.size + 1, 3, none⟩ (.int .i64 (h : Int))).alloc (.cells (madeCells #[.int .u8 0] n) 5)) w4.heap.size (List.replicate n 0)) := Rw.madeAt _ _ hTz
    have HBV : Hid (Below u.heap.size u (((((w4.setCell ⟨u.heap.size + 1, 0, none⟩ (.int .i64 (X : Int))).setCell ⟨u.heap.size + 1, 1, none⟩ (.int .i64 (Y : Int))).setCell ⟨u.heap.size + 1, 2, none⟩ (.int .i64 (w : Int))).setCell ⟨u.heap.size + 1, 3, none⟩ (.int .i64 (h : Int))).alloc (.cells (madeCells #[.int .u8 0] n) 5))) := to_alloc HBT.out _
    have HVZ : Hid ((((((w4.setCell ⟨u.heap.size + 1, 0, none⟩ (.int .i64 (X : Int))).setCell ⟨u.heap.size + 1, 1, none⟩ (.int .i64 (Y : Int))).setCell ⟨u.heap.size + 1, 2, none⟩ (.int .i64 (w : Int))).setCell ⟨u.heap.size + 1, 3, none⟩ (.int .i64 (h : Int))).alloc (.cells (madeCells #[.int .u8 0] n) 5)).heap.size = w4.heap.size + 1) := by unfold Hid; simp
    have E0 : Hid _ := e0
    have E1 : Hid _ := e1
    have E2 : Hid _ := e2
    have E3 : Hid _ := e3
    have E4 : Hid _ := e4
    have E5 : Hid _ := e5
    have E6 : Hid _ := e6
    clear e0 e1 e2 e3 e4 e5 e6 hTz HBT
    go_wp2_with fail
    generalize (((((w4.setCell ⟨u.heap.size + 1, 0, none⟩ (.int .i64 (X : Int))).setCell ⟨u.heap.size + 1, 1, none⟩ (.int .i64 (Y : Int))).setCell ⟨u.heap.size + 1, 2, none⟩ (.int .i64 (w : Int))).setCell ⟨u.heap.size + 1, 3, none⟩ (.int .i64 (h : Int))).alloc (.cells (madeCells #[.int .u8 0] n) 5)) = V at *
    have e0 := E0.out
    have e1 := E1.out
    have e2 := E2.out
    have e3 := E3.out
    have e4 := E4.out
    have e5 := E5.out
    have e6 := E6.out
    clear E0 E1 E2 E3 E4 E5 E6 c0 c1 c2 c3 c4 c5 c6 f4 hmk HB4
    generalize w4.heap.size = g at *
    have hVz := HVZ.out
    go_loopw [10] (fun i wr => LdInv V g n i wr) (fun i _ => n - (intOf i).toNat)
    case atStart => exact ⟨0, List.replicate n 0, Nat.zero_le _, rfl, by simp, HRV.out, Kb.refl _ _⟩
    case round =>
      obtain ⟨k, B, hk, rfl, hB, hr, hkb⟩ := hrel
      clear HRV
      by_cases hlt : k < n
      · have q1 := hr.cell k (by omega)
        have q2 := hr.thaw k
        generalize B.getD k 0 = old at q1
        have b0 : 0 ≤ (k : Int) := by omega
        have b1 : (k : Int) < (n : Int) := by omega
        have HR : Hid _ := hr
        have HKb : Hid _ := hkb
        have HBn : Hid _ := hB
        clear hr hkb hB e0 e1 e2 e3 e4 e5 e6
        go_wp2_with fail
        go_roundw
        case rel => exact ⟨k + 1, _, by omega, by go_num, by rw [List.length_set]; exact HBn.out, HR.out.setI k (by first | exact Int.emod_nonneg _ (by decide) | (rw [IntKind.wrap_u8]; omega)), HKb.out.trans (Kb.setCell _ _ _ _)⟩
        case measure => simp [intOf]; omega
      · have hk' : k = n := by omega
        subst hk'
        obtain ⟨D, hD⟩ : ∃ D, D = layL x C X Y w B h := ⟨_, rfl⟩
        obtain ⟨E, hE⟩ : ∃ E, E = cutL x C X Y w h := ⟨_, rfl⟩
        have hDl : D.length = C.length := by rw [hD, layL_len]
        have hEl : E.length = w * h := by rw [hE, cutL_len]
        have HBr : Hid (Below u.heap.size u wr) := HBV.out.trans (hkb.below (by omega))
        have hwz : wr.heap.size = g + 1 := by rw [hkb.size]; exact hVz
        have c0 : wr.cell? ⟨u.heap.size, 0, none⟩ = some (.int .i64 (x : Int)) := by rw [hkb.cell _ _ (by omega)]; exact e0
        have c1 : wr.cell? ⟨u.heap.size, 1, none⟩ = some (.int .i64 (y : Int)) := by rw [hkb.cell _ _ (by omega)]; exact e1
        have c2 : wr.cell? ⟨u.heap.size, 2, none⟩ = some (.slice (some ⟨b, o, none⟩) C.length c) := by rw [hkb.cell _ _ (by omega)]; exact e2
        have c3 : wr.cell? ⟨u.heap.size + 1, 0, none⟩ = some (.int .i64 (X : Int)) := by rw [hkb.cell _ _ (by omega)]; exact e3
        have c4 : wr.cell? ⟨u.heap.size + 1, 1, none⟩ = some (.int .i64 (Y : Int)) := by rw [hkb.cell _ _ (by omega)]; exact e4
        have c5 : wr.cell? ⟨u.heap.size + 1, 2, none⟩ = some (.int .i64 (w : Int)) := by rw [hkb.cell _ _ (by omega)]; exact e5
        have c6 : wr.cell? ⟨u.heap.size + 1, 3, none⟩ = some (.int .i64 (h : Int)) := by rw [hkb.cell _ _ (by omega)]; exact e6
        have K5 : Hid (Calls Try.prog 26 #[.agg #[.int .i64 (x : Int), .int .i64 (y : Int), .slice (some ⟨b, o, none⟩) C.length c], .agg #[.int .i64 (X : Int), .int .i64 (Y : Int), .int .i64 (w : Int), .int .i64 (h : Int)], .slice (some ⟨g, 0, none⟩) k k] wr fun e w' => Pn wr w' e x y D) := by
          have := lay_ok (u := wr) (c := c) (cb := k) (HSL.out.to HBr.out) hx0 hx1 hy0 hy1 HL.out hw0 hh0 hX hY hr.sl (by rw [hB]; exact HN.out) (by rw [hB]; exact Nat.le_refl _)
          rwa [hB, ← hD] at this
        have K6 : Hid (∀ (t : World) (q : Nat), Rw t q D → Calls Try.prog 23 #[.agg #[.int .i64 (x : Int), .int .i64 (y : Int), .slice (some ⟨q, 0, none⟩) D.length D.length], .agg #[.int .i64 (X : Int), .int .i64 (Y : Int), .int .i64 (w : Int), .int .i64 (h : Int)]] t fun e w' => ∃ g', e = .returned (.tuple #[.slice (some ⟨g', 0, none⟩) k k, .int .i64 0]) ∧ Rw w' g' B ∧ Below t.heap.size t w') := fun t q hq => by
          have := cut_ok (u := t) (c := D.length) (X := X) (Y := Y) (w := w) (h := h) hq.sl hx0 hx1 hy0 hy1 (by rw [hDl]; exact HL.out) (Nat.le_refl _) hw0 hh0 hX hY
          refine this.mono fun e w' ⟨g', he, _, hr', hb'⟩ => ⟨g', ?_, ?_, hb'⟩
          · rw [he, cutL_len, HN.out]
          · rw [hD, cut_lay HL.out (by rw [hB]; exact HN.out) hX hY] at hr'; exact hr'
        have K7 : Hid (∀ t : World, Sl t .u8 (some ⟨b, o, none⟩) C → Calls Try.prog 23 #[.agg #[.int .i64 (x : Int), .int .i64 (y : Int), .slice (some ⟨b, o, none⟩) C.length c], .agg #[.int .i64 (X : Int), .int .i64 (Y : Int), .int .i64 (w : Int), .int .i64 (h : Int)]] t fun e w' => Sn t w' e E) := fun t ht => by
          rw [hE]; exact cut_ok ht hx0 hx1 hy0 hy1 HL.out HCC.out hw0 hh0 hX hY
        have K8 : Hid (∀ (t : World) (q p : Nat), Rw t q D → Rw t p E → Calls Try.prog 26 #[.agg #[.int .i64 (x : Int), .int .i64 (y : Int), .slice (some ⟨q, 0, none⟩) D.length D.length], .agg #[.int .i64 (X : Int), .int .i64 (Y : Int), .int .i64 (w : Int), .int .i64 (h : Int)], .slice (some ⟨p, 0, none⟩) E.length E.length] t fun e w' => Pn t w' e x y C) := fun t q p hq hp => by
          have := lay_ok (u := t) (c := D.length) (cb := E.length) (X := X) (Y := Y) (w := w) (ht := h) hq.sl hx0 hx1 hy0 hy1 (by rw [hDl]; exact HL.out) hw0 hh0 hX hY hp.sl hEl (Nat.le_refl _)
          rw [show layL x D X Y w E h = C from by rw [hD, hE]; exact lay_back hx0 HL.out] at this
          exact this
        have K9 : Hid (∀ (t : World) (q p : Nat), Rw t q B → Rw t p B → Calls Try.prog 25 #[.slice (some ⟨q, 0, none⟩) k k, .slice (some ⟨p, 0, none⟩) k k] t fun e w' => e = .returned (.bool true) ∧ Below t.heap.size t w') := fun t q p hq hp => wk_eq hB (by omega) hq hp
        have K10 : Hid (∀ (t : World) (q : Nat), Rw t q C → Sl t .u8 (some ⟨b, o, none⟩) C → Calls Try.prog 12 #[.agg #[.int .i64 (x : Int), .int .i64 (y : Int), .slice (some ⟨q, 0, none⟩) C.length C.length], .agg #[.int .i64 (x : Int), .int .i64 (y : Int), .slice (some ⟨b, o, none⟩) C.length c]] t fun e w' => e = .returned (.bool true) ∧ Below t.heap.size t w') := fun t q hq ht => by
          have := same_any (w := t) (W := (x : Int)) (H := (y : Int)) (W' := (x : Int)) (H' := (y : Int)) (c := C.length) (d := c) hq.sl ht (Or.inl rfl)
          rwa [smB_eq, eqB_self] at this
        have HRB : Hid (Rw wr g B) := hr
        have HEQ : Hid (∀ i, i < C.length → ¬ (X ≤ i % x ∧ i % x < X + w ∧ Y ≤ i / x ∧ i / x < Y + h) → D.getD i 0 = C.getD i 0) := fun i hi hno => by rw [hD]; exact lay_out hi hno
        have HDL : Hid (D.length = C.length) := hDl
        have nl : ((D.length : Int) != (C.length : Int)) = false := by simp [hDl]
        clear hr hkb hB hD hE hDl hEl e0 e1 e2 e3 e4 e5 e6 hVz HVZ HBV
        go_wp2_with fail
        refine K5.out.mono ?_
        rintro e w5 ⟨g5, rfl, _, hr5, hb5⟩
        have HB5 : Hid (Below wr.heap.size wr w5) := hb5
        have HA5 : Hid (Below w5.heap.size w5 (w5.alloc (.cells #[.int .i64 (x : Int), .int .i64 (y : Int), .slice (some ⟨g5, 0, none⟩) D.length D.length] 24))) := from_alloc _ _
        have HA : Hid (Below wr.heap.size wr (w5.alloc (.cells #[.int .i64 (x : Int), .int .i64 (y : Int), .slice (some ⟨g5, 0, none⟩) D.length D.length] 24))) := below_to hb5 HA5.out
        have hwz5 : wr.heap.size ≤ w5.heap.size := hb5.size
        have d0 : (w5.alloc (.cells #[.int .i64 (x : Int), .int .i64 (y : Int), .slice (some ⟨g5, 0, none⟩) D.length D.length] 24)).cell? ⟨u.heap.size, 0, none⟩ = some (.int .i64 (x : Int)) := by rw [newCell HA.out _ _ (by omega)]; exact c0
        have d1 : (w5.alloc (.cells #[.int .i64 (x : Int), .int .i64 (y : Int), .slice (some ⟨g5, 0, none⟩) D.length D.length] 24)).cell? ⟨u.heap.size, 1, none⟩ = some (.int .i64 (y : Int)) := by rw [newCell HA.out _ _ (by omega)]; exact c1
        have d2 : (w5.alloc (.cells #[.int .i64 (x : Int), .int .i64 (y : Int), .slice (some ⟨g5, 0, none⟩) D.length D.length] 24)).cell? ⟨u.heap.size, 2, none⟩ = some (.slice (some ⟨b, o, none⟩) C.length c) := by rw [newCell HA.out _ _ (by omega)]; exact c2
        have d3 : (w5.alloc (.cells #[.int .i64 (x : Int), .int .i64 (y : Int), .slice (some ⟨g5, 0, none⟩) D.length D.length] 24)).cell? ⟨u.heap.size + 1, 0, none⟩ = some (.int .i64 (X : Int)) := by rw [newCell HA.out _ _ (by omega)]; exact c3
        have d4 : (w5.alloc (.cells #[.int .i64 (x : Int), .int .i64 (y : Int), .slice (some ⟨g5, 0, none⟩) D.length D.length] 24)).cell? ⟨u.heap.size + 1, 1, none⟩ = some (.int .i64 (Y : Int)) := by rw [newCell HA.out _ _ (by omega)]; exact c4
        have d5 : (w5.alloc (.cells #[.int .i64 (x : Int), .int .i64 (y : Int), .slice (some ⟨g5, 0, none⟩) D.length D.length] 24)).cell? ⟨u.heap.size + 1, 2, none⟩ = some (.int .i64 (w : Int)) := by rw [newCell HA.out _ _ (by omega)]; exact c5
        have d6 : (w5.alloc (.cells #[.int .i64 (x : Int), .int .i64 (y : Int), .slice (some ⟨g5, 0, none⟩) D.length D.length] 24)).cell? ⟨u.heap.size + 1, 3, none⟩ = some (.int .i64 (h : Int)) := by rw [newCell HA.out _ _ (by omega)]; exact c6
        have q0 : (w5.alloc (.cells #[.int .i64 (x : Int), .int .i64 (y : Int), .slice (some ⟨g5, 0, none⟩) D.length D.length] 24)).cell? ⟨w5.heap.size, 0, none⟩ = some (.int .i64 (x : Int)) := by simp
        have q1 : (w5.alloc (.cells #[.int .i64 (x : Int), .int .i64 (y : Int), .slice (some ⟨g5, 0, none⟩) D.length D.length] 24)).cell? ⟨w5.heap.size, 1, none⟩ = some (.int .i64 (y : Int)) := by simp
        have q2 : (w5.alloc (.cells #[.int .i64 (x : Int), .int .i64 (y : Int), .slice (some ⟨g5, 0, none⟩) D.length D.length] 24)).cell? ⟨w5.heap.size, 2, none⟩ = some (.slice (some ⟨g5, 0, none⟩) D.length D.length) := by simp
        have HRq : Hid (Rw (w5.alloc (.cells #[.int .i64 (x : Int), .int .i64 (y : Int), .slice (some ⟨g5, 0, none⟩) D.length D.length] 24)) g5 D) := hr5.to HA5.out
        have HRb : Hid (Rw (w5.alloc (.cells #[.int .i64 (x : Int), .int .i64 (y : Int), .slice (some ⟨g5, 0, none⟩) D.length D.length] 24)) g B) := HRB.out.to HA.out
        have HZq : Hid (w5.heap.size < (w5.alloc (.cells #[.int .i64 (x : Int), .int .i64 (y : Int), .slice (some ⟨g5, 0, none⟩) D.length D.length] 24)).heap.size) := by unfold Hid; simp
        have HBU : Hid (Below u.heap.size u (w5.alloc (.cells #[.int .i64 (x : Int), .int .i64 (y : Int), .slice (some ⟨g5, 0, none⟩) D.length D.length] 24))) := below_to HBr.out HA.out
        have hzu : u.heap.size + 1 < (w5.alloc (.cells #[.int .i64 (x : Int), .int .i64 (y : Int), .slice (some ⟨g5, 0, none⟩) D.length D.length] 24)).heap.size := by simp; omega
        clear c0 c1 c2 c3 c4 c5 c6 hr5 hb5 HB5 HA5 HA K5
        go_wp2_with fail
        generalize (w5.alloc (.cells #[.int .i64 (x : Int), .int .i64 (y : Int), .slice (some ⟨g5, 0, none⟩) D.length D.length] 24)) = T at *
        generalize w5.heap.size = qb at *
        have hqz := HZq.out
        refine (K6.out _ _ HRq.out).mono ?_
        rintro e w6 ⟨g6, rfl, hr6, hb6⟩
        have B6 : Hid (Below T.heap.size T w6) := hb6
        have HR6 : Hid (Rw w6 g6 B) := hr6
        clear hr6 hb6
        have c0 : w6.cell? ⟨u.heap.size, 0, none⟩ = some (.int .i64 (x : Int)) := by rw [newCell B6.out _ _ (by omega)]; exact d0
        have c1 : w6.cell? ⟨u.heap.size, 1, none⟩ = some (.int .i64 (y : Int)) := by rw [newCell B6.out _ _ (by omega)]; exact d1
        have c2 : w6.cell? ⟨u.heap.size, 2, none⟩ = some (.slice (some ⟨b, o, none⟩) C.length c) := by rw [newCell B6.out _ _ (by omega)]; exact d2
        have c3 : w6.cell? ⟨u.heap.size + 1, 0, none⟩ = some (.int .i64 (X : Int)) := by rw [newCell B6.out _ _ (by omega)]; exact d3
        have c4 : w6.cell? ⟨u.heap.size + 1, 1, none⟩ = some (.int .i64 (Y : Int)) := by rw [newCell B6.out _ _ (by omega)]; exact d4
        have c5 : w6.cell? ⟨u.heap.size + 1, 2, none⟩ = some (.int .i64 (w : Int)) := by rw [newCell B6.out _ _ (by omega)]; exact d5
        have c6 : w6.cell? ⟨u.heap.size + 1, 3, none⟩ = some (.int .i64 (h : Int)) := by rw [newCell B6.out _ _ (by omega)]; exact d6
        go_wp2_with fail
        refine (K7.out _ (HSL.out.to (below_to HBU.out B6.out))).mono ?_
        rintro e w7 ⟨g7, rfl, _, hr7, hb7⟩
        have B7 : Hid (Below T.heap.size T w7) := below_to B6.out hb7
        have HR7 : Hid (Rw w7 g7 E) := hr7
        have HR67 : Hid (Rw w7 g6 B) := HR6.out.to hb7
        clear hr7 hb7 c0 c1 c2 c3 c4 c5 c6 HR6 B6
        have c0 : w7.cell? ⟨u.heap.size, 0, none⟩ = some (.int .i64 (x : Int)) := by rw [newCell B7.out _ _ (by omega)]; exact d0
        have c1 : w7.cell? ⟨u.heap.size, 1, none⟩ = some (.int .i64 (y : Int)) := by rw [newCell B7.out _ _ (by omega)]; exact d1
        have c2 : w7.cell? ⟨u.heap.size, 2, none⟩ = some (.slice (some ⟨b, o, none⟩) C.length c) := by rw [newCell B7.out _ _ (by omega)]; exact d2
        have c3 : w7.cell? ⟨u.heap.size + 1, 0, none⟩ = some (.int .i64 (X : Int)) := by rw [newCell B7.out _ _ (by omega)]; exact d3
        have c4 : w7.cell? ⟨u.heap.size + 1, 1, none⟩ = some (.int .i64 (Y : Int)) := by rw [newCell B7.out _ _ (by omega)]; exact d4
        have c5 : w7.cell? ⟨u.heap.size + 1, 2, none⟩ = some (.int .i64 (w : Int)) := by rw [newCell B7.out _ _ (by omega)]; exact d5
        have c6 : w7.cell? ⟨u.heap.size + 1, 3, none⟩ = some (.int .i64 (h : Int)) := by rw [newCell B7.out _ _ (by omega)]; exact d6
        have r0 : w7.cell? ⟨qb, 0, none⟩ = some (.int .i64 (x : Int)) := by rw [newCell B7.out _ _ hqz]; exact q0
        have r1 : w7.cell? ⟨qb, 1, none⟩ = some (.int .i64 (y : Int)) := by rw [newCell B7.out _ _ hqz]; exact q1
        have r2 : w7.cell? ⟨qb, 2, none⟩ = some (.slice (some ⟨g5, 0, none⟩) D.length D.length) := by rw [newCell B7.out _ _ hqz]; exact q2
        go_wp2_with fail
        refine (K8.out _ _ _ (HRq.out.to B7.out) HR7.out).mono ?_
        rintro e w8 ⟨g8, rfl, _, hr8, hb8⟩
        have B8 : Hid (Below T.heap.size T w8) := below_to B7.out hb8
        have HR68 : Hid (Rw w8 g6 B) := HR67.out.to hb8
        have HR8 : Hid (Rw w8 g8 C) := hr8
        clear hr8 hb8 c0 c1 c2 c3 c4 c5 c6 r0 r1 r2 HR67 HR7 B7
        go_wp2_with fail
        refine (K9.out _ _ _ (HR68.out.to (from_alloc _ _)) ((HRb.out.to B8.out).to (from_alloc _ _))).mono ?_
        rintro e w9 ⟨rfl, hb9⟩
        have B9 : Hid (Below T.heap.size T w9) := below_to B8.out (below_to (from_alloc _ _) hb9)
        have s0 : w9.cell? ⟨w8.heap.size, 0, none⟩ = some (.int .i64 (x : Int)) := by rw [newCell hb9 _ _ (by simp)]; simp
        have s1 : w9.cell? ⟨w8.heap.size, 1, none⟩ = some (.int .i64 (y : Int)) := by rw [newCell hb9 _ _ (by simp)]; simp
        have s2 : w9.cell? ⟨w8.heap.size, 2, none⟩ = some (.slice (some ⟨g8, 0, none⟩) C.length C.length) := by rw [newCell hb9 _ _ (by simp)]; simp
        have HR9 : Hid (Rw w9 g8 C) := HR8.out.to (below_to (from_alloc _ _) hb9)
        clear hb9 HR8 HR68 B8
        have c0 : w9.cell? ⟨u.heap.size, 0, none⟩ = some (.int .i64 (x : Int)) := by rw [newCell B9.out _ _ (by omega)]; exact d0
        have c1 : w9.cell? ⟨u.heap.size, 1, none⟩ = some (.int .i64 (y : Int)) := by rw [newCell B9.out _ _ (by omega)]; exact d1
        have c2 : w9.cell? ⟨u.heap.size, 2, none⟩ = some (.slice (some ⟨b, o, none⟩) C.length c) := by rw [newCell B9.out _ _ (by omega)]; exact d2
        have c3 : w9.cell? ⟨u.heap.size + 1, 0, none⟩ = some (.int .i64 (X : Int)) := by rw [newCell B9.out _ _ (by omega)]; exact d3
        have c4 : w9.cell? ⟨u.heap.size + 1, 1, none⟩ = some (.int .i64 (Y : Int)) := by rw [newCell B9.out _ _ (by omega)]; exact d4
        have c5 : w9.cell? ⟨u.heap.size + 1, 2, none⟩ = some (.int .i64 (w : Int)) := by rw [newCell B9.out _ _ (by omega)]; exact d5
        have c6 : w9.cell? ⟨u.heap.size + 1, 3, none⟩ = some (.int .i64 (h : Int)) := by rw [newCell B9.out _ _ (by omega)]; exact d6
        go_wp2_with fail
        refine (K10.out _ _ HR9.out (HSL.out.to (below_to HBU.out B9.out))).mono ?_
        rintro e v ⟨rfl, hb10⟩
        have BV : Hid (Below T.heap.size T v) := below_to B9.out hb10
        clear hb10 c0 c1 c2 c3 c4 c5 c6 s0 s1 s2 HR9 B9
        have c0 : v.cell? ⟨u.heap.size, 0, none⟩ = some (.int .i64 (x : Int)) := by rw [newCell BV.out _ _ (by omega)]; exact d0
        have c1 : v.cell? ⟨u.heap.size, 1, none⟩ = some (.int .i64 (y : Int)) := by rw [newCell BV.out _ _ (by omega)]; exact d1
        have c2 : v.cell? ⟨u.heap.size, 2, none⟩ = some (.slice (some ⟨b, o, none⟩) C.length c) := by rw [newCell BV.out _ _ (by omega)]; exact d2
        have c3 : v.cell? ⟨u.heap.size + 1, 0, none⟩ = some (.int .i64 (X : Int)) := by rw [newCell BV.out _ _ (by omega)]; exact d3
        have c4 : v.cell? ⟨u.heap.size + 1, 1, none⟩ = some (.int .i64 (Y : Int)) := by rw [newCell BV.out _ _ (by omega)]; exact d4
        have c5 : v.cell? ⟨u.heap.size + 1, 2, none⟩ = some (.int .i64 (w : Int)) := by rw [newCell BV.out _ _ (by omega)]; exact d5
        have c6 : v.cell? ⟨u.heap.size + 1, 3, none⟩ = some (.int .i64 (h : Int)) := by rw [newCell BV.out _ _ (by omega)]; exact d6
        have r0 : v.cell? ⟨qb, 0, none⟩ = some (.int .i64 (x : Int)) := by rw [newCell BV.out _ _ hqz]; exact q0
        have r1 : v.cell? ⟨qb, 1, none⟩ = some (.int .i64 (y : Int)) := by rw [newCell BV.out _ _ hqz]; exact q1
        have r2 : v.cell? ⟨qb, 2, none⟩ = some (.slice (some ⟨g5, 0, none⟩) D.length D.length) := by rw [newCell BV.out _ _ hqz]; exact q2
        have HVB : Hid (Below u.heap.size u v) := below_to HBU.out BV.out
        have HPC : Hid (∀ j, j < C.length → v.cell? ⟨b, o + j, none⟩ = some (.int .u8 (C.getD j 0 : Nat))) := fun j hj => by rw [newCell HVB.out _ _ HBL.out]; exact HCE.out j hj
        have HQC : Hid (∀ j, j < C.length → v.cell? ⟨g5, j, none⟩ = some (.int .u8 (D.getD j 0 : Nat))) := fun j hj => (HRq.out.to BV.out).cell j (by rw [HDL.out]; exact hj)
        clear d0 d1 d2 d3 d4 d5 d6 q0 q1 q2 HRq HRb BV HBU K6 K7 K8 K9 K10
        go_wp2_with fail
        go_loopw [19] (fun i wr => ∃ k : Nat, k ≤ C.length ∧ i = .int .i64 k ∧ Dn v wr) (fun i _ => C.length - (intOf i).toNat)
        case atStart => exact ⟨0, Nat.zero_le _, rfl, Dn.refl _⟩
        case round =>
          obtain ⟨i, hi, rfl, hdn⟩ := hrel
          have HDn : Hid (Dn v wr) := hdn
          have a0 : wr.cell? ⟨u.heap.size, 0, none⟩ = some (.int .i64 (x : Int)) := by rw [hdn.cell]; exact c0
          have a1 : wr.cell? ⟨u.heap.size, 1, none⟩ = some (.int .i64 (y : Int)) := by rw [hdn.cell]; exact c1
          have a2 : wr.cell? ⟨u.heap.size, 2, none⟩ = some (.slice (some ⟨b, o, none⟩) C.length c) := by rw [hdn.cell]; exact c2
          have a3 : wr.cell? ⟨u.heap.size + 1, 0, none⟩ = some (.int .i64 (X : Int)) := by rw [hdn.cell]; exact c3
          have a4 : wr.cell? ⟨u.heap.size + 1, 1, none⟩ = some (.int .i64 (Y : Int)) := by rw [hdn.cell]; exact c4
          have a5 : wr.cell? ⟨u.heap.size + 1, 2, none⟩ = some (.int .i64 (w : Int)) := by rw [hdn.cell]; exact c5
          have a6 : wr.cell? ⟨u.heap.size + 1, 3, none⟩ = some (.int .i64 (h : Int)) := by rw [hdn.cell]; exact c6
          have a7 : wr.cell? ⟨qb, 2, none⟩ = some (.slice (some ⟨g5, 0, none⟩) D.length D.length) := by rw [hdn.cell]; exact r2
          clear c0 c1 c2 c3 c4 c5 c6 r0 r1 r2
          by_cases hlt : i < C.length
          · have a8 : wr.cell? ⟨b, o + i, none⟩ = some (.int .u8 (C.getD i 0 : Nat)) := by rw [hdn.cell]; exact HPC.out i hlt
            have a9 : wr.cell? ⟨g5, i, none⟩ = some (.int .u8 (D.getD i 0 : Nat)) := by rw [hdn.cell]; exact HQC.out i hlt
            have hei := HEQ.out i hlt
            obtain ⟨X', hX'⟩ : ∃ X', X' = i % x := ⟨_, rfl⟩
            obtain ⟨Y', hY'⟩ : ∃ Y', Y' = i / x := ⟨_, rfl⟩
            rw [← hX', ← hY'] at hei
            have hXl : X' < x := by rw [hX']; exact Nat.mod_lt _ hx0
            have hYl : Y' < y := by rw [hY']; exact div_of (by rw [← HL.out]; exact hlt)
            have t1 : (i : Int).tmod (x : Int) = (X' : Int) := by rw [hX']; rfl
            have t2 : (i : Int).tdiv (x : Int) = (Y' : Int) := by rw [hY']; rfl
            have t3 : (i : Int) % (x : Int) = (X' : Int) := by rw [hX']; rfl
            have t4 : (i : Int) / (x : Int) = (Y' : Int) := by rw [hY']; rfl
            have t5 : ¬ (x : Int) = 0 := by omega
            have t6 : IntKind.i64.wrap (Y' : Int) = (Y' : Int) := by rw [IntKind.wrap_i64]; omega
            have t7 : ¬ x = 0 := by omega
            have t8 : (X : Int) + (w : Int) ≤ 512 := by omega
            have t9 : (Y : Int) + (h : Int) ≤ 512 := by omega
            have b0 : 0 ≤ (i : Int) := by omega
            have b1 : (i : Int) < (C.length : Int) := by omega
            have b2 : (i : Int) < (D.length : Int) := by have := HDL.out; omega
            generalize D.getD i 0 = p1 at *
            generalize C.getD i 0 = p2 at *
            have HEI : Hid (¬ (X ≤ X' ∧ X' < X + w ∧ Y ≤ Y' ∧ Y' < Y + h) → p1 = p2) := hei
            have HX' : Hid _ := hX'
            have HY' : Hid _ := hY'
            clear hei hX' hY' hdn
            rcases (show ((X : Int) ≤ (X' : Int) ∧ (X' : Int) < (X : Int) + (w : Int) ∧ (Y : Int) ≤ (Y' : Int) ∧ (Y' : Int) < (Y : Int) + (h : Int)) ∨ ((X' : Int) < (X : Int)) ∨ ((X : Int) ≤ (X' : Int) ∧ (X : Int) + (w : Int) ≤ (X' : Int)) ∨ ((X : Int) ≤ (X' : Int) ∧ (X' : Int) < (X : Int) + (w : Int) ∧ (Y' : Int) < (Y : Int)) ∨ ((X : Int) ≤ (X' : Int) ∧ (X' : Int) < (X : Int) + (w : Int) ∧ (Y : Int) ≤ (Y' : Int) ∧ (Y : Int) + (h : Int) ≤ (Y' : Int)) by omega) with ⟨j0, j1, j2, j3⟩ | j0 | ⟨j0, j1⟩ | ⟨j0, j1, j2⟩ | ⟨j0, j1, j2, j3⟩
            · go_wp2_with fail
              go_quiet (fail)
              go_wp2_with fail
              go_quiet (fail)
              go_wp2_with fail
              go_roundw
              case rel => exact ⟨i + 1, by omega, by go_num, HDn.out.drewN _⟩
              case measure => simp [intOf]; omega
            · have hno : p1 = p2 := HEI.out (fun q => by omega)
              have hno' : ((p1 : Int) != (p2 : Int)) = false := by simp [hno]
              have HNO : Hid _ := hno
              clear hno
              go_wp2_with fail
              go_quiet (fail)
              go_wp2_with fail
              go_quiet (fail)
              go_wp2_with fail
              go_roundw
              case rel => exact ⟨i + 1, by omega, by go_num, HDn.out.drewN _⟩
              case measure => simp [intOf]; omega
            · have hno : p1 = p2 := HEI.out (fun q => by omega)
              have hno' : ((p1 : Int) != (p2 : Int)) = false := by simp [hno]
              have HNO : Hid _ := hno
              clear hno
              go_wp2_with fail
              go_quiet (fail)
              go_wp2_with fail
              go_quiet (fail)
              go_wp2_with fail
              go_roundw
              case rel => exact ⟨i + 1, by omega, by go_num, HDn.out.drewN _⟩
              case measure => simp [intOf]; omega
            · have hno : p1 = p2 := HEI.out (fun q => by omega)
              have hno' : ((p1 : Int) != (p2 : Int)) = false := by simp [hno]
              have HNO : Hid _ := hno
              clear hno
              go_wp2_with fail
              go_quiet (fail)
              go_wp2_with fail
              go_quiet (fail)
              go_wp2_with fail
              go_roundw
              case rel => exact ⟨i + 1, by omega, by go_num, HDn.out.drewN _⟩
              case measure => simp [intOf]; omega
            · have hno : p1 = p2 := HEI.out (fun q => by omega)
              have hno' : ((p1 : Int) != (p2 : Int)) = false := by simp [hno]
              have HNO : Hid _ := hno
              clear hno
              go_wp2_with fail
              go_quiet (fail)
              go_wp2_with fail
              go_quiet (fail)
              go_wp2_with fail
              go_roundw
              case rel => exact ⟨i + 1, by omega, by go_num, HDn.out.drewN _⟩
              case measure => simp [intOf]; omega
          · go_wp2_with fail
            go_ret
            exact ⟨rfl, below_to HVB.out HDn.out.below⟩
  · rw [ck_no hp]
    have HP : Hid (¬ POk W H C) := hp
    clear hp
    go_wp2_with fail
    refine (cut_bad HP.out).mono ?_
    rintro e w3 ⟨rfl, hb⟩
    have HB3 : Hid (Below u.heap.size u w3) := below_to HB2.out hb
    clear hb
    go_wp2_with fail
    go_ret
    exact ⟨rfl, HB3.out⟩

end Go.Proofs.Ytlgfkkegehpllaa
