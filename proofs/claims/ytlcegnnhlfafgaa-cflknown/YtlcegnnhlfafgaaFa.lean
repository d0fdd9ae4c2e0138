/- DERIVED. The walks of luma and Bring's sides; what CflMean does with samples. -/
import Derived.Test.YtlcegnnhlfafgaaEc
namespace Go.Proofs.Ytlcegnnhlfafgaa
open Go.RowKit

/-- samples out of any -/
def luF (C : List Nat) (i : Nat) : Nat := if 0 < C.length then C.getD (i % C.length) 0 else 5 * i % 256
def luL (C : List Nat) (m k : Nat) : List Nat := (List.range m).map fun i => if i < k then luF C i else 0
theorem luL_len (C : List Nat) (m k : Nat) : (luL C m k).length = m := by simp [luL]
theorem luL_get (C : List Nat) (m k i : Nat) (h : i < m) : (luL C m k).getD i 0 = if i < k then luF C i else 0 := by simp [luL, h]
theorem luL_zero (C : List Nat) (m : Nat) : luL C m 0 = List.replicate m 0 := by
  refine list_eq_of_getD (by rw [luL_len, List.length_replicate]) fun j hj => ?_
  rw [luL_len] at hj
  rw [luL_get _ _ _ _ hj]; simp [hj]
theorem luL_set (C : List Nat) (m k : Nat) (h : k < m) : (luL C m k).set k (luF C k) = luL C m (k + 1) := by
  refine list_eq_of_getD (by rw [List.length_set, luL_len, luL_len]) fun j hj => ?_
  rw [List.length_set, luL_len] at hj
  rw [nat_set _ _ _ _ (by rw [luL_len]; exact h), luL_get _ _ _ _ hj, luL_get _ _ _ _ hj]
  by_cases e : k = j
  · subst e; rw [if_pos rfl, if_pos (show k < k + 1 by omega)]
  · rw [if_neg e]
    by_cases g : j < k
    · rw [if_pos g, if_pos (show j < k + 1 by omega)]
    · rw [if_neg g, if_neg (show ¬ j < k + 1 by omega)]
theorem luF_lt {C : List Nat} (h : Byt C) (i : Nat) : luF C i < 256 := by
  unfold luF; split
  · exact h _
  · omega
theorem luL_byt {C : List Nat} (h : Byt C) (m k : Nat) : Byt (luL C m k) := fun j => by
  by_cases hj : j < m
  · rw [luL_get _ _ _ _ hj]; split
    · exact luF_lt h j
    · omega
  · rw [List.getD_eq_getElem?_getD, List.getElem?_eq_none (by rw [luL_len]; omega)]; exact Nat.zero_lt_succ _

set_option maxRecDepth 100000 in
set_option maxHeartbeats 1000000 in
theorem luma_any {w : World} {a : Option Addr} {c x y m : Nat} {C : List Nat} (hs : Sl w .u8 a C) (hC : C.length ≤ 140737488355328) (hx : Sd x) (hy : Sd y) (hm : m = 4 * x * y) :
    Calls Try.prog 18 #[.slice a C.length c, .int .i64 (x : Int), .int .i64 (y : Int)] w fun e w' => Bn w w' e (luL C m m) m := by
  obtain ⟨n, hn, eq, q0, q1⟩ := side_sq hx hy
  have e4 : 4 * (x : Int) * (y : Int) = (m : Int) := by rw [hm, Nat.mul_assoc, ← hn, Int.mul_assoc, eq]; omega
  have hm4 : m = 4 * n := by rw [hm, Nat.mul_assoc, ← hn]
  have m1 : (m : Int) ≤ 4096 := by omega
  have x0 : (4 : Int) ≤ (x : Int) := by have := hx.lo; omega
  have x1 : (x : Int) ≤ 32 := by have := hx.hi; omega
  have hmk := fun u => mk_row (n := m) (by omega) u
  have HR : Hid (Rw (w.alloc (.cells (madeCells #[.int .u8 0] m) 5)) w.heap.size (luL C m 0)) := by rw [luL_zero]; exact Rw.made w m
  have HB : Hid (Below w.heap.size w (w.alloc (.cells (madeCells #[.int .u8 0] m) 5))) := from_alloc _ _
  have HSl : Hid (Sl w .u8 a C) := hs
  have HM4 : Hid (m = 4 * n) := hm4
  clear hs hx hy hm hn eq hm4
  by_cases h0 : 0 < C.length
  · obtain ⟨b, o, rfl, hbl, hc⟩ := HSl.out.form h0
    have HC : Hid (∀ t : World, Below w.heap.size w t → ∀ j, j < C.length → t.cell? ⟨b, o + j, none⟩ = some (.int .u8 (C.getD j 0 : Nat))) := fun t ht j hj => by rw [newCell ht _ _ hbl]; exact hc j hj
    have HU : Hid (∀ k, luF C k = C.getD (k % C.length) 0 ∧ k % C.length < C.length) := fun k => ⟨by unfold luF; rw [if_pos h0], Nat.mod_lt _ h0⟩
    have l0 : (0 : Int) < (C.length : Int) := by omega
    have lz : (C.length : Int) ≠ 0 := by omega
    clear hbl hc HSl
    go_enter Try.func18, Try.ntmps18
    go_wp2_with fail
    clear hmk
    generalize (w.alloc (.cells (madeCells #[.int .u8 0] m) 5)) = v at *
    generalize hg : w.heap.size = g at *
    have HGG : Hid (w.heap.size = g) := hg
    clear hg
    go_loopw [8] (fun i wr => ∃ k : Nat, k ≤ m ∧ i = .int .i64 k ∧ Rw wr g (luL C m k) ∧ Below g w wr) (fun i _ => m - (intOf i).toNat)
    case atStart => exact ⟨0, by omega, rfl, HR.out, HB.out⟩
    case round =>
      clear HR HB
      obtain ⟨k, hk, rfl, hr, hb⟩ := hrel
      have k0 : (0 : Int) ≤ (k : Int) := by omega
      by_cases hlt : k < m
      · have k1 : (k : Int) < (m : Int) := by omega
        have c0 := hr.cell k (by rw [luL_len]; exact hlt)
        rw [luL_get _ _ _ _ hlt, if_neg (by omega)] at c0
        have f0 := hr.thaw k
        obtain ⟨hu, hul⟩ := HU.out k
        obtain ⟨r, hrr⟩ : ∃ r, r = k % C.length := ⟨_, rfl⟩
        rw [← hrr] at hu hul
        have er : (k : Int) % (C.length : Int) = (r : Int) := by rw [hrr, Int.natCast_emod]
        have r0 : (0 : Int) ≤ (r : Int) := by omega
        have r1 : (r : Int) < (C.length : Int) := by omega
        have hbg : b ≠ g := by
          have := HGG.out
          intro e
          have h9 := HC.out w (Below.refl _ _) 0 h0
          have := World.block_lt_of_cell? w _ h9
          simp at this
          omega
        obtain ⟨z, hz⟩ : ∃ z : Int, IntKind.u8.wrap (5 * (k : Int)) = z := ⟨_, rfl⟩
        have c1 : (wr.setCell ⟨g, k, none⟩ (.int .u8 z)).cell? ⟨g, k, none⟩ = some (.int .u8 z) := World.cell?_setCell_same _ _ _ c0
        have f1 : (wr.setCell ⟨g, k, none⟩ (.int .u8 z)).frozen? ⟨g, k, none⟩ = false := by rw [World.frozen?_setCell]; exact f0
        have c2 : (wr.setCell ⟨g, k, none⟩ (.int .u8 z)).cell? ⟨b, o + r, none⟩ = some (.int .u8 (C.getD r 0 : Nat)) := by
          rw [World.cell?_setCell_other _ _ _ _ (by simp)]; exact HC.out _ hb r hul
        rw [← hu] at c2
        have HN : Hid (Rw ((wr.setCell ⟨g, k, none⟩ (.int .u8 z)).setCell ⟨g, k, none⟩ (.int .u8 (luF C k : Nat))) g (luL C m (k + 1)) ∧ Below g w ((wr.setCell ⟨g, k, none⟩ (.int .u8 z)).setCell ⟨g, k, none⟩ (.int .u8 (luF C k : Nat)))) := by
          obtain ⟨zn, rfl⟩ : ∃ zn : Nat, z = (zn : Int) := ⟨z.toNat, by rw [IntKind.wrap_u8] at hz; omega⟩
          refine ⟨?_, below_set (below_set hb (Nat.le_refl _) _) (Nat.le_refl _) _⟩
          rw [← luL_set _ _ _ hlt, ← List.set_set zn]
          exact (hr.set k zn).set k _
        clear hr hb hu hul hrr
        generalize luF C k = u at *
        go_wp2_with fail
        go_roundw
        case rel => exact ⟨k + 1, by omega, by go_num, HN.out.1, HN.out.2⟩
        case measure => simp [intOf]; omega
      · obtain rfl : k = m := by omega
        have HN : Hid (Bn w wr (.returned (.slice (some ⟨g, 0, none⟩) k k)) (luL C k k) k) := ⟨g, rfl, hr, by rw [HGG.out]; exact Nat.le_refl _, by rw [HGG.out]; exact hb⟩
        clear hr hb
        go_wp2_with fail
        go_ret
        exact HN.out
  · have HU : Hid (∀ k, luF C k = 5 * k % 256) := fun k => by unfold luF; rw [if_neg h0]
    have l0 : (C.length : Int) = 0 := by omega
    have l0n : C.length = 0 := by omega
    clear HSl
    rw [l0n]
    clear l0 hC
    go_enter Try.func18, Try.ntmps18
    go_wp2_with fail
    clear hmk
    generalize (w.alloc (.cells (madeCells #[.int .u8 0] m) 5)) = v at *
    generalize hg : w.heap.size = g at *
    have HGG : Hid (w.heap.size = g) := hg
    clear hg
    go_loopw [8] (fun i wr => ∃ k : Nat, k ≤ m ∧ i = .int .i64 k ∧ Rw wr g (luL C m k) ∧ Below g w wr) (fun i _ => m - (intOf i).toNat)
    case atStart => exact ⟨0, by omega, rfl, HR.out, HB.out⟩
    case round =>
      clear HR HB
      obtain ⟨k, hk, rfl, hr, hb⟩ := hrel
      have k0 : (0 : Int) ≤ (k : Int) := by omega
      by_cases hlt : k < m
      · have k1 : (k : Int) < (m : Int) := by omega
        have c0 := hr.cell k (by rw [luL_len]; exact hlt)
        rw [luL_get _ _ _ _ hlt, if_neg (by omega)] at c0
        have f0 := hr.thaw k
        have hz : IntKind.u8.wrap (5 * (k : Int)) = ((luF C k : Nat) : Int) := by rw [HU.out, IntKind.wrap_u8]; omega
        have HN : Hid (Rw (wr.setCell ⟨g, k, none⟩ (.int .u8 (luF C k : Nat))) g (luL C m (k + 1)) ∧ Below g w (wr.setCell ⟨g, k, none⟩ (.int .u8 (luF C k : Nat)))) :=
          ⟨by rw [← luL_set _ _ _ hlt]; exact hr.set k _, below_set hb (Nat.le_refl _) _⟩
        clear hr hb
        generalize luF C k = u at *
        go_wp2_with fail
        go_roundw
        case rel => exact ⟨k + 1, by omega, by go_num, HN.out.1, HN.out.2⟩
        case measure => simp [intOf]; omega
      · obtain rfl : k = m := by omega
        have HN : Hid (Bn w wr (.returned (.slice (some ⟨g, 0, none⟩) k k)) (luL C k k) k) := ⟨g, rfl, hr, by rw [HGG.out]; exact Nat.le_refl _, by rw [HGG.out]; exact hb⟩
        clear hr hb
        go_wp2_with fail
        go_ret
        exact HN.out

end Go.Proofs.Ytlcegnnhlfafgaa
