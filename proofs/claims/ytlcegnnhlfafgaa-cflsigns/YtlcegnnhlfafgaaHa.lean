/- DERIVED. The walk of numbersOf. -/
import Derived.Test.YtlcegnnhlfafgaaFb
namespace Go.Proofs.Ytlcegnnhlfafgaa
open Go.RowKit

/-- numbers out of any -/
def noF (A : List Int) (i : Nat) : Int := if 0 < A.length then A.getD (i % A.length) 0 % 4097 - 2048 else 0
theorem noF_in (A : List Int) (i : Nat) : -2048 ≤ noF A i ∧ noF A i ≤ 2048 := by
  unfold noF; split
  · generalize A.getD (i % A.length) 0 = v; omega
  · omega
def noL (A : List Int) (n k : Nat) : List Int := (List.range n).map fun i => if i < k then noF A i else 0
theorem noL_len (A : List Int) (n k : Nat) : (noL A n k).length = n := by simp [noL]
theorem noL_get (A : List Int) (n k i : Nat) (h : i < n) : (noL A n k).getD i 0 = if i < k then noF A i else 0 := by simp [noL, h]
theorem noL_zero (A : List Int) (n : Nat) : noL A n 0 = List.replicate n 0 := by
  refine ext_getD (by rw [noL_len, List.length_replicate]) fun j hj => ?_
  rw [noL_len] at hj
  rw [noL_get _ _ _ _ hj]; simp [hj]
theorem noL_set (A : List Int) (n k : Nat) (h : k < n) : (noL A n k).set k (noF A k) = noL A n (k + 1) := by
  refine ext_getD (by rw [List.length_set, noL_len, noL_len]) fun j hj => ?_
  rw [List.length_set, noL_len] at hj
  rw [getD_set _ _ _ _ (by rw [noL_len]; exact h), noL_get _ _ _ _ hj, noL_get _ _ _ _ hj]
  by_cases e : k = j
  · subst e; rw [if_pos rfl, if_pos (show k < k + 1 by omega)]
  · rw [if_neg e]
    by_cases g : j < k
    · rw [if_pos g, if_pos (show j < k + 1 by omega)]
    · rw [if_neg g, if_neg (show ¬ j < k + 1 by omega)]
theorem noL_wi (A : List Int) (n : Nat) : wiB 2048 (noL A n n) = true := wiB_yes fun j hj => by
  rw [noL_len] at hj
  rw [noL_get _ _ _ _ hj, if_pos hj]
  exact noF_in A j
/-- numbers in new memory, alone in their block -/
def In (w w' : World) (e : Ending) (C : List Int) (n : Nat) : Prop := ∃ g, e = .returned (.slice (some ⟨g, 0, none⟩) n n) ∧ Ri 3 w' g C ∧ w.heap.size ≤ g ∧ Below w.heap.size w w'

set_option maxRecDepth 100000 in
set_option maxHeartbeats 1000000 in
theorem numbersOf_any {w : World} {a : Option Addr} {c n : Nat} {A : List Int} (hs : Si w a A) (hA : A.length ≤ 140737488355328) (hn : n ≤ 1024) :
    Calls Try.prog 20 #[.slice a A.length c, .int .i64 (n : Int)] w fun e w' => In w w' e (noL A n n) n := by
  have hmk := fun u => mk_ints (n := n) (by omega) u
  have n1 : (n : Int) ≤ 1024 := by omega
  have HR : Hid (Ri 3 (w.alloc (.cells (madeCells #[.int .i64 0] n) 3)) w.heap.size (noL A n 0)) := by rw [noL_zero]; exact Ri.made 3 w n rfl
  have HB : Hid (Below w.heap.size w (w.alloc (.cells (madeCells #[.int .i64 0] n) 3))) := from_alloc _ _
  have HSl : Hid (Si w a A) := hs
  clear hs
  by_cases h0 : 0 < A.length
  · obtain ⟨b, o, rfl, hbl, hc⟩ := HSl.out.form h0
    have HC : Hid (∀ t : World, Below w.heap.size w t → ∀ j, j < A.length → t.cell? ⟨b, o + j, none⟩ = some (.int .i64 (A.getD j 0))) := fun t ht j hj => by rw [newCell ht _ _ hbl]; exact hc j hj
    have HU : Hid (∀ k, noF A k = A.getD (k % A.length) 0 % 4097 - 2048 ∧ k % A.length < A.length) := fun k => ⟨by unfold noF; rw [if_pos h0], Nat.mod_lt _ h0⟩
    have l0 : (0 : Int) < (A.length : Int) := by omega
    have lz : (A.length : Int) ≠ 0 := by omega
    clear hbl hc HSl
    go_enter Try.func20, Try.ntmps20
    go_wp2_with fail
    clear hmk
    generalize (w.alloc (.cells (madeCells #[.int .i64 0] n) 3)) = v at *
    generalize hg : w.heap.size = g at *
    have HGG : Hid (w.heap.size = g) := hg
    clear hg
    go_loopw [6] (fun i wr => ∃ k : Nat, k ≤ n ∧ i = .int .i64 k ∧ Ri 3 wr g (noL A n k) ∧ Below g w wr) (fun i _ => n - (intOf i).toNat)
    case atStart => exact ⟨0, by omega, rfl, HR.out, HB.out⟩
    case round =>
      clear HR HB
      obtain ⟨k, hk, rfl, hr, hb⟩ := hrel
      have k0 : (0 : Int) ≤ (k : Int) := by omega
      by_cases hlt : k < n
      · have k1 : (k : Int) < (n : Int) := by omega
        have c0 := hr.cell k (by rw [noL_len]; exact hlt)
        rw [noL_get _ _ _ _ hlt, if_neg (by omega)] at c0
        have f0 := hr.thaw k
        obtain ⟨hu, hul⟩ := HU.out k
        obtain ⟨r, hrr⟩ : ∃ r, r = k % A.length := ⟨_, rfl⟩
        rw [← hrr] at hu hul
        have er : (k : Int) % (A.length : Int) = (r : Int) := by rw [hrr, Int.natCast_emod]
        have r0 : (0 : Int) ≤ (r : Int) := by omega
        have r1 : (r : Int) < (A.length : Int) := by omega
        have c2 := HC.out _ hb r hul
        have HN : Hid (Ri 3 (wr.setCell ⟨g, k, none⟩ (.int .i64 (noF A k))) g (noL A n (k + 1)) ∧ Below g w (wr.setCell ⟨g, k, none⟩ (.int .i64 (noF A k)))) :=
          ⟨by rw [← noL_set _ _ _ hlt]; exact hr.set k _, below_set hb (Nat.le_refl _) _⟩
        rw [hu] at HN
        clear hr hb hu hul hrr
        generalize A.getD r 0 = v at *
        have HM : Hid (∀ u : World, Calls Try.prog 17 #[.int .i64 v, .int .i64 4097] u fun e w' => e = .returned (.int .i64 (v % 4097)) ∧ u = w') := fun u => bring_any (by omega) (by omega)
        have v0 := Int.emod_nonneg v (b := 4097) (by omega)
        have v1 := Int.emod_lt_of_pos v (b := 4097) (by omega)
        generalize v % 4097 = vm at *
        go_wp2_with (go_at_call 17; refine (HM.out _).mono ?_; rintro e w' ⟨rfl, rfl⟩)
        go_roundw
        case rel => exact ⟨k + 1, by omega, by go_num, HN.out.1, HN.out.2⟩
        case measure => simp [intOf]; omega
      · obtain rfl : k = n := by omega
        have HN : Hid (In w wr (.returned (.slice (some ⟨g, 0, none⟩) k k)) (noL A k k) k) := ⟨g, rfl, hr, by rw [HGG.out]; exact Nat.le_refl _, by rw [HGG.out]; exact hb⟩
        clear hr hb
        go_wp2_with fail
        go_ret
        exact HN.out
  · have HU : Hid (∀ k, noF A k = 0) := fun k => by unfold noF; rw [if_neg h0]
    have l0n : A.length = 0 := by omega
    clear HSl
    rw [l0n]
    clear hA h0
    go_enter Try.func20, Try.ntmps20
    go_wp2_with fail
    clear hmk
    generalize (w.alloc (.cells (madeCells #[.int .i64 0] n) 3)) = v at *
    generalize hg : w.heap.size = g at *
    have HGG : Hid (w.heap.size = g) := hg
    clear hg
    go_loopw [6] (fun i wr => ∃ k : Nat, k ≤ n ∧ i = .int .i64 k ∧ Ri 3 wr g (noL A n k) ∧ Below g w wr) (fun i _ => n - (intOf i).toNat)
    case atStart => exact ⟨0, by omega, rfl, HR.out, HB.out⟩
    case round =>
      clear HR HB
      obtain ⟨k, hk, rfl, hr, hb⟩ := hrel
      have k0 : (0 : Int) ≤ (k : Int) := by omega
      by_cases hlt : k < n
      · have k1 : (k : Int) < (n : Int) := by omega
        have HN : Hid (Ri 3 wr g (noL A n (k + 1)) ∧ Below g w wr) := ⟨by
          have e : noL A n (k + 1) = noL A n k := by
            rw [← noL_set _ _ _ hlt, HU.out]
            refine ext_getD (by rw [List.length_set]) fun j hj => ?_
            rw [List.length_set, noL_len] at hj
            rw [getD_set _ _ _ _ (by rw [noL_len]; exact hlt)]
            split
            · rename_i e; subst e; rw [noL_get _ _ _ _ hj, if_neg (by omega)]
            · rfl
          rw [e]; exact hr, hb⟩
        clear hr hb
        go_wp2_with fail
        go_roundw
        case rel => exact ⟨k + 1, by omega, by go_num, HN.out.1, HN.out.2⟩
        case measure => simp [intOf]; omega
      · obtain rfl : k = n := by omega
        have HN : Hid (In w wr (.returned (.slice (some ⟨g, 0, none⟩) k k)) (noL A k k) k) := ⟨g, rfl, hr, by rw [HGG.out]; exact Nat.le_refl _, by rw [HGG.out]; exact hb⟩
        clear hr hb
        go_wp2_with fail
        go_ret
        exact HN.out

end Go.Proofs.Ytlcegnnhlfafgaa
