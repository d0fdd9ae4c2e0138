/- DERIVED. The statements' own 'spoil' and 'told'. -/
import Derived.Test.YtlgfkkegehpllaaQc
namespace Go.Proofs.Ytlgfkkegehpllaa
open Go.RowKit

theorem Rw.setInt {w : World} {g : Nat} {C : List Nat} (h : Rw w g C) (k : Nat) {e : Int} (he : 0 ≤ e) : Rw (w.setCell ⟨g, k, none⟩ (.int .u8 e)) g (C.set k e.toNat) := by
  have := h.set k e.toNat
  rwa [Int.toNat_of_nonneg he] at this
def SpInv (V : World) (g n : Nat) (iv : Value) (wr : World) : Prop := ∃ (k : Nat) (C : List Nat), k ≤ n ∧ iv = .int .i64 k ∧ C.length = n ∧ Rw wr g C ∧ Kf g V wr

set_option maxRecDepth 100000 in
set_option maxHeartbeats 2000000 in
theorem spoil_rw {w : World} {g c : Nat} {C : List Nat} {W H : Int} (h : Rw w g C) (hl : C.length ≤ 140737488355328) :
    Calls Try.prog 50 #[.agg #[.int .i64 W, .int .i64 H, .slice (some ⟨g, 0, none⟩) C.length c]] w fun e w' => e = .returned (.tuple #[]) ∧ Kf g w w' := by
  obtain ⟨n, hn⟩ : ∃ n, n = C.length := ⟨_, rfl⟩
  rw [← hn]
  obtain ⟨V, hV⟩ : ∃ V, V = w.alloc (.cells #[.int .i64 W, .int .i64 H, .slice (some ⟨g, 0, none⟩) n c] 24) := ⟨_, rfl⟩
  have HBV : Hid (Below w.heap.size w V) := by unfold Hid; rw [hV]; exact from_alloc _ _
  have HR : Hid (Rw V g C) := h.to HBV.out
  have hg : g < w.heap.size := h.lt
  have HZ : Hid (V.heap.size = w.heap.size + 1) := by unfold Hid; rw [hV]; simp
  have HC2 : Hid (V.cell? ⟨w.heap.size, 2, none⟩ = some (.slice (some ⟨g, 0, none⟩) n c)) := by unfold Hid; rw [hV]; simp
  have n1 : (n : Int) ≤ 140737488355328 := by omega
  have HN : Hid _ := hn
  have HV : Hid _ := hV
  clear h hl hn hV
  go_enter Try.func50, Try.ntmps50
  go_wp2_with fail
  rw [← HV.out]
  clear HV
  go_loopw [2] (fun i wr => SpInv V g n i wr) (fun i _ => n - (intOf i).toNat)
  case atStart => exact ⟨0, C, Nat.zero_le _, rfl, HN.out.symm, HR.out, Kf.refl _ _⟩
  case round =>
    obtain ⟨k, B, hk, rfl, hB, hr, hkf⟩ := hrel
    have hz := HZ.out
    have q2 : wr.cell? ⟨w.heap.size, 2, none⟩ = some (.slice (some ⟨g, 0, none⟩) n c) := by rw [hkf.cell _ _ (by omega) (by omega)]; exact HC2.out
    have HR2 : Hid _ := hr
    have HK : Hid _ := hkf
    have HB : Hid _ := hB
    by_cases hlt : k < n
    · have c1 := hr.cell k (by omega)
      have c2 := hr.thaw k
      generalize B.getD k 0 = old at c1
      have b0 : 0 ≤ (k : Int) := by omega
      have b1 : (k : Int) < (n : Int) := by omega
      clear hr hkf hB
      go_wp2_with fail
      go_region
      all_goals
        go_wp2_with fail
        go_roundw
        case rel =>
          refine ⟨k + 1, _, by omega, by go_num, ?_, HR2.out.drew.setInt k ?_, HK.out.drew.kb (Kb.setCell _ _ _ _)⟩
          · rw [List.length_set]; exact HB.out
          · unfold bits
            first | (rw [IntKind.wrap_u8]; exact Int.emod_nonneg _ (by decide)) | (simp only [IntKind.wrap_u8]; exact Int.emod_nonneg _ (by decide))
        case measure => simp [intOf]; omega
    · clear hr hkf hB
      go_wp2_with fail
      go_end0
      exact ⟨rfl, ⟨HK.out.os.trans HBV.out.os, HK.out.tape.trans HBV.out.tape, HK.out.output.trans HBV.out.output, by have := HK.out.size; omega, fun i hi hig => (HK.out.block i (by omega) hig).trans (HBV.out.block i hi)⟩⟩

set_option maxHeartbeats 1000000 in
theorem spoil_nil {w : World} {a : Option Addr} {c : Nat} {W H : Int} :
    Calls Try.prog 50 #[.agg #[.int .i64 W, .int .i64 H, .slice a 0 c]] w fun e w' => e = .returned (.tuple #[]) ∧ Below w.heap.size w w' := by
  go_enter Try.func50, Try.ntmps50
  go_wp2_with fail
  go_loop [2] (fun i => i = .int .i64 0) (fun _ => 0)
  case atStart => rfl
  case round =>
    subst hrel
    go_wp2_with fail
    go_end0
    exact ⟨rfl, from_alloc _ _⟩

theorem Kf.join {g : Nat} {u v w : World} (hb : Below u.heap.size u v) (h : Kf g v w) : Kf g u w := ⟨h.os.trans hb.os, h.tape.trans hb.tape, h.output.trans hb.output, Nat.le_trans hb.size h.size, fun i hi hig => (h.block i (Nat.lt_of_lt_of_le hi hb.size) hig).trans (hb.block i hi)⟩
theorem Kf.of {u v : World} (g : Nat) (hb : Below u.heap.size u v) : Kf g u v := (Kf.refl g u).step hb

set_option maxRecDepth 100000 in
set_option maxHeartbeats 1000000 in
theorem told_rw {u : World} {g c d : Nat} {b : Option Addr} {C : List Nat} {W H e : Int} (h : Rw u g C) (h2 : Sl u .u8 b C) (hl : C.length ≤ 140737488355328) :
    Calls Try.prog 20 #[.agg #[.int .i64 W, .int .i64 H, .slice (some ⟨g, 0, none⟩) C.length c], .int .i64 e, .agg #[.int .i64 W, .int .i64 H, .slice b C.length d], .int .i64 e] u fun r w' => r = .returned (.bool true) ∧ Kf g u w' := by
  have HR : Hid (Rw u g C) := h
  have HS : Hid (Sl u .u8 b C) := h2
  have he : (e == e) = true := by simp
  clear h h2
  go_enter Try.func20, Try.ntmps20
  go_wp2_with fail
  refine (rsame_any (HR.out.to (to_alloc (from_alloc _ _) _)).sl (HS.out.to (to_alloc (from_alloc _ _) _)) hl hl).mono ?_
  rintro r w1 ⟨rfl, hb⟩
  rw [smB_eq, eqB_self]
  have d0 : w1.cell? ⟨u.heap.size, 0, none⟩ = some (.int .i64 W) := by rw [newCell hb _ _ (by simp; omega)]; simp [go_sem]
  have d1 : w1.cell? ⟨u.heap.size, 1, none⟩ = some (.int .i64 H) := by rw [newCell hb _ _ (by simp; omega)]; simp [go_sem]
  have d2 : w1.cell? ⟨u.heap.size, 2, none⟩ = some (.slice (some ⟨g, 0, none⟩) C.length c) := by rw [newCell hb _ _ (by simp; omega)]; simp [go_sem]
  have HB : Hid (Below u.heap.size u w1) := below_to (to_alloc (from_alloc _ _) _) hb
  clear hb
  go_wp2_with fail
  refine (spoil_rw (HR.out.to HB.out) hl).mono ?_
  rintro r w2 ⟨rfl, hk⟩
  have HK : Hid (Kf g u w2) := Kf.join HB.out hk
  clear hk
  go_wp2_with fail
  go_ret
  exact ⟨rfl, HK.out⟩

set_option maxRecDepth 100000 in
set_option maxHeartbeats 1000000 in
theorem told_nil {u : World} {a b : Option Addr} {c d : Nat} {W H e : Int} :
    Calls Try.prog 20 #[.agg #[.int .i64 W, .int .i64 H, .slice a 0 c], .int .i64 e, .agg #[.int .i64 W, .int .i64 H, .slice b 0 d], .int .i64 e] u fun r w' => r = .returned (.bool true) ∧ Below u.heap.size u w' := by
  have he : (e == e) = true := by simp
  go_enter Try.func20, Try.ntmps20
  go_wp2_with fail
  refine (rsame_any (C := []) (D := []) (Sl.nil _ _ _) (Sl.nil _ _ _) (by simp) (by simp)).mono ?_
  rintro r w1 ⟨rfl, hb⟩
  rw [smB_eq, eqB_self]
  have d0 : w1.cell? ⟨u.heap.size, 0, none⟩ = some (.int .i64 W) := by rw [newCell hb _ _ (by simp; omega)]; simp [go_sem]
  have d1 : w1.cell? ⟨u.heap.size, 1, none⟩ = some (.int .i64 H) := by rw [newCell hb _ _ (by simp; omega)]; simp [go_sem]
  have d2 : w1.cell? ⟨u.heap.size, 2, none⟩ = some (.slice a 0 c) := by rw [newCell hb _ _ (by simp; omega)]; simp [go_sem]
  have HB : Hid (Below u.heap.size u w1) := below_to (to_alloc (from_alloc _ _) _) hb
  clear hb
  go_wp2_with fail
  refine spoil_nil.mono ?_
  rintro r w2 ⟨rfl, hb⟩
  have HB2 : Hid (Below u.heap.size u w2) := below_to HB.out hb
  clear hb
  go_wp2_with fail
  go_ret
  exact ⟨rfl, HB2.out⟩

end Go.Proofs.Ytlgfkkegehpllaa
