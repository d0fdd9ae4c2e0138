/- DERIVED. The walk of CopyInts, and of ScanContexts. -/
import Derived.Test.YtkmnpechhdendaaGreatDoorN0
import Derived.Deep.DeepCutAuto
namespace Go.Proofs.YtkmnpechhdendaaGreatDoor.L10
open Go.RowKit

/-- a copy, alone in new memory -/
def Cp (w w' : World) (e : Ending) (C : List Int) : Prop := ∃ a c, e = .returned (.slice a C.length c) ∧ Oi w' w.heap.size a C.length c C ∧ Below w.heap.size w w'

set_option maxRecDepth 100000 in
set_option maxHeartbeats 400000 in
theorem copy_some {w : World} {b o c : Nat} {C : List Int} (hc : ∀ j, j < C.length → w.cell? ⟨b, o + j, none⟩ = some (.int .i64 (C.getD j 0))) (hl : C.length ≤ 17592186043904) (h0 : 0 < C.length) :
    Calls Tryz.prog 10 #[.slice (some ⟨b, o, none⟩) C.length c] w fun e w' => Cp w w' e C := by
  obtain ⟨i, hi, hz0, hz1, hz2⟩ := info_parts Tryz.info3
  have hown : w.ownsRow w.heap.size 3 1 (.slice none 0 0) 0 [] := World.ownsRow_nil _ _ _ _
  have hnews : ∀ j u, (is C)[j]? = some u → w.cell? ((⟨b, o, none⟩ : Addr).add j) = some u := by
    intro j u hu
    have hj : j < C.length := by have := List.getElem?_eq_some_iff.1 hu; obtain ⟨h1, _⟩ := this; rw [is_length] at h1; exact h1
    rw [is_get C j hj] at hu
    rw [← hu, addr_add]
    exact hc j hj
  clear hc
  go_enter Tryz.func10, Tryz.ntmps10
  go_wp2_with (at_builtin; refine wpList_append_lies _ (by rfl) _ _ _ (by rfl) w.heap.size 3 i (.int .i64 0) 1 8 Tryz.underlying34 hi hz0 hz1 hz2 rfl (by omega) _ 0 [] (by rfl) hown ⟨b, o, none⟩ C.length c (is C) (by rfl) (by rw [is_length, Nat.mul_one]) hnews (is_one C) h0 (by unfold maxLen; omega) (by omega) (by simp) w.heap.size (by simp) ?_; intro g cap w1 hown1 hgrow hat hlt)
  go_ret
  rw [List.nil_append, Nat.zero_add] at hown1
  exact ⟨_, _, rfl, ⟨hown1⟩, (Below.refl _ _).grown hgrow (by simp) (fun k hk => by simp [Value.ownBlock] at hk)⟩

set_option maxHeartbeats 400000 in
theorem copy_none {a : Option Addr} {c : Nat} {w : World} : Calls Tryz.prog 10 #[.slice a 0 c] w fun e w' => e = .returned (.slice none 0 0) ∧ w' = w := by
  cases a with
  | none =>
    go_enter Tryz.func10, Tryz.ntmps10
    go_wp2
    go_ret
    exact ⟨rfl, rfl⟩
  | some ad =>
    go_enter Tryz.func10, Tryz.ntmps10
    go_wp2
    go_ret
    exact ⟨rfl, rfl⟩
theorem copy_any {w : World} {a : Option Addr} {c : Nat} {C : List Int} (h : Si w a C) (hl : C.length ≤ 17592186043904) :
    Calls Tryz.prog 10 #[.slice a C.length c] w fun e w' => Cp w w' e C := by
  by_cases h0 : C.length = 0
  · obtain rfl : C = [] := List.eq_nil_of_length_eq_zero h0
    refine copy_none.mono ?_
    rintro e w' ⟨rfl, rfl⟩
    exact ⟨none, 0, rfl, Oi.nil _ _, Below.refl _ _⟩
  · obtain ⟨b, o, rfl, _, hc⟩ := h.form (by omega)
    exact copy_some hc hl (by omega)

/-- two slices that hold the same, and the table -/
structure Tw (w : World) (a b : Option Addr) (L : List Int) (wr : World) : Prop where
  sa : Si wr a L
  sb : Si wr b L
  nt : Nt wr
  bel : Below w.heap.size w wr
theorem Tw.to {w : World} {a b : Option Addr} {L : List Int} {wr wr' : World} (h : Tw w a b L wr) (hb : Below wr.heap.size wr wr') : Tw w a b L wr' := ⟨h.sa.to hb, h.sb.to hb, h.nt.to hb, below_to h.bel hb⟩
theorem Tw.drewN {w : World} {a b : Option Addr} {L : List Int} {wr : World} (h : Tw w a b L wr) (k : Nat) : Tw w a b L (wr.drewN k) := h.to (below_drewN (Below.refl _ _) k)

end Go.Proofs.YtkmnpechhdendaaGreatDoor.L10
