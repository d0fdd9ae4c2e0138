/- DERIVED. The walks of the document's own reader: Align, Uvlc, Leb. -/
import Derived.Test.YtiheldakkpbkgaaRfA
namespace Go.Proofs.Ytiheldakkpbkgaa
open Go.RowKit

theorem num_zero_bits (zs : List Nat) (p : Nat) : ∀ n, num zs p n = 0 ↔ ∀ j, j < n → bitAt zs (p + j) = 0 := by
  intro n
  induction n with
  | zero => simp [num]
  | succ n ih =>
    rw [num]
    constructor
    · intro h j hj
      by_cases e : j = n
      · subst e; omega
      · exact (ih.1 (by omega)) j (by omega)
    · intro h
      have h1 := ih.2 (fun j hj => h j (by omega))
      have h2 := h n (by omega)
      omega

set_option maxHeartbeats 1000000 in
theorem align_rf {w : World} {x g c : Nat} {zs : List Nat} {p : Nat} (h : Rf w x g c zs p) :
    Calls Try.prog 48 #[.pointer (some ⟨x, 0, none⟩)] w fun e w' => e = .returned (.int .i64 (rAlign zs p).1) ∧ Rf w' x g c zs (rAlign zs p).2 ∧ Kp x w w' := by
  have hlen := h.len
  have hbnd := h.bnd
  have hp := h.place
  have ht := h.thaw
  have hd := h.data
  have hcap := h.cap
  obtain ⟨gap, hgap⟩ : ∃ gap, gap = (p + 7) / 8 * 8 - p := ⟨_, rfl⟩
  have hg7 : gap ≤ 7 := by omega
  have hgb : p + gap ≤ 8 * zs.length := by omega
  have hg8 : (p + gap) % 8 = 0 := by omega
  have hgl : ∀ j, j < gap → ¬ (p + j) % 8 = 0 := fun j hj => by omega
  rw [rAlign, ← hgap, show (p + 7) / 8 * 8 = p + gap from by omega]
  have HL : Hid (∀ j, j < gap → ¬ (p + j) % 8 = 0) := hgl
  have HC : Hid (∀ i, i < 8 * zs.length → w.cell? ⟨g, i, none⟩ = some (.int .i64 (bitAt zs i : Nat))) := h.cells
  have HZ : Hid (num zs p gap = 0 ↔ ∀ j, j < gap → bitAt zs (p + j) = 0) := num_zero_bits zs p gap
  clear hgap hgl
  go_enter Try.func48, Try.ntmps48
  go_wp2_with fail
  go_loop [3] (fun v => ∃ k : Nat, k ≤ gap ∧ v = .int .i64 ((p + k : Nat) : Int) ∧ Hid (∀ j, j < k → bitAt zs (p + j) = 0)) (fun v => gap - ((intOf v).toNat - p))
  case atStart => exact ⟨0, Nat.zero_le _, rfl, fun j hj => by omega⟩
  case round =>
    obtain ⟨k, hk, rfl, HK⟩ := hrel
    by_cases hlt : k < gap
    · have hc1 := HC.out (p + k) (by omega)
      have hbl := bitAt_lt zs (p + k)
      have hm := HL.out k hlt
      by_cases hb1 : bitAt zs (p + k) = 1
      · have hne : ¬ num zs p gap = 0 := fun e => by have := HZ.out.1 e k hlt; omega
        rw [hb1] at hc1
        go_wp2_with fail
        go_ret
        try rw [if_neg hne]
        exact ⟨rfl, h, Kp.refl _ _⟩
      · have hb0 : bitAt zs (p + k) = 0 := by omega
        rw [hb0] at hc1
        go_wp2_with fail
        go_round
        case rel => exact ⟨k + 1, by omega, by go_num, fun j hj => by
          by_cases e : j = k
          · subst e; exact hb0
          · exact HK.out j (by omega)⟩
        case measure => simp [intOf]; omega
    · obtain rfl : k = gap := by omega
      have he : num zs p k = 0 := HZ.out.2 HK.out
      go_wp2_with fail
      go_ret
      try rw [if_pos he]
      exact ⟨rfl, h.put (by omega) (by omega), Kp.set _ _ _ _⟩

end Go.Proofs.Ytiheldakkpbkgaa
