/- DERIVED. The walks of bytes.TrimRight (for one byte 0) and of an encoder's Bytes. -/
import Derived.Test.YtkmnpechhdendaaDoorL2EnC
namespace Go.Proofs.YtkmnpechhdendaaDoor.L2
open Go.RowKit

/-- how many bytes there are without the noughts at the end -/
def tl (ys : List Nat) : Nat → Nat
  | 0 => 0
  | n + 1 => if ys.getD n 0 = 0 then tl ys n else n + 1
theorem tl_ok (ys : List Nat) : ∀ n, tl ys n ≤ n ∧ (∀ i, tl ys n ≤ i → i < n → ys.getD i 0 = 0) ∧ (0 < tl ys n → ys.getD (tl ys n - 1) 0 ≠ 0) := by
  intro n
  induction n with
  | zero => simp [tl]
  | succ n ih =>
    rw [tl]
    split
    · rename_i h
      refine ⟨by omega, fun i h1 h2 => ?_, ih.2.2⟩
      by_cases e : i = n
      · rw [e]; exact h
      · exact ih.2.1 i h1 (by omega)
    · rename_i h
      exact ⟨Nat.le_refl _, fun i h1 h2 => by omega, fun _ => by simpa using h⟩

set_option maxRecDepth 100000 in
set_option maxHeartbeats 1000000 in
theorem trimByte_any {w : World} {b cap n : Nat} {ys : List Nat} (hc : ∀ j, j < n → w.cell? ⟨b, j, none⟩ = some (.int .u8 (ys.getD j 0 : Nat))) (hl : n ≤ 1099511627776) (hn : n ≤ cap) :
    Calls Tryd.prog 62 #[.slice (some ⟨b, 0, none⟩) n cap, .int .u8 0] w fun e w' => e = .returned (.slice (some ⟨b, 0, none⟩) (tl ys n) cap) ∧ w' = w := by
  have HC : Hid _ := hc
  clear hc
  go_enter Tryd.func62, Tryd.ntmps62
  go_wp2_with fail
  go_loop [0] (fun v => ∃ m : Nat, v = .slice (some ⟨b, 0, none⟩) m cap ∧ m ≤ n ∧ Hid (tl ys m = tl ys n)) (fun v => match v with | .slice _ m _ => m | _ => 0)
  case atStart => exact ⟨n, rfl, Nat.le_refl _, rfl⟩
  case round =>
    obtain ⟨m, rfl, hm, HT⟩ := hrel
    rcases m with _ | m
    · go_wp2_with fail
      go_ret
      have := HT.out
      rw [tl] at this
      exact ⟨by rw [← this]; rfl, rfl⟩
    · have hcm := HC.out m (by omega)
      have h0 : ((0 : Int) < ((m + 1 : Nat) : Int)) := by omega
      by_cases hz : ys.getD m 0 = 0
      · rw [hz] at hcm
        go_wp2_with fail
        go_round
        case rel =>
          have := HT.out
          rw [tl, if_pos hz] at this
          exact ⟨m, by simp, by omega, this⟩
        case measure => simp
      · have hz' : (((ys.getD m 0 : Nat) : Int) == 0) = false := by rw [beq_eq_false_iff_ne]; omega
        have HZ : Hid _ := hz
        clear hz
        generalize hy : ys.getD m 0 = z at *
        have HY : Hid _ := hy
        clear hy
        go_wp2_with fail
        go_ret
        have := HT.out
        have hz := HZ.out
        have hy := HY.out
        rw [tl, if_neg (by rw [hy]; exact hz)] at this
        exact ⟨by rw [← this]; rfl, rfl⟩

set_option maxRecDepth 100000 in
set_option maxHeartbeats 1000000 in
theorem trim_any {w : World} {b cap n : Nat} {ys : List Nat} (hc : ∀ j, j < n → w.cell? ⟨b, j, none⟩ = some (.int .u8 (ys.getD j 0 : Nat))) (hl : n ≤ 1099511627776) (hn : n ≤ cap) (h0 : 0 < n) :
    Calls Tryd.prog 46 #[.slice (some ⟨b, 0, none⟩) n cap, .string { data := #[0] }] w fun e w' => e = .returned (.slice (some ⟨b, 0, none⟩) (tl ys n) cap) ∧ w' = w := by
  have HC : Hid _ := hc
  have HL : Hid _ := hl
  have HN : Hid _ := hn
  have h0' : ((n : Int) == 0) = false := by rw [beq_eq_false_iff_ne]; omega
  clear hc hl hn h0
  go_enter Tryd.func46, Tryd.ntmps46
  go_wp2_with fail
  refine (trimByte_any HC.out HL.out HN.out).mono ?_; rintro e w1 ⟨rfl, rfl⟩
  go_wp2_with fail
  go_ret
  exact ⟨rfl, rfl⟩

end Go.Proofs.YtkmnpechhdendaaDoor.L2
