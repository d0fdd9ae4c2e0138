/- DERIVED. The walk of (*bits.Reader).look. -/
import Derived.Test.YtiheldakkpbkgaaRdA
import Derived.Test.YtiheldakkpbkgaaMa
namespace Go.Proofs.Ytiheldakkpbkgaa
open Go.RowKit

set_option maxHeartbeats 400000 in
theorem look_some (r g c : Nat) (zs : List Nat) (p n : Nat) (w : World) (hd : w.cell? ⟨r, 1, none⟩ = some (.slice (some ⟨g, 0, none⟩) zs.length c))
    (hc : ∀ i, i < zs.length → w.cell? ⟨g, i, none⟩ = some (.int .u8 (zs.getD i 0 : Nat))) (hz : ∀ i, zs.getD i 0 < 256)
    (hl : zs.length ≤ 140737488355328) (hlc : zs.length ≤ c) (hn : n ≤ 32) (hb : p + n ≤ 8 * zs.length) :
    Calls Try.prog 54 #[.pointer (some ⟨r, 0, none⟩), .int .i64 p, .int .i64 n] w fun e w' => e = .returned (.int .u32 (num zs p n : Nat)) ∧ w' = w := by
  rw [← look_num zs hz]
  by_cases hcp : c = p / 8
  all_goals
    obtain ⟨m, hm⟩ : ∃ m, m = (p + n + 7) / 8 - p / 8 := ⟨_, rfl⟩
    have hm5 : m ≤ 5 := by omega
    have hml : p / 8 + m ≤ zs.length := by omega
    have ha : ∀ k, k ≤ m → acc zs (p / 8) k < 2 ^ 40 := fun k hk => Nat.lt_of_lt_of_le (acc_lt zs hz (p / 8) k) (Nat.pow_le_pow_right (by omega) (by omega))
    have ha4 : ∀ k, k < m → acc zs (p / 8) k < 4294967296 := fun k hk => Nat.lt_of_lt_of_le (acc_lt zs hz (p / 8) k) (show 2 ^ (8 * k) ≤ 2 ^ 32 from Nat.pow_le_pow_right (by omega) (by omega))
    have HA : Hid (∀ k, k ≤ m → acc zs (p / 8) k < 2 ^ 40) := ha
    have HB : Hid (∀ k, k < m → acc zs (p / 8) k < 4294967296) := ha4
    have HZ : Hid (∀ i, zs.getD i 0 < 256) := hz
    have HC : Hid (∀ i, i < zs.length → w.cell? ⟨g, i, none⟩ = some (.int .u8 (zs.getD i 0 : Nat))) := hc
    clear ha ha4 hz hc
    go_enter Try.func54, Try.ntmps54
    go_wp2
    go_loop [9, 27] (fun v i => ∃ k : Nat, k ≤ m ∧ i = .int .i64 k ∧ v = .int .u64 (acc zs (p / 8) k : Nat)) (fun _ i => m - (intOf i).toNat)
    case atStart => exact ⟨0, Nat.zero_le _, rfl, rfl⟩
    case round =>
      obtain ⟨k, hk, rfl, rfl⟩ := hrel
      by_cases hlt : k < m
      · have hc1 := HC.out (p / 8 + k) (by omega)
        have hz1 := HZ.out (p / 8 + k)
        have ST := look_step _ _ (HB.out k hlt) hz1
        have HS : Hid _ := ST
        clear ST
        go_wp2
        all_goals
          go_round
          case rel => exact ⟨k + 1, by omega, by go_num, by have e := HS.out; simp only [List.getD_eq_getElem?_getD] at e; rw [e]; rfl⟩
          case measure => simp [intOf]; omega
      · have hkm : k = m := by omega
        have HE : Hid _ := look_end _ ((p + n + 7) / 8 * 8 - (p + n)) n (HA.out k hk) hn
        go_wp2
        go_ret
        refine ⟨ret_int ?_, rfl⟩
        have e := HE.out
        rw [hkm] at *
        rw [← hm]
        exact e

end Go.Proofs.Ytiheldakkpbkgaa
