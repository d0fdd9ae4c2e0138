/- DERIVED. The walk of the document's Best. -/
import Derived.Test.YtdiphgkgehpgiaaFg
namespace Go.Proofs.Ytdiphgkgehpgiaa
open Go.RowKit Ieee

def rb (o : Option Nat) : Int := match o with | some i => (i : Int) | none => -1

set_option maxRecDepth 100000 in
set_option maxHeartbeats 2000000 in
theorem rbest_any {w : World} {a : Option Addr} {c : Nat} {C : List Nat} (hs : Fl w a C) (hl : C.length ≤ 140737488355328) :
    Calls Try.prog 18 #[.slice a C.length c] w fun e w' => e = .returned (.tuple #[.int .i64 (bi (bst C C.length)), .int .i64 (be (bst C C.length))]) ∧ ∃ n : Nat, w' = w.drewN n := by
  by_cases h0 : C.length = 0
  · obtain rfl : C = [] := List.eq_nil_of_length_eq_zero h0
    simp only [List.length_nil]
    go_enter Try.func18, Try.ntmps18
    go_wp2
    go_loop [4, 5] (fun p i => i = .int .i64 0 ∧ p = .int .i64 (-1)) (fun _ _ => 0)
    case atStart => exact ⟨rfl, rfl⟩
    case round =>
      obtain ⟨rfl, rfl⟩ := hrel
      go_wp2
      go_ret2
      exact ⟨rfl, 0, rfl⟩
  obtain ⟨b, o, rfl, hbl, hc⟩ := hs.form (by omega)
  have HC : Hid (∀ m j, j < C.length → (w.drewN m).cell? ⟨b, o + j, none⟩ = some (.float .f64 (C.getD j 0))) := fun m => hc
  clear hc hs
  go_enter Try.func18, Try.ntmps18
  go_wp2
  go_loopw [4, 5] (fun p i wr => ∃ k m : Nat, k ≤ C.length ∧ i = .int .i64 k ∧ p = .int .i64 (rb (bst C k)) ∧ wr = w.drewN m) (fun _ i _ => C.length - (intOf i).toNat)
  case atStart => exact ⟨0, 0, by omega, rfl, rfl, rfl⟩
  case round =>
    obtain ⟨k, m, hk, rfl, rfl, rfl⟩ := hrel
    by_cases hlt : k < C.length
    · have r1 := HC.out m k hlt
      have b0 : 0 ≤ (k : Int) := by omega
      have b1 : (k : Int) < (C.length : Int) := by omega
      by_cases hn : Nan (C.getD k 0)
      · have e1 : nanB (C.getD k 0) = true := decide_eq_true hn
        have E : Hid (bst C (k + 1) = bst C k) := by
          unfold Hid
          simp only [bst]
          cases bst C k with
          | none => exact if_pos hn
          | some i => show (if flt (C.getD k 0) (C.getD i 0) = true then some k else some i) = some i; rw [flt_nan _ hn]; rfl
        generalize C.getD k 0 = x at *
        generalize hW : w.drewN m = v at *
        have HW : Hid (w.drewN m = v) := hW
        clear hn hW
        go_wp2
        go_quiet ((go_at_call 27; exact Calls.quiet_of_same (none_any _ _)))
        go_wp2
        go_roundw
        case rel => exact ⟨k + 1, m + nq, by omega, by go_num, by rw [E.out], by rw [← HW.out]; exact drewN_drewN _ _ _⟩
        case measure => simp [intOf]; omega
      · have e1 : nanB (C.getD k 0) = false := decide_eq_false hn
        cases hb : bst C k with
        | none =>
          have E : Hid (bst C (k + 1) = some k) := by unfold Hid; simp only [bst, hb]; exact if_neg hn
          generalize C.getD k 0 = x at *
          generalize hW : w.drewN m = v at *
          have HW : Hid (w.drewN m = v) := hW
          clear hn hW hb
          simp only [rb]
          go_wp2
          go_quiet ((go_at_call 27; exact Calls.quiet_of_same (none_any _ _)))
          go_wp2
          go_roundw
          case rel => exact ⟨k + 1, m + nq, by omega, by go_num, by rw [E.out]; first | done | rfl, by rw [← HW.out]; exact drewN_drewN _ _ _⟩
          case measure => simp [intOf]; omega
        | some i =>
          have hi := bst_lt hb
          have r2 := HC.out m i (by omega)
          have b2 : 0 ≤ (i : Int) := by omega
          have b3 : (i : Int) < (C.length : Int) := by omega
          have b4 : decide ((i : Int) < 0) = false := decide_eq_false (by omega)
          cases hf : flt (C.getD k 0) (C.getD i 0)
          · have e2 : (FloatKind.f64.format.order (C.getD k 0) (C.getD i 0) == some .lt) = false := by rw [ord_fmt, ord_lt, hf]
            have E : Hid (bst C (k + 1) = some i) := by unfold Hid; simp only [bst, hb, hf]; rfl
            generalize C.getD k 0 = x at *
            generalize C.getD i 0 = y at *
            generalize hW : w.drewN m = v at *
            have HW : Hid (w.drewN m = v) := hW
            clear hn hb hf hW
            simp only [rb]
            go_wp2
            go_quiet ((go_at_call 27; exact Calls.quiet_of_same (none_any _ _)))
            go_wp2
            go_roundw
            case rel => exact ⟨k + 1, m + nq, by omega, by go_num, by rw [E.out]; first | done | rfl, by rw [← HW.out]; exact drewN_drewN _ _ _⟩
            case measure => simp [intOf]; omega
          · have e2 : (FloatKind.f64.format.order (C.getD k 0) (C.getD i 0) == some .lt) = true := by rw [ord_fmt, ord_lt, hf]
            have E : Hid (bst C (k + 1) = some k) := by unfold Hid; simp only [bst, hb, hf]; rfl
            generalize C.getD k 0 = x at *
            generalize C.getD i 0 = y at *
            generalize hW : w.drewN m = v at *
            have HW : Hid (w.drewN m = v) := hW
            clear hn hb hf hW
            simp only [rb]
            go_wp2
            go_quiet ((go_at_call 27; exact Calls.quiet_of_same (none_any _ _)))
            go_wp2
            go_roundw
            case rel => exact ⟨k + 1, m + nq, by omega, by go_num, by rw [E.out]; first | done | rfl, by rw [← HW.out]; exact drewN_drewN _ _ _⟩
            case measure => simp [intOf]; omega
    · obtain rfl : k = C.length := by omega
      cases hb : bst C C.length with
      | none =>
        have HB : Hid _ := hb
        simp only [rb]
        clear hb
        go_wp2
        go_ret2
        exact ⟨by rw [HB.out]; rfl, _, rfl⟩
      | some i =>
        have HB : Hid _ := hb
        simp only [rb]
        have b2 : 0 ≤ (i : Int) := by omega
        clear hb
        go_wp2
        go_ret2
        exact ⟨by rw [HB.out]; rfl, _, rfl⟩

end Go.Proofs.Ytdiphgkgehpgiaa
