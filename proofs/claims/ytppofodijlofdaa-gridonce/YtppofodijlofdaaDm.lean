/- DERIVED. The document's Put refuses what does not fit. -/
import Derived.Test.YtppofodijlofdaaDl
namespace Go.Proofs.Ytppofodijlofdaa
open Go.RowKit

set_option maxRecDepth 100000 in
set_option maxHeartbeats 4000000 in
theorem rput_non {w : World} {p : Nat} {T : Rc} {v : Value} {L : List Bl} {b : Bl} (hg : Rd w p T v L) (hf : fitB T b = false) :
    Calls Try.prog 11 #[.pointer (some ⟨p, 0, none⟩), .agg b.cs.toArray] w fun e w' => e = .returned (.int .i64 2) ∧ Below w.heap.size w w' := by
  have HB : Hid (Below w.heap.size w (w.alloc (.cells b.cs.toArray 40))) := from_alloc _ _
  have HC : Hid (Bc (w.alloc (.cells b.cs.toArray 40)) w.heap.size 0 b) := Bc.box w b
  have HZ : Hid (w.heap.size < (w.alloc (.cells b.cs.toArray 40)).heap.size) := by show _ < _; simp
  have HS : Hid (∀ u n, Calls Try.prog 27 #[.int .i64 n] u fun e w' => e = .returned (.bool (sdB n)) ∧ u = w') := fun u n => side_any
  have HH : Hid (∀ u X Y, Below w.heap.size w u → Calls Try.prog 28 #[.pointer (some ⟨p, 0, none⟩), .int .i64 X, .int .i64 Y] u fun e w' => e = .returned (.bool (hasT T X Y)) ∧ Below u.heap.size u w') := fun u X Y hb => inn_any (hg.to hb).cl hg.tok
  have HT : Hid (TOk T) := hg.tok
  have HRG : Hid (∀ (u : World) (z : Nat), Bc u z 0 b → u.cell? ⟨z, 0, none⟩ = some (.int .i64 b.x) ∧ u.cell? ⟨z, 1, none⟩ = some (.int .i64 b.y) ∧ u.cell? ⟨z, 2, none⟩ = some (.int .i64 b.w) ∧ u.cell? ⟨z, 3, none⟩ = some (.int .i64 b.h)) := fun u z h => by
    have k0 := h.at 0 _ rfl
    have k1 := h.at 1 _ rfl
    have k2 := h.at 2 _ rfl
    have k3 := h.at 3 _ rfl
    exact ⟨by simpa using k0, by simpa using k1, by simpa using k2, by simpa using k3⟩
  obtain ⟨k0, k1, k2, k3⟩ := HRG.out _ _ HC.out
  have HF : Hid (b.x % 8 = 0 → b.y % 8 = 0 → sdB b.w = true → sdB b.h = true → hasT T b.x b.y = true → hasT T (b.x + b.w - 1) (b.y + b.h - 1) = true → False) := fun h1 h2 h3 h4 h5 h6 => by
    unfold fitB at hf
    rw [decide_eq_true h1, decide_eq_true h2, h3, h4, h5, h6] at hf
    cases hf
  clear hg hf
  generalize hX : b.x = X at *
  generalize hY : b.y = Y at *
  generalize hW : b.w = W at *
  generalize hH : b.h = H at *
  clear hX hY hW hH
  go_enter Try.func11, Try.ntmps11
  go_upto_region 1 with fail
  generalize hV : (w.alloc (.cells b.cs.toArray 40)) = V at *
  clear hV
  generalize hP : w.heap.size = z at *
  have HPz : Hid (w.heap.size = z) := hP
  clear hP
  have HT8 : Hid (∀ n : Int, n % 8 = 0 → n.tmod 8 = 0) := fun n h => tmod_yes h
  have HN8 : Hid (∀ n : Int, ¬ n % 8 = 0 → (n.tmod 8 != 0) = true) := fun n h => tmod_no' h
  by_cases h1 : X % 8 = 0
  · have g1 := HT8.out _ h1
    by_cases h2 : Y % 8 = 0
    · have g2 := HT8.out _ h2
      have HSw : Hid (∀ u, Calls Try.prog 27 #[.int .i64 W] u fun e w' => e = .returned (.bool (sdB W)) ∧ u = w') := fun u => HS.out u W
      have HSh : Hid (∀ u, Calls Try.prog 27 #[.int .i64 H] u fun e w' => e = .returned (.bool (sdB H)) ∧ u = w') := fun u => HS.out u H
      have HF2 := HF.out h1 h2
      have HF3 : Hid _ := HF2
      clear h1 h2 HF HF2
      cases e3 : sdB W
      · rw [e3] at HSw
        clear e3 HF3
        go_wp2_with (first | ((with_reducible refine (HSw.out _).mono ?_); rintro e w5 ⟨rfl, rfl⟩) | ((with_reducible refine (HSh.out _).mono ?_); rintro e w5 ⟨rfl, rfl⟩))
        go_ret
        exact ⟨rfl, by rw [HPz.out]; exact HB.out⟩
      · rw [e3] at HSw
        cases e4 : sdB H
        · rw [e4] at HSh
          clear e3 e4 HF3
          go_wp2_with (first | ((with_reducible refine (HSw.out _).mono ?_); rintro e w5 ⟨rfl, rfl⟩) | ((with_reducible refine (HSh.out _).mono ?_); rintro e w5 ⟨rfl, rfl⟩))
          go_ret
          exact ⟨rfl, by rw [HPz.out]; exact HB.out⟩
        · rw [e4] at HSh
          have HSD : Hid (sdB W = true ∧ sdB H = true) := ⟨e3, e4⟩
          have HF4 := HF3.out e3 e4
          have HF5 : Hid _ := HF4
          clear e3 e4 HF3 HF4
          cases e5 : hasT T X Y
          · clear HF5
            have HHx : Hid (Calls Try.prog 28 #[.pointer (some ⟨p, 0, none⟩), .int .i64 X, .int .i64 Y] V fun e w' => e = .returned (.bool false) ∧ Below V.heap.size V w') := by show Calls _ _ _ _ _; rw [← e5]; exact HH.out _ X Y HB.out
            clear e5
            go_wp2_with (first | ((with_reducible refine (HSw.out _).mono ?_); rintro e w5 ⟨rfl, rfl⟩) | ((with_reducible refine (HSh.out _).mono ?_); rintro e w5 ⟨rfl, rfl⟩))
            refine HHx.out.mono ?_
            rintro e w1 ⟨rfl, hb⟩
            have HB1 : Hid (Below z w w1) := HB.out.trans (hb.mono (Nat.le_of_lt HZ.out))
            clear hb k0 k1 k2 k3
            go_wp2_with fail
            go_ret
            exact ⟨rfl, by rw [HPz.out]; exact HB1.out⟩
          · have hx := has_of e5
            have hw := sd_of HSD.out.1
            have hh := sd_of HSD.out.2
            have htb := tile_b HT.out
            have bx : 0 ≤ X ∧ X ≤ 256 ∧ 0 ≤ Y ∧ Y ≤ 256 ∧ 8 ≤ W ∧ W ≤ 64 ∧ 8 ≤ H ∧ H ≤ 64 := by omega
            obtain ⟨x0, x1, y0, y1, w0, w1', h0, h1'⟩ := bx
            have HHx : Hid (Calls Try.prog 28 #[.pointer (some ⟨p, 0, none⟩), .int .i64 X, .int .i64 Y] V fun e w' => e = .returned (.bool true) ∧ Below V.heap.size V w') := by show Calls _ _ _ _ _; rw [← e5]; exact HH.out _ X Y HB.out
            have e6 : hasT T (X + W - 1) (Y + H - 1) = false := by cases h : hasT T (X + W - 1) (Y + H - 1) <;> first | rfl | exact (HF5.out e5 h).elim
            have HHy : Hid (∀ u, Below z w u → Calls Try.prog 28 #[.pointer (some ⟨p, 0, none⟩), .int .i64 (X + W - 1), .int .i64 (Y + H - 1)] u fun e w' => e = .returned (.bool false) ∧ Below u.heap.size u w') := fun u hb => by rw [← e6]; exact HH.out _ _ _ hb
            clear hx hw hh htb e5 e6 HF5 HH
            go_wp2_with (first | ((with_reducible refine (HSw.out _).mono ?_); rintro e w5 ⟨rfl, rfl⟩) | ((with_reducible refine (HSh.out _).mono ?_); rintro e w5 ⟨rfl, rfl⟩))
            refine HHx.out.mono ?_
            rintro e w1 ⟨rfl, hb⟩
            have HB1 : Hid (Below z w w1) := HB.out.trans (hb.mono (Nat.le_of_lt HZ.out))
            have HC1 : Hid (Bc w1 z 0 b) := HC.out.below hb HZ.out
            have HZ1 : Hid (z < w1.heap.size) := Nat.lt_of_lt_of_le HZ.out hb.size
            clear hb k0 k1 k2 k3
            obtain ⟨k0, k1, k2, k3⟩ := HRG.out _ _ HC1.out
            go_wp2_with fail
            refine (HHy.out _ HB1.out).mono ?_
            rintro e w2 ⟨rfl, hb⟩
            have HB2 : Hid (Below z w w2) := HB1.out.trans (hb.mono (Nat.le_of_lt HZ1.out))
            clear hb k0 k1 k2 k3
            go_wp2_with fail
            go_ret
            exact ⟨rfl, by rw [HPz.out]; exact HB2.out⟩
    · have g2 := HN8.out _ h2
      clear h1 h2 HF
      go_wp2_with fail
      go_ret
      exact ⟨rfl, by rw [HPz.out]; exact HB.out⟩
  · have g1 := HN8.out _ h1
    clear h1 HF
    go_wp2_with fail
    go_ret
    exact ⟨rfl, by rw [HPz.out]; exact HB.out⟩
end Go.Proofs.Ytppofodijlofdaa
