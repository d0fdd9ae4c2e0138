/- DERIVED. What the document's Part refuses. -/
import Derived.Test.YtppofodijlofdaaDg
namespace Go.Proofs.Ytppofodijlofdaa
open Go.RowKit

set_option maxRecDepth 100000 in
theorem rpart_no1 {w : World} {p : Nat} {X Y s : Int} (h1 : ¬ s = 64) (h2 : ¬ s = 32) (h3 : ¬ s = 16) :
    Calls Try.prog 30 #[.pointer (some ⟨p, 0, none⟩), .int .i64 X, .int .i64 Y, .int .i64 s] w fun e w' => e = .returned (.tuple #[.int .i64 0, .int .i64 2]) ∧ Below w.heap.size w w' := by
  have g1 : (s != 64) = true := by rw [bne_iff_ne]; exact h1
  have g2 : (s != 32) = true := by rw [bne_iff_ne]; exact h2
  have g3 : (s != 16) = true := by rw [bne_iff_ne]; exact h3
  go_enter Try.func30, Try.ntmps30
  go_wp2_with fail
  go_ret2
  exact ⟨rfl, Below.refl _ _⟩
set_option maxRecDepth 100000 in
theorem rpart_no2 {w : World} {p : Nat} {X Y s : Int} (hs : s = 64 ∨ s = 32 ∨ s = 16) (hx : ¬ X % s = 0) :
    Calls Try.prog 30 #[.pointer (some ⟨p, 0, none⟩), .int .i64 X, .int .i64 Y, .int .i64 s] w fun e w' => e = .returned (.tuple #[.int .i64 0, .int .i64 2]) ∧ Below w.heap.size w w' := by
  have tx := tmod_no' hx
  rcases hs with rfl | rfl | rfl
  · go_enter Try.func30, Try.ntmps30
    go_wp2_with fail
    go_ret2
    exact ⟨rfl, Below.refl _ _⟩
  · go_enter Try.func30, Try.ntmps30
    go_wp2_with fail
    go_ret2
    exact ⟨rfl, Below.refl _ _⟩
  · go_enter Try.func30, Try.ntmps30
    go_wp2_with fail
    go_ret2
    exact ⟨rfl, Below.refl _ _⟩
set_option maxRecDepth 100000 in
theorem rpart_no3 {w : World} {p : Nat} {X Y s : Int} (hs : s = 64 ∨ s = 32 ∨ s = 16) (hx : X % s = 0) (hy : ¬ Y % s = 0) :
    Calls Try.prog 30 #[.pointer (some ⟨p, 0, none⟩), .int .i64 X, .int .i64 Y, .int .i64 s] w fun e w' => e = .returned (.tuple #[.int .i64 0, .int .i64 2]) ∧ Below w.heap.size w w' := by
  have tx := tmod_yes hx
  have ty := tmod_no' hy
  rcases hs with rfl | rfl | rfl
  · go_enter Try.func30, Try.ntmps30
    go_wp2_with fail
    go_ret2
    exact ⟨rfl, Below.refl _ _⟩
  · go_enter Try.func30, Try.ntmps30
    go_wp2_with fail
    go_ret2
    exact ⟨rfl, Below.refl _ _⟩
  · go_enter Try.func30, Try.ntmps30
    go_wp2_with fail
    go_ret2
    exact ⟨rfl, Below.refl _ _⟩
set_option maxRecDepth 100000 in
theorem rpart_no4 {w : World} {p : Nat} {T : Rc} {v : Value} {L : List Bl} {X Y s : Int} (hg : Rd w p T v L) (hs : s = 64 ∨ s = 32 ∨ s = 16) (hx : X % s = 0) (hy : Y % s = 0) (hh : hasT T X Y = false) :
    Calls Try.prog 30 #[.pointer (some ⟨p, 0, none⟩), .int .i64 X, .int .i64 Y, .int .i64 s] w fun e w' => e = .returned (.tuple #[.int .i64 0, .int .i64 2]) ∧ Below w.heap.size w w' := by
  have HI : Hid (Calls Try.prog 28 #[.pointer (some ⟨p, 0, none⟩), .int .i64 X, .int .i64 Y] w fun e w' => e = .returned (.bool false) ∧ Below w.heap.size w w') := by rw [← hh]; exact inn_any hg.cl hg.tok
  have tx := tmod_yes hx
  have ty := tmod_yes hy
  clear hg hh
  rcases hs with rfl | rfl | rfl
  · go_enter Try.func30, Try.ntmps30
    go_wp2_with fail
    refine HI.out.mono ?_
    rintro e w1 ⟨rfl, hb⟩
    have HB1 : Hid (Below w.heap.size w w1) := hb
    clear hb HI
    go_wp2_with fail
    go_ret2
    exact ⟨rfl, HB1.out⟩
  · go_enter Try.func30, Try.ntmps30
    go_wp2_with fail
    refine HI.out.mono ?_
    rintro e w1 ⟨rfl, hb⟩
    have HB1 : Hid (Below w.heap.size w w1) := hb
    clear hb HI
    go_wp2_with fail
    go_ret2
    exact ⟨rfl, HB1.out⟩
  · go_enter Try.func30, Try.ntmps30
    go_wp2_with fail
    refine HI.out.mono ?_
    rintro e w1 ⟨rfl, hb⟩
    have HB1 : Hid (Below w.heap.size w w1) := hb
    clear hb HI
    go_wp2_with fail
    go_ret2
    exact ⟨rfl, HB1.out⟩
theorem rpart_no {w : World} {p : Nat} {T : Rc} {v : Value} {L : List Bl} {X Y s : Int} (hg : Rd w p T v L) (h : ¬ pok T X Y s) :
    Calls Try.prog 30 #[.pointer (some ⟨p, 0, none⟩), .int .i64 X, .int .i64 Y, .int .i64 s] w fun e w' => e = .returned (.tuple #[.int .i64 0, .int .i64 2]) ∧ Below w.heap.size w w' := by
  by_cases hs : s = 64 ∨ s = 32 ∨ s = 16
  · by_cases hx : X % s = 0
    · by_cases hy : Y % s = 0
      · cases hh : hasT T X Y
        · exact rpart_no4 hg hs hx hy hh
        · exact absurd ⟨hs, by unfold ask; simp [hx, hy, hh]⟩ h
      · exact rpart_no3 hs hx hy
    · exact rpart_no2 hs hx
  · exact rpart_no1 (fun e => hs (Or.inl e)) (fun e => hs (Or.inr (Or.inl e))) (fun e => hs (Or.inr (Or.inr e)))
end Go.Proofs.Ytppofodijlofdaa
