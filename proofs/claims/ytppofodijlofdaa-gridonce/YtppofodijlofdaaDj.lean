/- DERIVED. What the document's two refuses. -/
import Derived.Test.YtppofodijlofdaaDi
namespace Go.Proofs.Ytppofodijlofdaa
open Go.RowKit

set_option maxRecDepth 100000 in
theorem two_no2 {w : World} {p : Nat} {X Y : Int} (hx : ¬ X % 8 = 0) :
    Calls Try.prog 49 #[.pointer (some ⟨p, 0, none⟩), .int .i64 X, .int .i64 Y] w fun e w' => e = .returned (.tuple #[.slice none 0 0, .int .i64 2]) ∧ Below w.heap.size w w' := by
  have tx := tmod_no' hx
  go_enter Try.func49, Try.ntmps49
  go_wp2_with fail
  go_ret2
  exact ⟨rfl, Below.refl _ _⟩
set_option maxRecDepth 100000 in
theorem two_no3 {w : World} {p : Nat} {X Y : Int} (hx : X % 8 = 0) (hy : ¬ Y % 8 = 0) :
    Calls Try.prog 49 #[.pointer (some ⟨p, 0, none⟩), .int .i64 X, .int .i64 Y] w fun e w' => e = .returned (.tuple #[.slice none 0 0, .int .i64 2]) ∧ Below w.heap.size w w' := by
  have tx := tmod_yes hx
  have ty := tmod_no' hy
  go_enter Try.func49, Try.ntmps49
  go_wp2_with fail
  go_ret2
  exact ⟨rfl, Below.refl _ _⟩
set_option maxRecDepth 100000 in
theorem two_no4 {w : World} {p : Nat} {T : Rc} {v : Value} {L : List Bl} {X Y : Int} (hg : Rd w p T v L) (hx : X % 8 = 0) (hy : Y % 8 = 0) (hh : hasT T X Y = false) :
    Calls Try.prog 49 #[.pointer (some ⟨p, 0, none⟩), .int .i64 X, .int .i64 Y] w fun e w' => e = .returned (.tuple #[.slice none 0 0, .int .i64 2]) ∧ Below w.heap.size w w' := by
  have HI : Hid (Calls Try.prog 28 #[.pointer (some ⟨p, 0, none⟩), .int .i64 X, .int .i64 Y] w fun e w' => e = .returned (.bool false) ∧ Below w.heap.size w w') := by rw [← hh]; exact inn_any hg.cl hg.tok
  have tx := tmod_yes hx
  have ty := tmod_yes hy
  clear hg hh
  go_enter Try.func49, Try.ntmps49
  go_wp2_with fail
  refine HI.out.mono ?_
  rintro e w1 ⟨rfl, hb⟩
  have HB1 : Hid (Below w.heap.size w w1) := hb
  clear hb HI
  go_wp2_with fail
  go_ret2
  exact ⟨rfl, HB1.out⟩
theorem two_no {w : World} {p : Nat} {T : Rc} {v : Value} {L : List Bl} {X Y : Int} (hg : Rd w p T v L) (h : ask T X Y 8 = false) :
    Calls Try.prog 49 #[.pointer (some ⟨p, 0, none⟩), .int .i64 X, .int .i64 Y] w fun e w' => e = .returned (.tuple #[.slice none 0 0, .int .i64 2]) ∧ Below w.heap.size w w' := by
  by_cases hx : X % 8 = 0
  · by_cases hy : Y % 8 = 0
    · cases hh : hasT T X Y
      · exact two_no4 hg hx hy hh
      · exact absurd (show ask T X Y 8 = true by unfold ask; simp [hx, hy, hh]) (by rw [h]; simp)
    · exact two_no3 hx hy
  · exact two_no2 hx
end Go.Proofs.Ytppofodijlofdaa
