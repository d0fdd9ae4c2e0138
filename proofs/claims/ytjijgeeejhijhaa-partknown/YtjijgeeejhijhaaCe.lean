/- DERIVED. What the program's Cuts refuses. -/
import Derived.Test.YtjijgeeejhijhaaCc
namespace Go.Proofs.Ytjijgeeejhijhaa
open Go.RowKit

/-- nothing but an error -/
def Cn (w w' : World) (e : Ending) : Prop := e = .returned (.tuple #[.slice none 0 0, .int .i64 2]) ∧ Below w.heap.size w w'
theorem box4 (w : World) (x y a b : Int) : Cl4 (w.alloc (.cells #[.int .i64 x, .int .i64 y, .int .i64 a, .int .i64 b] 23)) w.heap.size 0 (x, y, a, b) := ⟨by simp [go_sem], by simp [go_sem], by simp [go_sem], by simp [go_sem]⟩
set_option maxRecDepth 100000 in
set_option maxHeartbeats 1000000 in
theorem cuts_bad {w : World} {x y a b c : Int} (hr : rgn x y a b = false) : Calls Try.prog 11 #[.agg #[.int .i64 x, .int .i64 y, .int .i64 a, .int .i64 b], .int .i64 c] w fun e w' => Cn w w' e := by
  have HIR : Hid (∀ u, Calls Try.prog 24 #[.agg #[.int .i64 x, .int .i64 y, .int .i64 a, .int .i64 b]] u fun e w' => e = .returned (.bool false) ∧ Below u.heap.size u w') := fun u => by rw [← hr]; exact isRegion_any
  have HB0 : Hid (Below w.heap.size w (w.alloc (.cells #[.int .i64 x, .int .i64 y, .int .i64 a, .int .i64 b] 23))) := from_alloc _ _
  clear hr
  unfold Cn
  go_enter Try.func11, Try.ntmps11
  go_wp2_with fail
  refine (HIR.out _).mono ?_
  rintro e w1 ⟨rfl, hb⟩
  have HB1 : Hid (Below w.heap.size w w1) := below_to HB0.out hb
  clear hb
  go_wp2_with fail
  go_ret2
  exact ⟨rfl, HB1.out⟩
set_option maxRecDepth 100000 in
set_option maxHeartbeats 1000000 in
theorem cuts_far {w : World} {x y a b c : Int} (hr : rgn x y a b = true) (hc : ¬ (0 ≤ c ∧ c < tyN a)) : Calls Try.prog 11 #[.agg #[.int .i64 x, .int .i64 y, .int .i64 a, .int .i64 b], .int .i64 c] w fun e w' => Cn w w' e := by
  obtain ⟨hs, -, -⟩ := rgn_in hr
  have HIR : Hid (∀ u, Calls Try.prog 24 #[.agg #[.int .i64 x, .int .i64 y, .int .i64 a, .int .i64 b]] u fun e w' => e = .returned (.bool true) ∧ Below u.heap.size u w') := fun u => by rw [← hr]; exact isRegion_any
  have HTy : Hid (∀ u, Calls Try.prog 9 #[.int .i64 a] u fun e w' => e = .returned (.tuple #[.int .i64 (tyN a), .int .i64 0]) ∧ u = w') := fun u => by have := types_any (w := u) (s := a); rwa [erS_0 hs] at this
  have HB0 : Hid (Below w.heap.size w (w.alloc (.cells #[.int .i64 x, .int .i64 y, .int .i64 a, .int .i64 b] 23))) := from_alloc _ _
  have HC0 : Hid (Cl4 (w.alloc (.cells #[.int .i64 x, .int .i64 y, .int .i64 a, .int .i64 b] 23)) w.heap.size 0 (x, y, a, b)) := box4 _ _ _ _ _
  have HS0 : Hid (w.heap.size < (w.alloc (.cells #[.int .i64 x, .int .i64 y, .int .i64 a, .int .i64 b] 23)).heap.size) := by show _ < _; simp
  generalize tyN a = tn at *
  clear hr hs
  unfold Cn
  by_cases h0 : c < 0
  · clear hc
    go_enter Try.func11, Try.ntmps11
    go_wp2_with fail
    refine (HIR.out _).mono ?_
    rintro e w1 ⟨rfl, hb⟩
    have HB1 : Hid (Below w.heap.size w w1) := below_to HB0.out hb
    have c2 : w1.cell? ⟨w.heap.size, 2, none⟩ = some (.int .i64 a) := (HC0.out.below hb HS0.out).c2
    clear hb HB0 HC0 HS0 HIR
    go_wp2_with (refine (HTy.out _).mono ?_; rintro e w5 ⟨rfl, rfl⟩)
    go_ret2
    exact ⟨rfl, HB1.out⟩
  · have h1 : tn ≤ c := by omega
    have h2 : 0 ≤ c := by omega
    clear hc h0
    go_enter Try.func11, Try.ntmps11
    go_wp2_with fail
    refine (HIR.out _).mono ?_
    rintro e w1 ⟨rfl, hb⟩
    have HB1 : Hid (Below w.heap.size w w1) := below_to HB0.out hb
    have c2 : w1.cell? ⟨w.heap.size, 2, none⟩ = some (.int .i64 a) := (HC0.out.below hb HS0.out).c2
    clear hb HB0 HC0 HS0 HIR
    go_wp2_with (refine (HTy.out _).mono ?_; rintro e w5 ⟨rfl, rfl⟩)
    go_ret2
    exact ⟨rfl, HB1.out⟩
theorem cuts_no {w : World} {x y a b c : Int} (h : ¬ (rgn x y a b = true ∧ 0 ≤ c ∧ c < tyN a)) : Calls Try.prog 11 #[.agg #[.int .i64 x, .int .i64 y, .int .i64 a, .int .i64 b], .int .i64 c] w fun e w' => Cn w w' e := by
  by_cases hr : rgn x y a b = true
  · exact cuts_far hr (fun q => h ⟨hr, q⟩)
  · exact cuts_bad (by simpa using hr)
end Go.Proofs.Ytjijgeeejhijhaa
