/- DERIVED. What the document's New refuses. -/
import Derived.Test.YtppofodijlofdaaDb
namespace Go.Proofs.Ytppofodijlofdaa
open Go.RowKit

set_option maxRecDepth 100000 in
set_option maxHeartbeats 16000000 in
theorem rnew_no {w : World} {T : Rc} (ht : ¬ TOk T) : Calls Try.prog 8 #[.agg #[.int .i64 T.1, .int .i64 T.2.1, .int .i64 T.2.2.1, .int .i64 T.2.2.2]] w fun e w' => Nn w w' e := by
  have HB : Hid (Below w.heap.size w (w.alloc (.cells #[.int .i64 T.1, .int .i64 T.2.1, .int .i64 T.2.2.1, .int .i64 T.2.2.2] 23))) := from_alloc _ _
  have HT : Hid (¬ (mr T.1 T.2.2.1 = true ∧ mr T.2.1 T.2.2.2 = true)) := ht
  clear ht
  unfold Nn
  obtain ⟨x, y, a, b⟩ := T
  simp only at *
  by_cases a0 : 0 ≤ x
  · by_cases a1 : x ≤ 192
    · by_cases a2 : x % 64 = 0
      · by_cases b0 : 0 ≤ y
        · by_cases b1 : y ≤ 192
          · by_cases b2 : y % 64 = 0
            · by_cases c0 : 8 ≤ a
              · by_cases c1 : a ≤ 256
                · by_cases c2 : a % 8 = 0
                  · by_cases d0 : 8 ≤ b
                    · by_cases d1 : b ≤ 256
                      · by_cases d2 : b % 8 = 0
                        · by_cases e0 : x + a ≤ 256
                          · by_cases e1 : y + b ≤ 256
                            · exact absurd ⟨by unfold mr im; simp only [Bool.and_eq_true, decide_eq_true_eq]; exact ⟨⟨a0, a1, a2⟩, ⟨c0, c1, c2⟩, e0⟩, by unfold mr im; simp only [Bool.and_eq_true, decide_eq_true_eq]; exact ⟨⟨b0, b1, b2⟩, ⟨d0, d1, d2⟩, e1⟩⟩ HT.out
                            · have ta2 := tmod_yes a2
                              have tb2 := tmod_yes b2
                              have tc2 := tmod_yes c2
                              have td2 := tmod_yes d2
                              go_enter Try.func8, Try.ntmps8
                              go_wp2_with fail
                              go_ret2
                              exact ⟨rfl, HB.out⟩
                          · have ta2 := tmod_yes a2
                            have tb2 := tmod_yes b2
                            have tc2 := tmod_yes c2
                            have td2 := tmod_yes d2
                            go_enter Try.func8, Try.ntmps8
                            go_wp2_with fail
                            go_ret2
                            exact ⟨rfl, HB.out⟩
                        · have ta2 := tmod_yes a2
                          have tb2 := tmod_yes b2
                          have tc2 := tmod_yes c2
                          have td2 := tmod_no' d2
                          have ud2 : (b % 8 != 0) = true := by rw [bne_iff_ne]; exact d2
                          go_enter Try.func8, Try.ntmps8
                          go_wp2_with fail
                          go_ret2
                          exact ⟨rfl, HB.out⟩
                      · have ta2 := tmod_yes a2
                        have tb2 := tmod_yes b2
                        have tc2 := tmod_yes c2
                        go_enter Try.func8, Try.ntmps8
                        go_wp2_with fail
                        go_ret2
                        exact ⟨rfl, HB.out⟩
                    · have ta2 := tmod_yes a2
                      have tb2 := tmod_yes b2
                      have tc2 := tmod_yes c2
                      go_enter Try.func8, Try.ntmps8
                      go_wp2_with fail
                      go_ret2
                      exact ⟨rfl, HB.out⟩
                  · have ta2 := tmod_yes a2
                    have tb2 := tmod_yes b2
                    have tc2 := tmod_no' c2
                    have uc2 : (a % 8 != 0) = true := by rw [bne_iff_ne]; exact c2
                    go_enter Try.func8, Try.ntmps8
                    go_wp2_with fail
                    go_ret2
                    exact ⟨rfl, HB.out⟩
                · have ta2 := tmod_yes a2
                  have tb2 := tmod_yes b2
                  go_enter Try.func8, Try.ntmps8
                  go_wp2_with fail
                  go_ret2
                  exact ⟨rfl, HB.out⟩
              · have ta2 := tmod_yes a2
                have tb2 := tmod_yes b2
                go_enter Try.func8, Try.ntmps8
                go_wp2_with fail
                go_ret2
                exact ⟨rfl, HB.out⟩
            · have ta2 := tmod_yes a2
              have tb2 := tmod_no' b2
              have ub2 : (y % 64 != 0) = true := by rw [bne_iff_ne]; exact b2
              go_enter Try.func8, Try.ntmps8
              go_wp2_with fail
              go_ret2
              exact ⟨rfl, HB.out⟩
          · have ta2 := tmod_yes a2
            go_enter Try.func8, Try.ntmps8
            go_wp2_with fail
            go_ret2
            exact ⟨rfl, HB.out⟩
        · have ta2 := tmod_yes a2
          go_enter Try.func8, Try.ntmps8
          go_wp2_with fail
          go_ret2
          exact ⟨rfl, HB.out⟩
      · have ta2 := tmod_no' a2
        have ua2 : (x % 64 != 0) = true := by rw [bne_iff_ne]; exact a2
        go_enter Try.func8, Try.ntmps8
        go_wp2_with fail
        go_ret2
        exact ⟨rfl, HB.out⟩
    · go_enter Try.func8, Try.ntmps8
      go_wp2_with fail
      go_ret2
      exact ⟨rfl, HB.out⟩
  · go_enter Try.func8, Try.ntmps8
    go_wp2_with fail
    go_ret2
    exact ⟨rfl, HB.out⟩
end Go.Proofs.Ytppofodijlofdaa
