/- DERIVED. The walk of ScoreBest. -/
import Derived.Test.YtdiphgkgehpgiabGc
namespace Go.Proofs.Ytdiphgkgehpgiab
open Go.RowKit Ieee

theorem quotients_any (w : World) : Calls Try.prog 8 #[] w fun e w' => ∃ x n : Nat, e = .returned (.tuple #[.float .f64 9218868437227405312, .float .f64 18442240474082181120, .float .f64 x, .float .f64 9223372036854775808]) ∧ w' = w.drewN n ∧ Nan x := by
  have h1 : ∀ t w, (binOp .quo t (.float .f64 4607182418800017408) (.float .f64 0)).run Try.prog w = .ok (.float .f64 9218868437227405312) w := fun t w => run_float_arith w .quo t .f64 _ _ _ (by decide +kernel)
  have h2 : ∀ t w, (binOp .quo t (.float .f64 13830554455654793216) (.float .f64 0)).run Try.prog w = .ok (.float .f64 18442240474082181120) w := fun t w => run_float_arith w .quo t .f64 _ _ _ (by decide +kernel)
  have h3 := f_quo Try.prog 0 0
  have h4 : ∀ t w, (binOp .quo t (.float .f64 13830554455654793216) (.float .f64 9218868437227405312)).run Try.prog w = .ok (.float .f64 9223372036854775808) w := fun t w => run_float_arith w .quo t .f64 _ _ _ (by decide +kernel)
  go_enter Try.func8, Try.ntmps8
  go_wp2
  go_returns
  exact ⟨_, _, rfl, rfl, zero_nan _⟩

theorem made1 (w : World) (x : Nat) : (w.alloc (.cells #[.float .f64 x] 26)).cell? ⟨w.heap.size, 0, none⟩ = some (.float .f64 x) := by simp
theorem news_one {w : World} {g x : Nat} (h : w.cell? ⟨g, 0, none⟩ = some (.float .f64 x)) : ∀ j v, (fs [x])[j]? = some v → w.cell? ((⟨g, 0, none⟩ : Addr).add j) = some v := by
  intro j v hv
  rcases j with _ | j
  · simp [fs] at hv
    rw [← hv, addr_add]; exact h
  · simp [fs] at hv
theorem news_all {w : World} {b o : Nat} {C : List Nat} (hcell : ∀ j, j < C.length → w.cell? ⟨b, o + j, none⟩ = some (.float .f64 (C.getD j 0))) : ∀ j v, (fs C)[j]? = some v → w.cell? ((⟨b, o, none⟩ : Addr).add j) = some v := by
  intro j v hv
  have hj : j < C.length := by have := List.getElem?_eq_some_iff.1 hv; obtain ⟨h1, _⟩ := this; rw [fs_length] at h1; exact h1
  rw [fs_get C j hj] at hv
  rw [← hv, addr_add]
  exact hcell j hj
theorem Fl.cells {w : World} {b o : Nat} {C : List Nat} (h : Fl w (some ⟨b, o, none⟩) C) : ∀ j, j < C.length → w.cell? ⟨b, o + j, none⟩ = some (.float .f64 (C.getD j 0)) := fun j hj => by
  obtain ⟨b', o', e, _, h⟩ := h.form (by omega)
  simp only [Option.some.injEq, Addr.mk.injEq] at e
  obtain ⟨rfl, rfl, _⟩ := e
  exact h j hj
theorem fs_append (C D : List Nat) : fs (C ++ D) = fs C ++ fs D := by simp [fs]
theorem best_of {C : List Nat} {o : Option Nat} (ho : bst C C.length = o) {w : World} {a : Option Addr} {c n : Nat} (hn : n = C.length) (hs : Fl w a C) (hl : C.length ≤ 140737488355328) :
    Calls Try.prog 13 #[.slice a n c] w fun e w' => e = .returned (.tuple #[.int .i64 (bi o), .int .i64 (be o)]) ∧ w' = w := by subst ho hn; exact best_any hs hl

end Go.Proofs.Ytdiphgkgehpgiab
