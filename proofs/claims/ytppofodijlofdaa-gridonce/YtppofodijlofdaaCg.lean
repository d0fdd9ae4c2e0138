/- DERIVED. New. -/
import Derived.Test.YtppofodijlofdaaCf
namespace Go.Proofs.Ytppofodijlofdaa
open Go.RowKit

/-- a grid is answered, of memory of its own -/
def Nq (w w' : World) (e : Ending) (T : Rc) : Prop := ∃ p m, e = .returned (.tuple #[.pointer (some ⟨p, 0, none⟩), .int .i64 0]) ∧ Gd w' p m T (.slice none 0 0) [] ∧ w.heap.size ≤ p ∧ w.heap.size ≤ m ∧ Below w.heap.size w w'
theorem nq_mk {w V : World} {T : Rc} {p m : Nat} (ht : TOk T) (hb : Below w.heap.size w V) (hm : V.heap.size = m) (hp : m + 1 = p) :
    Nq w ((V.alloc (.map #[] 0)).alloc (.cells #[.int .i64 T.1, .int .i64 T.2.1, .int .i64 T.2.2.1, .int .i64 T.2.2.2, .slice none 0 0, .map (some m)] 63)) (.returned (.tuple #[.pointer (some ⟨p, 0, none⟩), .int .i64 0])) T := by
  subst hm hp
  have hs := hb.size
  have h1 : (V.alloc (.map #[] 0)).heap.size = V.heap.size + 1 := by simp
  refine ⟨V.heap.size + 1, V.heap.size, rfl, ⟨?_, Or.nil _ _, ?_, ht, fun b hb => (by cases hb), by omega, fun g hg => (by cases hg)⟩, by omega, by omega, below_alloc (below_alloc hb (Nat.le_refl _) _) (Nat.le_refl _) _⟩
  · rw [← h1]; exact heap_alloc_new _ _
  · have h2 := (Mp.made V rfl).cong (g := ow []) (fun _ _ => rfl)
    exact h2.carry ((MapKept.heap_alloc _ _).2 _ (by rw [h1]; omega))
set_option maxRecDepth 100000 in
set_option maxHeartbeats 2000000 in
theorem new_ok {w : World} {T : Rc} (ht : TOk T) : Calls Try.prog 7 #[.agg #[.int .i64 T.1, .int .i64 T.2.1, .int .i64 T.2.2.1, .int .i64 T.2.2.2]] w fun e w' => Nq w w' e T := by
  have HF : Hid (∀ (V : World) (p m : Nat), Below w.heap.size w V → V.heap.size = m → m + 1 = p → Nq w ((V.alloc (.map #[] 0)).alloc (.cells #[.int .i64 T.1, .int .i64 T.2.1, .int .i64 T.2.2.1, .int .i64 T.2.2.2, .slice none 0 0, .map (some m)] 63)) (.returned (.tuple #[.pointer (some ⟨p, 0, none⟩), .int .i64 0])) T) := fun V p m h1 h2 h3 => nq_mk ht h1 h2 h3
  have H1 : Hid (∀ u, Calls Try.prog 23 #[.int .i64 T.1, .int .i64 T.2.2.1] u fun e w' => e = .returned (.bool true) ∧ u = w') := fun u => by rw [← ht.1]; exact mayReach_any
  have H2 : Hid (∀ u, Calls Try.prog 23 #[.int .i64 T.2.1, .int .i64 T.2.2.2] u fun e w' => e = .returned (.bool true) ∧ u = w') := fun u => by rw [← ht.2]; exact mayReach_any
  have HB : Hid (Below w.heap.size w (w.alloc (.cells #[.int .i64 T.1, .int .i64 T.2.1, .int .i64 T.2.2.1, .int .i64 T.2.2.2] 23))) := from_alloc _ _
  have hmm := @run_makeMap Try.prog
  obtain ⟨x, y, a, b⟩ := T
  simp only at *
  clear ht
  have HZ : Hid ((w.alloc (.cells #[.int .i64 x, .int .i64 y, .int .i64 a, .int .i64 b] 23)).heap.size = w.heap.size + 1) := by show _ = _; simp
  go_enter Try.func7, Try.ntmps7
  go_wp2_with (first | ((with_reducible refine (H1.out _).mono ?_); rintro e w5 ⟨rfl, rfl⟩) | ((with_reducible refine (H2.out _).mono ?_); rintro e w5 ⟨rfl, rfl⟩))
  go_ret2
  have := HF.out _ _ _ HB.out HZ.out rfl
  simpa using this
/-- none is answered -/
def Nn (w w' : World) (e : Ending) : Prop := e = .returned (.tuple #[.pointer none, .int .i64 2]) ∧ Below w.heap.size w w'
set_option maxRecDepth 100000 in
set_option maxHeartbeats 2000000 in
theorem new_no {w : World} {T : Rc} (ht : ¬ TOk T) : Calls Try.prog 7 #[.agg #[.int .i64 T.1, .int .i64 T.2.1, .int .i64 T.2.2.1, .int .i64 T.2.2.2]] w fun e w' => Nn w w' e := by
  have H1 : Hid (∀ u, Calls Try.prog 23 #[.int .i64 T.1, .int .i64 T.2.2.1] u fun e w' => e = .returned (.bool (mr T.1 T.2.2.1)) ∧ u = w') := fun u => mayReach_any
  have H2 : Hid (∀ u, Calls Try.prog 23 #[.int .i64 T.2.1, .int .i64 T.2.2.2] u fun e w' => e = .returned (.bool (mr T.2.1 T.2.2.2)) ∧ u = w') := fun u => mayReach_any
  have HB : Hid (Below w.heap.size w (w.alloc (.cells #[.int .i64 T.1, .int .i64 T.2.1, .int .i64 T.2.2.1, .int .i64 T.2.2.2] 23))) := from_alloc _ _
  have hh : mr T.1 T.2.2.1 = false ∨ mr T.2.1 T.2.2.2 = false := by
    cases h1 : mr T.1 T.2.2.1
    · exact Or.inl rfl
    · cases h2 : mr T.2.1 T.2.2.2
      · exact Or.inr rfl
      · exact absurd ⟨h1, h2⟩ ht
  clear ht
  unfold Nn
  obtain ⟨x, y, a, b⟩ := T
  simp only at *
  generalize mr x a = b1 at *
  generalize mr y b = b2 at *
  cases b1
  · clear hh
    go_enter Try.func7, Try.ntmps7
    go_wp2_with (first | ((with_reducible refine (H1.out _).mono ?_); rintro e w5 ⟨rfl, rfl⟩) | ((with_reducible refine (H2.out _).mono ?_); rintro e w5 ⟨rfl, rfl⟩))
    go_ret2
    exact ⟨rfl, HB.out⟩
  · obtain rfl : b2 = false := by simpa using hh
    clear hh
    go_enter Try.func7, Try.ntmps7
    go_wp2_with (first | ((with_reducible refine (H1.out _).mono ?_); rintro e w5 ⟨rfl, rfl⟩) | ((with_reducible refine (H2.out _).mono ?_); rintro e w5 ⟨rfl, rfl⟩))
    go_ret2
    exact ⟨rfl, HB.out⟩
end Go.Proofs.Ytppofodijlofdaa
