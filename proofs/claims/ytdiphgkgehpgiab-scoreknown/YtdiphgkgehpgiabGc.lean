/- DERIVED. The walk of ScoreLists. -/
import Derived.Test.YtdiphgkgehpgiabFk
namespace Go.Proofs.Ytdiphgkgehpgiab
open Go.RowKit Ieee

theorem Try.info26 : (Try.prog.info? 26).map (fun i => (i.zero, i.size, i.bytes)) = some (some (.float .f64 0), 1, 8) := by kernel_rfl
/-- floats, as cells -/
def fs (C : List Nat) : List Value := C.map fun z => .float .f64 z
theorem fs_length (C : List Nat) : (fs C).length = C.length := by simp [fs]
theorem fs_get (C : List Nat) (j : Nat) (h : j < C.length) : (fs C)[j]? = some (.float .f64 (C.getD j 0)) := by simp [fs, List.getElem?_eq_getElem h]
theorem fs_one (C : List Nat) : ∀ u ∈ fs C, u.oneCell' = true := by
  intro u hu
  obtain ⟨z, _, rfl⟩ := List.mem_map.1 hu
  rfl
theorem Fl.drewN {w : World} {a : Option Addr} {C : List Nat} (h : Fl w a C) (n : Nat) : Fl (w.drewN n) a C := h.to (below_drewN (Below.refl _ _) n)
theorem Fl.ofOwn {w : World} {B e n c : Nat} {a : Option Addr} {C : List Nat} (h : w.ownsRow B e 1 (.slice a n c) C.length (fs C)) : Fl w a C := by
  by_cases h0 : C.length = 0
  · exact Or.inl (List.eq_nil_of_length_eq_zero h0)
  · obtain ⟨b, cap, hv, _, hlt⟩ := h.form (by omega)
    simp only [Value.slice.injEq] at hv
    obtain ⟨rfl, rfl, rfl⟩ := hv
    exact Or.inr ⟨b, 0, rfl, hlt, fun j hj => by rw [Nat.zero_add, h.cellAt j (by omega)]; exact fs_get C j hj⟩
theorem best_nil {w : World} {a : Option Addr} {c : Nat} : Calls Try.prog 13 #[.slice a 0 c] w fun e w' => e = .returned (.tuple #[.int .i64 0, .int .i64 2]) ∧ w' = w := best_any (C := []) (Or.inl rfl) (by simp)
theorem mean_z {w : World} {a : Option Addr} {c : Nat} : Calls Try.prog 7 #[.slice a 0 c] w fun e w' => Ans w none e w' := mean_any (C := []) (Or.inl rfl) (by simp) (by simp)

end Go.Proofs.Ytdiphgkgehpgiab
