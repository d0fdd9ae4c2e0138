/- DERIVED. What the statements of layer 1 are told of their arguments, and small facts on what calls of a reader and of a writer answer. -/
import Derived.Test.YtkippnfijjhobabLwA
namespace Go.Proofs.Ytkippnfijjhobab
open Go.RowKit

/-- a list of calls (kind, bits, value) that lies in memory -/
def DoAt (w : World) (v : Value) (L : List (Int × Int × Nat)) : Prop :=
  (L = [] ∧ ∃ a c, v = .slice a 0 c) ∨ ∃ b off c, v = .slice (some ⟨b, off, none⟩) L.length c ∧ b < w.heap.size ∧
    ∀ j, j < L.length → w.cell? ⟨b, off + j * 3, none⟩ = some (.int .i64 (L.getD j (0, 0, 0)).1) ∧ w.cell? ⟨b, off + j * 3 + 1, none⟩ = some (.int .i64 (L.getD j (0, 0, 0)).2.1) ∧ w.cell? ⟨b, off + j * 3 + 2, none⟩ = some (.int .u32 ((L.getD j (0, 0, 0)).2.2 : Nat)) ∧ (L.getD j (0, 0, 0)).2.2 < 4294967296

theorem DoAt.sl {w : World} {v : Value} {L : List (Int × Int × Nat)} (h : DoAt w v L) : ∃ a c, v = .slice a L.length c := by
  rcases h with ⟨rfl, a, c, rfl⟩ | ⟨b, off, c, rfl, _⟩
  · exact ⟨_, _, rfl⟩
  · exact ⟨_, _, rfl⟩
theorem DoAt.cells {w : World} {a : Option Addr} {n c : Nat} {L : List (Int × Int × Nat)} (h : DoAt w (.slice a n c) L) (j : Nat) (hj : j < L.length) : ∃ b off, a = some ⟨b, off, none⟩ ∧ b < w.heap.size ∧
    w.cell? ⟨b, off + j * 3, none⟩ = some (.int .i64 (L.getD j (0, 0, 0)).1) ∧ w.cell? ⟨b, off + j * 3 + 1, none⟩ = some (.int .i64 (L.getD j (0, 0, 0)).2.1) ∧ w.cell? ⟨b, off + j * 3 + 2, none⟩ = some (.int .u32 ((L.getD j (0, 0, 0)).2.2 : Nat)) ∧ (L.getD j (0, 0, 0)).2.2 < 4294967296 := by
  rcases h with ⟨rfl, _⟩ | ⟨b, off, c', hv, hb, hc⟩
  · simp at hj
  · simp only [Value.slice.injEq] at hv
    exact ⟨b, off, hv.1, hb, hc j hj⟩
theorem DoAt.below {w w' : World} {B : Nat} {v : Value} {L : List (Int × Int × Nat)} (h : DoAt w v L) (hB : B = w.heap.size) (hb : Below B w w') : DoAt w' v L := by
  subst hB
  rcases h with h | ⟨b, off, c, rfl, hlt, hc⟩
  · exact Or.inl h
  · refine Or.inr ⟨b, off, c, rfl, Nat.lt_of_lt_of_le hlt hb.size, fun j hj => ?_⟩
    rw [hb.cell (p := ⟨b, off + j * 3, none⟩) hlt, hb.cell (p := ⟨b, off + j * 3 + 1, none⟩) hlt, hb.cell (p := ⟨b, off + j * 3 + 2, none⟩) hlt]
    exact hc j hj

/-! ### what a reader's call answers -/
theorem rFixed_stays (zs : List Nat) (p : Nat) (n : Int) : (rFixed zs p n).2.1 ≠ 0 → (rFixed zs p n).2.2 = p := by
  unfold rFixed; split
  · simp
  · split <;> simp
theorem rSigned_stays (zs : List Nat) (p : Nat) (n : Int) : (rSigned zs p n).2.1 ≠ 0 → (rSigned zs p n).2.2 = p := by
  unfold rSigned; split
  · simp
  · split
    · simp
    · split
      · split <;> simp
      · simp
theorem rUvlc_stays (zs : List Nat) (p : Nat) : (rUvlc zs p).2.1 ≠ 0 → (rUvlc zs p).2.2 = p := by
  unfold rUvlc; split
  · simp
  · split
    · simp
    · split <;> simp
theorem rLebFrom_stays (zs : List Nat) (s p : Nat) : ∀ f i v, (rLebFrom zs s p f i v).2.1 ≠ 0 → (rLebFrom zs s p f i v).2.2 = p := by
  intro f
  induction f with
  | zero => intro i v; simp [rLebFrom]
  | succ f ih =>
    intro i v
    rw [rLebFrom]
    split
    · simp
    · split
      · simp
      · split
        · simp
        · exact ih _ _
theorem rLeb_stays (zs : List Nat) (p : Nat) : (rLeb zs p).2.1 ≠ 0 → (rLeb zs p).2.2 = p := by
  unfold rLeb; split
  · exact rLebFrom_stays _ _ _ _ _ _
  · simp
theorem rAlign_stays (zs : List Nat) (p : Nat) : (rAlign zs p).1 ≠ 0 → (rAlign zs p).2 = p := by
  unfold rAlign; split <;> simp
theorem rdOne_stays (zs : List Nat) (p : Nat) (k n : Int) : (rdOne zs p k n).2.1 ≠ 0 → (rdOne zs p k n).2.2 = p := by
  unfold rdOne
  split
  · exact rFixed_stays _ _ _
  · exact rSigned_stays _ _ _
  · exact rUvlc_stays _ _
  · exact rLeb_stays _ _
  · exact rAlign_stays _ _
theorem rLebFrom_goes (zs : List Nat) (s p : Nat) (hp : p = 8 * s) : ∀ f i v, p ≤ (rLebFrom zs s p f i v).2.2 := by
  intro f
  induction f with
  | zero => intro i v; simp [rLebFrom]
  | succ f ih =>
    intro i v
    rw [rLebFrom]
    split
    · simp
    · split
      · simp
      · split
        · simp; omega
        · exact ih _ _
theorem rdOne_goes (zs : List Nat) (p : Nat) (k n : Int) : p ≤ (rdOne zs p k n).2.2 := by
  unfold rdOne
  split
  · unfold rFixed; split
    · simp
    · split <;> simp
  · unfold rSigned; split
    · simp
    · split
      · simp
      · split
        · split <;> simp <;> omega
        · simp; omega
  · unfold rUvlc; split
    · simp
    · split
      · simp
      · split <;> simp; omega
  · unfold rLeb; split
    · exact rLebFrom_goes _ _ _ (by omega) _ _ _
    · simp
  · unfold rAlign; split
    · simp; omega
    · simp

/-! ### what a writer's call answers -/
theorem wFixed_says (t V v : Nat) (n : Int) : (wFixed t V v n).1 = 0 ∨ wFixed t V v n = (2, t, V) := by
  unfold wFixed; split <;> simp
theorem wrOne_says (t V : Nat) (k n : Int) (v : Nat) : (wrOne t V k n v).1 = 0 ∨ wrOne t V k n v = (2, t, V) := by
  unfold wrOne
  split
  · unfold wFixed; split <;> simp
  · unfold wSigned; split <;> simp
  · unfold wUvlc; split <;> simp
  · unfold wLeb; split <;> simp
  · simp
theorem lebGo_le : ∀ f t V v, (lebGo f t V v).1 ≤ t + 8 * (f + 1) := by
  intro f
  induction f with
  | zero => intro t V v; simp [lebGo]
  | succ f ih =>
    intro t V v
    rw [lebGo]
    split
    · simp; omega
    · have := ih (t + 8) (V * 256 + (v % 128 + 128)) (v / 128); omega
theorem wrOne_le (t V : Nat) (k n : Int) (v : Nat) (hv : v < 4294967296) : (wrOne t V k n v).2.1 ≤ t + 64 := by
  unfold wrOne
  split
  · unfold wFixed; split
    · simp
    · simp; omega
  · unfold wSigned; split
    · simp
    · simp; omega
  · unfold wUvlc; split
    · simp
    · have := (len_bounds (v + 1) (by omega) (by omega)).2.2.2
      simp; omega
  · unfold wLeb; split
    · have := lebGo_le 4 t V v; simp; omega
    · simp
  · simp [wAlign]; omega
theorem Wv.same {ys zs : List Nat} {t V : Nat} (h : Wv ys t V) (h' : Wv zs t V) : ys = zs := by rw [h.bytes, h'.bytes]

end Go.Proofs.Ytkippnfijjhobab
