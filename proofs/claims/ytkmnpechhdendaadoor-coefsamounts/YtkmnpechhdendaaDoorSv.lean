/- DERIVED. What is watched beside a coder: a variable of the caller's own. -/
import Derived.Test.YtkmnpechhdendaaDoorS3
namespace Go.Proofs.YtkmnpechhdendaaDoor
open Go.RowKit L3
variable {Z Z' : Nat → Option Obj}

/-- one block is watched -/
def one (y : Nat) (o : Obj) : Nat → Option Obj := fun z => if z = y then some o else none
theorem one_at (y : Nat) (o : Obj) : one y o y = some o := by simp [one]
theorem one_of {y z : Nat} {o o' : Obj} (h : one y o z = some o') : z = y ∧ o' = o := by
  unfold one at h
  split at h
  · rename_i e; exact ⟨e, (Option.some.inj h).symm⟩
  · cases h
theorem cell_of {w : World} {y j : Nat} {cs : Array Value} {t : TypeId} (h : w.heap[y]? = some (.cells cs t)) : w.cell? ⟨y, j, none⟩ = cs[j]? := by
  unfold World.cell?; rw [h]; simp
theorem heap_new (w : World) (o : Obj) : (w.alloc o).heap[w.heap.size]? = some o := by rw [heap_alloc_new]

theorem Co.watch {w : World} {lo x bt : Nat} {po pi : Value} {K : List (Nat × List Tb)} {ad : Bool} {n : Int} {E : Nat → Prop} (h : Co Z w lo x po pi bt K ad n E) (hz : ∀ y o, Z' y = some o → w.heap[y]? = some o ∧ y ≠ x ∧ ¬ E y ∧ ¬ Bs bt K y) : Co Z' w lo x po pi bt K ad n E :=
  ⟨h.o, h.i, h.t, h.a, h.c, h.th, h.low, h.xlo, h.st, h.ok, h.bx, h.ex, h.eb, h.dk, hz⟩
theorem Co.local {w : World} {lo x bt : Nat} {po pi : Value} {K : List (Nat × List Tb)} {ad : Bool} {n : Int} {E : Nat → Prop} (h : Co Z w lo x po pi bt K ad n E) (hE : ¬ E w.heap.size) (o : Obj) : Co (one w.heap.size o) (w.alloc o) lo x po pi bt K ad n E :=
  (h.to (from_alloc _ _)).watch fun y o' hy => by
    obtain ⟨rfl, rfl⟩ := one_of hy
    have h1 := h.low
    exact ⟨heap_new _ _, by omega, hE, fun e => by have := h.st.low e; omega⟩
theorem CR.local {w : World} {lo x bt : Nat} {K : List (Nat × List Tb)} {ad : Bool} {n : Int} {xd b : Nat} {zs : List Nat} {q c g : Nat} (h : CR Z w lo x bt K ad n xd b zs q c g) (o : Obj) : CR (one w.heap.size o) (w.alloc o) lo x bt K ad n xd b zs q c g :=
  ⟨h.co.local (fun e => by rcases e with e | e; (have := h.dc.low; omega); (have := h.blt; omega)) o, h.dc.below (from_alloc _ _), h.dk, h.dlo, Nat.lt_of_lt_of_le h.blt (from_alloc w o).size⟩
theorem CW.local {w : World} {lo x bt : Nat} {K : List (Nat × List Tb)} {ad : Bool} {n : Int} {xe : Nat} {d : Value} {T g k : Nat} (h : CW Z w lo x bt K ad n xe d T g k) (o : Obj) : CW (one w.heap.size o) (w.alloc o) lo x bt K ad n xe d T g k :=
  ⟨h.co.local (fun e => by rcases e with e | e; (have := h.en.lies.2; omega); (have := (h.en.own_lt _ e).2.1; omega)) o, h.en.below (from_alloc _ _), h.ev⟩
theorem CW.watch {w : World} {lo x bt : Nat} {K : List (Nat × List Tb)} {ad : Bool} {n : Int} {xe : Nat} {d : Value} {T g k : Nat} (h : CW Z w lo x bt K ad n xe d T g k) (hz : ∀ y o, Z' y = some o → w.heap[y]? = some o ∧ y ≠ x ∧ ¬ (y = xe ∨ d.ownBlock = some y) ∧ ¬ Bs bt K y) : CW Z' w lo x bt K ad n xe d T g k := ⟨h.co.watch hz, h.en, h.ev⟩
theorem CR.watch {w : World} {lo x bt : Nat} {K : List (Nat × List Tb)} {ad : Bool} {n : Int} {xd b : Nat} {zs : List Nat} {q c g : Nat} (h : CR Z w lo x bt K ad n xd b zs q c g) (hz : ∀ y o, Z' y = some o → w.heap[y]? = some o ∧ y ≠ x ∧ ¬ (y = xd ∨ y = b) ∧ ¬ Bs bt K y) : CR Z' w lo x bt K ad n xd b zs q c g := ⟨h.co.watch hz, h.dc, h.dk, h.dlo, h.blt⟩

end Go.Proofs.YtkmnpechhdendaaDoor
