/- DERIVED. A map keyed by cells, in memory. -/
import Derived.Test.YtppofodijlofdaaBa
import Derived.Maps.OwnSet
import Derived.DeepKeys4
namespace Go.Proofs.Ytppofodijlofdaa
open Go.RowKit Go.Maps

theorem Try.laidOut : laidOutB Try.prog = true := by kernel_rfl
theorem Try.row74 : (74 : TypeId) < Try.prog.types.size := of_decide_eq_true (by kernel_rfl)
theorem Try.wide74 : (match Try.prog.underlying 74 with | some (.array _ _) | some (.struct _) => true | _ => false) = true := by kernel_rfl
theorem Try.law74 : Keyed Try.prog 74 := Keyed.of_law (deep_law_laid Try.laidOut (m := 2) (by omega) Try.row74 (by kernel_rfl) Try.wide74)
theorem Try.zero3 (w : World) : (zeroValue 3).run Try.prog w = .ok (.int .i64 0) w := by kernel_rfl
theorem Try.keyType74 : Try.prog.keyType 74 = true := by kernel_rfl
theorem Try.types0 : ∃ n, Try.prog.types.size + 1 = n + 2 := ⟨108 + 1, by kernel_rfl⟩
theorem Try.cells74 : Try.prog.cellsOf 74 = 2 := by kernel_rfl
theorem Try.cells3 : Try.prog.cellsOf 3 = 1 := by kernel_rfl

/-- is it one of Go's ints? -/
def I64 (x : Int) : Prop := -9223372036854775808 ≤ x ∧ x ≤ 9223372036854775807
theorem I64.wf {x : Int} (h : I64 x) : (Lit.int .i64 x).wf = true := by
  have h1 : IntKind.i64.min = -9223372036854775808 := rfl
  have h2 : IntKind.i64.max = 9223372036854775807 := rfl
  simp only [Lit.wf, Bool.and_eq_true, decide_eq_true_eq]
  unfold I64 at h
  omega
/-- a cell, as a value -/
def cl (x y : Int) : Value := .agg #[.int .i64 x, .int .i64 y]
/-- what it reads as -/
def ky (x y : Int) : Lit := .string (keyBytes [.int .i64 x, .int .i64 y])
theorem key_ok {x y : Int} (hx : I64 x) (hy : I64 y) : keyOf Try.prog 74 (cl x y) = some (ky x y) := by
  obtain ⟨n, hn⟩ := Try.types0
  unfold keyOf cl ky
  rw [Try.underlying74]
  simp only [Try.keyType74]
  have hf : (Value.agg #[.int .i64 x, .int .i64 y]).formed Try.prog 74 = true := by simp [Value.formed, Try.underlying74, Try.cells74]
  rw [hf, hn]
  simp [Program.keyLits, Try.underlying74, Try.underlying3, Try.cells74, Try.cells3, Value.cells, hx.wf, hy.wf]
theorem ky_ne {x y x' y' : Int} (hx : I64 x) (hy : I64 y) (hx' : I64 x') (hy' : I64 y') (h : ¬ (x = x' ∧ y = y')) : ky x y ≠ ky x' y' := by
  intro e
  have h1 := key_ok hx hy
  rw [e] at h1
  have := Try.law74.inj h1 (key_ok hx' hy')
  simp [cl] at this
  exact h this

/-- block m is a map of at most n entries that has the number i at the cell (x, y) just where f says so -/
structure Mp (w : World) (m n : Nat) (f : Int → Int → Option Nat) : Prop where
  own : ∃ D : DataW Unit, w.ownsMap Try.prog 74 (plainElem Try.prog 3) m n D ∧ ∀ x y, I64 x → I64 y → Maps.has D (ky x y) = (f x y).isSome ∧ D.atKey (ky x y) (.lit (.int .i64 0)) = .lit (.int .i64 (((f x y).getD 0 : Nat) : Int))
theorem Mp.carry {w w' : World} {m n : Nat} {f : Int → Int → Option Nat} (h : Mp w m n f) (hb : w'.heap[m]? = w.heap[m]?) : Mp w' m n f := by
  obtain ⟨D, ⟨es, ck, h1, h2⟩, h3⟩ := h.own
  exact ⟨D, ⟨es, ck, by rw [hb]; exact h1, h2⟩, h3⟩
theorem Mp.lt {w : World} {m n : Nat} {f : Int → Int → Option Nat} (h : Mp w m n f) : m < w.heap.size := by
  obtain ⟨D, h1, _⟩ := h.own
  exact h1.lt
theorem Mp.mono {w : World} {m n n' : Nat} {f : Int → Int → Option Nat} (h : Mp w m n f) (hn : n ≤ n') : Mp w m n' f := by
  obtain ⟨D, h1, h2⟩ := h.own
  exact ⟨D, h1.mono hn, h2⟩
theorem Mp.cong {w : World} {m n : Nat} {f g : Int → Int → Option Nat} (h : Mp w m n f) (hf : ∀ x y, f x y = g x y) : Mp w m n g := by
  obtain ⟨D, h1, h2⟩ := h.own
  exact ⟨D, h1, fun x y hx hy => by rw [← hf x y]; exact h2 x y hx hy⟩
theorem Mp.made (w : World) {m : Nat} (hm : w.heap.size = m) : Mp (w.alloc (.map #[] 0)) m 0 (fun _ _ => none) := by
  subst hm
  refine ⟨.map [], World.ownsMap_made _ _ _ _, fun x y _ _ => ⟨rfl, rfl⟩⟩
/-- v, ok := m[c] -/
theorem Mp.look {w : World} {m n : Nat} {f : Int → Int → Option Nat} (h : Mp w m n f) {x y : Int} (hx : I64 x) (hy : I64 y) :
    (Instr.lookup 61 (.map (some m)) (cl x y) true).run Try.prog w = .ok (.tuple #[.int .i64 (((f x y).getD 0 : Nat) : Int), .bool (f x y).isSome]) w := by
  obtain ⟨D, h1, h2⟩ := h.own
  obtain ⟨e1, e2⟩ := h2 x y hx hy
  obtain ⟨v, ps, hr, hv⟩ := h1.look_ok Try.law74 Try.underlying61 (Try.zero3 w) (plainElem_int Try.underlying3 (by decide)) (key_ok hx hy)
  obtain ⟨c, rfl, hc, _⟩ := plainElem_int_inv Try.underlying3 hv
  simp only [Prod.mk.injEq] at hc
  rw [e2] at hc
  have hc' := hc.1
  simp only [DataW.lit.injEq, Lit.int.injEq, true_and] at hc'
  rw [hr, e1, hc']
/-- f, but i at (x, y) -/
def up (f : Int → Int → Option Nat) (x y : Int) (i : Nat) : Int → Int → Option Nat := fun x' y' => if x' = x ∧ y' = y then some i else f x' y'
/-- m[c] = i -/
theorem Mp.store {w : World} {m n : Nat} {f : Int → Int → Option Nat} (h : Mp w m n f) (hn : n < 1000000) {x y : Int} (hx : I64 x) (hy : I64 y) {i : Nat} (hi : i < 1000000) :
    ∃ w', (Instr.mapUpdate 61 (.map (some m)) (cl x y) (.int .i64 (i : Int))).run Try.prog w = .ok () w' ∧ Mp w' m (n + 1) (up f x y i) ∧ w.mapTurned w' m := by
  obtain ⟨D, h1, h2⟩ := h.own
  have hw : (Lit.int .i64 (i : Int)).wf = true := I64.wf ⟨by omega, by omega⟩
  obtain ⟨w', hr, ho, ht⟩ := h1.store Try.law74 Try.underlying61 (by unfold maxLen; omega) (key_ok hx hy) (plainElem_int Try.underlying3 hw)
  refine ⟨w', hr, ⟨_, ho, fun x' y' hx' hy' => ?_⟩, ht⟩
  obtain ⟨e1, e2⟩ := h2 x' y' hx' hy'
  unfold up
  by_cases e : x' = x ∧ y' = y
  · obtain ⟨rfl, rfl⟩ := e
    have hk := Try.law74.key (key_ok hx hy)
    rw [if_pos ⟨rfl, rfl⟩]
    exact ⟨Maps.has_put_same h1.isMap hk _, Maps.atKey_put_same h1.isMap hk _ _⟩
  · have hne : ky x' y' ≠ ky x y := ky_ne hx' hy' hx hy e
    rw [if_neg e]
    exact ⟨by rw [Maps.has_put_other hne]; exact e1, by rw [Maps.atKey_put_other hne]; exact e2⟩
end Go.Proofs.Ytppofodijlofdaa
