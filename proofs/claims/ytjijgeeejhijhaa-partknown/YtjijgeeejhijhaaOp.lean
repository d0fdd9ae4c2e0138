/- DERIVED. The arguments of the statements of layer 16, opened: a rectangle, numbers. -/
import Derived.Test.YtjijgeeejhijhaaGr
import Derived.ProofKit
import Derived.OpenShut
import Derived.ShutString
import Derived.ChangeOld
import Derived.SizedLaws
import Derived.Deep.Slices
import Derived.Deep.Strs
import Derived.Lib.SmallJoins
namespace Go.Proofs.Ytjijgeeejhijhaa
open Go.ChangeShapes Go.WideShapes Go.ChangeAt Go.RowKit

theorem Try.own : ownKnob Try.prog.godebug = none := by kernel_rfl
theorem Try.laidOut : laidOutB Try.prog = true := by kernel_rfl
theorem Try.cells3 : Try.prog.cellsOf 3 = 1 := by kernel_rfl
theorem Try.cells23 : Try.prog.cellsOf 23 = 4 := by kernel_rfl
theorem Try.bytes3 : Try.prog.bytesOf 3 = 8 := by kernel_rfl

theorem bounds_i64' {n : Int} (h : (Lit.int .i64 n).wf = true) : -9223372036854775808 ≤ n ∧ n ≤ 9223372036854775807 := by
  have h1 : IntKind.i64.min = -9223372036854775808 := rfl
  have h2 : IntKind.i64.max = 9223372036854775807 := rfl
  simp only [Lit.wf, Bool.and_eq_true, decide_eq_true_eq] at h
  omega

/-- what one argument weighs -/
theorem sub_weights {H : Type} {P : Program} {ts : List TypeId} {ds : List (DataW H)} (h : (DataW.weightsEach P ts ds).all (· ≤ reachBytes) = true) {j : Nat} {t : TypeId} {d : DataW H} (ht : ts[j]? = some t) (hd : ds[j]? = some d) : (d.weights P t).all (· ≤ reachBytes) = true := by
  rw [List.all_eq_true] at *
  exact fun n hn => h n (DataW.weights_mem_each ht hd n hn)

/-- a slice of ints -/
theorem open_nums {H : Type} {enc : TypeId × Value → H} {W : World} {fuel : Nat} {v : Value} {x : DataW H × List MemPlace} (h : DataW.trod enc Try.prog W 0 (fun _ => true) true fuel 33 [v] = some x) :
    ∃ a c C, v = .slice a C.length c ∧ Si W a C ∧ C.length ≤ c ∧ ((x.1.weights Try.prog 33).all (· ≤ reachBytes) = true → C.length ≤ 17592186043904) := by
  rcases open_ints Try.underlying33 Try.underlying3 Try.cells3 h with ⟨hcs, hx⟩ | ⟨a, l, c, zs, hcs, _, hl, hm, hz, hx, hcell, hwz⟩
  · simp at hcs
    subst hcs
    exact ⟨none, 0, [], rfl, Or.inl rfl, Nat.le_refl _, fun _ => by simp⟩
  · simp at hcs
    subst hcs
    simp at hz
    have hget : ∀ j, j < l → (zs.take l).getD j 0 = zs.getD j 0 := fun j hj => by
      rw [List.getD_eq_getElem?_getD, List.getD_eq_getElem?_getD, List.getElem?_take_of_lt hj]
    have hlen : (zs.take l).length = l := by simp; omega
    refine ⟨some a, c, zs.take l, by rw [hlen], ?_, by rw [hlen]; exact hl, fun hw => ?_⟩
    · by_cases h0 : l = 0
      · left; exact List.eq_nil_of_length_eq_zero (by rw [hlen]; exact h0)
      · have hc0 := hcell 0 (by omega)
        obtain ⟨b, off, spot⟩ := a
        have hspot : spot = none := by simpa [Addr.add] using World.cell?_spot hc0
        subst hspot
        have hbl := World.block_lt_of_cell? W _ hc0
        rw [addr_add] at hbl
        refine Or.inr ⟨b, off, rfl, hbl, fun j hj => ?_⟩
        rw [hlen] at hj
        rw [← addr_add, hcell j (by omega), hget j hj]
    · rw [hx] at hw
      simp only [DataW.weights, Try.underlying33] at hw
      rw [List.all_cons, Bool.and_eq_true] at hw
      have := of_decide_eq_true hw.1
      rw [hlen]
      rw [Try.bytes3] at this
      simp only [reachBytes] at this
      simp [lits] at this
      omega

theorem four_cells {cs : Array Value} (h : cs.size = 4) : ∃ y0 y1 y2 y3, cs = #[y0, y1, y2, y3] := by
  obtain ⟨l⟩ := cs
  match l, h with
  | [y0, y1, y2, y3], _ => exact ⟨y0, y1, y2, y3, rfl⟩
/-- a rectangle's four cells -/
theorem open_rect {H : Type} {enc : TypeId × Value → H} {W : World} {fuel : Nat} {v0 v1 v2 v3 : Value} {x : DataW H × List MemPlace} (h : DataW.trod enc Try.prog W 0 (fun _ => true) true fuel 23 [v0, v1, v2, v3] = some x) :
    ∃ X Y w ht, v0 = .int .i64 X ∧ v1 = .int .i64 Y ∧ v2 = .int .i64 w ∧ v3 = .int .i64 ht ∧ (-9223372036854775808 ≤ X ∧ X ≤ 9223372036854775807) ∧ (-9223372036854775808 ≤ Y ∧ Y ≤ 9223372036854775807) ∧ (-9223372036854775808 ≤ w ∧ w ≤ 9223372036854775807) ∧ (-9223372036854775808 ≤ ht ∧ ht ≤ 9223372036854775807) := by
  obtain ⟨y0, y1, y2, y3, m, hx, _, g0, g1, g2, g3⟩ := Joins.trod_struct4 Try.underlying23 h
  simp only [Try.cells3] at g0 g1 g2 g3
  simp at g0 g1 g2 g3
  obtain ⟨k0, e0, _, w0⟩ := DataW.trod_int Try.underlying3 g0
  obtain ⟨k1, e1, _, w1⟩ := DataW.trod_int Try.underlying3 g1
  obtain ⟨k2, e2, _, w2⟩ := DataW.trod_int Try.underlying3 g2
  obtain ⟨k3, e3, _, w3⟩ := DataW.trod_int Try.underlying3 g3
  simp at e0 e1 e2 e3
  subst e0 e1 e2 e3
  exact ⟨k0, k1, k2, k3, rfl, rfl, rfl, rfl, bounds_i64' w0, bounds_i64' w1, bounds_i64' w2, bounds_i64' w3⟩

end Go.Proofs.Ytjijgeeejhijhaa
