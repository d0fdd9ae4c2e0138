/- DERIVED. The arguments of the statements of layer 6's second seat, opened. -/
import Derived.Test.YtdiphgkgehpgiabGm
import Derived.ProofKit
import Derived.OpenShut
import Derived.ShutString
import Derived.ChangeOld
import Derived.SizedLaws
import Derived.Deep.Slices
import Derived.Deep.Strs
import Derived.Lib.SmallJoins
namespace Go.Proofs.Ytdiphgkgehpgiab
open Go.ChangeShapes Go.WideShapes Go.ChangeAt Go.RowKit

theorem Try.own : ownKnob Try.prog.godebug = none := by kernel_rfl
theorem Try.laidOut : laidOutB Try.prog = true := by kernel_rfl
theorem Try.cells3 : Try.prog.cellsOf 3 = 1 := by kernel_rfl
theorem Try.bytes3 : Try.prog.bytesOf 3 = 8 := by kernel_rfl
theorem bounds_i64' {n : Int} (h : (Lit.int .i64 n).wf = true) : -9223372036854775808 ≤ n ∧ n ≤ 9223372036854775807 := by
  have h1 : IntKind.i64.min = -9223372036854775808 := rfl
  have h2 : IntKind.i64.max = 9223372036854775807 := rfl
  simp only [Lit.wf, Bool.and_eq_true, decide_eq_true_eq] at h
  omega

/-- what one argument weighs -/
theorem sub_weights {H : Type} {P : Program} {ts : List TypeId} {ds : List (DataW H)} (h : (DataW.weightsEach P ts ds).all (· ≤ reachBytes) = true) {j : Nat} {t : TypeId} {d : DataW H} (ht : ts[j]? = some t) (hd : ds[j]? = some d) : (d.weights P t).all (· ≤ reachBytes) = true := by
  rw [List.all_eq_true] at *
  exact fun n hn => h n (DataW.weights_mem_each ht hd n hn)

/-- a slice of ints -/
theorem open_il {H : Type} {enc : TypeId × Value → H} {W : World} {fuel : Nat} {v : Value} {x : DataW H × List MemPlace} (h : DataW.trod enc Try.prog W 0 (fun _ => true) true fuel 22 [v] = some x) :
    ∃ a c L, v = .slice a L.length c ∧ Il W a L ∧ ((x.1.weights Try.prog 22).all (· ≤ reachBytes) = true → L.length ≤ 140737488355328) := by
  rcases open_ints Try.underlying22 Try.underlying3 Try.cells3 h with ⟨hcs, hx⟩ | ⟨a, l, c, zs, hcs, _, hl, hm, hz, hx, hcell, hwz⟩
  · simp at hcs
    subst hcs
    exact ⟨none, 0, [], rfl, Or.inl rfl, fun _ => by simp⟩
  · simp at hcs
    subst hcs
    simp at hz
    have hget : ∀ j, j < l → (zs.take l).getD j 0 = zs.getD j 0 := fun j hj => by
      rw [List.getD_eq_getElem?_getD, List.getD_eq_getElem?_getD, List.getElem?_take_of_lt hj]
    have hlen : (zs.take l).length = l := by simp; omega
    refine ⟨some a, c, zs.take l, by rw [hlen], ?_, fun hw => ?_⟩
    · by_cases h0 : l = 0
      · left; exact List.eq_nil_of_length_eq_zero (by rw [hlen]; exact h0)
      · have hc0 := hcell 0 (by omega)
        obtain ⟨b, off, spot⟩ := a
        have hspot : spot = none := by simpa [Addr.add] using World.cell?_spot hc0
        subst hspot
        have hbl := World.block_lt_of_cell? W _ hc0
        rw [addr_add] at hbl
        refine Or.inr ⟨b, off, rfl, hbl, fun j hj => ?_⟩
        rw [hlen] at hj
        rw [← addr_add, hcell j (by omega), hget j hj]
    · rw [hx] at hw
      simp only [DataW.weights, Try.underlying22] at hw
      rw [List.all_cons, Bool.and_eq_true] at hw
      have := of_decide_eq_true hw.1
      rw [hlen]
      rw [Try.bytes3] at this
      simp only [reachBytes] at this
      simp [lits] at this
      omega

end Go.Proofs.Ytdiphgkgehpgiab
