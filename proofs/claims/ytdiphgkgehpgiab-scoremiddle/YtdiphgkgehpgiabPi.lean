/- DERIVED. The walks of EqBytes, bytes.Equal, Same, Apart, New. -/
import Derived.Test.YtdiphgkgehpgiabPf
import Derived.Lib.Bytes
namespace Go.Proofs.Ytdiphgkgehpgiab
open Go.RowKit

/-- are two lists the same? -/
def eqB (C D : List Nat) : Bool := decide (C = D)
theorem eqB_yes {C D : List Nat} (h : C = D) : eqB C D = true := by simp [eqB, h]
theorem eqB_no {C D : List Nat} (h : ¬ C = D) : eqB C D = false := by simp [eqB, h]
theorem eqB_self (C : List Nat) : eqB C C = true := eqB_yes rfl

set_option maxRecDepth 100000 in
set_option maxHeartbeats 1000000 in
/-- samples of eight bits -/
def Byt (C : List Nat) : Prop := ∀ j, C.getD j 0 < 256
set_option maxHeartbeats 1000000 in
theorem byte_inj {a b : Nat} (ha : a < 256) (hb : b < 256) (h : UInt8.ofNat a = UInt8.ofNat b) : a = b := by
  have h1 : (UInt8.ofNat a).toNat = a := by simp [UInt8.toNat_ofNat']; omega
  have h2 : (UInt8.ofNat b).toNat = b := by simp [UInt8.toNat_ofNat']; omega
  rw [← h1, ← h2, h]
theorem bytes_eqB {C D : List Nat} (hC : C = D ∨ (Byt C ∧ Byt D)) : (Lib.bytesOf (C.map fun z : Nat => (z : Int)) == Lib.bytesOf (D.map fun z : Nat => (z : Int))) = eqB C D := by
  by_cases e : C = D
  · subst e; rw [eqB_self]; simp
  · rw [eqB_no e]
    rcases hC with hC | ⟨h1, h2⟩
    · exact absurd hC e
    · refine beq_false_of_ne fun k => e ?_
      simp only [Lib.bytesOf, List.map_map] at k
      have hl : C.length = D.length := by simpa using congrArg List.length k
      refine list_eq_of_getD hl fun j hj => byte_inj (h1 j) (h2 j) ?_
      have := congrArg (fun l : List UInt8 => l[j]?) k
      simp [List.getElem?_map, List.getElem?_eq_getElem hj, List.getElem?_eq_getElem (show j < D.length by omega)] at this
      simpa [List.getD_eq_getElem?_getD, List.getElem?_eq_getElem hj, List.getElem?_eq_getElem (show j < D.length by omega)] using this

/-- what Same answers -/
def smB (W H : Int) (C : List Nat) (W' H' : Int) (D : List Nat) : Bool := decide (W = W' ∧ H = H' ∧ C = D)
theorem smB_yes {W H : Int} {C : List Nat} {W' H' : Int} {D : List Nat} (h : W = W' ∧ H = H' ∧ C = D) : smB W H C W' H' D = true := by simp [smB, h]
theorem smB_no {W H : Int} {C : List Nat} {W' H' : Int} {D : List Nat} (h : ¬ (W = W' ∧ H = H' ∧ C = D)) : smB W H C W' H' D = false := by simp only [smB]; exact decide_eq_false h
theorem smB_eq {W H : Int} {C D : List Nat} : smB W H C W H D = eqB C D := by simp [smB, eqB]

end Go.Proofs.Ytdiphgkgehpgiab
