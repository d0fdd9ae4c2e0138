/- DERIVED. The walks of EqBytes, bytes.Equal, Same, Apart, New. -/
import Derived.Test.YtlgfkkegehpllabPh
import Derived.Lib.Bytes
namespace Go.Proofs.Ytlgfkkegehpllab
open Go.RowKit

/-- are two lists the same? -/
def eqB (C D : List Nat) : Bool := decide (C = D)
theorem eqB_yes {C D : List Nat} (h : C = D) : eqB C D = true := by simp [eqB, h]
theorem eqB_no {C D : List Nat} (h : ¬ C = D) : eqB C D = false := by simp [eqB, h]
theorem eqB_self (C : List Nat) : eqB C C = true := eqB_yes rfl

set_option maxRecDepth 100000 in
set_option maxHeartbeats 1000000 in
theorem eqBytes_any {w : World} {a b : Option Addr} {c d : Nat} {C D : List Nat} (h1 : Sl w .u8 a C) (h2 : Sl w .u8 b D) (hl : C.length ≤ 140737488355328) (hl2 : D.length ≤ 140737488355328) :
    Calls Try.prog 12 #[.slice a C.length c, .slice b D.length d] w fun e w' => e = .returned (.bool (eqB C D)) ∧ Below w.heap.size w w' := by
  by_cases hn : C.length = D.length
  · by_cases h0 : C.length = 0
    · obtain rfl : C = [] := List.eq_nil_of_length_eq_zero h0
      obtain rfl : D = [] := List.eq_nil_of_length_eq_zero (by simpa using hn.symm)
      rw [eqB_self]
      simp only [List.length_nil]
      go_enter Try.func12, Try.ntmps12
      go_wp2
      go_loop [5] (fun i => i = .int .i64 0) (fun _ => 0)
      case atStart => rfl
      case round =>
        subst hrel
        go_wp2
        go_ret
        exact ⟨rfl, Below.refl _ _⟩
    · obtain ⟨b1, o1, rfl, hbl, hc1⟩ := h1.form (by omega)
      obtain ⟨b2, o2, rfl, hbl2, hc2⟩ := h2.form (by omega)
      have hne : ((C.length : Int) != (D.length : Int)) = false := by simp [hn]
      have Q1 : Hid (∀ m j, j < C.length → (w.drewN m).cell? ⟨b1, o1 + j, none⟩ = some (.int .u8 (C.getD j 0 : Nat))) := fun m j hj => hc1 j hj
      have Q2 : Hid (∀ m j, j < C.length → (w.drewN m).cell? ⟨b2, o2 + j, none⟩ = some (.int .u8 (D.getD j 0 : Nat))) := fun m j hj => hc2 j (by omega)
      have HN : Hid (C.length = D.length) := hn
      clear hn h1 h2 hc1 hc2
      go_enter Try.func12, Try.ntmps12
      go_wp2
      go_loopw [5] (fun i wr => ∃ k m : Nat, k ≤ C.length ∧ i = .int .i64 k ∧ wr = w.drewN m ∧ Hid (∀ j, j < k → C.getD j 0 = D.getD j 0)) (fun i _ => C.length - (intOf i).toNat)
      case atStart => exact ⟨0, 0, by omega, rfl, rfl, fun j hj => by omega⟩
      case round =>
        obtain ⟨k, m, hk, rfl, rfl, HK⟩ := hrel
        by_cases hlt : k < C.length
        · have r1 := Q1.out m k hlt
          have r2 := Q2.out m k hlt
          have b0 : 0 ≤ (k : Int) := by omega
          have b1 : (k : Int) < (C.length : Int) := by omega
          have b2 : (k : Int) < (D.length : Int) := by have := HN.out; omega
          generalize he1 : C.getD k 0 = p1 at *
          generalize he2 : D.getD k 0 = p2 at *
          have HE1 : Hid (C.getD k 0 = p1) := he1
          have HE2 : Hid (D.getD k 0 = p2) := he2
          clear he1 he2
          generalize hW : w.drewN m = v at *
          have HW : Hid (w.drewN m = v) := hW
          clear hW
          by_cases hp : p1 = p2
          · have hp' : ((p1 : Int) != (p2 : Int)) = false := by simp [hp]
            have HP : Hid (p1 = p2) := hp
            clear hp
            go_wp2
            go_quiet (fail)
            go_wp2
            go_roundw
            case rel => exact ⟨k + 1, m + nq, by omega, by go_num, by rw [← HW.out]; exact drewN_drewN _ _ _, fun j hj => by
              by_cases e : j = k
              · rw [e, HE1.out, HE2.out]; exact HP.out
              · exact HK.out j (by omega)⟩
            case measure => simp [intOf]; omega
          · have hp' : ((p1 : Int) != (p2 : Int)) = true := by rw [bne_iff_ne]; omega
            have HF : Hid (eqB C D = false) := eqB_no (fun e => hp (by rw [← HE1.out, ← HE2.out, e]))
            clear hp
            go_wp2
            go_quiet (fail)
            go_wp2
            go_ret
            exact ⟨by rw [HF.out]; rfl, by rw [← HW.out]; exact below_drewN (below_drewN (Below.refl _ _) _) _⟩
        · go_wp2
          go_ret
          exact ⟨by rw [eqB_yes (list_eq_of_getD HN.out fun j hj => HK.out j (by omega))]; rfl, below_drewN (Below.refl _ _) _⟩
  · rw [eqB_no (fun e => hn (by rw [e]))]
    have hne : ((C.length : Int) != (D.length : Int)) = true := by rw [bne_iff_ne]; omega
    clear hn
    go_enter Try.func12, Try.ntmps12
    go_wp2
    go_ret
    exact ⟨rfl, Below.refl _ _⟩

/-- samples of eight bits -/
def Byt (C : List Nat) : Prop := ∀ j, C.getD j 0 < 256
theorem sl_string {w : World} {a : Option Addr} {c : Nat} {C : List Nat} (h : Sl w .u8 a C) : (convert 22 9 (.slice a C.length c)).run Try.prog w = .ok (.string (strOfNums (C.map fun z : Nat => (z : Int)))) w := by
  by_cases h0 : C.length = 0
  · obtain rfl : C = [] := List.eq_nil_of_length_eq_zero h0
    cases a with
    | none => exact run_convert_bytes_nil w 22 5 Try.underlying22 Try.underlying5 _ _ 9 Try.underlying9
    | some ad =>
      have hl : (loadCells ad 0).run Try.prog w = .ok (([] : List Int).map (Value.int .u8)).toArray w := run_loadCells_list (P := Try.prog) w ad [] (fun j v hj => by simp at hj)
      show (convert 22 9 (.slice (some ad) 0 c)).run Try.prog w = _
      rw [run_convert_bytes_string w 22 9 5 _ 0 c Try.underlying22 Try.underlying5 Try.underlying9, run_bytesToString w _ 0 c [] hl]
      rfl
  · obtain ⟨b, o, rfl, hbl, hc⟩ := h.form (by omega)
    refine run_convert_bytes_arg w 22 5 Try.underlying22 Try.underlying5 b o C.length c _ (by simp) (fun i hi => ?_) 9 Try.underlying9
    rw [hc i hi]
    congr 2
    simp [List.getD_eq_getElem?_getD, List.getElem?_eq_getElem hi]

set_option maxHeartbeats 1000000 in
theorem equal_str {w : World} {v1 v2 : Value} {xs ys : List Int} (h1 : (convert 22 9 v1).run Try.prog w = .ok (.string (strOfNums xs)) w) (h2 : (convert 22 9 v2).run Try.prog w = .ok (.string (strOfNums ys)) w) :
    Calls Try.prog 24 #[v1, v2] w fun e w' => e = .returned (.bool (Lib.bytesOf xs == Lib.bytesOf ys)) ∧ w' = w := by
  rw [← Lib.strOfNums_toList, ← Lib.strOfNums_toList]
  go_enter Try.func24, Try.ntmps24
  go_wp2
  go_ret
  exact ⟨rfl, rfl⟩

theorem byte_inj {a b : Nat} (ha : a < 256) (hb : b < 256) (h : UInt8.ofNat a = UInt8.ofNat b) : a = b := by
  have h1 : (UInt8.ofNat a).toNat = a := by simp [UInt8.toNat_ofNat']; omega
  have h2 : (UInt8.ofNat b).toNat = b := by simp [UInt8.toNat_ofNat']; omega
  rw [← h1, ← h2, h]
theorem bytes_eqB {C D : List Nat} (hC : C = D ∨ (Byt C ∧ Byt D)) : (Lib.bytesOf (C.map fun z : Nat => (z : Int)) == Lib.bytesOf (D.map fun z : Nat => (z : Int))) = eqB C D := by
  by_cases e : C = D
  · subst e; rw [eqB_self]; simp
  · rw [eqB_no e]
    rcases hC with hC | ⟨h1, h2⟩
    · exact absurd hC e
    · refine beq_false_of_ne fun k => e ?_
      simp only [Lib.bytesOf, List.map_map] at k
      have hl : C.length = D.length := by simpa using congrArg List.length k
      refine list_eq_of_getD hl fun j hj => byte_inj (h1 j) (h2 j) ?_
      have := congrArg (fun l : List UInt8 => l[j]?) k
      simp [List.getElem?_map, List.getElem?_eq_getElem hj, List.getElem?_eq_getElem (show j < D.length by omega)] at this
      simpa [List.getD_eq_getElem?_getD, List.getElem?_eq_getElem hj, List.getElem?_eq_getElem (show j < D.length by omega)] using this

theorem equal_any {w : World} {a b : Option Addr} {c d : Nat} {C D : List Nat} (h1 : Sl w .u8 a C) (h2 : Sl w .u8 b D) (hC : C = D ∨ (Byt C ∧ Byt D)) :
    Calls Try.prog 24 #[.slice a C.length c, .slice b D.length d] w fun e w' => e = .returned (.bool (eqB C D)) ∧ w' = w := by
  refine (equal_str (sl_string h1) (sl_string h2)).mono ?_
  rintro e w' ⟨rfl, rfl⟩
  exact ⟨congrArg Ending.returned (congrArg Value.bool (bytes_eqB hC)), rfl⟩

/-- what Same answers -/
def smB (W H : Int) (C : List Nat) (W' H' : Int) (D : List Nat) : Bool := decide (W = W' ∧ H = H' ∧ C = D)
theorem smB_yes {W H : Int} {C : List Nat} {W' H' : Int} {D : List Nat} (h : W = W' ∧ H = H' ∧ C = D) : smB W H C W' H' D = true := by simp [smB, h]
theorem smB_no {W H : Int} {C : List Nat} {W' H' : Int} {D : List Nat} (h : ¬ (W = W' ∧ H = H' ∧ C = D)) : smB W H C W' H' D = false := by simp only [smB]; exact decide_eq_false h
theorem smB_eq {W H : Int} {C D : List Nat} : smB W H C W H D = eqB C D := by simp [smB, eqB]

set_option maxHeartbeats 1000000 in
theorem same_any {w : World} {a b : Option Addr} {c d : Nat} {C D : List Nat} {W H W' H' : Int} (h1 : Sl w .u8 a C) (h2 : Sl w .u8 b D) (hC : C = D ∨ (Byt C ∧ Byt D)) :
    Calls Try.prog 11 #[.agg #[.int .i64 W, .int .i64 H, .slice a C.length c], .agg #[.int .i64 W', .int .i64 H', .slice b D.length d]] w fun e w' => e = .returned (.bool (smB W H C W' H' D)) ∧ Below w.heap.size w w' := by
  have HB : Hid (Below w.heap.size w ((w.alloc (.cells #[.int .i64 W, .int .i64 H, .slice a C.length c] 24)).alloc (.cells #[.int .i64 W', .int .i64 H', .slice b D.length d] 24))) := to_alloc (from_alloc _ _) _
  have E : Hid (Calls Try.prog 24 #[.slice a C.length c, .slice b D.length d] ((w.alloc (.cells #[.int .i64 W, .int .i64 H, .slice a C.length c] 24)).alloc (.cells #[.int .i64 W', .int .i64 H', .slice b D.length d] 24)) fun e w' => e = .returned (.bool (eqB C D)) ∧ w' = (w.alloc (.cells #[.int .i64 W, .int .i64 H, .slice a C.length c] 24)).alloc (.cells #[.int .i64 W', .int .i64 H', .slice b D.length d] 24)) := equal_any (h1.to HB.out) (h2.to HB.out) hC
  clear h1 h2 hC
  by_cases hW : W = W'
  · by_cases hH : H = H'
    · subst hW hH
      rw [smB_eq]
      go_enter Try.func11, Try.ntmps11
      go_wp2_with fail
      refine E.out.mono ?_
      rintro e w1 ⟨rfl, rfl⟩
      go_wp2_with fail
      go_ret
      exact ⟨rfl, HB.out⟩
    · subst hW
      rw [smB_no (fun k => hH k.2.1)]
      have hH' : (H == H') = false := by simp [hH]
      clear hH
      go_enter Try.func11, Try.ntmps11
      go_wp2_with fail
      go_ret
      exact ⟨rfl, HB.out⟩
  · rw [smB_no (fun k => hW k.1)]
    have hW' : (W == W') = false := by simp [hW]
    clear hW
    go_enter Try.func11, Try.ntmps11
    go_wp2_with fail
    go_ret
    exact ⟨rfl, HB.out⟩

end Go.Proofs.Ytlgfkkegehpllab
