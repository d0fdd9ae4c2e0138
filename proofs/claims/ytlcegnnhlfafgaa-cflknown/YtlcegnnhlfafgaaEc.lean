/- DERIVED. The walk of CflPredicts. -/
import Derived.Test.YtlcegnnhlfafgaaEb
namespace Go.Proofs.Ytlcegnnhlfafgaa
open Go.RowKit

/-- a row of m samples, whatever they are, that is written -/
structure Jw (w : World) (m g : Nat) (wr : World) : Prop where
  low : w.heap.size ≤ g
  cells : ∀ j, j < m → ∃ x : Int, wr.cell? ⟨g, j, none⟩ = some (.int .u8 x)
  thaw : ∀ j, wr.frozen? ⟨g, j, none⟩ = false
  bel : Below w.heap.size w wr
theorem Jw.set {w : World} {m g : Nat} {wr : World} (h : Jw w m g wr) (k : Nat) (x : Int) : Jw w m g (wr.setCell ⟨g, k, none⟩ (.int .u8 x)) :=
  { low := h.low,
    cells := fun j hj => by
      obtain ⟨y, hy⟩ := h.cells j hj
      by_cases e : j = k
      · subst e; exact ⟨x, World.cell?_setCell_same _ _ _ hy⟩
      · exact ⟨y, by rw [World.cell?_setCell_other _ _ _ _ (by simp)]; exact hy⟩
    thaw := fun j => by rw [World.frozen?_setCell]; exact h.thaw j
    bel := below_set h.bel h.low _ }

set_option maxRecDepth 100000 in
set_option maxHeartbeats 1000000 in
theorem predicts_no {w : World} {a a2 : Option Addr} {c c2 : Nat} {C : List Nat} {A : List Int} {al : Int} (hs : Sl w .u8 a C) (hs2 : Si w a2 A) (hb : Byt C) (hC : C.length ≤ 140737488355328) (hA : A.length ≤ 17592186043904) (h : ¬ Qk C A al) :
    Calls Try.prog 4 #[.slice a C.length c, .slice a2 A.length c2, .int .i64 al] w fun e w' => e = .returned (.bool true) ∧ Below w.heap.size w w' := by
  have HS : Hid (Sl w .u8 a C) := hs
  have HT : Hid (Si w a2 A) := hs2
  have HN : Hid (¬ Qk C A al) := h
  have HBy : Hid (Byt C) := hb
  have e1 : eqB [] [] = true := eqB_self _
  have e2 : eqB C C = true := eqB_self _
  have e3 : eqI A A = true := eqI_self _
  clear hs h hs2 hb
  go_enter Try.func4, Try.ntmps4
  go_wp2_with fail
  refine (copyBytes_any HS.out hC).mono ?_
  rintro e w1 ⟨a', c', rfl, hn1, hb1⟩
  have HS1 : Hid (Sl w1 .u8 a' C) := hn1.sl
  have HB1 : Hid (Below w.heap.size w w1) := hb1
  have HS2 : Hid (Sl w1 .u8 a C) := HS.out.to hb1
  have HT1 : Hid (Si w1 a2 A) := HT.out.to hb1
  clear hn1 hb1 HS HT
  go_wp2_with fail
  refine (copy_any HT1.out hA).mono ?_
  rintro e w2 ⟨a3, c3, rfl, ho2, hb2⟩
  have HB2 : Hid (Below w.heap.size w w2) := below_to HB1.out hb2
  have HS3 : Hid (Sl w2 .u8 a' C ∧ Sl w2 .u8 a C) := ⟨HS1.out.to hb2, HS2.out.to hb2⟩
  have HT3 : Hid (Si w2 a3 A ∧ Si w2 a2 A) := ⟨ho2.si, HT1.out.to hb2⟩
  clear ho2 hb2 HS1 HS2 HT1 HB1
  go_wp2_with fail
  refine (predict_no HT3.out.1 (by omega) HN.out).mono ?_
  rintro e w3 ⟨rfl, hb3⟩
  have HB3 : Hid (Below w.heap.size w w3) := below_to HB2.out hb3
  have HS4 : Hid (Sl w3 .u8 a' C ∧ Sl w3 .u8 a C) := ⟨HS3.out.1.to hb3, HS3.out.2.to hb3⟩
  have HT4 : Hid (Si w3 a3 A ∧ Si w3 a2 A) := ⟨HT3.out.1.to hb3, HT3.out.2.to hb3⟩
  clear hb3 HS3 HT3 HB2
  go_wp2_with fail
  refine (rpredict_no HS4.out.2 HT4.out.2 HBy.out hC HN.out).mono ?_
  rintro e w4 ⟨rfl, hb4⟩
  have HB4 : Hid (Below w.heap.size w w4) := below_to HB3.out hb4
  have HS5 : Hid (Sl w4 .u8 a' C ∧ Sl w4 .u8 a C) := ⟨HS4.out.1.to hb4, HS4.out.2.to hb4⟩
  have HT5 : Hid (Si w4 a3 A ∧ Si w4 a2 A) := ⟨HT4.out.1.to hb4, HT4.out.2.to hb4⟩
  clear hb4 HS4 HT4 HB3
  go_wp2_with fail
  refine (eqBytes_at (n := 0) (m := 0) (C := []) (D := []) (Or.inl rfl) (Or.inl rfl) rfl rfl (by omega) (by omega)).mono ?_
  rintro e w5 ⟨rfl, hb5⟩
  rw [e1]
  have HB5 : Hid (Below w.heap.size w w5) := below_to HB4.out hb5
  have HS6 : Hid (Sl w5 .u8 a' C ∧ Sl w5 .u8 a C) := ⟨HS5.out.1.to hb5, HS5.out.2.to hb5⟩
  have HT6 : Hid (Si w5 a3 A ∧ Si w5 a2 A) := ⟨HT5.out.1.to hb5, HT5.out.2.to hb5⟩
  clear hb5 HS5 HT5 HB4
  go_wp2_with fail
  go_loopw [14] (fun i wr => i = .int .i64 0 ∧ wr = w5) (fun _ _ => 0)
  case atStart => exact ⟨rfl, rfl⟩
  case round =>
    obtain ⟨rfl, rfl⟩ := hrel
    go_wp2_with fail
    refine (eqBytes_any HS6.out.1 HS6.out.2 hC hC).mono ?_
    rintro e w6 ⟨rfl, hb6⟩
    rw [e2]
    have HB6 : Hid (Below w.heap.size w w6) := below_to HB5.out hb6
    have HT7 : Hid (Si w6 a3 A ∧ Si w6 a2 A) := ⟨HT6.out.1.to hb6, HT6.out.2.to hb6⟩
    clear hb6
    go_wp2_with fail
    refine (eqInts_any HT7.out.1 HT7.out.2 (by omega) (by omega)).mono ?_
    rintro e w7 ⟨rfl, hb7⟩
    rw [e3]
    have HB7 : Hid (Below w.heap.size w w7) := below_to HB6.out hb7
    clear hb7
    go_wp2_with fail
    refine works_any.mono ?_
    rintro e w8 ⟨rfl, hb8⟩
    have HB8 : Hid (Below w.heap.size w w8) := below_to HB7.out hb8
    clear hb8
    go_wp2_with fail
    go_ret
    exact ⟨rfl, HB8.out⟩

set_option maxRecDepth 100000 in
set_option maxHeartbeats 1000000 in
theorem predicts_ok {w : World} {a a2 : Option Addr} {c c2 : Nat} {C : List Nat} {A : List Int} {al : Int} (hs : Sl w .u8 a C) (hs2 : Si w a2 A) (hb : Byt C) (h : Qk C A al) :
    Calls Try.prog 4 #[.slice a C.length c, .slice a2 A.length c2, .int .i64 al] w fun e w' => e = .returned (.bool true) ∧ Below w.heap.size w w' := by
  have HS : Hid (Sl w .u8 a C) := hs
  have HT : Hid (Si w a2 A) := hs2
  have HQ : Hid (Qk C A al) := h
  have HBy : Hid (Byt C) := hb
  have hC : C.length ≤ 1024 := h.short
  have hA : A.length ≤ 1024 := by rw [h.len]; exact h.short
  have e1 : eqB (pdL C A al) (pdL C A al) = true := eqB_self _
  have e2 : eqB C C = true := eqB_self _
  have e3 : eqI A A = true := eqI_self _
  have HPl : Hid ((pdL C A al).length = C.length) := pdL_len _ _ _
  clear hs h hs2 hb
  go_enter Try.func4, Try.ntmps4
  go_wp2_with fail
  refine (copyBytes_any HS.out (by omega)).mono ?_
  rintro e w1 ⟨a', c', rfl, hn1, hb1⟩
  have HS1 : Hid (Sl w1 .u8 a' C) := hn1.sl
  have HB1 : Hid (Below w.heap.size w w1) := hb1
  have HS2 : Hid (Sl w1 .u8 a C) := HS.out.to hb1
  have HT1 : Hid (Si w1 a2 A) := HT.out.to hb1
  clear hn1 hb1 HS HT
  go_wp2_with fail
  refine (copy_any HT1.out (by omega)).mono ?_
  rintro e w2 ⟨a3, c3, rfl, ho2, hb2⟩
  have HB2 : Hid (Below w.heap.size w w2) := below_to HB1.out hb2
  have HS3 : Hid (Sl w2 .u8 a' C ∧ Sl w2 .u8 a C) := ⟨HS1.out.to hb2, HS2.out.to hb2⟩
  have HT3 : Hid (Si w2 a3 A ∧ Si w2 a2 A) := ⟨ho2.si, HT1.out.to hb2⟩
  clear ho2 hb2 HS1 HS2 HT1 HB1
  go_wp2_with fail
  refine (predict_ok HS3.out.1 HT3.out.1 HBy.out HQ.out rfl).mono ?_
  rintro e w3 ⟨g3, rfl, hr3, hl3, hb3⟩
  rw [HPl.out]
  have HB3 : Hid (Below w2.heap.size w2 w3) := hb3
  have HR3 : Hid (Rw w3 g3 (pdL C A al)) := hr3
  have HG3 : Hid (w2.heap.size ≤ g3) := hl3
  clear hb3 hr3 hl3
  go_wp2_with fail
  refine (rpredict_ok (HS3.out.2.to HB3.out) (HT3.out.2.to HB3.out) HBy.out HQ.out rfl).mono ?_
  rintro e w4 ⟨a4, c4, rfl, hs4, hb4⟩
  have HB4 : Hid (Below w2.heap.size w2 w4) := below_to HB3.out hb4
  have HR4 : Hid (Rw w4 g3 (pdL C A al)) := HR3.out.to hb4
  have HS4 : Hid (Sl w4 .u8 a4 (pdL C A al)) := hs4
  clear hb4 hs4 HR3 HB3
  go_wp2_with fail
  refine (eqBytes_at (n := C.length) (m := C.length) HR4.out.sl HS4.out HPl.out HPl.out (by omega) (by omega)).mono ?_
  rintro e w5 ⟨rfl, hb5⟩
  rw [e1]
  have HJ : Hid (Jw w2 C.length g3 w5) := by
    have r5 := HR4.out.to hb5
    exact ⟨HG3.out, fun j hj => ⟨_, r5.cell j (by rw [HPl.out]; exact hj)⟩, fun j => r5.thaw j, below_to HB4.out hb5⟩
  clear hb5 HR4 HS4 HB4 HG3
  generalize hn : C.length = n at *
  have HCn : Hid (C.length = n) := hn
  clear hn
  go_wp2_with fail
  go_loopw [14] (fun i wr => ∃ k : Nat, k ≤ n ∧ i = .int .i64 k ∧ Jw w2 n g3 wr) (fun i _ => n - (intOf i).toNat)
  case atStart => exact ⟨0, by omega, rfl, HJ.out⟩
  case round =>
    clear HJ
    obtain ⟨k, hk, rfl, hi⟩ := hrel
    have k0 : (0 : Int) ≤ (k : Int) := by omega
    by_cases hlt : k < n
    · have k1 : (k : Int) < (n : Int) := by omega
      obtain ⟨xv, hxv⟩ := hi.cells k hlt
      have hf := hi.thaw k
      have HJk : Hid (∀ z : Int, Jw w2 n g3 (wr.setCell ⟨g3, k, none⟩ (.int .u8 z))) := fun z => hi.set k z
      clear hi
      go_wp2_with fail
      go_roundw
      case rel => exact ⟨k + 1, by omega, by go_num, HJk.out _⟩
      case measure => simp [intOf]; omega
    · have k1 : ¬ (k : Int) < (n : Int) := by omega
      have HS6 : Hid (Sl wr .u8 a' C ∧ Sl wr .u8 a C) := ⟨HS3.out.1.to hi.bel, HS3.out.2.to hi.bel⟩
      have HT6 : Hid (Si wr a3 A ∧ Si wr a2 A) := ⟨HT3.out.1.to hi.bel, HT3.out.2.to hi.bel⟩
      have HB5 : Hid (Below w.heap.size w wr) := below_to HB2.out hi.bel
      clear hi
      go_wp2_with fail
      refine (eqBytes_at (n := n) (m := n) HS6.out.1 HS6.out.2 HCn.out HCn.out (by omega) (by omega)).mono ?_
      rintro e w6 ⟨rfl, hb6⟩
      rw [e2]
      have HB6 : Hid (Below w.heap.size w w6) := below_to HB5.out hb6
      have HT7 : Hid (Si w6 a3 A ∧ Si w6 a2 A) := ⟨HT6.out.1.to hb6, HT6.out.2.to hb6⟩
      clear hb6
      go_wp2_with fail
      refine (eqInts_any HT7.out.1 HT7.out.2 (by omega) (by omega)).mono ?_
      rintro e w7 ⟨rfl, hb7⟩
      rw [e3]
      have HB7 : Hid (Below w.heap.size w w7) := below_to HB6.out hb7
      clear hb7
      go_wp2_with fail
      refine works_any.mono ?_
      rintro e w8 ⟨rfl, hb8⟩
      have HB8 : Hid (Below w.heap.size w w8) := below_to HB7.out hb8
      clear hb8
      go_wp2_with fail
      go_ret
      exact ⟨rfl, HB8.out⟩

theorem predicts_walk {w : World} {a a2 : Option Addr} {c c2 : Nat} {C : List Nat} {A : List Int} {al : Int} (hs : Sl w .u8 a C) (hb : Byt C) (hs2 : Si w a2 A) (hC : C.length ≤ 140737488355328) (hA : A.length ≤ 17592186043904) :
    Calls Try.prog 4 #[.slice a C.length c, .slice a2 A.length c2, .int .i64 al] w fun e w' => e = .returned (.bool true) ∧ Below w.heap.size w w' := by
  by_cases h : Qk C A al
  · exact predicts_ok hs hs2 hb h
  · exact predicts_no hs hs2 hb hC hA h

end Go.Proofs.Ytlcegnnhlfafgaa
