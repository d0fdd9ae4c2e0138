/- DERIVED. Predict of nothing, what both Predicts refuse, the document's Predict. -/
import Derived.Test.YtlcegnnhlfafgaaDa
namespace Go.Proofs.Ytlcegnnhlfafgaa
open Go.RowKit

set_option maxRecDepth 100000 in
set_option maxHeartbeats 1000000 in
theorem predict_nil {w : World} {a a2 : Option Addr} {c c2 : Nat} {al : Int} (h : -16 ≤ al ∧ al ≤ 16) :
    Calls Try.prog 15 #[.slice a 0 c, .slice a2 0 c2, .int .i64 al] w fun e w' => Pn w w' e (pdL [] [] al) := by
  have w2 := wi_one h
  have w1 : wiB 2048 ([] : List Int) = true := rfl
  have HS2 : Hid (Si w a2 []) := Or.inl rfl
  have hmk := fun u => mk_row (n := 0) (by omega) u
  have HSo : Hid (Si (w.alloc (.cells #[.int .i64 al] 3)) (some ⟨w.heap.size, 0, none⟩) [al]) := (Ri.built 3 w [al] rfl).si
  have hmk' : ∀ u : World, (Instr.makeSlice 22 (.int .i64 0) (.int .i64 0)).run Try.prog u = .ok (.slice (some ⟨u.heap.size, 0, none⟩) 0 0) (u.alloc (.cells (madeCells #[.int .u8 0] 0) 5)) := hmk
  clear h hmk
  go_enter Try.func15, Try.ntmps15
  go_wp2_with (first | (go_at_call 26; with_reducible refine (within_any (M := 2048) (n := 0) HS2.out rfl (by omega) (by omega) (by omega)).mono ?_; rintro e w' ⟨rfl, rfl⟩; rw [w1]) | (go_at_call 26; with_reducible refine (within_any (M := 16) (n := 1) HSo.out rfl (by omega) (by omega) (by omega)).mono ?_; rintro e w' ⟨rfl, rfl⟩; rw [w2]) | fail)
  refine predictor_any.mono ?_
  rintro e w3 ⟨rfl, rfl⟩
  have hz : (w.alloc (.cells #[.int .i64 al] 3)).heap.size = w.heap.size + 1 := by simp
  rw [hz]
  have HB3 : Hid (Below w.heap.size w ((w.alloc (.cells #[.int .i64 al] 3)).alloc (.cells #[.int .i64 al] 3))) := to_alloc (from_alloc _ _) _
  generalize ((w.alloc (.cells #[.int .i64 al] 3)).alloc (.cells #[.int .i64 al] 3)) = v at *
  clear HSo hz w1 w2
  go_wp2_with fail
  have HR : Hid (Pn w (v.alloc (.cells (madeCells #[.int .u8 0] 0) 5)) (.returned (.tuple #[.slice (some ⟨v.heap.size, 0, none⟩) 0 0, .int .i64 0])) (pdL [] [] al)) := ⟨v.heap.size, rfl, Rw.made v 0, HB3.out.size, to_alloc HB3.out _⟩
  generalize (v.alloc (.cells (madeCells #[.int .u8 0] 0) 5)) = v4 at *
  generalize v.heap.size = g at *
  clear hmk' HB3
  go_loopw [39] (fun i wr => i = .int .i64 0 ∧ wr = v4) (fun _ _ => 0)
  case atStart => exact ⟨rfl, rfl⟩
  case round =>
    obtain ⟨rfl, rfl⟩ := hrel
    go_wp2_with fail
    go_returns
    exact HR.out

theorem predict_ok {w : World} {a a2 : Option Addr} {c c2 n : Nat} {C : List Nat} {A : List Int} {al : Int} (hs : Sl w .u8 a C) (hs2 : Si w a2 A) (hb : Byt C) (h : Qk C A al) (hn : A.length = n) :
    Calls Try.prog 15 #[.slice a C.length c, .slice a2 n c2, .int .i64 al] w fun e w' => Pn w w' e (pdL C A al) := by
  subst hn
  by_cases h0 : C.length = 0
  · obtain rfl : C = [] := List.eq_nil_of_length_eq_zero h0
    obtain rfl : A = [] := List.eq_nil_of_length_eq_zero (by rw [h.len]; rfl)
    exact predict_nil ⟨h.a0, h.a1⟩
  · obtain ⟨b, o, rfl, hbl, hc⟩ := hs.form (by omega)
    obtain ⟨b2, o2, rfl, hbl2, hc2⟩ := hs2.form (by rw [h.len]; omega)
    exact predict_some hbl hbl2 hc hc2 hb h

set_option maxRecDepth 100000 in
set_option maxHeartbeats 1000000 in
theorem predict_no {w : World} {a a2 : Option Addr} {c c2 : Nat} {C : List Nat} {A : List Int} {al : Int} (hs2 : Si w a2 A) (hA : A.length ≤ 140737488355328) (h : ¬ Qk C A al) :
    Calls Try.prog 15 #[.slice a C.length c, .slice a2 A.length c2, .int .i64 al] w fun e w' => e = .returned (.tuple #[.slice none 0 0, .int .i64 2]) ∧ Below w.heap.size w w' := by
  have HS2 : Hid (Si w a2 A) := hs2
  by_cases h0 : 1024 < C.length
  · have i0 : (1024 : Int) < (C.length : Int) := by omega
    clear h hs2
    go_enter Try.func15, Try.ntmps15
    go_wp2_with fail
    go_returns
    exact ⟨rfl, Below.refl _ _⟩
  have i0 : ¬ (1024 : Int) < (C.length : Int) := by omega
  by_cases h1 : A.length = C.length
  · have ne : ((A.length : Int) != (C.length : Int)) = false := by rw [h1]; simp
    cases h2 : wiB 2048 A with
    | false =>
      clear h hs2 h1
      go_enter Try.func15, Try.ntmps15
      go_wp2_with (first | (go_at_call 26; with_reducible refine (within_any (M := 2048) HS2.out rfl (by omega) (by omega) (by omega)).mono ?_; rintro e w' ⟨rfl, rfl⟩; rw [h2]) | fail)
      go_returns
      exact ⟨rfl, Below.refl _ _⟩
    | true =>
      have w2 := wi_none (al := al) (fun k => h ⟨by omega, h1, h2, k.1, k.2⟩)
      have HSo : Hid (Si (w.alloc (.cells #[.int .i64 al] 3)) (some ⟨w.heap.size, 0, none⟩) [al]) := (Ri.built 3 w [al] rfl).si
      clear h hs2 h1
      go_enter Try.func15, Try.ntmps15
      go_wp2_with (first | (go_at_call 26; with_reducible refine (within_any (M := 2048) HS2.out rfl (by omega) (by omega) (by omega)).mono ?_; rintro e w' ⟨rfl, rfl⟩; rw [h2]) | (go_at_call 26; with_reducible refine (within_any (M := 16) (n := 1) HSo.out rfl (by omega) (by omega) (by omega)).mono ?_; rintro e w' ⟨rfl, rfl⟩; rw [w2]) | fail)
      go_returns
      exact ⟨rfl, from_alloc _ _⟩
  · have ne : ((A.length : Int) != (C.length : Int)) = true := by rw [bne_iff_ne]; omega
    clear h hs2 h1
    go_enter Try.func15, Try.ntmps15
    go_wp2_with fail
    go_returns
    exact ⟨rfl, Below.refl _ _⟩

end Go.Proofs.Ytlcegnnhlfafgaa
