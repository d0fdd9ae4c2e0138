/- DERIVED. The walks of the document's Bounds and Find. -/
import Derived.Test.YtpijgdfhkmailaaMb
namespace Go.Proofs.Ytpijgdfhkmailaa
open Go.RowKit

/-- a variable that has a table, behind a world -/
structure Lw (w u : World) (x : Nat) (t : Tb) : Prop where
  l : Loc u x t
  b : Below w.heap.size w u
theorem Lw.to {w u v : World} {x : Nat} {t : Tb} (h : Lw w u x t) (hb : Below u.heap.size u v) : Lw w v x t := ⟨h.l.to hb, below_to h.b hb⟩

set_option maxRecDepth 100000 in
set_option maxHeartbeats 1000000 in
theorem rbounds_ok {w : World} {a : Option Addr} {c : Nat} {C : List Nat} {n : Int} {i : Nat} (h : Sl w .u16 a C) (ht : TOk C n) (hi : i < C.length) :
    Calls Try.prog 18 #[.agg #[.slice a C.length c, .int .i64 n], .int .i64 i] w fun e w' => e = .returned (.tuple #[.int .u32 (eb C i : Nat), .int .u32 (ee C i : Nat), .int .i64 0]) ∧ Below w.heap.size w w' := by
  have HL : Hid (Lw w (w.alloc (.cells #[.slice a C.length c, .int .i64 n] 24)) w.heap.size ⟨a, c, C, n⟩) := ⟨Loc.new ⟨a, c, C, n⟩ h, from_alloc _ _⟩
  have HT : Hid (TOk C n) := ht
  have hhi := ht.hi
  have hi1 : ¬ (i : Int) < 0 := by omega
  have hi2 : ¬ (C.length : Int) ≤ (i : Int) := by omega
  have hle := ee_le ht hi
  have heb := eb_ee ht hi
  have hw1 : IntKind.i64.wrap ((i : Int) - 1) = (i : Int) - 1 := by rw [IntKind.wrap_i64]; omega
  have hw2 : IntKind.u32.wrap ((ee C i : Nat) : Int) = ((ee C i : Nat) : Int) := by rw [IntKind.wrap_u32]; omega
  have hw3 : IntKind.u32.wrap ((eb C i : Nat) : Int) = ((eb C i : Nat) : Int) := by rw [IntKind.wrap_u32]; omega
  have HA : Hid (∀ u, Lw w u w.heap.size ⟨a, c, C, n⟩ → Calls Try.prog 36 #[.agg #[.slice a C.length c, .int .i64 n], .int .i64 i] u fun e u' => e = .returned (.int .i64 (ee C i : Nat)) ∧ Lw w u' w.heap.size ⟨a, c, C, n⟩) := fun u hu =>
    (rend_any hu.l.sl ht hi).mono fun e u' ⟨h1, h2⟩ => ⟨h1, hu.to h2⟩
  have HBb : Hid (∀ u, Lw w u w.heap.size ⟨a, c, C, n⟩ → Calls Try.prog 36 #[.agg #[.slice a C.length c, .int .i64 n], .int .i64 ((i : Int) - 1)] u fun e u' => e = .returned (.int .i64 (eb C i : Nat)) ∧ Lw w u' w.heap.size ⟨a, c, C, n⟩) := fun u hu => by
    by_cases h0 : i = 0
    · subst h0
      refine (rend_neg (by omega)).mono fun e u' ⟨h1, h2⟩ => ⟨by rw [h1]; rfl, hu.to h2⟩
    · rw [show (i : Int) - 1 = ((i - 1 : Nat) : Int) from by omega]
      refine (rend_any hu.l.sl ht (by show i - 1 < C.length; omega)).mono fun e u' ⟨h1, h2⟩ => ⟨by rw [h1]; unfold eb; rw [if_neg h0], hu.to h2⟩
  have HQ : Hid (∀ u, Lw w u w.heap.size ⟨a, c, C, n⟩ → u.cell? ⟨w.heap.size, 0, none⟩ = some (.slice a C.length c) ∧ u.cell? ⟨w.heap.size, 1, none⟩ = some (.int .i64 n)) := fun u hu => ⟨hu.l.c0, hu.l.c1⟩
  clear h ht hle heb
  go_enter Try.func18, Try.ntmps18
  go_wp2_with fail
  generalize w.alloc (.cells #[.slice a C.length c, .int .i64 n] 24) = v at *
  refine (rcheck_any HL.out.l.sl (by show C.length ≤ _; omega)).mono ?_
  rintro e w1 ⟨rfl, hb⟩
  rw [show ck C n = 0 from ck_ok HT.out]
  have HL1 : Hid _ := HL.out.to hb
  clear hb HL
  obtain ⟨q0, q1⟩ := HQ.out _ HL1.out
  generalize hx1 : ee C i = e1 at *
  generalize hx2 : eb C i = e2 at *
  have HX1 : Hid (ee C i = e1) := hx1
  have HX2 : Hid (eb C i = e2) := hx2
  clear hx1 hx2
  go_wp2_with fail
  have hbd := HL1.out.to (below_drew (Below.refl _ _))
  clear q0 q1
  obtain ⟨q0, q1⟩ := HQ.out _ hbd
  go_region_held3 (fun u => u.cell? ⟨w.heap.size, 0, none⟩ = some (.slice a C.length c) ∧ u.cell? ⟨w.heap.size, 1, none⟩ = some (.int .i64 n)) (((try dsimp only); first | assumption | (refine ⟨?_, ?_⟩ <;> first | assumption | go_keep) | go_keep)) (first
    | (go_at_call 36; with_reducible refine (HA.out _ (by assumption)).mono ?_; rintro e wA ⟨rfl, hbA⟩; obtain ⟨pA0, pA1⟩ := HQ.out _ hbA)
    | (go_at_call 36; with_reducible refine (HBb.out _ (by assumption)).mono ?_; rintro e wB ⟨rfl, hbB⟩; obtain ⟨pB0, pB1⟩ := HQ.out _ hbB))
  all_goals
    go_wp2_with fail
    first
      | exact bodyPost_ret (v := .tuple #[.int .u32 (e2 : Nat), .int .u32 (e1 : Nat), .int .i64 0]) (by simp [results, Try.results18, go_sem]) rfl ⟨by rw [HX1.out, HX2.out], hbB.b⟩
      | exact bodyPost_ret (v := .tuple #[.int .u32 (e2 : Nat), .int .u32 (e1 : Nat), .int .i64 0]) (by simp [results, Try.results18, go_sem]) rfl ⟨by rw [HX1.out, HX2.out], hbA.b⟩

set_option maxRecDepth 100000 in
set_option maxHeartbeats 1000000 in
theorem rbounds_no {w : World} {a : Option Addr} {c : Nat} {C : List Nat} {n s : Int} (h : Sl w .u16 a C) (hl : C.length ≤ 140737488355328) (ht : ¬ (TOk C n ∧ 0 ≤ s ∧ s < C.length)) :
    Calls Try.prog 18 #[.agg #[.slice a C.length c, .int .i64 n], .int .i64 s] w fun e w' => e = .returned (.tuple #[.int .u32 0, .int .u32 0, .int .i64 2]) ∧ Below w.heap.size w w' := by
  have HL : Hid (Lw w (w.alloc (.cells #[.slice a C.length c, .int .i64 n] 24)) w.heap.size ⟨a, c, C, n⟩) := ⟨Loc.new ⟨a, c, C, n⟩ h, from_alloc _ _⟩
  have HNO : Hid (¬ (TOk C n ∧ 0 ≤ s ∧ s < C.length)) := ht
  clear h ht
  go_enter Try.func18, Try.ntmps18
  go_wp2_with fail
  generalize w.alloc (.cells #[.slice a C.length c, .int .i64 n] 24) = v at *
  refine (rcheck_any HL.out.l.sl hl).mono ?_
  rintro e w1 ⟨rfl, hb⟩
  have HL1 : Hid _ := HL.out.to hb
  clear hb HL
  have q0 : w1.cell? ⟨w.heap.size, 0, none⟩ = some (.slice a C.length c) := HL1.out.l.c0
  have q1 : w1.cell? ⟨w.heap.size, 1, none⟩ = some (.int .i64 n) := HL1.out.l.c1
  by_cases ht : TOk C n
  · rw [show ck C n = 0 from ck_ok ht]
    by_cases h0 : s < 0
    · go_wp2_with fail
      exact bodyPost_ret (v := .tuple #[.int .u32 0, .int .u32 0, .int .i64 2]) (by simp [results, Try.results18, go_sem]) rfl ⟨rfl, HL1.out.b⟩
    · have h1 : (C.length : Int) ≤ s := by
        have := HNO.out
        by_cases e : s < C.length
        · exact absurd ⟨ht, by omega, e⟩ this
        · omega
      go_wp2_with fail
      exact bodyPost_ret (v := .tuple #[.int .u32 0, .int .u32 0, .int .i64 2]) (by simp [results, Try.results18, go_sem]) rfl ⟨rfl, HL1.out.b⟩
  · rw [show ck C n = 2 from ck_no ht]
    go_wp2_with fail
    exact bodyPost_ret (v := .tuple #[.int .u32 0, .int .u32 0, .int .i64 2]) (by simp [results, Try.results18, go_sem]) rfl ⟨rfl, HL1.out.b⟩

set_option maxRecDepth 100000 in
set_option maxHeartbeats 1000000 in
theorem rfind_is {w : World} {a : Option Addr} {c : Nat} {C : List Nat} {n : Int} {p s : Nat} (h : Sl w .u16 a C) (ht : TOk C n) (hf : Fd C p s) :
    Calls Try.prog 20 #[.agg #[.slice a C.length c, .int .i64 n], .int .u32 p] w fun e w' => e = .returned (.tuple #[.int .i64 (s : Nat), .int .i64 0]) ∧ Below w.heap.size w w' := by
  have HL : Hid (Lw w (w.alloc (.cells #[.slice a C.length c, .int .i64 n] 24)) w.heap.size ⟨a, c, C, n⟩) := ⟨Loc.new ⟨a, c, C, n⟩ h, from_alloc _ _⟩
  have HT : Hid (TOk C n) := ht
  have HF : Hid (Fd C p s) := hf
  have hhi := ht.hi
  have hlo := ht.lo
  have hple := ee_le ht hf.1
  have hpe := hf.2.2
  have HP : Bx (p < 32768) := ⟨by omega⟩
  have hwp : wrap64 (p : Int) = (p : Int) := wrap64_small _ (by omega) (by omega)
  have hp' : decide ((32767 : Int) < (p : Int)) = false := by simp; omega
  clear h ht hf hple hpe
  go_enter Try.func20, Try.ntmps20
  go_wp2_with fail
  generalize w.alloc (.cells #[.slice a C.length c, .int .i64 n] 24) = v at *
  refine (rcheck_any HL.out.l.sl (by show C.length ≤ _; omega)).mono ?_
  rintro e w1 ⟨rfl, hb⟩
  rw [show ck C n = 0 from ck_ok HT.out]
  have HL1 : Hid _ := HL.out.to hb
  clear hb HL
  go_wp2_with fail
  clear hp'
  go_loopw [6] (fun iv wr => ∃ k : Nat, k < C.length ∧ iv = .int .i64 k ∧ eb C k ≤ p ∧ Lw w wr w.heap.size ⟨a, c, C, n⟩) (fun iv _ => C.length - (intOf iv).toNat)
  case atStart => exact ⟨0, by omega, rfl, by simp [eb], HL1.out⟩
  case round =>
    obtain ⟨k, hk, rfl, he, hlw⟩ := hrel
    clear HL1
    have HE : Hid (eb C k ≤ p) := he
    have HLW : Hid _ := hlw
    clear he hlw
    have q0 : wr.cell? ⟨w.heap.size, 0, none⟩ = some (.slice a C.length c) := HLW.out.l.c0
    have q1 : wr.cell? ⟨w.heap.size, 1, none⟩ = some (.int .i64 n) := HLW.out.l.c1
    have hle := ee_le HT.out hk
    have hp := HP.out
    by_cases hlt : ee C k ≤ p
    · have hk1 : k + 1 < C.length := by
        by_cases e : k + 1 < C.length
        · exact e
        · have := ee_last HT.out
          rw [show C.length - 1 = k from by omega] at this
          omega
      have hlt' : (ee C k : Int) ≤ (p : Int) := by omega
      have HLT : Hid (ee C k ≤ p) := hlt
      clear hlt hle hp
      go_wp2_with fail
      refine (rend_any (i := k) HLW.out.l.sl HT.out hk).mono ?_
      rintro e w2 ⟨rfl, hb⟩
      have HLW2 : Hid _ := HLW.out.to hb
      clear hb HLW q0 q1
      go_wp2_with fail
      go_roundw
      case rel => exact ⟨k + 1, hk1, by go_num, by rw [eb_succ]; exact HLT.out, HLW2.out⟩
      case measure => simp [intOf]; omega
    · have hlt' : ¬ (ee C k : Int) ≤ (p : Int) := by omega
      have HKS : Hid (k = s) := part_uniq HT.out hk HF.out.1 HE.out (by omega) HF.out.2.1 HF.out.2.2
      clear hlt hle hp
      go_wp2_with fail
      refine (rend_any (i := k) HLW.out.l.sl HT.out hk).mono ?_
      rintro e w2 ⟨rfl, hb⟩
      have HLW2 : Hid _ := HLW.out.to hb
      clear hb HLW q0 q1
      go_wp2_with fail
      go_ret2
      exact ⟨by rw [← HKS.out]; rfl, HLW2.out.b⟩

set_option maxRecDepth 100000 in
set_option maxHeartbeats 1000000 in
theorem rfind_no {w : World} {a : Option Addr} {c : Nat} {C : List Nat} {n : Int} {p : Nat} (h : Sl w .u16 a C) (hl : C.length ≤ 140737488355328) (ht : ¬ TOk C n ∨ 32768 ≤ p) :
    Calls Try.prog 20 #[.agg #[.slice a C.length c, .int .i64 n], .int .u32 p] w fun e w' => e = .returned (.tuple #[.int .i64 0, .int .i64 2]) ∧ Below w.heap.size w w' := by
  have HL : Hid (Lw w (w.alloc (.cells #[.slice a C.length c, .int .i64 n] 24)) w.heap.size ⟨a, c, C, n⟩) := ⟨Loc.new ⟨a, c, C, n⟩ h, from_alloc _ _⟩
  clear h
  by_cases hk : TOk C n
  · have hp' : decide ((32767 : Int) < (p : Int)) = true := by rcases ht with e | e; exact absurd hk e; simp; omega
    have HC : Hid (ck C n = 0) := ck_ok hk
    clear ht hk
    go_enter Try.func20, Try.ntmps20
    go_wp2_with fail
    generalize w.alloc (.cells #[.slice a C.length c, .int .i64 n] 24) = v at *
    refine (rcheck_any HL.out.l.sl hl).mono ?_
    rintro e w1 ⟨rfl, hb⟩
    rw [HC.out]
    have HL1 : Hid _ := HL.out.to hb
    clear hb HL
    go_wp2_with fail
    go_ret2
    exact ⟨rfl, HL1.out.b⟩
  · have HC : Hid (ck C n = 2) := ck_no hk
    clear ht hk
    go_enter Try.func20, Try.ntmps20
    go_wp2_with fail
    generalize w.alloc (.cells #[.slice a C.length c, .int .i64 n] 24) = v at *
    refine (rcheck_any HL.out.l.sl hl).mono ?_
    rintro e w1 ⟨rfl, hb⟩
    rw [HC.out]
    have HL1 : Hid _ := HL.out.to hb
    clear hb HL
    go_wp2_with fail
    go_ret2
    exact ⟨rfl, HL1.out.b⟩

end Go.Proofs.Ytpijgdfhkmailaa
