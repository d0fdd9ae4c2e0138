/- DERIVED. The walk of the statement CdfParts. -/
import Derived.Test.YtpijgdfhkmailaaTh
namespace Go.Proofs.Ytpijgdfhkmailaa
open Go.RowKit

theorem find_is {w : World} {a : Option Addr} {c : Nat} {C : List Nat} {n : Int} {p s : Nat} (h : Sl w .u16 a C) (ht : TOk C n) (hf : Fd C p s) :
    Calls Try.prog 19 #[.agg #[.slice a C.length c, .int .i64 n], .int .u32 p] w fun e w' => e = .returned (.tuple #[.int .i64 (s : Nat), .int .i64 0]) ∧ Below w.heap.size w w' := by
  have hle := ee_le ht hf.1
  refine (find_ok h ht (by have := hf.2.2; omega)).mono ?_
  rintro e w' ⟨s', rfl, hs', hb⟩
  have e := part_uniq ht hs'.1 hf.1 hs'.2.1 hs'.2.2 hf.2.1 hf.2.2
  subst e
  exact ⟨rfl, hb⟩

def PaInv (W : World) (x : Nat) (t : Tb) (ev iv : Value) (wr : World) : Prop := ∃ k : Nat, k ≤ t.C.length ∧ iv = .int .i64 k ∧ ev = .int .u32 (eb t.C k : Nat) ∧ Loc wr x t ∧ Below W.heap.size W wr

set_option maxRecDepth 100000 in
set_option maxHeartbeats 400000 in
theorem parts_walk {w : World} {a : Option Addr} {c : Nat} {C : List Nat} {n : Int} {p : Nat} (h : Sl w .u16 a C) (hl : C.length ≤ 140737488355328) (hp : p < 4294967296) :
    Calls Try.prog 6 #[.agg #[.slice a C.length c, .int .i64 n], .int .u32 p] w fun e w' => e = .returned (.bool true) ∧ Below w.heap.size w w' := by
  have HP : Bx (p < 4294967296) := ⟨hp⟩
  clear hp
  have HL : Hid (Loc (w.alloc (.cells #[.slice a C.length c, .int .i64 n] 24)) w.heap.size ⟨a, c, C, n⟩) := Loc.new ⟨a, c, C, n⟩ h
  have HB : Hid (Below w.heap.size w (w.alloc (.cells #[.slice a C.length c, .int .i64 n] 24))) := from_alloc _ _
  clear h
  go_enter Try.func6, Try.ntmps6
  go_wp2_with fail
  generalize w.alloc (.cells #[.slice a C.length c, .int .i64 n] 24) = v at *
  refine (works_true _).mono ?_
  rintro e w1 ⟨rfl, hb⟩
  have HL1 : Hid _ := HL.out.to hb
  have HB1 : Hid (Below w.heap.size w w1) := below_to HB.out hb
  clear hb HL HB
  have q0 : w1.cell? ⟨w.heap.size, 0, none⟩ = some (.slice a C.length c) := HL1.out.c0
  have q1 : w1.cell? ⟨w.heap.size, 1, none⟩ = some (.int .i64 n) := HL1.out.c1
  go_wp2_with fail
  refine (check_any HL1.out.sl hl).mono ?_
  rintro e w2 ⟨rfl, hb⟩
  have HL2 : Hid _ := HL1.out.to hb
  have HB2 : Hid (Below w.heap.size w w2) := below_to HB1.out hb
  clear hb HL1 HB1 q0 q1
  have q0 : w2.cell? ⟨w.heap.size, 0, none⟩ = some (.slice a C.length c) := HL2.out.c0
  have q1 : w2.cell? ⟨w.heap.size, 1, none⟩ = some (.int .i64 n) := HL2.out.c1
  by_cases ht : TOk C n
  · rw [show ck C n = 0 from ck_ok ht]
    have hhi := ht.hi
    have hlo := ht.lo
    have HT : Hid (TOk C n) := ht
    clear ht q0 q1
    go_wp2_with fail
    go_loopw [10, 11] (fun ev iv wr => PaInv w w.heap.size ⟨a, c, C, n⟩ ev iv wr) (fun _ iv _ => C.length - (intOf iv).toNat)
    case atStart => exact ⟨0, by simp, rfl, rfl, HL2.out, HB2.out⟩
    case round =>
      obtain ⟨k, hk, rfl, rfl, hL, hB⟩ := hrel
      clear HL2 HB2
      have HL : Hid _ := hL
      have HB : Hid _ := hB
      clear hL hB
      simp only at *
      have q0 : wr.cell? ⟨w.heap.size, 0, none⟩ = some (.slice a C.length c) := HL.out.c0
      have q1 : wr.cell? ⟨w.heap.size, 1, none⟩ = some (.int .i64 n) := HL.out.c1
      by_cases hlt : k < C.length
      · have hlt' : (k : Int) < (C.length : Int) := by omega
        have hw := eb_ee HT.out hlt
        have hle := ee_le HT.out hlt
        have HE : Hid (eb C (k + 1) = ee C k) := eb_succ C k
        have F1 : Hid (Fd C (eb C k) k) := ⟨hlt, Nat.le_refl _, by omega⟩
        have F2 : Hid (Fd C (ee C k - 1) k) := ⟨hlt, by omega, by omega⟩
        go_wp2_with fail
        refine (bounds_ok HL.out.sl HT.out hlt).mono ?_
        rintro e w3 ⟨rfl, hb⟩
        have HL3 : Hid _ := HL.out.to hb
        have HB3 : Hid (Below w.heap.size w w3) := below_to HB.out hb
        clear hb HL HB q0 q1
        have q0 : w3.cell? ⟨w.heap.size, 0, none⟩ = some (.slice a C.length c) := HL3.out.c0
        have q1 : w3.cell? ⟨w.heap.size, 1, none⟩ = some (.int .i64 n) := HL3.out.c1
        have hm1 : (((ee C k : Nat) : Int) - 1) % 4294967296 = ((ee C k - 1 : Nat) : Int) := by omega
        have t1 : ((eb C k : Int) != (eb C k : Int)) = false := by simp
        have t2 : decide ((ee C k : Int) < ((eb C k : Int) + 4)) = false := by simp; omega
        generalize hx1 : eb C k = x1 at *
        generalize hx2 : ee C k = x2 at *
        clear hx1 hx2
        have HM1 : Hid _ := hm1
        have HM2 : Hid ((x2 : Int) - 1 = ((x2 - 1 : Nat) : Int)) := by unfold Hid; omega
        clear hm1
        go_wp2_with fail
        refine (find_is HL3.out.sl HT.out F1.out).mono ?_
        rintro e w4 ⟨rfl, hb⟩
        have HL4 : Hid _ := HL3.out.to hb
        have HB4 : Hid (Below w.heap.size w w4) := below_to HB3.out hb
        clear hb HL3 HB3 q0 q1
        have q0 : w4.cell? ⟨w.heap.size, 0, none⟩ = some (.slice a C.length c) := HL4.out.c0
        have q1 : w4.cell? ⟨w.heap.size, 1, none⟩ = some (.int .i64 n) := HL4.out.c1
        go_wp2_with fail
        first | rw [HM1.out] | rw [HM2.out]
        refine (find_is HL4.out.sl HT.out F2.out).mono ?_
        rintro e w5 ⟨rfl, hb⟩
        have HL5 : Hid _ := HL4.out.to hb
        have HB5 : Hid (Below w.heap.size w w5) := below_to HB4.out hb
        clear hb HL4 HB4 q0 q1
        have q0 : w5.cell? ⟨w.heap.size, 0, none⟩ = some (.slice a C.length c) := HL5.out.c0
        have q1 : w5.cell? ⟨w.heap.size, 1, none⟩ = some (.int .i64 n) := HL5.out.c1
        have t3 : ((k : Int) != (k : Int)) = false := by simp
        go_wp2_with fail
        go_roundw
        case rel => exact ⟨k + 1, by simp only; omega, by go_num, by rw [HE.out], HL5.out, HB5.out⟩
        case measure => simp [intOf]; omega
      · have hk' : k = C.length := by omega
        subst hk'
        have he : eb C C.length = 32768 := by
          have := ee_last HT.out
          unfold eb; rw [if_neg (by omega)]; exact this
        rw [he]
        have hp2 : Hid ((p : Int) % 32768 = ((p % 32768 : Nat) : Int)) := by unfold Hid; omega
        have hp3 : p % 32768 < 32768 := Nat.mod_lt _ (by omega)
        have HP3 : Bx (p % 32768 < 32768) := ⟨hp3⟩
        clear hp3 he
        go_wp2_with fail
        rw [hp2.out]
        generalize p % 32768 = at' at *
        clear hp2
        refine (find_ok HL.out.sl HT.out HP3.out).mono ?_
        rintro e w3 ⟨s, rfl, hs, hb⟩
        have HS : Hid _ := hs
        have HL3 : Hid _ := HL.out.to hb
        have HB3 : Hid (Below w.heap.size w w3) := below_to HB.out hb
        clear hb HL HB q0 q1 hs
        have q0 : w3.cell? ⟨w.heap.size, 0, none⟩ = some (.slice a C.length c) := HL3.out.c0
        have q1 : w3.cell? ⟨w.heap.size, 1, none⟩ = some (.int .i64 n) := HL3.out.c1
        go_wp2_with fail
        refine (bounds_ok HL3.out.sl HT.out HS.out.1).mono ?_
        rintro e w4 ⟨rfl, hb⟩
        have HL4 : Hid _ := HL3.out.to hb
        have HB4 : Hid (Below w.heap.size w w4) := below_to HB3.out hb
        clear hb HL3 HB3 q0 q1
        have t1 : (eb C s : Int) ≤ (at' : Int) := by have := HS.out.2.1; omega
        have t2 : (at' : Int) < (ee C s : Int) := by have := HS.out.2.2; omega
        go_wp2_with fail
        go_ret
        exact ⟨rfl, HB4.out⟩
  · rw [show ck C n = 2 from ck_no ht]
    have HT : Hid (¬ TOk C n) := ht
    clear ht
    go_wp2_with fail
    refine (bounds_no HL2.out.sl hl (fun k => HT.out k.1)).mono ?_
    rintro e w3 ⟨rfl, hb⟩
    have HL3 : Hid _ := HL2.out.to hb
    have HB3 : Hid (Below w.heap.size w w3) := below_to HB2.out hb
    clear hb HL2 HB2 q0 q1
    have q0 : w3.cell? ⟨w.heap.size, 0, none⟩ = some (.slice a C.length c) := HL3.out.c0
    have q1 : w3.cell? ⟨w.heap.size, 1, none⟩ = some (.int .i64 n) := HL3.out.c1
    go_wp2_with fail
    refine (find_no (p := 0) HL3.out.sl hl (Or.inl HT.out)).mono ?_
    rintro e w4 ⟨rfl, hb⟩
    have HL4 : Hid _ := HL3.out.to hb
    have HB4 : Hid (Below w.heap.size w w4) := below_to HB3.out hb
    clear hb HL3 HB3 q0 q1
    go_wp2_with fail
    go_ret
    exact ⟨rfl, HB4.out⟩

end Go.Proofs.Ytpijgdfhkmailaa
