/- DERIVED. The walks of both Ratios. -/
import Derived.Test.YtdiphgkgehpgiaaFi
import Derived.Test.YtdiphgkgehpgiaaQc
namespace Go.Proofs.Ytdiphgkgehpgiaa
open Go.RowKit Ieee

/-- what Ratio answers -/
noncomputable def ratO (W H : Int) (C : List Nat) (W' H' : Int) (D : List Nat) : Option Nat := open Classical in
  if APk W H C W' H' D then floatBits .quo .f64 (fi (65025 * (C.length : Int))) (fi (apS C D C.length : Nat)) else none
/-- a float is answered; nothing that was has changed -/
def Rat (u : World) (o : Option Nat) (e : Ending) (w' : World) : Prop := ∃ r : Nat, e = .returned (.float .f64 r) ∧ Is o r ∧ Below u.heap.size u w'
theorem POk.small {W H : Int} {C : List Nat} (h : POk W H C) : C.length ≤ 262144 := by
  obtain ⟨x, y, rfl, rfl, _, h1, _, h3, hl⟩ := h.nat
  rw [hl]; exact prod_le h1 h3

set_option maxRecDepth 100000 in
set_option maxHeartbeats 2000000 in
theorem ratio_any {u : World} {a b : Option Addr} {c d : Nat} {C D : List Nat} {W H W' H' : Int} (hs : Sl u .u8 a C) (hs2 : Sl u .u8 b D) (hC : Byt C) (hD : Byt D) :
    Calls Try.prog 11 #[.agg #[.int .i64 W, .int .i64 H, .slice a C.length c], .agg #[.int .i64 W', .int .i64 H', .slice b D.length d]] u fun e w' => Rat u (ratO W H C W' H' D) e w' := by
  have HB0 : Hid (Below u.heap.size u ((u.alloc (.cells #[.int .i64 W, .int .i64 H, .slice a C.length c] 24)).alloc (.cells #[.int .i64 W', .int .i64 H', .slice b D.length d] 24))) := to_alloc (from_alloc _ _) _
  have S1 : Hid (Sl _ .u8 a C) := hs.to HB0.out
  have S2 : Hid (Sl _ .u8 b D) := hs2.to HB0.out
  have HC : Hid (Byt C) := hC
  have HD : Hid (Byt D) := hD
  clear hs hs2 hC hD
  by_cases hp : APk W H C W' H' D
  · have e1 : apE W H C W' H' D = 0 := if_pos hp
    have e2 : apN W H C W' H' D = apS C D C.length := if_pos hp
    have e3 : Hid (ratO W H C W' H' D = floatBits .quo .f64 (fi (65025 * (C.length : Int))) (fi (apS C D C.length : Nat))) := if_pos hp
    have hn : (C.length : Int) ≤ 262144 := by have := hp.1.small; omega
    have hq := f_quo Try.prog (floatOfInt .f64 (65025 * (C.length : Int))) (floatOfInt .f64 (apS C D C.length : Nat))
    clear hp
    go_enter Try.func11, Try.ntmps11
    go_wp2_with fail
    refine (apart_any S1.out S2.out HC.out HD.out).mono ?_
    rintro e w1 ⟨rfl, hb⟩
    rw [e1, e2]
    clear e1 e2
    have d2 : w1.cell? ⟨u.heap.size, 2, none⟩ = some (.slice a C.length c) := by rw [newCell hb _ _ (by simp; omega)]; simp
    have HB : Hid (Below u.heap.size u w1) := below_to HB0.out hb
    clear hb
    go_wp2_with fail
    go_ret
    exact ⟨_, rfl, by rw [e3.out]; exact fo_is _ _ _ _, below_drewN HB.out _⟩
  · have e1 : apE W H C W' H' D = 2 := if_neg hp
    have e3 : Hid (ratO W H C W' H' D = none) := if_neg hp
    clear hp
    go_enter Try.func11, Try.ntmps11
    go_wp2_with fail
    refine (apart_any S1.out S2.out HC.out HD.out).mono ?_
    rintro e w1 ⟨rfl, hb⟩
    rw [e1]
    clear e1
    have HB : Hid (Below u.heap.size u w1) := below_to HB0.out hb
    clear hb
    go_wp2_with (go_at_call 28; refine (pnone_any _).mono ?_; rintro e w' ⟨s, n, rfl, rfl, HI⟩)
    go_ret
    exact ⟨_, rfl, by rw [e3.out]; exact HI, below_drewN HB.out _⟩

set_option maxRecDepth 100000 in
set_option maxHeartbeats 2000000 in
theorem rratio_any {u : World} {a b : Option Addr} {c d : Nat} {C D : List Nat} {W H W' H' : Int} (hs : Sl u .u8 a C) (hs2 : Sl u .u8 b D) (hC : Byt C) (hD : Byt D) :
    Calls Try.prog 12 #[.agg #[.int .i64 W, .int .i64 H, .slice a C.length c], .agg #[.int .i64 W', .int .i64 H', .slice b D.length d]] u fun e w' => Rat u (ratO W H C W' H' D) e w' := by
  have HB0 : Hid (Below u.heap.size u ((u.alloc (.cells #[.int .i64 W, .int .i64 H, .slice a C.length c] 24)).alloc (.cells #[.int .i64 W', .int .i64 H', .slice b D.length d] 24))) := to_alloc (from_alloc _ _) _
  have S1 : Hid (Sl _ .u8 a C) := hs.to HB0.out
  have S2 : Hid (Sl _ .u8 b D) := hs2.to HB0.out
  have HC : Hid (Byt C) := hC
  have HD : Hid (Byt D) := hD
  clear hs hs2 hC hD
  by_cases hp : APk W H C W' H' D
  · have e1 : apE W H C W' H' D = 0 := if_pos hp
    have e2 : apN W H C W' H' D = apS C D C.length := if_pos hp
    have e3 : Hid (ratO W H C W' H' D = floatBits .quo .f64 (fi (65025 * (C.length : Int))) (fi (apS C D C.length : Nat))) := if_pos hp
    have hn : (C.length : Int) ≤ 262144 := by have := hp.1.small; omega
    have hq := f_quo Try.prog (floatOfInt .f64 (65025 * (C.length : Int))) (floatOfInt .f64 (apS C D C.length : Nat))
    clear hp
    go_enter Try.func12, Try.ntmps12
    go_wp2_with fail
    refine (rapart_any S1.out S2.out HC.out HD.out).mono ?_
    rintro e w1 ⟨rfl, hb⟩
    rw [e1, e2]
    clear e1 e2
    have d2 : w1.cell? ⟨u.heap.size, 2, none⟩ = some (.slice a C.length c) := by rw [newCell hb _ _ (by simp; omega)]; simp
    have HB : Hid (Below u.heap.size u w1) := below_to HB0.out hb
    clear hb
    go_wp2_with fail
    go_ret
    exact ⟨_, rfl, by rw [e3.out]; exact fo_is _ _ _ _, below_drewN HB.out _⟩
  · have e1 : apE W H C W' H' D = 2 := if_neg hp
    have e3 : Hid (ratO W H C W' H' D = none) := if_neg hp
    clear hp
    go_enter Try.func12, Try.ntmps12
    go_wp2_with fail
    refine (rapart_any S1.out S2.out HC.out HD.out).mono ?_
    rintro e w1 ⟨rfl, hb⟩
    rw [e1]
    clear e1
    have HB : Hid (Below u.heap.size u w1) := below_to HB0.out hb
    clear hb
    go_wp2_with (go_at_call 30; refine (rnone_any _).mono ?_; rintro e w' ⟨s, n, rfl, rfl, HI⟩)
    go_ret
    exact ⟨_, rfl, by rw [e3.out]; exact HI, below_drewN HB.out _⟩

end Go.Proofs.Ytdiphgkgehpgiaa
