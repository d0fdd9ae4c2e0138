/- DERIVED. The walk of CflAcs. -/
import Derived.Test.YtlcegnnhlfafgaaEa
namespace Go.Proofs.Ytlcegnnhlfafgaa
open Go.RowKit

/-- a row of m numbers, whatever they are, that is written -/
structure Iw (w : World) (m g : Nat) (wr : World) : Prop where
  low : w.heap.size ≤ g
  cells : ∀ j, j < m → ∃ x, wr.cell? ⟨g, j, none⟩ = some (.int .i64 x)
  thaw : ∀ j, wr.frozen? ⟨g, j, none⟩ = false
  bel : Below w.heap.size w wr
theorem Iw.set {w : World} {m g : Nat} {wr : World} (h : Iw w m g wr) (k : Nat) (x : Int) : Iw w m g (wr.setCell ⟨g, k, none⟩ (.int .i64 x)) :=
  { low := h.low,
    cells := fun j hj => by
      obtain ⟨y, hy⟩ := h.cells j hj
      by_cases e : j = k
      · subst e; exact ⟨x, World.cell?_setCell_same _ _ _ hy⟩
      · exact ⟨y, by rw [World.cell?_setCell_other _ _ _ _ (by simp)]; exact hy⟩
    thaw := fun j => by rw [World.frozen?_setCell]; exact h.thaw j
    bel := below_set h.bel h.low _ }

set_option maxRecDepth 100000 in
set_option maxHeartbeats 1000000 in
theorem acs_no {w : World} {a : Option Addr} {c : Nat} {L : List Nat} {z1 z2 : Int} (hs : Sl w .u8 a L) (hL : L.length ≤ 140737488355328) (h : ¬ AOk L z1 z2) :
    Calls Try.prog 3 #[.slice a L.length c, .int .i64 z1, .int .i64 z2] w fun e w' => e = .returned (.bool true) ∧ Below w.heap.size w w' := by
  have HS : Hid (Sl w .u8 a L) := hs
  have HN : Hid (¬ AOk L z1 z2) := h
  have e1 : eqI [] [] = true := eqI_self _
  have e2 : eqB L L = true := eqB_self _
  clear hs h
  go_enter Try.func3, Try.ntmps3
  go_wp2_with fail
  refine (copyBytes_any HS.out hL).mono ?_
  rintro e w1 ⟨a', c', rfl, hn1, hb1⟩
  have HS1 : Hid (Sl w1 .u8 a' L) := hn1.sl
  have HB1 : Hid (Below w.heap.size w w1) := hb1
  have HS2 : Hid (Sl w1 .u8 a L) := HS.out.to hb1
  clear hn1 hb1 HS
  go_wp2_with fail
  refine (ac_no HN.out).mono ?_
  rintro e w2 ⟨rfl, rfl⟩
  go_wp2_with fail
  refine (rac_no HN.out).mono ?_
  rintro e w2 ⟨rfl, rfl⟩
  go_wp2_with fail
  refine (eqInts_at (n := 0) (m := 0) (C := []) (D := []) (Or.inl rfl) (Or.inl rfl) rfl rfl (by omega) (by omega)).mono ?_
  rintro e w2 ⟨rfl, hb2⟩
  rw [e1]
  have HB2 : Hid (Below w.heap.size w w2) := below_to HB1.out hb2
  have HS3 : Hid (Sl w2 .u8 a' L ∧ Sl w2 .u8 a L) := ⟨HS1.out.to hb2, HS2.out.to hb2⟩
  clear hb2 HS1 HS2 HB1
  go_wp2_with fail
  go_loopw [13] (fun i wr => i = .int .i64 0 ∧ wr = w2) (fun _ _ => 0)
  case atStart => exact ⟨rfl, rfl⟩
  case round =>
    obtain ⟨rfl, rfl⟩ := hrel
    go_wp2_with fail
    refine (eqBytes_any HS3.out.1 HS3.out.2 hL hL).mono ?_
    rintro e w4 ⟨rfl, hb4⟩
    rw [e2]
    have HB4 : Hid (Below w.heap.size w w4) := below_to HB2.out hb4
    clear hb4
    go_wp2_with fail
    refine works_any.mono ?_
    rintro e w5 ⟨rfl, hb5⟩
    have HB5 : Hid (Below w.heap.size w w5) := below_to HB4.out hb5
    clear hb5
    go_wp2_with fail
    go_ret
    exact ⟨rfl, HB5.out⟩

set_option maxRecDepth 100000 in
set_option maxHeartbeats 1000000 in
theorem acs_ok {w : World} {a : Option Addr} {c x y : Nat} {L : List Nat} (hs : Sl w .u8 a L) (hb : Byt L) (hx : Sd x) (hy : Sd y) (hl : L.length = 4 * x * y) :
    Calls Try.prog 3 #[.slice a L.length c, .int .i64 (x : Int), .int .i64 (y : Int)] w fun e w' => e = .returned (.bool true) ∧ Below w.heap.size w w' := by
  obtain ⟨n, hn, eq, q0, q1⟩ := side_sq hx hy
  have HS : Hid (Sl w .u8 a L) := hs
  have HX : Hid (Sd x) := hx
  have HY : Hid (Sd y) := hy
  have HL : Hid (L.length = 4 * x * y) := hl
  have HBy : Hid (Byt L) := hb
  have HN : Hid (n = x * y) := hn
  have hL : L.length ≤ 140737488355328 := by rw [hl, Nat.mul_assoc, ← hn]; omega
  have e1 : eqI (acF (lv L x) n) (acF (lv L x) n) = true := eqI_self _
  have e2 : eqB L L = true := eqB_self _
  have HAl : Hid ((acF (lv L x) n).length = n) := acF_len _ _
  clear hs hx hy hl hb hn eq
  go_enter Try.func3, Try.ntmps3
  go_wp2_with fail
  refine (copyBytes_any HS.out hL).mono ?_
  rintro e w1 ⟨a', c', rfl, hn1, hb1⟩
  have HS1 : Hid (Sl w1 .u8 a' L) := hn1.sl
  have HB1 : Hid (Below w.heap.size w w1) := hb1
  have HS2 : Hid (Sl w1 .u8 a L) := HS.out.to hb1
  clear hn1 hb1 HS
  go_wp2_with fail
  refine (ac_ok (n := n) HS1.out HX.out HY.out HL.out HBy.out HN.out).mono ?_
  rintro e w2 ⟨g2, c2, rfl, ho2, hb2⟩
  have HB2 : Hid (Below w1.heap.size w1 w2) := hb2
  have HO2 : Hid (Oi w2 w1.heap.size (some ⟨g2, 0, none⟩) n c2 (acF (lv L x) n)) := ho2
  clear hb2 ho2
  go_wp2_with fail
  refine (rac_ok (n := n) (HS2.out.to HB2.out) HX.out HY.out HL.out HBy.out HN.out).mono ?_
  rintro e w3 ⟨g3, c3, rfl, ho3, hb3⟩
  have HB3 : Hid (Below w1.heap.size w1 w3) := below_to HB2.out hb3
  have HO3 : Hid (Oi w3 w1.heap.size (some ⟨g2, 0, none⟩) n c2 (acF (lv L x) n)) := HO2.out.to hb3
  have HP3 : Hid (Oi w3 w2.heap.size (some ⟨g3, 0, none⟩) n c3 (acF (lv L x) n)) := ho3
  clear hb3 ho3 HB2 HO2
  go_wp2_with fail
  refine (eqInts_at (n := n) (m := n) HO3.out.si HP3.out.si HAl.out HAl.out (by omega) (by omega)).mono ?_
  rintro e w4 ⟨rfl, hb4⟩
  rw [e1]
  have HI : Hid (Iw w1 n g2 w4) := by
    have o4 := HO3.out.to hb4
    exact ⟨o4.lt.1, fun j hj => ⟨_, o4.cellAt j hj⟩, fun j => o4.ri j, below_to HB3.out hb4⟩
  clear hb4 HO3 HP3 HB3
  go_wp2_with fail
  go_loopw [13] (fun i wr => ∃ k : Nat, k ≤ n ∧ i = .int .i64 k ∧ Iw w1 n g2 wr) (fun i _ => n - (intOf i).toNat)
  case atStart => exact ⟨0, by omega, rfl, HI.out⟩
  case round =>
    clear HI
    obtain ⟨k, hk, rfl, hi⟩ := hrel
    have k0 : (0 : Int) ≤ (k : Int) := by omega
    by_cases hlt : k < n
    · have k1 : (k : Int) < (n : Int) := by omega
      obtain ⟨xv, hxv⟩ := hi.cells k hlt
      have hf := hi.thaw k
      have HNx : Hid _ := hi.set k 7777
      clear hi
      go_wp2_with fail
      go_roundw
      case rel => exact ⟨k + 1, by omega, by go_num, HNx.out⟩
      case measure => simp [intOf]; omega
    · have k1 : ¬ (k : Int) < (n : Int) := by omega
      have HS3 : Hid (Sl wr .u8 a' L ∧ Sl wr .u8 a L) := ⟨HS1.out.to hi.bel, HS2.out.to hi.bel⟩
      have HB4 : Hid (Below w.heap.size w wr) := below_to HB1.out hi.bel
      clear hi
      go_wp2_with fail
      refine (eqBytes_any HS3.out.1 HS3.out.2 hL hL).mono ?_
      rintro e w5 ⟨rfl, hb5⟩
      rw [e2]
      have HB5 : Hid (Below w.heap.size w w5) := below_to HB4.out hb5
      clear hb5
      go_wp2_with fail
      refine works_any.mono ?_
      rintro e w6 ⟨rfl, hb6⟩
      have HB6 : Hid (Below w.heap.size w w6) := below_to HB5.out hb6
      clear hb6
      go_wp2_with fail
      go_ret
      exact ⟨rfl, HB6.out⟩

theorem acs_walk {w : World} {a : Option Addr} {c : Nat} {L : List Nat} {z1 z2 : Int} (hs : Sl w .u8 a L) (hb : Byt L) (hL : L.length ≤ 140737488355328) :
    Calls Try.prog 3 #[.slice a L.length c, .int .i64 z1, .int .i64 z2] w fun e w' => e = .returned (.bool true) ∧ Below w.heap.size w w' := by
  by_cases h : AOk L z1 z2
  · obtain ⟨x, y, rfl, rfl, hx, hy, hl⟩ := h
    exact acs_ok hs hb hx hy hl
  · exact acs_no hs hL h

end Go.Proofs.Ytlcegnnhlfafgaa
